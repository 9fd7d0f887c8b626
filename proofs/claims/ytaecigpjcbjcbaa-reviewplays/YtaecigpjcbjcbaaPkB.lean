/-
  Layer 20 (review): the document's board: with, Close, Vote, Unvote.
  Layer 20 (review): the document's board: Vote, Unvote.
  Layer 20 (review): the document's board: Proposal: With and where it lies; the drawn region.
-/
import Derived.Test.YtaecigpjcbjcbaaPkA
import Derived.Test.YtaecigpjcbjcbaaMon
/- Layer 20 (review): the document's board: with, Close, Vote, Unvote. -/
namespace Go.Proofs.Ytaecigpjcbjcbaa.Oct
open Go.RowKit
set_option linter.unusedSimpArgs false
set_option linter.unusedVariables false

theorem ddC_app (F G : List Dd) : ddC (F ++ G) = ddC F ++ ddC G := by simp [ddC]
theorem ddC_one (F : List Dd) : ∀ u ∈ ddC F, u.oneCell' = true := by
  intro u hu
  obtain ⟨f, _, hf⟩ := List.mem_flatMap.1 hu
  exact Dd.one f u hf
theorem rret30 {R : Ending → World → Prop} {fn : Func} {pt : Tmp} {a : Act} {w : World} {g : Nat} {X : List Value} (hr : fn.results = #[.cell pt 30]) (hd : a.defers = []) (hp : a.tmps.getD pt undef = .pointer (some ⟨g, 0, none⟩)) (hl : X.length = 2)
    (hb : Blk w g 30 X) (hR : R (.returned (.agg X.toArray)) w) : bodyPost Try.prog fn R .ret a w :=
  bodyPost_ret (results_cell_row hr _ w g 30 X.toArray (0, 0) _ hp hb Try.underlying30 rfl (by rw [List.size_toArray, hl]; exact size30)) hd hR
theorem rret30u {R : Ending → World → Prop} {fn : Func} {pt u : Tmp} {a : Act} {w : World} {g : Nat} {X : List Value} (hr : fn.results = #[.cell pt 30, .tmp u]) (hd : a.defers = []) (hp : a.tmps.getD pt undef = .pointer (some ⟨g, 0, none⟩)) (hl : X.length = 2)
    (hb : Blk w g 30 X) (hR : R (.returned (.tuple #[.agg X.toArray, a.tmps.getD u undef])) w) : bodyPost Try.prog fn R .ret a w := by
  have hl := run_loadVar_mid (P := Try.prog) w g 0 30 X _ (by have := hb.range 0 2; rwa [List.drop_zero, List.take_of_length_le (by omega)] at this) Try.underlying30 rfl (by rw [hl]; exact size30)
  refine bodyPost_ret (v := .tuple #[.agg X.toArray, a.tmps.getD u undef]) ?_ hd hR
  rw [results_cell_tmp hr, hp]
  simp [asAddr, hl, Result.andThen]
theorem two {lv dv : Value} {w : World} {R : Rb} (h : RBt w lv dv R) : ∀ v ∈ [lv, dv], v.oneCell' = true := by
  intro v hv'
  simp at hv'
  rcases hv' with rfl | rfl
  · exact h.l.one.1
  · exact h.d.one.1
/-- a row of the document's board is no box of slices -/
theorem sv_other {V Ve : World} {v : Value} {n sz g : Nat} {cs : List Value} {a : Option Addr} {k c : Nat} {X : List Value} {T : TypeId} (h : SV V v n sz cs) (h0 : ∀ u, cs[0]? = some u → u ≠ .slice a k c) (hb : Blk V g T (.slice a k c :: X)) (hg : V.grownBy Ve (some g)) : SV Ve v n sz cs := by
  obtain ⟨a', c', rfl, h1, h2, h3, h4, h5⟩ := h
  refine ⟨a', c', rfl, h1, h2, h3, h4, ?_⟩
  rcases h5 with h5 | ⟨g', rfl, hl, hc⟩
  · exact .inl h5
  · refine .inr ⟨g', rfl, Nat.lt_of_lt_of_le hl hg.size, fun j u hu => hg.cell (hc j u hu) (fun e => ?_)⟩
    have e' : g' = g := by simpa using e
    subst e'
    have hlen : 0 < cs.length := by have := (List.getElem?_eq_some_iff.1 hu).1; omega
    have h6 : cs[0]? = some cs[0] := List.getElem?_eq_getElem hlen
    have h7 := hc 0 _ h6
    have h8 : V.cell? ⟨g', 0, none⟩ = some (.slice a k c) := hb.cell rfl
    rw [h8] at h7
    injection h7 with h7
    exact h0 _ h6 h7.symm
theorem dd_head {l : List Dd} {a : Option Addr} {k c : Nat} (u : Value) (h : (ddC l)[0]? = some u) : u ≠ .slice a k c := by
  cases l with
  | nil => simp [ddC] at h
  | cons x l => simp [ddC, Dd.cells] at h; subst h; exact fun e => by cases e
theorem mk_head {l : List Mk} {a : Option Addr} {k c : Nat} (u : Value) (h : (mkC l)[0]? = some u) : u ≠ .slice a k c := by
  cases l with
  | nil => simp [mkC] at h
  | cons x l => simp [mkC, Mk.cells] at h; subst h; exact fun e => by cases e
theorem rb_other {V Ve : World} {lv dv : Value} {R : Rb} {g : Nat} {a : Option Addr} {k c : Nat} {X : List Value} {T : TypeId} (h : RBt V lv dv R) (hb : Blk V g T (.slice a k c :: X)) (hg : V.grownBy Ve (some g)) : RBt Ve lv dv R := ⟨sv_other h.l mk_head hb hg, sv_other h.d dd_head hb hg, h.hs, h.ks, h.nl, h.nd⟩
theorem own_new {w : World} {B e sz n : Nat} {v : Value} {cs : List Value} (h : w.ownsRow B e sz v n cs) : ∀ g, v.ownBlock = some g → B ≤ g := fun g hg => (h.lt g hg).1
/-- the same row, or a new one -/
def New (w : World) (v v' : Value) : Prop := v' = v ∨ ∀ g, v'.ownBlock = some g → w.heap.size ≤ g
/-- what a call of the document's board leaves and answers -/
def Ro (w : World) (lv dv : Value) (q : Rb × Int) (e : Ending) (w' : World) : Prop := ∃ lv' dv', e = .returned (.tuple #[.agg #[lv', dv'], iv q.2]) ∧ Hid (RBt w' lv' dv' q.1 ∧ Below w.heap.size w w' ∧ New w lv lv' ∧ New w dv dv')
set_option maxRecDepth 100000 in
set_option maxHeartbeats 1000000 in
theorem rwith_is {w : World} {lv dv : Value} {R : Rb} (h : RBt w lv dv R) (f : Dd) (hk : 1 ≤ f.k ∧ f.k ≤ 5) (hn1 : R.D.length + 1 ≤ 1000) : Calls Try.prog 53 #[.agg #[lv, dv], .agg f.cells.toArray] w fun e w' => ∃ dv', e = .returned (.agg #[lv, dv']) ∧ RBt w' lv dv' { R with D := R.D ++ [f] } ∧ Below w.heap.size w w' ∧ ∀ g, dv'.ownBlock = some g → w.heap.size ≤ g := by
  obtain ⟨n, hn⟩ : ∃ n, R.D.length = n := ⟨_, rfl⟩
  obtain ⟨fa, c, rfl, _⟩ := h.d
  have hz30 := zero30
  obtain ⟨b2, hb2⟩ : ∃ b, w.heap.size = b := ⟨_, rfl⟩
  rw [hn] at h ⊢
  obtain ⟨A, hA⟩ : ∃ A, ((w.alloc (.cells #[lv, .slice fa n c] 30)).alloc (.cells f.cells.toArray 94)).alloc (.cells #[.slice none 0 0, .slice none 0 0] 30) = A := ⟨_, rfl⟩
  have hB : Below w.heap.size w A := by rw [← hA]; exact (((Below.refl _ w).alloc (Nat.le_refl _) _).alloc (by simp) _).alloc (by simp; omega) _
  have h2 : Blk A b2 30 [lv, .slice fa n c] := by rw [← hA, ← hb2]; exact ((Blk.new w _ _).alloc _).alloc _
  have h3 : Blk A (b2 + 1) 94 f.cells := by
    rw [← hA, ← hb2]
    have := (Blk.new (w.alloc (.cells #[lv, .slice fa n c] 30)) f.cells.toArray 94).alloc (.cells #[.slice none 0 0, .slice none 0 0] 30)
    rwa [World.size_alloc] at this
  have h4 : Blk A (b2 + 1 + 1) 30 [.slice none 0 0, .slice none 0 0] := by
    rw [← hA, ← hb2]
    have := Blk.new ((w.alloc (.cells #[lv, .slice fa n c] 30)).alloc (.cells f.cells.toArray 94)) #[.slice none 0 0, .slice none 0 0] 30
    rwa [World.size_alloc, World.size_alloc] at this
  have HH : Hid (RBt w lv (.slice fa n c) R ∧ R.D.length = n ∧ Below w.heap.size w A ∧ w.heap.size = b2 ∧ (1 ≤ f.k ∧ f.k ≤ 5)) := ⟨h, hn, hB, hb2, hk⟩
  have HL : Hid (b2 < A.heap.size) := h2.lt
  have HX : Hid (Blk A b2 30 [lv, .slice fa n c]) := h2
  have HB4 : Hid (Blk A (b2 + 1 + 1) 30 [.slice none 0 0, .slice none 0 0]) := h4
  have HR : Hid (∀ V, Keep (fun j => j = b2) A V → Rx V fa n 4 (ddC R.D)) := fun V hV => by
    have h1 := HH.out.1.d
    rw [hn] at h1
    have h2 := h1.rx
    obtain ⟨a', c', e', _, _, _, _, h5⟩ := h1
    cases e'
    refine ⟨h2.1, h2.2.1, fun hp => ?_⟩
    rcases h5 with ⟨e, e'⟩ | ⟨g, e, hg, hx⟩
    · obtain ⟨g', off, e9, _⟩ := h2.2.2 hp
      rw [e] at e9
      cases e9
    · exact ⟨g, 0, e, fun j u hu => by rw [Nat.zero_add]; exact (World.cell?_of_block (a := ⟨g, j, none⟩) ((hV.block g (Nat.lt_of_lt_of_le hg hB.size) (by omega)).trans (hB.block g hg))).trans (hx j u hu)⟩
  have HN : Hid (n ≤ 100000) := by show _ ≤ _; omega
  have HN1 : Hid (n + 1 ≤ 1000) := by show _ ≤ _; omega
  obtain ⟨i0, z, e1, e2, e3, e4, e5⟩ := info94
  have HI0 : Hid (Try.prog.info? 94 = some i0 ∧ i0.zero = some z ∧ i0.size = 4 ∧ i0.bytes ≤ 1000 ∧ z.cells.size = 4) := ⟨e1, e2, e3, e4, e5⟩
  have HF3 : Hid (A.rangeAt (b2 + 1) 0 f.cells ∧ b2 + 1 < A.heap.size ∧ ¬ (b2 + 1 = b2)) := ⟨by have := h3.range 0 4; simpa [Dd.cells] using this, h3.lt, by omega⟩
  have hlv := h.l.one
  clear h hn hn1 hB h2 h3 h4 e1 e2 e3 e4 e5 hk
  go_enter Try.func53, Try.ntmps53
  go_wp2_with fail
  refine rwi1 HL HX HR HN HI0 HF3 ?_
  intro V1 v1 v2 q nb hown hbk hkp
  have HV1 : Hid (V1.ownsRow A.heap.size 94 4 v2 (n + 1) (ddC (R.D ++ [f])) ∧ Blk V1 b2 30 [lv, v2] ∧ Keep (fun j => j = b2) A V1 ∧ Blk V1 (b2 + 1 + 1) 30 [.slice none 0 0, .slice none 0 0]) := by
    refine ⟨?_, hbk, hkp, hkp.blk HB4.out (by omega)⟩
    rw [List.nil_append, Nat.zero_add] at hown
    rw [ddC_app, show ddC [f] = f.cells by simp [ddC]]
    exact hown
  clear hown hbk hkp HR HX HL
  go_wp2_with (with_reducible change wpList _ _ _ ({ dst := some 13, op := _, type := _, pos := _, after := _, guard := _ } :: _) _ _; refine Hid.out ?_)
  show wpList _ _ _ _ _ _
  refine wpList_load_row rfl 30 (.tmp 2) rfl b2 rfl 30 #[lv, v2] (0, 0) _ HV1.out.2.1 Try.underlying30 rfl size30 ?_
  simp only [Act.put, List.setIfInBounds_toArray, List.set_cons_zero, List.set_cons_succ]
  go_wp2_with (with_reducible change wpList _ _ _ ({ dst := none, op := Op.store 30 _ _, type := _, pos := _, after := _, guard := _ } :: _) _ _; refine Hid.out ?_)
  show wpList _ _ _ _ _ _
  have hsv2 := SV.own HV1.out.1 (ddC_one _)
  refine wpList_store_blk rfl 30 (.tmp 4) (.tmp 13) rfl (b2 + 1 + 1) 0 30 [.slice none 0 0, .slice none 0 0] [lv, v2] rfl rfl HV1.out.2.2.2 (by simp) size30 (by intro v hv'; simp at hv'; rcases hv' with rfl | rfl; exact hlv.1; exact hsv2.one.1) ?_
  intro V hb5 hg5
  have HV : Hid (Blk V (b2 + 1 + 1) 30 [lv, v2] ∧ RBt V lv v2 { R with D := R.D ++ [f] } ∧ Below w.heap.size w V ∧ ∀ g, v2.ownBlock = some g → w.heap.size ≤ g) := by
    have hh := HH.out
    have hs := HN1.out
    have kA : Keep (fun j => j = b2 ∨ j = b2 + 1 + 1) A V := (HV1.out.2.2.1.mono (T := fun j => j = b2 ∨ j = b2 + 1 + 1) (fun j _ hj => .inl hj)).trans (Keep.grown (S := fun j => j = b2 ∨ j = b2 + 1 + 1) hg5.out (.inr rfl)) (fun _ hj _ => hj)
    have hbw : Below w.heap.size w V := hh.2.2.1.trans (kA.toBelow hh.2.2.1.size (fun j hj => by rcases hj with e | e <;> omega))
    have hlen : (R.D ++ [f]).length = n + 1 := by rw [List.length_append, hh.2.1]; rfl
    have hown : V.ownsRow A.heap.size 94 4 v2 (n + 1) (ddC (R.D ++ [f])) := own_sameR HV1.out.1 (fun g h1 h2 => hg5.out.block g h2 (fun e => by cases e; have := HB4.out.lt; omega))
    refine ⟨by simpa using hb5.out, ⟨hh.1.l.below hbw, by rw [show ({ R with D := R.D ++ [f] } : Rb).D.length = n + 1 from hlen]; exact SV.own hown (ddC_one _), hh.1.hs, fun d hd => ?_, hh.1.nl, ?_⟩, hbw, fun g hg => Nat.le_trans hh.2.2.1.size (own_new hown g hg)⟩
    · rcases List.mem_append.1 hd with hd | hd
      · exact hh.1.ks d hd
      · simp at hd; subst hd; exact hh.2.2.2.2
    · show (R.D ++ [f]).length ≤ 1000
      omega
  clear hb5 hg5
  go_wp2_with fail
  refine rret30 rfl rfl rfl rfl HV.out.1 ?_
  exact ⟨v2, rfl, by have := HV.out.2; rw [hb2] at this; first | exact this | exact HV.out.2⟩
/-- the calls of the document's board -/
def rClose (R : Rb) (x : Int) : Rb × Int := if liveR R x ≠ 0 then (R, liveR R x) else ({ R with D := R.D ++ [⟨5, x, ⟨#[]⟩, ⟨#[]⟩⟩] }, 0)
def rVote (R : Rb) (x : Int) (u : BA) (yes : Bool) : Rb × Int := if liveR R x ≠ 0 then (R, liveR R x) else if (R.L[(x - 1).toNat]?).map (·.au) = some u then (R, 200) else ({ R with D := R.D ++ [⟨if yes then 1 else 2, x, u, ⟨#[]⟩⟩] }, 0)
def rUnvote (R : Rb) (x : Int) (u : BA) : Rb × Int := if liveR R x ≠ 0 then (R, liveR R x) else if ofD R.D x u = 0 then (R, 111) else ({ R with D := R.D ++ [⟨3, x, u, ⟨#[]⟩⟩] }, 0)
set_option maxRecDepth 100000 in
set_option maxHeartbeats 4000000 in
theorem rclose_is {w : World} {lv dv : Value} {R : Rb} (h : RBt w lv dv R) (x : Int) (hD : R.D.length + 1 ≤ 1000) : Calls Try.prog 35 #[.agg #[lv, dv], iv x] w (Ro w lv dv (rClose R x)) := by
  obtain ⟨nl, hnl⟩ : ∃ m, R.L.length = m := ⟨_, rfl⟩
  obtain ⟨nd, hnd⟩ : ∃ m, R.D.length = m := ⟨_, rfl⟩
  obtain ⟨la, lc, rfl, _⟩ := h.l
  obtain ⟨da, dc, rfl, _⟩ := h.d
  rw [hnl, hnd] at h ⊢
  obtain ⟨b, hb⟩ : ∃ b, w.heap.size = b := ⟨_, rfl⟩
  have hz30 := zero30
  obtain ⟨A, hA⟩ : ∃ A, (w.alloc (.cells #[.slice la nl lc, .slice da nd dc] 30)).alloc (.cells #[.slice none 0 0, .slice none 0 0] 30) = A := ⟨_, rfl⟩
  have hB : Below w.heap.size w A := by rw [← hA]; exact ((Below.refl _ w).alloc (Nat.le_refl _) _).alloc (by simp) _
  have h2 : Blk A b 30 [.slice la nl lc, .slice da nd dc] := by rw [← hA, ← hb]; exact (Blk.new w _ _).alloc _
  have h4 : Blk A (b + 1) 30 [.slice none 0 0, .slice none 0 0] := by
    rw [← hA, ← hb]
    have := Blk.new (w.alloc (.cells #[.slice la nl lc, .slice da nd dc] 30)) #[.slice none 0 0, .slice none 0 0] 30
    rwa [World.size_alloc] at this
  have HA0 : Hid (RBt w (.slice la nl lc) (.slice da nd dc) R) := h
  have HA : Hid (Below w.heap.size w A ∧ Blk A b 30 [.slice la nl lc, .slice da nd dc] ∧ RBt A (.slice la nl lc) (.slice da nd dc) R ∧ Blk A (b + 1) 30 [.slice none 0 0, .slice none 0 0]) := ⟨hB, h2, h.below hB, h4⟩
  have HN : Hid (R.L.length = nl ∧ R.D.length = nd ∧ w.heap.size = b) := ⟨hnl, hnd, hb⟩
  have ql : (nl : Int) ≤ 1000 := by have := h.nl; omega
  have qd : (nd : Int) ≤ 1000 := by have := h.nd; omega
  have HND : Hid (R.D.length + 1 ≤ 1000) := hD
  obtain ⟨q, hq⟩ : ∃ q, rClose R x = q := ⟨_, rfl⟩
  have HQ : Hid (rClose R x = q) := hq
  rw [hq]
  obtain ⟨y, hy⟩ : ∃ y, liveR R x = y := ⟨_, rfl⟩
  have HY : Hid (liveR R x = y) := hy
  clear hq hy hD
  clear h hnl hnd hB h2 h4
  go_enter Try.func35, Try.ntmps35
  have HCV := rlive_is HA.out.2.2.1 x
  rw [HY.out] at HCV
  have c0A : A.cell? ⟨b, 0, none⟩ = some (.slice la nl lc) := HA.out.2.1.cell rfl
  have c1A : A.cell? ⟨b, 1, none⟩ = some (.slice da nd dc) := HA.out.2.1.cell rfl
  go_wp2_with (with_reducible change wpList _ _ _ ({ dst := some 7, op := _, type := _, pos := _, after := _, guard := _ } :: _) _ _; refine Hid.out ?_)
  show wpList _ _ _ _ _ _
  refine wpList_load_row rfl 30 (.tmp 2) rfl b rfl 30 #[.slice la nl lc, .slice da nd dc] (0, 0) _ HA.out.2.1 Try.underlying30 rfl size30 ?_
  simp only [Act.put, List.setIfInBounds_toArray, List.set_cons_zero, List.set_cons_succ]
  go_wp2_with fail
  refine HCV.mono ?_
  rintro e V ⟨rfl, hbV⟩
  have HV : Hid (Below w.heap.size w V ∧ Blk V b 30 [.slice la nl lc, .slice da nd dc] ∧ RBt V (.slice la nl lc) (.slice da nd dc) R ∧ Blk V (b + 1) 30 [.slice none 0 0, .slice none 0 0]) := ⟨below_tr HA.out.1 hbV, HA.out.2.1.below hbV HA.out.2.1.lt, HA.out.2.2.1.below hbV, HA.out.2.2.2.below hbV HA.out.2.2.2.lt⟩
  clear hb hA hbV
  clear c0A c1A
  clear HCV
  by_cases h0 : y = 0
  · subst h0
    have HF : Hid (q = ({ R with D := R.D ++ [⟨5, x, ⟨#[]⟩, ⟨#[]⟩⟩] }, 0)) := by show _ = _; rw [← HQ.out]; unfold rClose; rw [HY.out]; rfl
    have HK : Hid ((1 : Int) ≤ 5 ∧ (5 : Int) ≤ 5) := by constructor <;> decide
    have HCW : Calls Try.prog 53 #[.agg #[.slice la nl lc, .slice da nd dc], .agg #[iv 5, iv x, .string ⟨#[]⟩, .string ⟨#[]⟩]] V fun e w' => ∃ dv', e = .returned (.agg #[.slice la nl lc, dv']) ∧ RBt w' (.slice la nl lc) dv' { R with D := R.D ++ [⟨5, x, ⟨#[]⟩, ⟨#[]⟩⟩] } ∧ Below V.heap.size V w' ∧ ∀ g, dv'.ownBlock = some g → V.heap.size ≤ g := rwith_is HV.out.2.2.1 ⟨5, x, ⟨#[]⟩, ⟨#[]⟩⟩ HK.out (by have := HND.out; omega)
    have c0V : V.cell? ⟨b, 0, none⟩ = some (.slice la nl lc) := HV.out.2.1.cell rfl
    have c1V : V.cell? ⟨b, 1, none⟩ = some (.slice da nd dc) := HV.out.2.1.cell rfl
    go_wp2_with (with_reducible change wpList _ _ _ ({ dst := some 14, op := _, type := _, pos := _, after := _, guard := _ } :: _) _ _; refine Hid.out ?_)
    show wpList _ _ _ _ _ _
    refine wpList_load_row rfl 30 (.tmp 2) rfl b rfl 30 #[.slice la nl lc, .slice da nd dc] (0, 0) _ HV.out.2.1 Try.underlying30 rfl size30 ?_
    simp only [Act.put, List.setIfInBounds_toArray, List.set_cons_zero, List.set_cons_succ]
    go_wp2_with fail
    refine HCW.mono ?_
    rintro e V2 ⟨dv', rfl, hr5, hb5, hn5⟩
    have hr5' := hr5
    obtain ⟨ea, ec, hv5, _⟩ := hr5.d
    subst hv5
    obtain ⟨ne, hne⟩ : ∃ n, ({ R with D := R.D ++ [⟨5, x, ⟨#[]⟩, ⟨#[]⟩⟩] } : Rb).D.length = n := ⟨_, rfl⟩
    rw [hne] at hr5 hr5' hn5 ⊢
    have HRV : Hid (Below w.heap.size w V2 ∧ RBt V2 (.slice la nl lc) (.slice ea ne ec) { R with D := R.D ++ [⟨5, x, ⟨#[]⟩, ⟨#[]⟩⟩] } ∧ Blk V2 (b + 1) 30 [.slice none 0 0, .slice none 0 0] ∧ New w (.slice la nl lc) (.slice la nl lc) ∧ New w (.slice da nd dc) (.slice ea ne ec)) := ⟨below_tr HV.out.1 hb5, hr5', HV.out.2.2.2.below hb5 HV.out.2.2.2.lt, .inl rfl, .inr fun g hg => Nat.le_trans HV.out.1.size (hn5 g hg)⟩
    clear HCW hr5 hr5' hb5 hn5 hne
    clear c0V c1V
    go_wp2_with (with_reducible change wpList _ _ _ ({ dst := none, op := Op.store 30 _ _, type := _, pos := _, after := _, guard := _ } :: _) _ _; refine Hid.out ?_)
    show wpList _ _ _ _ _ _
    refine wpList_store_blk rfl 30 (.tmp 4) (.tmp 17) rfl (b + 1) 0 30 [.slice none 0 0, .slice none 0 0] [.slice la nl lc, .slice ea ne ec] rfl rfl HRV.out.2.2.1 (by simp) size30 (two HRV.out.2.1) ?_
    intro Ve hbe hge
    have HE : Hid (Blk Ve (b + 1) 30 [.slice la nl lc, .slice ea ne ec] ∧ RBt Ve (.slice la nl lc) (.slice ea ne ec) { R with D := R.D ++ [⟨5, x, ⟨#[]⟩, ⟨#[]⟩⟩] } ∧ Below w.heap.size w Ve ∧ New w (.slice la nl lc) (.slice la nl lc) ∧ New w (.slice da nd dc) (.slice ea ne ec)) := by
      have hn := HN.out.2.2
      have hbw : Below w.heap.size w Ve := HRV.out.1.grown hge.out HRV.out.1.size (fun j hj => by cases hj; omega)
      exact ⟨by simpa using hbe.out, rb_other HRV.out.2.1 HRV.out.2.2.1 hge.out, hbw, HRV.out.2.2.2⟩
    clear hbe hge
    go_wp2_with fail
    refine rret30u rfl rfl rfl rfl HE.out.1 ?_
    exact ⟨_, _, by rw [HF.out]; rfl, by rw [HF.out]; exact HE.out.2⟩
  · have HF : Hid (q = (R, y)) := by show _ = _; rw [← HQ.out]; unfold rClose; rw [HY.out, if_pos h0]
    have e0 : (y != 0) = true := by simpa using h0
    clear h0
    go_wp2_with (with_reducible change wpList _ _ _ ({ dst := some 12, op := _, type := _, pos := _, after := _, guard := _ } :: _) _ _; refine Hid.out ?_)
    show wpList _ _ _ _ _ _
    refine wpList_load_row rfl 30 (.tmp 2) rfl b rfl 30 #[.slice la nl lc, .slice da nd dc] (0, 0) _ HV.out.2.1 Try.underlying30 rfl size30 ?_
    simp only [Act.put, List.setIfInBounds_toArray, List.set_cons_zero, List.set_cons_succ]
    have HRV : Hid (Below w.heap.size w V ∧ RBt V (.slice la nl lc) (.slice da nd dc) R ∧ Blk V (b + 1) 30 [.slice none 0 0, .slice none 0 0] ∧ New w (.slice la nl lc) (.slice la nl lc) ∧ New w (.slice da nd dc) (.slice da nd dc)) := ⟨HV.out.1, HV.out.2.2.1, HV.out.2.2.2, .inl rfl, .inl rfl⟩
    go_wp2_with (with_reducible change wpList _ _ _ ({ dst := none, op := Op.store 30 _ _, type := _, pos := _, after := _, guard := _ } :: _) _ _; refine Hid.out ?_)
    show wpList _ _ _ _ _ _
    refine wpList_store_blk rfl 30 (.tmp 4) (.tmp 12) rfl (b + 1) 0 30 [.slice none 0 0, .slice none 0 0] [.slice la nl lc, .slice da nd dc] rfl rfl HRV.out.2.2.1 (by simp) size30 (two HRV.out.2.1) ?_
    intro Ve hbe hge
    have HE : Hid (Blk Ve (b + 1) 30 [.slice la nl lc, .slice da nd dc] ∧ RBt Ve (.slice la nl lc) (.slice da nd dc) R ∧ Below w.heap.size w Ve ∧ New w (.slice la nl lc) (.slice la nl lc) ∧ New w (.slice da nd dc) (.slice da nd dc)) := by
      have hn := HN.out.2.2
      have hbw : Below w.heap.size w Ve := HRV.out.1.grown hge.out HRV.out.1.size (fun j hj => by cases hj; omega)
      exact ⟨by simpa using hbe.out, rb_other HRV.out.2.1 HRV.out.2.2.1 hge.out, hbw, HRV.out.2.2.2⟩
    clear hbe hge
    go_wp2_with fail
    refine rret30u rfl rfl rfl rfl HE.out.1 ?_
    exact ⟨_, _, by rw [HF.out]; rfl, by rw [HF.out]; exact HE.out.2⟩
end Go.Proofs.Ytaecigpjcbjcbaa.Oct

/- Layer 20 (review): the document's board: Vote, Unvote. -/
namespace Go.Proofs.Ytaecigpjcbjcbaa.Oct
open Go.RowKit
set_option linter.unusedSimpArgs false
set_option linter.unusedVariables false

theorem RBt.made {w : World} {dv : Value} {la : Option Addr} {nl lc : Nat} {R : Rb} (h : RBt w (.slice la nl lc) dv R) {i : Nat} (hi : i < nl) : ∃ g m, la = some ⟨g, 0, none⟩ ∧ g < w.heap.size ∧ R.L[i]? = some m ∧ m.h.length = 32 ∧ w.rangeAt g (i * 34) m.cells := by
  obtain ⟨a, c, e, h1, h2, h3, h4, h5⟩ := h.l
  injection e with e1 e2 e3
  subst e1 e3
  have hl : R.L.length = nl := by omega
  obtain ⟨d, hd⟩ : ∃ d, R.L[i]? = some d := ⟨_, List.getElem?_eq_getElem (by omega)⟩
  rcases h5 with ⟨_, rfl⟩ | ⟨g, rfl, hg, hc⟩
  · omega
  · exact ⟨g, d, rfl, hg, hd, h.hs d (List.mem_of_getElem? hd), fun j u hu => hc _ u (flatN (f := Mk.cells) (fun m hm => Mk.len (h.hs m hm)) hd j u hu)⟩
theorem Mk.cell {w : World} {g o : Nat} {m : Mk} (h : w.rangeAt g o m.cells) : w.cell? ⟨g, o, none⟩ = some (.string m.au) ∧ w.cell? ⟨g, o + 1, none⟩ = some (.string m.ch) ∧ w.rangeAt g (o + 2) (U m.h) := ⟨h 0 _ rfl, h 1 _ rfl, fun j v hj => by rw [Nat.add_assoc, Nat.add_comm 2 j]; exact h (j + 2) v hj⟩
theorem live_zero {R : Rb} {x : Int} (h : liveR R x = 0) : thereR R x = true ∧ openR R x = true := by
  unfold liveR at h
  split at h
  · omega
  · rename_i h1
    split at h
    · omega
    · rename_i h2
      exact ⟨by simpa using h1, by simpa using h2⟩
theorem there_nat {R : Rb} {x : Int} (h : thereR R x = true) : ∃ i : Nat, x = (i : Int) + 1 ∧ i < R.L.length := by
  unfold thereR at h
  have := of_decide_eq_true h
  exact ⟨(x - 1).toNat, by omega, by omega⟩
set_option maxRecDepth 100000 in
set_option maxHeartbeats 4000000 in
theorem runvote_is {w : World} {lv dv : Value} {R : Rb} (h : RBt w lv dv R) (x : Int) (u : BA) (hD : R.D.length + 1 ≤ 1000) : Calls Try.prog 33 #[.agg #[lv, dv], iv x, .string u] w (Ro w lv dv (rUnvote R x u)) := by
  obtain ⟨nl, hnl⟩ : ∃ m, R.L.length = m := ⟨_, rfl⟩
  obtain ⟨nd, hnd⟩ : ∃ m, R.D.length = m := ⟨_, rfl⟩
  obtain ⟨la, lc, rfl, _⟩ := h.l
  obtain ⟨da, dc, rfl, _⟩ := h.d
  rw [hnl, hnd] at h ⊢
  obtain ⟨b, hb⟩ : ∃ b, w.heap.size = b := ⟨_, rfl⟩
  have hz30 := zero30
  obtain ⟨A, hA⟩ : ∃ A, (w.alloc (.cells #[.slice la nl lc, .slice da nd dc] 30)).alloc (.cells #[.slice none 0 0, .slice none 0 0] 30) = A := ⟨_, rfl⟩
  have hB : Below w.heap.size w A := by rw [← hA]; exact ((Below.refl _ w).alloc (Nat.le_refl _) _).alloc (by simp) _
  have h2 : Blk A b 30 [.slice la nl lc, .slice da nd dc] := by rw [← hA, ← hb]; exact (Blk.new w _ _).alloc _
  have h4 : Blk A (b + 1) 30 [.slice none 0 0, .slice none 0 0] := by
    rw [← hA, ← hb]
    have := Blk.new (w.alloc (.cells #[.slice la nl lc, .slice da nd dc] 30)) #[.slice none 0 0, .slice none 0 0] 30
    rwa [World.size_alloc] at this
  have HA0 : Hid (RBt w (.slice la nl lc) (.slice da nd dc) R) := h
  have HA : Hid (Below w.heap.size w A ∧ Blk A b 30 [.slice la nl lc, .slice da nd dc] ∧ RBt A (.slice la nl lc) (.slice da nd dc) R ∧ Blk A (b + 1) 30 [.slice none 0 0, .slice none 0 0]) := ⟨hB, h2, h.below hB, h4⟩
  have HN : Hid (R.L.length = nl ∧ R.D.length = nd ∧ w.heap.size = b) := ⟨hnl, hnd, hb⟩
  have ql : (nl : Int) ≤ 1000 := by have := h.nl; omega
  have qd : (nd : Int) ≤ 1000 := by have := h.nd; omega
  have HND : Hid (R.D.length + 1 ≤ 1000) := hD
  obtain ⟨q, hq⟩ : ∃ q, rUnvote R x u = q := ⟨_, rfl⟩
  have HQ : Hid (rUnvote R x u = q) := hq
  rw [hq]
  obtain ⟨y, hy⟩ : ∃ y, liveR R x = y := ⟨_, rfl⟩
  have HY : Hid (liveR R x = y) := hy
  clear hq hy hD
  clear h hnl hnd hB h2 h4
  go_enter Try.func33, Try.ntmps33
  have HCV := rlive_is HA.out.2.2.1 x
  rw [HY.out] at HCV
  have c0A : A.cell? ⟨b, 0, none⟩ = some (.slice la nl lc) := HA.out.2.1.cell rfl
  have c1A : A.cell? ⟨b, 1, none⟩ = some (.slice da nd dc) := HA.out.2.1.cell rfl
  go_wp2_with (with_reducible change wpList _ _ _ ({ dst := some 9, op := _, type := _, pos := _, after := _, guard := _ } :: _) _ _; refine Hid.out ?_)
  show wpList _ _ _ _ _ _
  refine wpList_load_row rfl 30 (.tmp 3) rfl b rfl 30 #[.slice la nl lc, .slice da nd dc] (0, 0) _ HA.out.2.1 Try.underlying30 rfl size30 ?_
  simp only [Act.put, List.setIfInBounds_toArray, List.set_cons_zero, List.set_cons_succ]
  go_wp2_with fail
  refine HCV.mono ?_
  rintro e V ⟨rfl, hbV⟩
  have HV : Hid (Below w.heap.size w V ∧ Blk V b 30 [.slice la nl lc, .slice da nd dc] ∧ RBt V (.slice la nl lc) (.slice da nd dc) R ∧ Blk V (b + 1) 30 [.slice none 0 0, .slice none 0 0]) := ⟨below_tr HA.out.1 hbV, HA.out.2.1.below hbV HA.out.2.1.lt, HA.out.2.2.1.below hbV, HA.out.2.2.2.below hbV HA.out.2.2.2.lt⟩
  clear hb hA hbV
  clear c0A c1A
  clear HCV
  by_cases h0 : y = 0
  · subst h0
    obtain ⟨y2, hy2⟩ : ∃ y, ofD R.D x u = y := ⟨_, rfl⟩
    have HY2 : Hid (ofD R.D x u = y2) := hy2
    clear hy2
    have HCV2 := rOf_is HV.out.2.2.1 x u
    rw [HY2.out] at HCV2
    have c0V : V.cell? ⟨b, 0, none⟩ = some (.slice la nl lc) := HV.out.2.1.cell rfl
    have c1V : V.cell? ⟨b, 1, none⟩ = some (.slice da nd dc) := HV.out.2.1.cell rfl
    go_wp2_with (with_reducible change wpList _ _ _ ({ dst := some 16, op := _, type := _, pos := _, after := _, guard := _ } :: _) _ _; refine Hid.out ?_)
    show wpList _ _ _ _ _ _
    refine wpList_load_row rfl 30 (.tmp 3) rfl b rfl 30 #[.slice la nl lc, .slice da nd dc] (0, 0) _ HV.out.2.1 Try.underlying30 rfl size30 ?_
    simp only [Act.put, List.setIfInBounds_toArray, List.set_cons_zero, List.set_cons_succ]
    go_wp2_with fail
    refine HCV2.mono ?_
    rintro e V2 ⟨rfl, hbV2⟩
    have HV2 : Hid (Below w.heap.size w V2 ∧ Blk V2 b 30 [.slice la nl lc, .slice da nd dc] ∧ RBt V2 (.slice la nl lc) (.slice da nd dc) R ∧ Blk V2 (b + 1) 30 [.slice none 0 0, .slice none 0 0]) := ⟨below_tr HV.out.1 hbV2, HV.out.2.1.below hbV2 HV.out.2.1.lt, HV.out.2.2.1.below hbV2, HV.out.2.2.2.below hbV2 HV.out.2.2.2.lt⟩
    clear hbV2
    clear c0V c1V
    clear HCV2
    by_cases h1 : y2 = 0
    · subst h1
      have HF : Hid (q = (R, 111)) := by show _ = _; rw [← HQ.out]; unfold rUnvote; rw [HY.out, HY2.out]; rfl
      go_wp2_with (with_reducible change wpList _ _ _ ({ dst := some 21, op := _, type := _, pos := _, after := _, guard := _ } :: _) _ _; refine Hid.out ?_)
      show wpList _ _ _ _ _ _
      refine wpList_load_row rfl 30 (.tmp 3) rfl b rfl 30 #[.slice la nl lc, .slice da nd dc] (0, 0) _ HV2.out.2.1 Try.underlying30 rfl size30 ?_
      simp only [Act.put, List.setIfInBounds_toArray, List.set_cons_zero, List.set_cons_succ]
      have HRV : Hid (Below w.heap.size w V2 ∧ RBt V2 (.slice la nl lc) (.slice da nd dc) R ∧ Blk V2 (b + 1) 30 [.slice none 0 0, .slice none 0 0] ∧ New w (.slice la nl lc) (.slice la nl lc) ∧ New w (.slice da nd dc) (.slice da nd dc)) := ⟨HV2.out.1, HV2.out.2.2.1, HV2.out.2.2.2, .inl rfl, .inl rfl⟩
      go_wp2_with (with_reducible change wpList _ _ _ ({ dst := none, op := Op.store 30 _ _, type := _, pos := _, after := _, guard := _ } :: _) _ _; refine Hid.out ?_)
      show wpList _ _ _ _ _ _
      refine wpList_store_blk rfl 30 (.tmp 6) (.tmp 21) rfl (b + 1) 0 30 [.slice none 0 0, .slice none 0 0] [.slice la nl lc, .slice da nd dc] rfl rfl HRV.out.2.2.1 (by simp) size30 (two HRV.out.2.1) ?_
      intro Ve hbe hge
      have HE : Hid (Blk Ve (b + 1) 30 [.slice la nl lc, .slice da nd dc] ∧ RBt Ve (.slice la nl lc) (.slice da nd dc) R ∧ Below w.heap.size w Ve ∧ New w (.slice la nl lc) (.slice la nl lc) ∧ New w (.slice da nd dc) (.slice da nd dc)) := by
        have hn := HN.out.2.2
        have hbw : Below w.heap.size w Ve := HRV.out.1.grown hge.out HRV.out.1.size (fun j hj => by cases hj; omega)
        exact ⟨by simpa using hbe.out, rb_other HRV.out.2.1 HRV.out.2.2.1 hge.out, hbw, HRV.out.2.2.2⟩
      clear hbe hge
      go_wp2_with fail
      refine rret30u rfl rfl rfl rfl HE.out.1 ?_
      exact ⟨_, _, by rw [HF.out]; rfl, by rw [HF.out]; exact HE.out.2⟩
    · have HF : Hid (q = ({ R with D := R.D ++ [⟨3, x, u, ⟨#[]⟩⟩] }, 0)) := by show _ = _; rw [← HQ.out]; unfold rUnvote; rw [HY.out, HY2.out, if_neg (by simp), if_neg h1]
      have HK : Hid ((1 : Int) ≤ 3 ∧ (3 : Int) ≤ 5) := by constructor <;> decide
      have e1 : (y2 == 0) = false := by simpa using h1
      clear h1
      have HCW : Calls Try.prog 53 #[.agg #[.slice la nl lc, .slice da nd dc], .agg #[iv 3, iv x, .string u, .string ⟨#[]⟩]] V2 fun e w' => ∃ dv', e = .returned (.agg #[.slice la nl lc, dv']) ∧ RBt w' (.slice la nl lc) dv' { R with D := R.D ++ [⟨3, x, u, ⟨#[]⟩⟩] } ∧ Below V2.heap.size V2 w' ∧ ∀ g, dv'.ownBlock = some g → V2.heap.size ≤ g := rwith_is HV2.out.2.2.1 ⟨3, x, u, ⟨#[]⟩⟩ HK.out (by have := HND.out; omega)
      have c0V2 : V2.cell? ⟨b, 0, none⟩ = some (.slice la nl lc) := HV2.out.2.1.cell rfl
      have c1V2 : V2.cell? ⟨b, 1, none⟩ = some (.slice da nd dc) := HV2.out.2.1.cell rfl
      go_wp2_with (with_reducible change wpList _ _ _ ({ dst := some 22, op := _, type := _, pos := _, after := _, guard := _ } :: _) _ _; refine Hid.out ?_)
      show wpList _ _ _ _ _ _
      refine wpList_load_row rfl 30 (.tmp 3) rfl b rfl 30 #[.slice la nl lc, .slice da nd dc] (0, 0) _ HV2.out.2.1 Try.underlying30 rfl size30 ?_
      simp only [Act.put, List.setIfInBounds_toArray, List.set_cons_zero, List.set_cons_succ]
      go_wp2_with fail
      refine HCW.mono ?_
      rintro e V3 ⟨dv', rfl, hr5, hb5, hn5⟩
      have hr5' := hr5
      obtain ⟨ea, ec, hv5, _⟩ := hr5.d
      subst hv5
      obtain ⟨ne, hne⟩ : ∃ n, ({ R with D := R.D ++ [⟨3, x, u, ⟨#[]⟩⟩] } : Rb).D.length = n := ⟨_, rfl⟩
      rw [hne] at hr5 hr5' hn5 ⊢
      have HRV : Hid (Below w.heap.size w V3 ∧ RBt V3 (.slice la nl lc) (.slice ea ne ec) { R with D := R.D ++ [⟨3, x, u, ⟨#[]⟩⟩] } ∧ Blk V3 (b + 1) 30 [.slice none 0 0, .slice none 0 0] ∧ New w (.slice la nl lc) (.slice la nl lc) ∧ New w (.slice da nd dc) (.slice ea ne ec)) := ⟨below_tr HV2.out.1 hb5, hr5', HV2.out.2.2.2.below hb5 HV2.out.2.2.2.lt, .inl rfl, .inr fun g hg => Nat.le_trans HV2.out.1.size (hn5 g hg)⟩
      clear HCW hr5 hr5' hb5 hn5 hne
      clear c0V2 c1V2
      go_wp2_with (with_reducible change wpList _ _ _ ({ dst := none, op := Op.store 30 _ _, type := _, pos := _, after := _, guard := _ } :: _) _ _; refine Hid.out ?_)
      show wpList _ _ _ _ _ _
      refine wpList_store_blk rfl 30 (.tmp 6) (.tmp 26) rfl (b + 1) 0 30 [.slice none 0 0, .slice none 0 0] [.slice la nl lc, .slice ea ne ec] rfl rfl HRV.out.2.2.1 (by simp) size30 (two HRV.out.2.1) ?_
      intro Ve hbe hge
      have HE : Hid (Blk Ve (b + 1) 30 [.slice la nl lc, .slice ea ne ec] ∧ RBt Ve (.slice la nl lc) (.slice ea ne ec) { R with D := R.D ++ [⟨3, x, u, ⟨#[]⟩⟩] } ∧ Below w.heap.size w Ve ∧ New w (.slice la nl lc) (.slice la nl lc) ∧ New w (.slice da nd dc) (.slice ea ne ec)) := by
        have hn := HN.out.2.2
        have hbw : Below w.heap.size w Ve := HRV.out.1.grown hge.out HRV.out.1.size (fun j hj => by cases hj; omega)
        exact ⟨by simpa using hbe.out, rb_other HRV.out.2.1 HRV.out.2.2.1 hge.out, hbw, HRV.out.2.2.2⟩
      clear hbe hge
      go_wp2_with fail
      refine rret30u rfl rfl rfl rfl HE.out.1 ?_
      exact ⟨_, _, by rw [HF.out]; rfl, by rw [HF.out]; exact HE.out.2⟩
  · have HF : Hid (q = (R, y)) := by show _ = _; rw [← HQ.out]; unfold rUnvote; rw [HY.out, if_pos h0]
    have e0 : (y != 0) = true := by simpa using h0
    clear h0
    go_wp2_with (with_reducible change wpList _ _ _ ({ dst := some 14, op := _, type := _, pos := _, after := _, guard := _ } :: _) _ _; refine Hid.out ?_)
    show wpList _ _ _ _ _ _
    refine wpList_load_row rfl 30 (.tmp 3) rfl b rfl 30 #[.slice la nl lc, .slice da nd dc] (0, 0) _ HV.out.2.1 Try.underlying30 rfl size30 ?_
    simp only [Act.put, List.setIfInBounds_toArray, List.set_cons_zero, List.set_cons_succ]
    have HRV : Hid (Below w.heap.size w V ∧ RBt V (.slice la nl lc) (.slice da nd dc) R ∧ Blk V (b + 1) 30 [.slice none 0 0, .slice none 0 0] ∧ New w (.slice la nl lc) (.slice la nl lc) ∧ New w (.slice da nd dc) (.slice da nd dc)) := ⟨HV.out.1, HV.out.2.2.1, HV.out.2.2.2, .inl rfl, .inl rfl⟩
    go_wp2_with (with_reducible change wpList _ _ _ ({ dst := none, op := Op.store 30 _ _, type := _, pos := _, after := _, guard := _ } :: _) _ _; refine Hid.out ?_)
    show wpList _ _ _ _ _ _
    refine wpList_store_blk rfl 30 (.tmp 6) (.tmp 14) rfl (b + 1) 0 30 [.slice none 0 0, .slice none 0 0] [.slice la nl lc, .slice da nd dc] rfl rfl HRV.out.2.2.1 (by simp) size30 (two HRV.out.2.1) ?_
    intro Ve hbe hge
    have HE : Hid (Blk Ve (b + 1) 30 [.slice la nl lc, .slice da nd dc] ∧ RBt Ve (.slice la nl lc) (.slice da nd dc) R ∧ Below w.heap.size w Ve ∧ New w (.slice la nl lc) (.slice la nl lc) ∧ New w (.slice da nd dc) (.slice da nd dc)) := by
      have hn := HN.out.2.2
      have hbw : Below w.heap.size w Ve := HRV.out.1.grown hge.out HRV.out.1.size (fun j hj => by cases hj; omega)
      exact ⟨by simpa using hbe.out, rb_other HRV.out.2.1 HRV.out.2.2.1 hge.out, hbw, HRV.out.2.2.2⟩
    clear hbe hge
    go_wp2_with fail
    refine rret30u rfl rfl rfl rfl HE.out.1 ?_
    exact ⟨_, _, by rw [HF.out]; rfl, by rw [HF.out]; exact HE.out.2⟩
set_option maxRecDepth 100000 in
set_option maxHeartbeats 4000000 in
theorem rvote_is {w : World} {lv dv : Value} {R : Rb} (h : RBt w lv dv R) (x : Int) (u : BA) (yes : Bool) (hD : R.D.length + 1 ≤ 1000) : Calls Try.prog 32 #[.agg #[lv, dv], iv x, .string u, .bool yes] w (Ro w lv dv (rVote R x u yes)) := by
  obtain ⟨nl, hnl⟩ : ∃ m, R.L.length = m := ⟨_, rfl⟩
  obtain ⟨nd, hnd⟩ : ∃ m, R.D.length = m := ⟨_, rfl⟩
  obtain ⟨la, lc, rfl, _⟩ := h.l
  obtain ⟨da, dc, rfl, _⟩ := h.d
  rw [hnl, hnd] at h ⊢
  obtain ⟨b, hb⟩ : ∃ b, w.heap.size = b := ⟨_, rfl⟩
  have hz30 := zero30
  obtain ⟨A, hA⟩ : ∃ A, (w.alloc (.cells #[.slice la nl lc, .slice da nd dc] 30)).alloc (.cells #[.slice none 0 0, .slice none 0 0] 30) = A := ⟨_, rfl⟩
  have hB : Below w.heap.size w A := by rw [← hA]; exact ((Below.refl _ w).alloc (Nat.le_refl _) _).alloc (by simp) _
  have h2 : Blk A b 30 [.slice la nl lc, .slice da nd dc] := by rw [← hA, ← hb]; exact (Blk.new w _ _).alloc _
  have h4 : Blk A (b + 1) 30 [.slice none 0 0, .slice none 0 0] := by
    rw [← hA, ← hb]
    have := Blk.new (w.alloc (.cells #[.slice la nl lc, .slice da nd dc] 30)) #[.slice none 0 0, .slice none 0 0] 30
    rwa [World.size_alloc] at this
  have HA0 : Hid (RBt w (.slice la nl lc) (.slice da nd dc) R) := h
  have HA : Hid (Below w.heap.size w A ∧ Blk A b 30 [.slice la nl lc, .slice da nd dc] ∧ RBt A (.slice la nl lc) (.slice da nd dc) R ∧ Blk A (b + 1) 30 [.slice none 0 0, .slice none 0 0]) := ⟨hB, h2, h.below hB, h4⟩
  have HN : Hid (R.L.length = nl ∧ R.D.length = nd ∧ w.heap.size = b) := ⟨hnl, hnd, hb⟩
  have ql : (nl : Int) ≤ 1000 := by have := h.nl; omega
  have qd : (nd : Int) ≤ 1000 := by have := h.nd; omega
  have HND : Hid (R.D.length + 1 ≤ 1000) := hD
  obtain ⟨q, hq⟩ : ∃ q, rVote R x u yes = q := ⟨_, rfl⟩
  have HQ : Hid (rVote R x u yes = q) := hq
  rw [hq]
  obtain ⟨y, hy⟩ : ∃ y, liveR R x = y := ⟨_, rfl⟩
  have HY : Hid (liveR R x = y) := hy
  clear hq hy hD
  clear h hnl hnd hB h2 h4
  go_enter Try.func32, Try.ntmps32
  have HCV := rlive_is HA.out.2.2.1 x
  rw [HY.out] at HCV
  have c0A : A.cell? ⟨b, 0, none⟩ = some (.slice la nl lc) := HA.out.2.1.cell rfl
  have c1A : A.cell? ⟨b, 1, none⟩ = some (.slice da nd dc) := HA.out.2.1.cell rfl
  go_wp2_with (with_reducible change wpList _ _ _ ({ dst := some 12, op := _, type := _, pos := _, after := _, guard := _ } :: _) _ _; refine Hid.out ?_)
  show wpList _ _ _ _ _ _
  refine wpList_load_row rfl 30 (.tmp 4) rfl b rfl 30 #[.slice la nl lc, .slice da nd dc] (0, 0) _ HA.out.2.1 Try.underlying30 rfl size30 ?_
  simp only [Act.put, List.setIfInBounds_toArray, List.set_cons_zero, List.set_cons_succ]
  go_wp2_with fail
  refine HCV.mono ?_
  rintro e V ⟨rfl, hbV⟩
  have HV : Hid (Below w.heap.size w V ∧ Blk V b 30 [.slice la nl lc, .slice da nd dc] ∧ RBt V (.slice la nl lc) (.slice da nd dc) R ∧ Blk V (b + 1) 30 [.slice none 0 0, .slice none 0 0]) := ⟨below_tr HA.out.1 hbV, HA.out.2.1.below hbV HA.out.2.1.lt, HA.out.2.2.1.below hbV, HA.out.2.2.2.below hbV HA.out.2.2.2.lt⟩
  clear hb hA hbV
  clear c0A c1A
  clear HCV
  by_cases h0 : y = 0
  · subst h0
    obtain ⟨i, hx, hil⟩ := there_nat (live_zero HY.out).1
    subst hx
    have q2 : i < nl := by rw [← HN.out.1]; exact hil
    obtain ⟨g, m, ha, hg, hm, hl, hra⟩ := HV.out.2.2.1.made q2
    subst ha
    obtain ⟨k0, _, _⟩ := Mk.cell hra
    have q1 : (i : Int) < (nl : Int) := by omega
    have c0V : V.cell? ⟨b, 0, none⟩ = some (.slice (some ⟨g, 0, none⟩) nl lc) := HV.out.2.1.cell rfl
    by_cases hu : m.au = u
    · have HF : Hid (q = (R, 200)) := by
        show _ = _
        rw [← HQ.out]; unfold rVote; rw [HY.out, if_neg (by simp), show ((i : Int) + 1 - 1).toNat = i by omega, hm, if_pos (by simpa using hu)]
      have e2 : (m.au.toList == u.toList) = true := by rw [eq_iff]; simpa using hu
      clear hu hm hra hil
      go_wp2_with (with_reducible change wpList _ _ _ ({ dst := some 28, op := _, type := _, pos := _, after := _, guard := _ } :: _) _ _; refine Hid.out ?_)
      show wpList _ _ _ _ _ _
      refine wpList_load_row rfl 30 (.tmp 4) rfl b rfl 30 #[.slice (some ⟨g, 0, none⟩) nl lc, .slice da nd dc] (0, 0) _ HV.out.2.1 Try.underlying30 rfl size30 ?_
      simp only [Act.put, List.setIfInBounds_toArray, List.set_cons_zero, List.set_cons_succ]
      have HRV : Hid (Below w.heap.size w V ∧ RBt V (.slice (some ⟨g, 0, none⟩) nl lc) (.slice da nd dc) R ∧ Blk V (b + 1) 30 [.slice none 0 0, .slice none 0 0] ∧ New w (.slice (some ⟨g, 0, none⟩) nl lc) (.slice (some ⟨g, 0, none⟩) nl lc) ∧ New w (.slice da nd dc) (.slice da nd dc)) := ⟨HV.out.1, HV.out.2.2.1, HV.out.2.2.2, .inl rfl, .inl rfl⟩
      go_wp2_with (with_reducible change wpList _ _ _ ({ dst := none, op := Op.store 30 _ _, type := _, pos := _, after := _, guard := _ } :: _) _ _; refine Hid.out ?_)
      show wpList _ _ _ _ _ _
      refine wpList_store_blk rfl 30 (.tmp 8) (.tmp 28) rfl (b + 1) 0 30 [.slice none 0 0, .slice none 0 0] [.slice (some ⟨g, 0, none⟩) nl lc, .slice da nd dc] rfl rfl HRV.out.2.2.1 (by simp) size30 (two HRV.out.2.1) ?_
      intro Ve hbe hge
      have HE : Hid (Blk Ve (b + 1) 30 [.slice (some ⟨g, 0, none⟩) nl lc, .slice da nd dc] ∧ RBt Ve (.slice (some ⟨g, 0, none⟩) nl lc) (.slice da nd dc) R ∧ Below w.heap.size w Ve ∧ New w (.slice (some ⟨g, 0, none⟩) nl lc) (.slice (some ⟨g, 0, none⟩) nl lc) ∧ New w (.slice da nd dc) (.slice da nd dc)) := by
        have hn := HN.out.2.2
        have hbw : Below w.heap.size w Ve := HRV.out.1.grown hge.out HRV.out.1.size (fun j hj => by cases hj; omega)
        exact ⟨by simpa using hbe.out, rb_other HRV.out.2.1 HRV.out.2.2.1 hge.out, hbw, HRV.out.2.2.2⟩
      clear hbe hge
      go_wp2_with fail
      refine rret30u rfl rfl rfl rfl HE.out.1 ?_
      exact ⟨_, _, by rw [HF.out]; rfl, by rw [HF.out]; exact HE.out.2⟩
    · have HM : Hid (R.L[i]? = some m ∧ ¬ m.au = u) := ⟨hm, hu⟩
      have e2 : (m.au.toList == u.toList) = false := by rw [eq_iff]; simpa using hu
      clear hu hm hra hil
      cases yes
      · have HF : Hid (q = ({ R with D := R.D ++ [⟨2, ((i : Int) + 1), u, ⟨#[]⟩⟩] }, 0)) := by
          show _ = _
          rw [← HQ.out]; unfold rVote; rw [HY.out, if_neg (by simp), show ((i : Int) + 1 - 1).toNat = i by omega, HM.out.1, if_neg (by simpa using HM.out.2)]
          rfl
        have HK : Hid ((1 : Int) ≤ 2 ∧ (2 : Int) ≤ 5) := by constructor <;> decide
        have HCW : Calls Try.prog 53 #[.agg #[.slice (some ⟨g, 0, none⟩) nl lc, .slice da nd dc], .agg #[iv 2, iv ((i : Int) + 1), .string u, .string ⟨#[]⟩]] V fun e w' => ∃ dv', e = .returned (.agg #[.slice (some ⟨g, 0, none⟩) nl lc, dv']) ∧ RBt w' (.slice (some ⟨g, 0, none⟩) nl lc) dv' { R with D := R.D ++ [⟨2, ((i : Int) + 1), u, ⟨#[]⟩⟩] } ∧ Below V.heap.size V w' ∧ ∀ g, dv'.ownBlock = some g → V.heap.size ≤ g := rwith_is HV.out.2.2.1 ⟨2, ((i : Int) + 1), u, ⟨#[]⟩⟩ HK.out (by have := HND.out; omega)
        have c0V : V.cell? ⟨b, 0, none⟩ = some (.slice (some ⟨g, 0, none⟩) nl lc) := HV.out.2.1.cell rfl
        have c1V : V.cell? ⟨b, 1, none⟩ = some (.slice da nd dc) := HV.out.2.1.cell rfl
        go_wp2_with (with_reducible change wpList _ _ _ ({ dst := some 30, op := _, type := _, pos := _, after := _, guard := _ } :: _) _ _; refine Hid.out ?_)
        show wpList _ _ _ _ _ _
        refine wpList_load_row rfl 30 (.tmp 4) rfl b rfl 30 #[.slice (some ⟨g, 0, none⟩) nl lc, .slice da nd dc] (0, 0) _ HV.out.2.1 Try.underlying30 rfl size30 ?_
        simp only [Act.put, List.setIfInBounds_toArray, List.set_cons_zero, List.set_cons_succ]
        go_wp2_with fail
        refine HCW.mono ?_
        rintro e V3 ⟨dv', rfl, hr5, hb5, hn5⟩
        have hr5' := hr5
        obtain ⟨ea, ec, hv5, _⟩ := hr5.d
        subst hv5
        obtain ⟨ne, hne⟩ : ∃ n, ({ R with D := R.D ++ [⟨2, ((i : Int) + 1), u, ⟨#[]⟩⟩] } : Rb).D.length = n := ⟨_, rfl⟩
        rw [hne] at hr5 hr5' hn5 ⊢
        have HRV : Hid (Below w.heap.size w V3 ∧ RBt V3 (.slice (some ⟨g, 0, none⟩) nl lc) (.slice ea ne ec) { R with D := R.D ++ [⟨2, ((i : Int) + 1), u, ⟨#[]⟩⟩] } ∧ Blk V3 (b + 1) 30 [.slice none 0 0, .slice none 0 0] ∧ New w (.slice (some ⟨g, 0, none⟩) nl lc) (.slice (some ⟨g, 0, none⟩) nl lc) ∧ New w (.slice da nd dc) (.slice ea ne ec)) := ⟨below_tr HV.out.1 hb5, hr5', HV.out.2.2.2.below hb5 HV.out.2.2.2.lt, .inl rfl, .inr fun g hg => Nat.le_trans HV.out.1.size (hn5 g hg)⟩
        clear HCW hr5 hr5' hb5 hn5 hne
        clear c0V c1V
        go_wp2_with (with_reducible change wpList _ _ _ ({ dst := none, op := Op.store 30 _ _, type := _, pos := _, after := _, guard := _ } :: _) _ _; refine Hid.out ?_)
        show wpList _ _ _ _ _ _
        refine wpList_store_blk rfl 30 (.tmp 8) (.tmp 35) rfl (b + 1) 0 30 [.slice none 0 0, .slice none 0 0] [.slice (some ⟨g, 0, none⟩) nl lc, .slice ea ne ec] rfl rfl HRV.out.2.2.1 (by simp) size30 (two HRV.out.2.1) ?_
        intro Ve hbe hge
        have HE : Hid (Blk Ve (b + 1) 30 [.slice (some ⟨g, 0, none⟩) nl lc, .slice ea ne ec] ∧ RBt Ve (.slice (some ⟨g, 0, none⟩) nl lc) (.slice ea ne ec) { R with D := R.D ++ [⟨2, ((i : Int) + 1), u, ⟨#[]⟩⟩] } ∧ Below w.heap.size w Ve ∧ New w (.slice (some ⟨g, 0, none⟩) nl lc) (.slice (some ⟨g, 0, none⟩) nl lc) ∧ New w (.slice da nd dc) (.slice ea ne ec)) := by
          have hn := HN.out.2.2
          have hbw : Below w.heap.size w Ve := HRV.out.1.grown hge.out HRV.out.1.size (fun j hj => by cases hj; omega)
          exact ⟨by simpa using hbe.out, rb_other HRV.out.2.1 HRV.out.2.2.1 hge.out, hbw, HRV.out.2.2.2⟩
        clear hbe hge
        go_wp2_with fail
        refine rret30u rfl rfl rfl rfl HE.out.1 ?_
        exact ⟨_, _, by rw [HF.out]; rfl, by rw [HF.out]; exact HE.out.2⟩
      · have HF : Hid (q = ({ R with D := R.D ++ [⟨1, ((i : Int) + 1), u, ⟨#[]⟩⟩] }, 0)) := by
          show _ = _
          rw [← HQ.out]; unfold rVote; rw [HY.out, if_neg (by simp), show ((i : Int) + 1 - 1).toNat = i by omega, HM.out.1, if_neg (by simpa using HM.out.2)]
          rfl
        have HK : Hid ((1 : Int) ≤ 1 ∧ (1 : Int) ≤ 5) := by constructor <;> decide
        have HCW : Calls Try.prog 53 #[.agg #[.slice (some ⟨g, 0, none⟩) nl lc, .slice da nd dc], .agg #[iv 1, iv ((i : Int) + 1), .string u, .string ⟨#[]⟩]] V fun e w' => ∃ dv', e = .returned (.agg #[.slice (some ⟨g, 0, none⟩) nl lc, dv']) ∧ RBt w' (.slice (some ⟨g, 0, none⟩) nl lc) dv' { R with D := R.D ++ [⟨1, ((i : Int) + 1), u, ⟨#[]⟩⟩] } ∧ Below V.heap.size V w' ∧ ∀ g, dv'.ownBlock = some g → V.heap.size ≤ g := rwith_is HV.out.2.2.1 ⟨1, ((i : Int) + 1), u, ⟨#[]⟩⟩ HK.out (by have := HND.out; omega)
        have c0V : V.cell? ⟨b, 0, none⟩ = some (.slice (some ⟨g, 0, none⟩) nl lc) := HV.out.2.1.cell rfl
        have c1V : V.cell? ⟨b, 1, none⟩ = some (.slice da nd dc) := HV.out.2.1.cell rfl
        go_wp2_with (with_reducible change wpList _ _ _ ({ dst := some 30, op := _, type := _, pos := _, after := _, guard := _ } :: _) _ _; refine Hid.out ?_)
        show wpList _ _ _ _ _ _
        refine wpList_load_row rfl 30 (.tmp 4) rfl b rfl 30 #[.slice (some ⟨g, 0, none⟩) nl lc, .slice da nd dc] (0, 0) _ HV.out.2.1 Try.underlying30 rfl size30 ?_
        simp only [Act.put, List.setIfInBounds_toArray, List.set_cons_zero, List.set_cons_succ]
        go_wp2_with fail
        refine HCW.mono ?_
        rintro e V3 ⟨dv', rfl, hr5, hb5, hn5⟩
        have hr5' := hr5
        obtain ⟨ea, ec, hv5, _⟩ := hr5.d
        subst hv5
        obtain ⟨ne, hne⟩ : ∃ n, ({ R with D := R.D ++ [⟨1, ((i : Int) + 1), u, ⟨#[]⟩⟩] } : Rb).D.length = n := ⟨_, rfl⟩
        rw [hne] at hr5 hr5' hn5 ⊢
        have HRV : Hid (Below w.heap.size w V3 ∧ RBt V3 (.slice (some ⟨g, 0, none⟩) nl lc) (.slice ea ne ec) { R with D := R.D ++ [⟨1, ((i : Int) + 1), u, ⟨#[]⟩⟩] } ∧ Blk V3 (b + 1) 30 [.slice none 0 0, .slice none 0 0] ∧ New w (.slice (some ⟨g, 0, none⟩) nl lc) (.slice (some ⟨g, 0, none⟩) nl lc) ∧ New w (.slice da nd dc) (.slice ea ne ec)) := ⟨below_tr HV.out.1 hb5, hr5', HV.out.2.2.2.below hb5 HV.out.2.2.2.lt, .inl rfl, .inr fun g hg => Nat.le_trans HV.out.1.size (hn5 g hg)⟩
        clear HCW hr5 hr5' hb5 hn5 hne
        clear c0V c1V
        go_wp2_with (with_reducible change wpList _ _ _ ({ dst := none, op := Op.store 30 _ _, type := _, pos := _, after := _, guard := _ } :: _) _ _; refine Hid.out ?_)
        show wpList _ _ _ _ _ _
        refine wpList_store_blk rfl 30 (.tmp 8) (.tmp 35) rfl (b + 1) 0 30 [.slice none 0 0, .slice none 0 0] [.slice (some ⟨g, 0, none⟩) nl lc, .slice ea ne ec] rfl rfl HRV.out.2.2.1 (by simp) size30 (two HRV.out.2.1) ?_
        intro Ve hbe hge
        have HE : Hid (Blk Ve (b + 1) 30 [.slice (some ⟨g, 0, none⟩) nl lc, .slice ea ne ec] ∧ RBt Ve (.slice (some ⟨g, 0, none⟩) nl lc) (.slice ea ne ec) { R with D := R.D ++ [⟨1, ((i : Int) + 1), u, ⟨#[]⟩⟩] } ∧ Below w.heap.size w Ve ∧ New w (.slice (some ⟨g, 0, none⟩) nl lc) (.slice (some ⟨g, 0, none⟩) nl lc) ∧ New w (.slice da nd dc) (.slice ea ne ec)) := by
          have hn := HN.out.2.2
          have hbw : Below w.heap.size w Ve := HRV.out.1.grown hge.out HRV.out.1.size (fun j hj => by cases hj; omega)
          exact ⟨by simpa using hbe.out, rb_other HRV.out.2.1 HRV.out.2.2.1 hge.out, hbw, HRV.out.2.2.2⟩
        clear hbe hge
        go_wp2_with fail
        refine rret30u rfl rfl rfl rfl HE.out.1 ?_
        exact ⟨_, _, by rw [HF.out]; rfl, by rw [HF.out]; exact HE.out.2⟩
  · have HF : Hid (q = (R, y)) := by show _ = _; rw [← HQ.out]; unfold rVote; rw [HY.out, if_pos h0]
    have e0 : (y != 0) = true := by simpa using h0
    clear h0
    go_wp2_with (with_reducible change wpList _ _ _ ({ dst := some 17, op := _, type := _, pos := _, after := _, guard := _ } :: _) _ _; refine Hid.out ?_)
    show wpList _ _ _ _ _ _
    refine wpList_load_row rfl 30 (.tmp 4) rfl b rfl 30 #[.slice la nl lc, .slice da nd dc] (0, 0) _ HV.out.2.1 Try.underlying30 rfl size30 ?_
    simp only [Act.put, List.setIfInBounds_toArray, List.set_cons_zero, List.set_cons_succ]
    have HRV : Hid (Below w.heap.size w V ∧ RBt V (.slice la nl lc) (.slice da nd dc) R ∧ Blk V (b + 1) 30 [.slice none 0 0, .slice none 0 0] ∧ New w (.slice la nl lc) (.slice la nl lc) ∧ New w (.slice da nd dc) (.slice da nd dc)) := ⟨HV.out.1, HV.out.2.2.1, HV.out.2.2.2, .inl rfl, .inl rfl⟩
    go_wp2_with (with_reducible change wpList _ _ _ ({ dst := none, op := Op.store 30 _ _, type := _, pos := _, after := _, guard := _ } :: _) _ _; refine Hid.out ?_)
    show wpList _ _ _ _ _ _
    refine wpList_store_blk rfl 30 (.tmp 8) (.tmp 17) rfl (b + 1) 0 30 [.slice none 0 0, .slice none 0 0] [.slice la nl lc, .slice da nd dc] rfl rfl HRV.out.2.2.1 (by simp) size30 (two HRV.out.2.1) ?_
    intro Ve hbe hge
    have HE : Hid (Blk Ve (b + 1) 30 [.slice la nl lc, .slice da nd dc] ∧ RBt Ve (.slice la nl lc) (.slice da nd dc) R ∧ Below w.heap.size w Ve ∧ New w (.slice la nl lc) (.slice la nl lc) ∧ New w (.slice da nd dc) (.slice da nd dc)) := by
      have hn := HN.out.2.2
      have hbw : Below w.heap.size w Ve := HRV.out.1.grown hge.out HRV.out.1.size (fun j hj => by cases hj; omega)
      exact ⟨by simpa using hbe.out, rb_other HRV.out.2.1 HRV.out.2.2.1 hge.out, hbw, HRV.out.2.2.2⟩
    clear hbe hge
    go_wp2_with fail
    refine rret30u rfl rfl rfl rfl HE.out.1 ?_
    exact ⟨_, _, by rw [HF.out]; rfl, by rw [HF.out]; exact HE.out.2⟩
end Go.Proofs.Ytaecigpjcbjcbaa.Oct

/- Layer 20 (review): the document's board: Proposal: With and where it lies; the drawn region. -/
namespace Go.Proofs.Ytaecigpjcbjcbaa.Oct
open Go.RowKit
set_option linter.unusedSimpArgs false
set_option linter.unusedVariables false

set_option maxHeartbeats 4000000 in
theorem with_new (s : BA) (l : List BA) (v : Value) (w : World) (h : TS w v l) (hn : l.length ≤ 1000) :
    Calls Try.prog 26 #[v, .string s] w fun e w' => ∃ v', e = .returned v' ∧ TS w' v' (withB s l) ∧ Below w.heap.size w w' ∧ New w v v' := by
  have hbs0 := run_bs40_0
  have hbs1 := run_bs40 s
  rcases h with ⟨rfl, rfl⟩ | ⟨g, c, rfl, h2, h3, h4, h5⟩
  · obtain ⟨l, hl⟩ : ∃ l : List BA, l = [] := ⟨_, rfl⟩
    have HWB : Hid (withB s l = List.take 0 l ++ ([s] ++ List.drop 0 l)) := by rw [hl]; rfl
    have HSZ : Hid (0 ≤ 1000) := Nat.zero_le _
    have HSA : Hid (Strs w none 0 (List.take 0 l) ∧ Strs w none 0 (List.drop 0 l)) := by rw [hl]; exact ⟨⟨rfl, fun h => absurd h (by decide)⟩, ⟨rfl, fun h => absurd h (by decide)⟩⟩
    have HWL : Hid (withB s l = withB s []) := by rw [hl]; rfl
    rw [← HWL.out]
    go_enter Try.func26, Try.ntmps26
    go_wp2
    go_loopw [5] (fun u wr => u = iv 0 ∧ w = wr) (fun _ _ => 0)
    case atStart => exact ⟨rfl, rfl⟩
    case round =>
      obtain ⟨rfl, rfl⟩ := hrel
      have HB0 : Hid (w.heap.size ≤ w.heap.size) := Nat.le_refl _
      obtain ⟨W0, hW0⟩ : ∃ W0, w.alloc (.cells #[] 9) = W0 := ⟨_, rfl⟩
      have HW0 : Hid (Below w.heap.size w W0 ∧ W0.ownsRow w.heap.size 9 1 (.slice (some ⟨w.heap.size, 0, none⟩) 0 0) 0 (strC [])) := by rw [← hW0]; exact ⟨below_al _ _, empty_row w 9 1⟩
      go_wp2_with (with_reducible change wpList _ _ _ ({ dst := some 38, op := _, type := _, pos := _, after := _, guard := _ } :: _) _ _; refine Hid.out ?_)
      show wpList _ _ _ _ _ _
      refine wpList_append_mine rfl (.tmp 34) (.tmp 37) rfl W0 w.heap.size _ 0 [] HW0.out.2 _ 0 _ (l.take 0) rfl rfl (HSA.out.1.below HW0.out.1) HW0.out.1.size (by have := HSZ.out; omega) ?_
      intro v38 W1 ho1 hb1
      rw [List.nil_append, Nat.zero_add] at ho1
      obtain ⟨W2, hW2⟩ : ∃ W2, W1.alloc (.cells #[.string s] 9) = W2 := ⟨_, rfl⟩
      have HW2 : Hid (W2.ownsRow w.heap.size 9 1 v38 0 (strC (l.take 0)) ∧ Below w.heap.size w W2 ∧ Strs W2 (some ⟨W1.heap.size, 0, none⟩) 1 [s]) := by
        rw [← hW2]
        exact ⟨ownsRow_below ho1.out (below_al _ _), below_tr (HW0.out.1.trans hb1.out) (below_al _ _), strs_new _ _⟩
      clear ho1 hb1 hW0
      go_wp2_with (with_reducible change wpList _ _ _ ({ dst := some 42, op := _, type := _, pos := _, after := _, guard := _ } :: _) _ _; refine Hid.out ?_)
      show wpList _ _ _ _ _ _
      refine wpList_append_mine rfl (.tmp 39) (.tmp 41) rfl W2 w.heap.size v38 0 (l.take 0) HW2.out.1 _ 1 1 [s] rfl rfl HW2.out.2.2 HW2.out.2.1.size (by have := HSZ.out; omega) ?_
      intro v42 W3 ho3 hb3
      have HW3 : Hid (W3.ownsRow w.heap.size 9 1 v42 (0 + 1) (strC (l.take 0 ++ [s])) ∧ Below w.heap.size w W3) := ⟨ho3.out, HW2.out.2.1.trans hb3.out⟩
      clear ho3 hb3 hW2
      go_wp2_with (with_reducible change wpList _ _ _ ({ dst := some 47, op := _, type := _, pos := _, after := _, guard := _ } :: _) _ _; refine Hid.out ?_)
      all_goals
        show wpList _ _ _ _ _ _
        refine wpList_append_mine rfl (.tmp 43) (.tmp 46) rfl W3 w.heap.size v42 (0 + 1) (l.take 0 ++ [s]) HW3.out.1 _ 0 _ (l.drop 0) rfl rfl (by first | exact HSA.out.2.below HW3.out.2 | exact ⟨by rw [List.length_drop, HL.out.1], fun hp => by have := HSZ.out; omega⟩) HW3.out.2.size (by have := HSZ.out; omega) ?_
        intro v47 W4 ho4 hb4
        have HW4 : Hid (TS W4 v47 (withB s l) ∧ Below w.heap.size w W4 ∧ ∀ g, v47.ownBlock = some g → w.heap.size ≤ g) := by
          refine ⟨?_, HW3.out.2.trans hb4.out, own_new ho4.out⟩
          rw [HWB.out]
          exact TS.own (by have := ho4.out; rw [List.append_assoc] at this; exact this)
        clear ho4 hb4
        go_wp2
        go_ret
        exact ⟨_, rfl, HW4.out.1, HW4.out.2.1, .inr HW4.out.2.2⟩
  · obtain ⟨n, hnn⟩ : ∃ n, l.length = n := ⟨_, rfl⟩
    have HL : Hid (l.length = n ∧ g < w.heap.size ∧ (∀ i x, l[i]? = some x → w.cell? ⟨g, i, none⟩ = some (.string x)) ∧ n ≤ c ∧ c ≤ maxLen ∧ n ≤ 1000) := ⟨hnn, h4, h5, by omega, h3, by omega⟩
    have qn : (n : Int) ≤ 1000 := by omega
    have qc : (n : Int) ≤ (c : Int) := by omega
    have qm : (c : Int) ≤ 9223372036854775807 := by unfold maxLen at h3; omega
    rw [hnn]
    clear h2 h3 h4 h5 hn hnn
    go_enter Try.func26, Try.ntmps26
    go_wp2
    go_loopw [5] (fun u wr => ∃ i : Nat, u = iv i ∧ Hid (i ≤ n ∧ w = wr ∧ ∀ x ∈ l.take i, bk x < bk s)) (fun u _ => n - (intOf u).toNat)
    case atStart => exact ⟨0, rfl, Nat.zero_le _, rfl, by simp⟩
    case round =>
      obtain ⟨i, rfl, HI⟩ := hrel
      obtain ⟨x1, rfl, x2⟩ := HI.out
      have HSZ : Hid (i ≤ n ∧ n ≤ 1000 ∧ n ≤ c) := ⟨x1, HL.out.2.2.2.2.2, HL.out.2.2.2.1⟩
      have HSA : Hid (Strs w (some ⟨g, 0, none⟩) i (l.take i) ∧ Strs w (some ⟨g, i, none⟩) (n - i) (l.drop i)) := by
        refine ⟨⟨by rw [List.length_take, HL.out.1]; omega, fun _ => ⟨g, 0, rfl, HL.out.2.1, fun j y hj => ?_⟩⟩, ⟨by rw [List.length_drop, HL.out.1], fun _ => ⟨g, i, rfl, HL.out.2.1, fun j y hj => ?_⟩⟩⟩
        · rw [Nat.zero_add]
          rw [List.getElem?_take] at hj
          split at hj
          · exact HL.out.2.2.1 j y hj
          · cases hj
        · rw [List.getElem?_drop] at hj
          exact HL.out.2.2.1 _ y hj
      by_cases hi : i = n
      · have q1 : (n : Int) ≤ (i : Int) := by omega
        have HWB : Hid (withB s l = l.take i ++ ([s] ++ l.drop i)) := by
          show _ = _
          have hnone : l[i]? = none := List.getElem?_eq_none (by rw [HL.out.1]; omega)
          rw [withB_at s l i (by rw [HL.out.1]; omega) x2 (fun x hx => by rw [hnone] at hx; cases hx), hnone]
          simp
        have q3 : (i : Int) ≤ (c : Int) := by omega
        have q6 : (i : Int) ≤ (n : Int) := by omega
        clear x2 HI hi
        have HB0 : Hid (w.heap.size ≤ w.heap.size) := Nat.le_refl _
        obtain ⟨W0, hW0⟩ : ∃ W0, w.alloc (.cells #[] 9) = W0 := ⟨_, rfl⟩
        have HW0 : Hid (Below w.heap.size w W0 ∧ W0.ownsRow w.heap.size 9 1 (.slice (some ⟨w.heap.size, 0, none⟩) 0 0) 0 (strC [])) := by rw [← hW0]; exact ⟨below_al _ _, empty_row w 9 1⟩
        go_wp2_with (with_reducible change wpList _ _ _ ({ dst := some 38, op := _, type := _, pos := _, after := _, guard := _ } :: _) _ _; refine Hid.out ?_)
        show wpList _ _ _ _ _ _
        refine wpList_append_mine rfl (.tmp 34) (.tmp 37) rfl W0 w.heap.size _ 0 [] HW0.out.2 _ i _ (l.take i) rfl rfl (HSA.out.1.below HW0.out.1) HW0.out.1.size (by have := HSZ.out; omega) ?_
        intro v38 W1 ho1 hb1
        rw [List.nil_append, Nat.zero_add] at ho1
        obtain ⟨W2, hW2⟩ : ∃ W2, W1.alloc (.cells #[.string s] 9) = W2 := ⟨_, rfl⟩
        have HW2 : Hid (W2.ownsRow w.heap.size 9 1 v38 i (strC (l.take i)) ∧ Below w.heap.size w W2 ∧ Strs W2 (some ⟨W1.heap.size, 0, none⟩) 1 [s]) := by
          rw [← hW2]
          exact ⟨ownsRow_below ho1.out (below_al _ _), below_tr (HW0.out.1.trans hb1.out) (below_al _ _), strs_new _ _⟩
        clear ho1 hb1 hW0
        go_wp2_with (with_reducible change wpList _ _ _ ({ dst := some 42, op := _, type := _, pos := _, after := _, guard := _ } :: _) _ _; refine Hid.out ?_)
        show wpList _ _ _ _ _ _
        refine wpList_append_mine rfl (.tmp 39) (.tmp 41) rfl W2 w.heap.size v38 i (l.take i) HW2.out.1 _ 1 1 [s] rfl rfl HW2.out.2.2 HW2.out.2.1.size (by have := HSZ.out; omega) ?_
        intro v42 W3 ho3 hb3
        have HW3 : Hid (W3.ownsRow w.heap.size 9 1 v42 (i + 1) (strC (l.take i ++ [s])) ∧ Below w.heap.size w W3) := ⟨ho3.out, HW2.out.2.1.trans hb3.out⟩
        clear ho3 hb3 hW2
        go_wp2_with (with_reducible change wpList _ _ _ ({ dst := some 47, op := _, type := _, pos := _, after := _, guard := _ } :: _) _ _; refine Hid.out ?_)
        all_goals
          show wpList _ _ _ _ _ _
          refine wpList_append_mine rfl (.tmp 43) (.tmp 46) rfl W3 w.heap.size v42 (i + 1) (l.take i ++ [s]) HW3.out.1 _ (n - i) _ (l.drop i) rfl rfl (by first | exact HSA.out.2.below HW3.out.2 | exact ⟨by rw [List.length_drop, HL.out.1], fun hp => by have := HSZ.out; omega⟩) HW3.out.2.size (by have := HSZ.out; omega) ?_
          intro v47 W4 ho4 hb4
          have HW4 : Hid (TS W4 v47 (withB s l) ∧ Below w.heap.size w W4 ∧ ∀ g, v47.ownBlock = some g → w.heap.size ≤ g) := by
            refine ⟨?_, HW3.out.2.trans hb4.out, own_new ho4.out⟩
            rw [HWB.out]
            exact TS.own (by have := ho4.out; rw [List.append_assoc] at this; exact this)
          clear ho4 hb4
          go_wp2
          go_ret
          exact ⟨_, rfl, HW4.out.1, HW4.out.2.1, .inr HW4.out.2.2⟩
      · have q1 : (i : Int) < (n : Int) := by omega
        obtain ⟨x, hx⟩ : ∃ x, l[i]? = some x := ⟨_, List.getElem?_eq_getElem (by rw [HL.out.1]; omega)⟩
        have c0 := HL.out.2.2.1 i x hx
        have HX : Hid (l[i]? = some x) := hx
        by_cases hlt : bk x < bk s
        · have q4 : Op.bytesLess x.toList s.toList = true := by rw [toList_bk, toList_bk, Go.Proofs.bytesLess_eq]; simpa using hlt
          have HN : Hid (∀ y ∈ l.take (i + 1), bk y < bk s) := by
            intro y hy
            rw [List.take_add_one, HX.out] at hy
            rcases List.mem_append.1 hy with hy | hy
            · exact x2 y hy
            · simp at hy; rw [hy]; exact hlt
          clear hlt hx x2 HI
          go_wp2
          refine ⟨⟨i + 1, by simp, by omega, by first | rfl | trivial, HN.out⟩, ?_⟩
          simp only [intOf]
          omega
        · have q4 : Op.bytesLess x.toList s.toList = false := by rw [toList_bk, toList_bk, Go.Proofs.bytesLess_eq]; simpa using hlt
          by_cases heq : x = s
          · have q5 : (x.toList == s.toList) = true := by rw [eq_iff]; simp [heq]
            have HWB : Hid (withB s l = l) := by
              show _ = _
              rw [withB_at s l i (by rw [HL.out.1]; omega) x2 (fun y hy => by rw [HX.out] at hy; cases hy; exact hlt), HX.out, heq]
              simp
            have HTS : Hid (TS w (.slice (some ⟨g, 0, none⟩) n c) l) := .inr ⟨g, c, by rw [HL.out.1], by rw [HL.out.1]; exact HL.out.2.2.2.1, HL.out.2.2.2.2.1, HL.out.2.1, HL.out.2.2.1⟩
            clear hlt hx x2 HI heq
            go_wp2
            go_ret
            exact ⟨_, rfl, by rw [HWB.out]; exact HTS.out, Below.refl _ _, .inl rfl⟩
          · have q5 : (x.toList == s.toList) = false := by rw [eq_iff]; simp [heq]
            have HWB : Hid (withB s l = l.take i ++ ([s] ++ l.drop i)) := by
              show _ = _
              have hne : ¬ (some x = some s) := fun e => heq (by simpa using e)
              rw [withB_at s l i (by rw [HL.out.1]; omega) x2 (fun y hy => by rw [HX.out] at hy; cases hy; exact hlt), HX.out, if_neg hne]
              simp
            have q3 : (i : Int) ≤ (c : Int) := by omega
            clear hlt hx x2 HI heq
            have HB0 : Hid (w.heap.size ≤ w.heap.size) := Nat.le_refl _
            obtain ⟨W0, hW0⟩ : ∃ W0, w.alloc (.cells #[] 9) = W0 := ⟨_, rfl⟩
            have HW0 : Hid (Below w.heap.size w W0 ∧ W0.ownsRow w.heap.size 9 1 (.slice (some ⟨w.heap.size, 0, none⟩) 0 0) 0 (strC [])) := by rw [← hW0]; exact ⟨below_al _ _, empty_row w 9 1⟩
            go_wp2_with (with_reducible change wpList _ _ _ ({ dst := some 38, op := _, type := _, pos := _, after := _, guard := _ } :: _) _ _; refine Hid.out ?_)
            show wpList _ _ _ _ _ _
            refine wpList_append_mine rfl (.tmp 34) (.tmp 37) rfl W0 w.heap.size _ 0 [] HW0.out.2 _ i _ (l.take i) rfl rfl (HSA.out.1.below HW0.out.1) HW0.out.1.size (by have := HSZ.out; omega) ?_
            intro v38 W1 ho1 hb1
            rw [List.nil_append, Nat.zero_add] at ho1
            obtain ⟨W2, hW2⟩ : ∃ W2, W1.alloc (.cells #[.string s] 9) = W2 := ⟨_, rfl⟩
            have HW2 : Hid (W2.ownsRow w.heap.size 9 1 v38 i (strC (l.take i)) ∧ Below w.heap.size w W2 ∧ Strs W2 (some ⟨W1.heap.size, 0, none⟩) 1 [s]) := by
              rw [← hW2]
              exact ⟨ownsRow_below ho1.out (below_al _ _), below_tr (HW0.out.1.trans hb1.out) (below_al _ _), strs_new _ _⟩
            clear ho1 hb1 hW0
            go_wp2_with (with_reducible change wpList _ _ _ ({ dst := some 42, op := _, type := _, pos := _, after := _, guard := _ } :: _) _ _; refine Hid.out ?_)
            show wpList _ _ _ _ _ _
            refine wpList_append_mine rfl (.tmp 39) (.tmp 41) rfl W2 w.heap.size v38 i (l.take i) HW2.out.1 _ 1 1 [s] rfl rfl HW2.out.2.2 HW2.out.2.1.size (by have := HSZ.out; omega) ?_
            intro v42 W3 ho3 hb3
            have HW3 : Hid (W3.ownsRow w.heap.size 9 1 v42 (i + 1) (strC (l.take i ++ [s])) ∧ Below w.heap.size w W3) := ⟨ho3.out, HW2.out.2.1.trans hb3.out⟩
            clear ho3 hb3 hW2
            go_wp2_with (with_reducible change wpList _ _ _ ({ dst := some 47, op := _, type := _, pos := _, after := _, guard := _ } :: _) _ _; refine Hid.out ?_)
            all_goals
              show wpList _ _ _ _ _ _
              refine wpList_append_mine rfl (.tmp 43) (.tmp 46) rfl W3 w.heap.size v42 (i + 1) (l.take i ++ [s]) HW3.out.1 _ (n - i) _ (l.drop i) rfl rfl (by first | exact HSA.out.2.below HW3.out.2 | exact ⟨by rw [List.length_drop, HL.out.1], fun hp => by have := HSZ.out; omega⟩) HW3.out.2.size (by have := HSZ.out; omega) ?_
              intro v47 W4 ho4 hb4
              have HW4 : Hid (TS W4 v47 (withB s l) ∧ Below w.heap.size w W4 ∧ ∀ g, v47.ownBlock = some g → w.heap.size ≤ g) := by
                refine ⟨?_, HW3.out.2.trans hb4.out, own_new ho4.out⟩
                rw [HWB.out]
                exact TS.own (by have := ho4.out; rw [List.append_assoc] at this; exact this)
              clear ho4 hb4
              go_wp2
              go_ret
              exact ⟨_, rfl, HW4.out.1, HW4.out.2.1, .inr HW4.out.2.2⟩
/-- one value stored -/
theorem wpList_st1 {ops : Array Oper} {rest : List Oper} {o : Oper} {a : Act} {w : World} {Q : Exit → Act → World → Prop} (hg : o.guard = none) (t : TypeId) (x y : Operand) (hop : o.op = .store t x y) (b k : Nat) (v : Value) (T : TypeId) (L : List Value) (hx : a.eval x = .pointer (some ⟨b, k, none⟩)) (hy : a.eval y = v) (hb : Blk w b T L) (hkl : k < L.length)
    (hi : (Try.prog.info? t).map (·.size) = some 1) (h1 : v.cells = #[v]) (h2 : v.oneCell' = true) (hk : ∀ w', Hid (Blk w' b T (L.set k v)) → Hid (w.grownBy w' (some b)) → wpList Try.prog ops Q rest (a.put o.dst undef) w') : wpList Try.prog ops Q (o :: rest) a w := by
  refine wpList_plain hg fun K hK => ?_
  obtain ⟨i, hi2, hi3⟩ := Option.map_eq_some_iff.1 hi
  obtain ⟨u, hu⟩ : ∃ u, L[k]? = some u := ⟨_, List.getElem?_eq_getElem hkl⟩
  have hc := hb.cell hu
  have hf := hb.free k
  unfold Oper.wp execOp
  simp [hop, hx, hy, Instr.storeAt, Instr.sureAddr, storeVar, sizeOf, typeInfo, hi2, hi3, h1, storeCells, run_store _ _ _ _ _ h2, stored, hc, hf, Addr.add_lit, Result.andThen]
  exact hK _ _ (hk _ (hb.set k v) (grown_setCell _ _ _ _))
theorem wpList_append_g {ops : Array Oper} {rest : List Oper} {o : Oper} {a : Act} {Q : Exit → Act → World → Prop} (hgd : o.guard = none) (s x : Operand) (t : TypeId)
    (hop : o.op = .call { callee := .builtin .append, args := #[s, x], argTypes := #[t, t] }) (w : World) (e : TypeId) (i : TypeInfo) (z : Value) (sz B : Nat) (ht : Try.prog.underlying t = some (.slice e)) (hi : Try.prog.info? e = some i) (hz : i.zero = some z) (hs : i.size = sz) (hby : i.bytes ≤ 1000) (hzs : z.cells.size = sz) (hsz : 0 < sz)
    (v : Value) (n : Nat) (cs : List Value) (h : w.ownsRow B e sz v n cs) (ao : Option Addr) (q c : Nat) (qs : List Value) (hsv : a.eval s = v) (hx : a.eval x = .slice ao q c) (ho : Rx w ao q sz qs) (hB : B ≤ w.heap.size) (hn : n + q ≤ 1000000)
    (hk : ∀ v' w', Hid (w'.ownsRow B e sz v' (n + q) (cs ++ qs)) → Hid (w.grownBy w' v.ownBlock) → Hid (v'.ownBlock = v.ownBlock ∨ v'.ownBlock = some w.heap.size) → wpList Try.prog ops Q rest (a.put o.dst v') w') : wpList Try.prog ops Q (o :: rest) a w := by
  refine wpList_plain hgd fun K hK => ?_
  obtain ⟨v', w', hr, h2, h3, h4⟩ := run_append_g w t o.type e i z sz B ht hi hz hs hby hzs hsz v n cs h ao q c qs ho hB hn
  unfold Oper.wp execOp
  simp only [hop, resolve, invoke, builtin, Sem.run_bind, Sem.run_pure, Result.andThen_ok, List.map_toArray, List.map_cons, List.map_nil, hsv, hx, hr]
  exact hK _ _ (hk v' w' h2 h3 h4)
theorem Pp.set_t {p : Pp} (h : p.patch.length = 32) (a : Option Addr) (n c : Nat) : p.cells.set 38 (.slice a n c) = ({ p with t := ⟨a, n, c⟩ } : Pp).cells := by
  simp only [Pp.cells, List.set_cons_succ]
  rw [List.set_append_right _ _ (by rw [U_length, h]; omega), U_length, h]
  rfl
set_option maxRecDepth 100000 in
theorem run_build43_5 (x : Int) (au ch : BA) (h : Hs) (hl : h.length = 32) (op : Bool) (W : World) : (Instr.build 43 #[(0, iv x), (1, .string au), (2, .string ch), (3, .agg (U h).toArray), (4, .bool op)]).run Try.prog W = .ok (.agg (Pp.cells ⟨x, au, ch, h, op, ⟨none, 0, 0⟩, ⟨none, 0, 0⟩, ⟨none, 0, 0⟩⟩).toArray) W := by
  obtain ⟨a0, l0, rfl, h0⟩ := uncons hl
  obtain ⟨a1, l1, rfl, h1⟩ := uncons h0
  obtain ⟨a2, l2, rfl, h2⟩ := uncons h1
  obtain ⟨a3, l3, rfl, h3⟩ := uncons h2
  obtain ⟨a4, l4, rfl, h4⟩ := uncons h3
  obtain ⟨a5, l5, rfl, h5⟩ := uncons h4
  obtain ⟨a6, l6, rfl, h6⟩ := uncons h5
  obtain ⟨a7, l7, rfl, h7⟩ := uncons h6
  obtain ⟨a8, l8, rfl, h8⟩ := uncons h7
  obtain ⟨a9, l9, rfl, h9⟩ := uncons h8
  obtain ⟨a10, l10, rfl, h10⟩ := uncons h9
  obtain ⟨a11, l11, rfl, h11⟩ := uncons h10
  obtain ⟨a12, l12, rfl, h12⟩ := uncons h11
  obtain ⟨a13, l13, rfl, h13⟩ := uncons h12
  obtain ⟨a14, l14, rfl, h14⟩ := uncons h13
  obtain ⟨a15, l15, rfl, h15⟩ := uncons h14
  obtain ⟨a16, l16, rfl, h16⟩ := uncons h15
  obtain ⟨a17, l17, rfl, h17⟩ := uncons h16
  obtain ⟨a18, l18, rfl, h18⟩ := uncons h17
  obtain ⟨a19, l19, rfl, h19⟩ := uncons h18
  obtain ⟨a20, l20, rfl, h20⟩ := uncons h19
  obtain ⟨a21, l21, rfl, h21⟩ := uncons h20
  obtain ⟨a22, l22, rfl, h22⟩ := uncons h21
  obtain ⟨a23, l23, rfl, h23⟩ := uncons h22
  obtain ⟨a24, l24, rfl, h24⟩ := uncons h23
  obtain ⟨a25, l25, rfl, h25⟩ := uncons h24
  obtain ⟨a26, l26, rfl, h26⟩ := uncons h25
  obtain ⟨a27, l27, rfl, h27⟩ := uncons h26
  obtain ⟨a28, l28, rfl, h28⟩ := uncons h27
  obtain ⟨a29, l29, rfl, h29⟩ := uncons h28
  obtain ⟨a30, l30, rfl, h30⟩ := uncons h29
  obtain ⟨a31, l31, rfl, h31⟩ := uncons h30
  obtain rfl := List.eq_nil_of_length_eq_zero h31
  kernel_rfl
theorem yl_build5 {o : Oper} {a : Act} (V : World) (t : TypeId) (x0 x1 x2 x3 x4 : Operand) (u0 u1 u2 u3 u4 v : Value) (hop : o.op = .build t #[(0, x0), (1, x1), (2, x2), (3, x3), (4, x4)]) (h0 : a.eval x0 = u0) (h1 : a.eval x1 = u1) (h2 : a.eval x2 = u2) (h3 : a.eval x3 = u3) (h4 : a.eval x4 = u4)
    (hrun : ∀ W, (Instr.build t #[(0, u0), (1, u1), (2, u2), (3, u3), (4, u4)]).run Try.prog W = .ok v W) : (execOp a.eval o).run Try.prog V = .ok (.value v) V := by
  unfold execOp
  simp [hop, h0, h1, h2, h3, h4, hrun, Result.andThen]
set_option maxRecDepth 100000 in
set_option maxHeartbeats 4000000 in
theorem rpr4 {Q : Exit → Act → World → Prop} {x0 x3 x4 x6 x7 x8 x9 x10 x11 x12 x13 x14 x15 x16 x17 x18 x19 x20 x21 x22 x23 x24 x25 x26 x27 x28 x29 x30 x31 x32 x33 x34 x35 x36 x37 x38 x39 x40 x41 x42 x43 x44 x45 x46 x47 x48 x49 x50 x51 x52 x53 x54 x55 x56 x57 x58 x59 x60 x61 x62 x63 x64 x65 x66 x67 x68 x69 x70 x71 x72 x73 x74 x75 x76 x77 x78 x79 x80 x81 x82 x83 x84 x85 x86 x87 x88 x89 x90 x91 x92 x93 x94 : Value} {ds : List Deferred} {A : World} {b g nl lc nd dc : Nat} {la da : Option Addr} {x : Int} {op : Bool} {m : Mk}
    (HG : Hid (g < A.heap.size ∧ A.rangeAt g 2 (U m.h) ∧ m.h.length = 32)) (k0 : A.cell? ⟨g, 0, none⟩ = some (.string m.au)) (k1 : A.cell? ⟨g, 1, none⟩ = some (.string m.ch)) (HB2 : Hid (Blk A b 30 [.slice la nl lc, .slice da nd dc])) (HOP : Hid (∀ V, Below A.heap.size A V → Calls Try.prog 38 #[.agg #[.slice la nl lc, .slice da nd dc], iv x] V fun e V2 => e = .returned (.bool op) ∧ Below V.heap.size V V2))
    (hQ : ∀ V1 q, Blk V1 q 43 (Pp.cells ⟨x, m.au, m.ch, m.h, op, ⟨none, 0, 0⟩, ⟨none, 0, 0⟩, ⟨none, 0, 0⟩⟩) → A.heap.size ≤ q → Below A.heap.size A V1 → Q .normal { tmps := #[x0, iv x, .pointer (some ⟨b, 0, none⟩), x3, x4, .pointer (some ⟨g, 0, none⟩), .pointer (some ⟨q, 0, none⟩), x7, x8, x9, x10, x11, x12, x13, x14, x15, x16, x17, x18, x19, iv x, .pointer (some ⟨g, 0, none⟩), .string m.au, .pointer (some ⟨g, 1, none⟩), .string m.ch, .pointer (some ⟨g, 2, none⟩), .agg (U m.h).toArray, .agg [.slice la nl lc, .slice da nd dc].toArray, iv x, .bool op, .agg (Pp.cells ⟨x, m.au, m.ch, m.h, op, ⟨none, 0, 0⟩, ⟨none, 0, 0⟩, ⟨none, 0, 0⟩⟩).toArray, x31, x32, x33, x34, x35, x36, x37, x38, x39, x40, x41, x42, x43, x44, x45, x46, x47, x48, x49, x50, x51, x52, x53, x54, x55, x56, x57, x58, x59, x60, x61, x62, x63, x64, x65, x66, x67, x68, x69, x70, x71, x72, x73, x74, x75, x76, x77, x78, x79, x80, x81, x82, x83, x84, x85, x86, x87, x88, x89, x90, x91, x92, x93, x94], defers := ds } V1) :
    (Code.region 4 #[{ dst := some 20, op := Op.move (Operand.tmp 1), type := 3, pos := "ref.go:160", after := #[], guard := none }, { dst := some 21, op := Op.fieldAddr 92 (Operand.tmp 5) 0, type := 0, pos := "ref.go:160", after := #[], guard := none }, { dst := some 22, op := Op.load 9 (Operand.tmp 21), type := 9, pos := "ref.go:160", after := #[{ on := 1, ground := Ground.data }], guard := none }, { dst := some 23, op := Op.fieldAddr 92 (Operand.tmp 5) 1, type := 0, pos := "ref.go:160", after := #[], guard := none }, { dst := some 24, op := Op.load 9 (Operand.tmp 23), type := 9, pos := "ref.go:160", after := #[{ on := 3, ground := Ground.data }], guard := none }, { dst := some 25, op := Op.fieldAddr 92 (Operand.tmp 5) 2, type := 0, pos := "ref.go:160", after := #[], guard := none }, { dst := some 26, op := Op.load 32 (Operand.tmp 25), type := 32, pos := "ref.go:160", after := #[{ on := 5, ground := Ground.data }], guard := none }, { dst := some 27, op := Op.load 30 (Operand.tmp 2), type := 30, pos := "ref.go:160", after := #[], guard := none }, { dst := some 28, op := Op.move (Operand.tmp 1), type := 3, pos := "ref.go:160", after := #[], guard := none }, { dst := some 29, op := Op.call { callee := Callee.value (Operand.func 38), args := #[Operand.tmp 27, Operand.tmp 28], argTypes := #[30, 3] }, type := 4, pos := "ref.go:160", after := #[{ on := 7, ground := Ground.data }, { on := 8, ground := Ground.data }], guard := none }, { dst := some 30, op := Op.build 43 #[(0, Operand.tmp 20), (1, Operand.tmp 22), (2, Operand.tmp 24), (3, Operand.tmp 26), (4, Operand.tmp 29)], type := 43, pos := "ref.go:160", after := #[{ on := 0, ground := Ground.data }, { on := 2, ground := Ground.data }, { on := 4, ground := Ground.data }, { on := 6, ground := Ground.data }, { on := 9, ground := Ground.data }], guard := none }, { dst := some 6, op := Op.alloc 43, type := 0, pos := "ref.go:160", after := #[], guard := none }, { dst := none, op := Op.store 43 (Operand.tmp 6) (Operand.tmp 30), type := 0, pos := "ref.go:160", after := #[{ on := 11, ground := Ground.data }, { on := 10, ground := Ground.data }, { on := 9, ground := Ground.chain }, { on := 0, ground := Ground.phase }, { on := 1, ground := Ground.phase }, { on := 2, ground := Ground.phase }, { on := 3, ground := Ground.phase }, { on := 4, ground := Ground.phase }, { on := 5, ground := Ground.phase }, { on := 6, ground := Ground.phase }, { on := 7, ground := Ground.phase }, { on := 8, ground := Ground.phase }, { on := 9, ground := Ground.phase }, { on := 10, ground := Ground.phase }, { on := 11, ground := Ground.phase }], guard := none }] true).wp Try.prog Q { tmps := #[x0, iv x, .pointer (some ⟨b, 0, none⟩), x3, x4, .pointer (some ⟨g, 0, none⟩), x6, x7, x8, x9, x10, x11, x12, x13, x14, x15, x16, x17, x18, x19, x20, x21, x22, x23, x24, x25, x26, x27, x28, x29, x30, x31, x32, x33, x34, x35, x36, x37, x38, x39, x40, x41, x42, x43, x44, x45, x46, x47, x48, x49, x50, x51, x52, x53, x54, x55, x56, x57, x58, x59, x60, x61, x62, x63, x64, x65, x66, x67, x68, x69, x70, x71, x72, x73, x74, x75, x76, x77, x78, x79, x80, x81, x82, x83, x84, x85, x86, x87, x88, x89, x90, x91, x92, x93, x94], defers := ds } A := by
  refine Code.wp_mono (Q := fun x a' w' => match x with | .normal => Q .normal a' w' | _ => False) (by intro x a' w' h; cases x <;> first | exact h | exact h.elim) ?_
  refine wp_region_held (S := fun V => Below A.heap.size A V) (by kernel_rfl) ?_
  have hS0 : Hid (Below A.heap.size A A.drew) := below_drew0 A
  change wpAnyH Try.prog .any _ _ (fun V => Below A.heap.size A V) 13 (Array.replicate 13 false) _ A.drew
  obtain ⟨V0, hV0⟩ : ∃ V0, A.drew = V0 := ⟨_, rfl⟩
  rw [hV0]
  rw [hV0] at hS0
  clear hV0
  refine wpAnyH_take (i := 0) (oi := { dst := some 20, op := Op.move (Operand.tmp 1), type := 3, pos := "ref.go:160", after := #[], guard := none }) (v := iv x) rfl (by kernel_rfl) (by kernel_rfl) (by kernel_rfl) (fun _ _ _ h => h.elim) (Or.inl ⟨by rfl, ?y1⟩) hS0.out ?_
  case y1 =>
    intro V hV
    go_simp
  simp only [Act.put, List.setIfInBounds_toArray, List.set_cons_zero, List.set_cons_succ]
  refine wpAnyH_take (i := 1) (oi := { dst := some 21, op := Op.fieldAddr 92 (Operand.tmp 5) 0, type := 0, pos := "ref.go:160", after := #[], guard := none }) (v := .pointer (some ⟨g, 0, none⟩)) rfl (by kernel_rfl) (by kernel_rfl) (by kernel_rfl) (fun _ _ _ h => h.elim) (Or.inl ⟨by rfl, ?y2⟩) hS0.out ?_
  case y2 =>
    intro V hV
    go_simp
  simp only [Act.put, List.setIfInBounds_toArray, List.set_cons_zero, List.set_cons_succ]
  refine wpAnyH_take (i := 2) (oi := { dst := some 22, op := Op.load 9 (Operand.tmp 21), type := 9, pos := "ref.go:160", after := #[{ on := 1, ground := Ground.data }], guard := none }) (v := .string m.au) rfl (by kernel_rfl) (by kernel_rfl) (by kernel_rfl) (fun _ _ _ h => h.elim) (Or.inl ⟨by rfl, ?y3⟩) hS0.out ?_
  case y3 =>
    intro V hV
    have hc : V.cell? ⟨g, 0, none⟩ = some (.string m.au) := ((show Below A.heap.size A V from hV).cell (p := ⟨g, 0, none⟩) (HG.out.1)).trans k0
    go_simp
  simp only [Act.put, List.setIfInBounds_toArray, List.set_cons_zero, List.set_cons_succ]
  refine wpAnyH_take (i := 3) (oi := { dst := some 23, op := Op.fieldAddr 92 (Operand.tmp 5) 1, type := 0, pos := "ref.go:160", after := #[], guard := none }) (v := .pointer (some ⟨g, 1, none⟩)) rfl (by kernel_rfl) (by kernel_rfl) (by kernel_rfl) (fun _ _ _ h => h.elim) (Or.inl ⟨by rfl, ?y4⟩) hS0.out ?_
  case y4 =>
    intro V hV
    go_simp
  simp only [Act.put, List.setIfInBounds_toArray, List.set_cons_zero, List.set_cons_succ]
  refine wpAnyH_take (i := 4) (oi := { dst := some 24, op := Op.load 9 (Operand.tmp 23), type := 9, pos := "ref.go:160", after := #[{ on := 3, ground := Ground.data }], guard := none }) (v := .string m.ch) rfl (by kernel_rfl) (by kernel_rfl) (by kernel_rfl) (fun _ _ _ h => h.elim) (Or.inl ⟨by rfl, ?y5⟩) hS0.out ?_
  case y5 =>
    intro V hV
    have hc : V.cell? ⟨g, 1, none⟩ = some (.string m.ch) := ((show Below A.heap.size A V from hV).cell (p := ⟨g, 1, none⟩) (HG.out.1)).trans k1
    go_simp
  simp only [Act.put, List.setIfInBounds_toArray, List.set_cons_zero, List.set_cons_succ]
  refine wpAnyH_take (i := 5) (oi := { dst := some 25, op := Op.fieldAddr 92 (Operand.tmp 5) 2, type := 0, pos := "ref.go:160", after := #[], guard := none }) (v := .pointer (some ⟨g, 2, none⟩)) rfl (by kernel_rfl) (by kernel_rfl) (by kernel_rfl) (fun _ _ _ h => h.elim) (Or.inl ⟨by rfl, ?y6⟩) hS0.out ?_
  case y6 =>
    intro V hV
    go_simp
  simp only [Act.put, List.setIfInBounds_toArray, List.set_cons_zero, List.set_cons_succ]
  refine wpAnyH_take (i := 6) (oi := { dst := some 26, op := Op.load 32 (Operand.tmp 25), type := 32, pos := "ref.go:160", after := #[{ on := 5, ground := Ground.data }], guard := none }) (v := .agg (U m.h).toArray) rfl (by kernel_rfl) (by kernel_rfl) (by kernel_rfl) (fun _ _ _ h => h.elim) (yieldsIf_load_mid (by rfl) _ _ rfl _ _ rfl (U m.h) _ (fun V hV => rangeAt_same (HG.out.2.1) ((show Below A.heap.size A V from hV).block _ (HG.out.1))) Try.underlying32 rfl (info32 _ HG.out.2.2)) hS0.out ?_
  simp only [Act.put, List.setIfInBounds_toArray, List.set_cons_zero, List.set_cons_succ]
  refine wpAnyH_take (i := 7) (oi := { dst := some 27, op := Op.load 30 (Operand.tmp 2), type := 30, pos := "ref.go:160", after := #[], guard := none }) (v := .agg [.slice la nl lc, .slice da nd dc].toArray) rfl (by kernel_rfl) (by kernel_rfl) (by kernel_rfl) (fun _ _ _ h => h.elim) (yieldsIf_load_mid (by rfl) _ _ rfl _ _ rfl ([.slice la nl lc, .slice da nd dc]) _ (fun V hV => rangeAt_same ((by have := HB2.out.range 0 2; simpa using this)) ((show Below A.heap.size A V from hV).block _ (HB2.out.lt))) Try.underlying30 rfl (size30)) hS0.out ?_
  simp only [Act.put, List.setIfInBounds_toArray, List.set_cons_zero, List.set_cons_succ]
  refine wpAnyH_take (i := 8) (oi := { dst := some 28, op := Op.move (Operand.tmp 1), type := 3, pos := "ref.go:160", after := #[], guard := none }) (v := iv x) rfl (by kernel_rfl) (by kernel_rfl) (by kernel_rfl) (fun _ _ _ h => h.elim) (Or.inl ⟨by rfl, ?y7⟩) hS0.out ?_
  case y7 =>
    intro V hV
    go_simp
  simp only [Act.put, List.setIfInBounds_toArray, List.set_cons_zero, List.set_cons_succ]
  refine wpAnyH_ready (rs := [9, 11]) (by kernel_rfl) (by simp) (AllReadyH.cons (i := 9) (o := { dst := some 29, op := Op.call { callee := Callee.value (Operand.func 38), args := #[Operand.tmp 27, Operand.tmp 28], argTypes := #[30, 3] }, type := 4, pos := "ref.go:160", after := #[{ on := 7, ground := Ground.data }, { on := 8, ground := Ground.data }], guard := none }) rfl ?_ (AllReadyH.cons (i := 11) (o := { dst := some 6, op := Op.alloc 43, type := 0, pos := "ref.go:160", after := #[], guard := none }) rfl ?_ AllReadyH.nil))
  · intro K1 hK1
    rw [if_pos (by rfl)]
    have HC1 := HOP.out V0 hS0.out
    go_wp2_with fail
    refine HC1.mono ?_
    rintro e V1 ⟨rfl, hb1⟩
    dsimp only
    clear HC1
    have hS1 : Hid (Below A.heap.size A V1) := hS0.out.trans (hb1.mono hS0.out.size)
    clear hb1
    refine hK1.out _ _ hS1.out ?_
    clear hK1
    intro _
    try simp only [Act.put, List.setIfInBounds_toArray, List.set_cons_zero, List.set_cons_succ]
    refine wpAnyH_take (i := 10) (oi := { dst := some 30, op := Op.build 43 #[(0, Operand.tmp 20), (1, Operand.tmp 22), (2, Operand.tmp 24), (3, Operand.tmp 26), (4, Operand.tmp 29)], type := 43, pos := "ref.go:160", after := #[{ on := 0, ground := Ground.data }, { on := 2, ground := Ground.data }, { on := 4, ground := Ground.data }, { on := 6, ground := Ground.data }, { on := 9, ground := Ground.data }], guard := none }) (v := .agg (Pp.cells ⟨x, m.au, m.ch, m.h, op, ⟨none, 0, 0⟩, ⟨none, 0, 0⟩, ⟨none, 0, 0⟩⟩).toArray) rfl (by kernel_rfl) (by kernel_rfl) (by kernel_rfl) (fun _ _ _ h => h.elim) (Or.inl ⟨by rfl, ?y8⟩) hS1.out ?_
    case y8 =>
      intro V hV
      exact yl_build5 V 43 (.tmp 20) (.tmp 22) (.tmp 24) (.tmp 26) (.tmp 29) _ _ _ _ _ _ rfl rfl rfl rfl rfl rfl (run_build43_5 x m.au m.ch m.h HG.out.2.2 op)
    simp only [Act.put, List.setIfInBounds_toArray, List.set_cons_zero, List.set_cons_succ]
    refine wpAnyH_ready (rs := [11]) (by kernel_rfl) (by simp) (AllReadyH.cons (i := 11) (o := { dst := some 6, op := Op.alloc 43, type := 0, pos := "ref.go:160", after := #[], guard := none }) rfl ?_ AllReadyH.nil)
    · intro K1 hK1
      refine step_al (by rfl) 43 rfl Pp.zero.cells zero43 ?_
      obtain ⟨V2, hv2⟩ : ∃ V, V1.alloc (.cells Pp.zero.cells.toArray 43) = V := ⟨_, rfl⟩
      obtain ⟨q, hq2⟩ : ∃ m, V1.heap.size = m := ⟨_, rfl⟩
      have hS2 : Hid (Below A.heap.size A V2) := by rw [← hv2]; exact below_tr hS1.out (below_al _ _)
      have hX2 : Hid (Blk V2 q 43 Pp.zero.cells ∧ A.heap.size ≤ q) := by rw [← hv2, ← hq2]; exact ⟨by simpa using Blk.new V1 Pp.zero.cells.toArray 43, hS1.out.size⟩
      rw [hv2, hq2]
      clear hv2 hq2
      refine hK1.out _ _ hS2.out ?_
      clear hK1
      intro _
      try simp only [Act.put, List.setIfInBounds_toArray, List.set_cons_zero, List.set_cons_succ]
      refine wpAnyH_ready (rs := [12]) (by kernel_rfl) (by simp) (AllReadyH.cons (i := 12) (o := { dst := none, op := Op.store 43 (Operand.tmp 6) (Operand.tmp 30), type := 0, pos := "ref.go:160", after := #[{ on := 11, ground := Ground.data }, { on := 10, ground := Ground.data }, { on := 9, ground := Ground.chain }, { on := 0, ground := Ground.phase }, { on := 1, ground := Ground.phase }, { on := 2, ground := Ground.phase }, { on := 3, ground := Ground.phase }, { on := 4, ground := Ground.phase }, { on := 5, ground := Ground.phase }, { on := 6, ground := Ground.phase }, { on := 7, ground := Ground.phase }, { on := 8, ground := Ground.phase }, { on := 9, ground := Ground.phase }, { on := 10, ground := Ground.phase }, { on := 11, ground := Ground.phase }], guard := none }) rfl ?_ AllReadyH.nil)
      · intro K1 hK1
        refine step_stB (by rfl) 43 (.tmp 6) (.tmp 30) rfl q (Pp.cells ⟨x, m.au, m.ch, m.h, op, ⟨none, 0, 0⟩, ⟨none, 0, 0⟩, ⟨none, 0, 0⟩⟩) 43 _ rfl rfl hX2.out.1 (by rw [Pp.length HG.out.2.2, zero_len]) (by rw [Pp.length HG.out.2.2]; exact size43) (Pp.one _) ?_
        intro V3 hr3 hg3
        have hS3 : Hid (Below A.heap.size A V3) := hS2.out.grown hg3.out hS2.out.size (fun j hj => by cases hj; exact hX2.out.2)
        have hX3 : Hid (Blk V3 q 43 (Pp.cells ⟨x, m.au, m.ch, m.h, op, ⟨none, 0, 0⟩, ⟨none, 0, 0⟩, ⟨none, 0, 0⟩⟩) ∧ A.heap.size ≤ q) := ⟨hr3.out, hX2.out.2⟩
        clear hr3 hg3
        refine hK1.out _ _ hS3.out ?_
        clear hK1
        intro _
        try simp only [Act.put, List.setIfInBounds_toArray, List.set_cons_zero, List.set_cons_succ]
        refine wpAnyH_done (by kernel_rfl) ?_ _
        exact hQ V3 q hX3.out.1 hX3.out.2 hS3.out
  · intro K1 hK1
    refine step_al (by rfl) 43 rfl Pp.zero.cells zero43 ?_
    obtain ⟨V1, hv1⟩ : ∃ V, V0.alloc (.cells Pp.zero.cells.toArray 43) = V := ⟨_, rfl⟩
    obtain ⟨q, hq1⟩ : ∃ m, V0.heap.size = m := ⟨_, rfl⟩
    have hS1 : Hid (Below A.heap.size A V1) := by rw [← hv1]; exact below_tr hS0.out (below_al _ _)
    have hX1 : Hid (Blk V1 q 43 Pp.zero.cells ∧ A.heap.size ≤ q) := by rw [← hv1, ← hq1]; exact ⟨by simpa using Blk.new V0 Pp.zero.cells.toArray 43, hS0.out.size⟩
    rw [hv1, hq1]
    clear hv1 hq1
    refine hK1.out _ _ hS1.out ?_
    clear hK1
    intro _
    try simp only [Act.put, List.setIfInBounds_toArray, List.set_cons_zero, List.set_cons_succ]
    refine wpAnyH_ready (rs := [9]) (by kernel_rfl) (by simp) (AllReadyH.cons (i := 9) (o := { dst := some 29, op := Op.call { callee := Callee.value (Operand.func 38), args := #[Operand.tmp 27, Operand.tmp 28], argTypes := #[30, 3] }, type := 4, pos := "ref.go:160", after := #[{ on := 7, ground := Ground.data }, { on := 8, ground := Ground.data }], guard := none }) rfl ?_ AllReadyH.nil)
    · intro K1 hK1
      rw [if_pos (by rfl)]
      have HC2 := HOP.out V1 hS1.out
      go_wp2_with fail
      refine HC2.mono ?_
      rintro e V2 ⟨rfl, hb2⟩
      dsimp only
      clear HC2
      have hS2 : Hid (Below A.heap.size A V2) := hS1.out.trans (hb2.mono hS1.out.size)
      have hX2 : Hid (Blk V2 q 43 Pp.zero.cells ∧ A.heap.size ≤ q) := ⟨hX1.out.1.below hb2 hX1.out.1.lt, hX1.out.2⟩
      clear hb2
      refine hK1.out _ _ hS2.out ?_
      clear hK1
      intro _
      try simp only [Act.put, List.setIfInBounds_toArray, List.set_cons_zero, List.set_cons_succ]
      refine wpAnyH_take (i := 10) (oi := { dst := some 30, op := Op.build 43 #[(0, Operand.tmp 20), (1, Operand.tmp 22), (2, Operand.tmp 24), (3, Operand.tmp 26), (4, Operand.tmp 29)], type := 43, pos := "ref.go:160", after := #[{ on := 0, ground := Ground.data }, { on := 2, ground := Ground.data }, { on := 4, ground := Ground.data }, { on := 6, ground := Ground.data }, { on := 9, ground := Ground.data }], guard := none }) (v := .agg (Pp.cells ⟨x, m.au, m.ch, m.h, op, ⟨none, 0, 0⟩, ⟨none, 0, 0⟩, ⟨none, 0, 0⟩⟩).toArray) rfl (by kernel_rfl) (by kernel_rfl) (by kernel_rfl) (fun _ _ _ h => h.elim) (Or.inl ⟨by rfl, ?y9⟩) hS2.out ?_
      case y9 =>
        intro V hV
        exact yl_build5 V 43 (.tmp 20) (.tmp 22) (.tmp 24) (.tmp 26) (.tmp 29) _ _ _ _ _ _ rfl rfl rfl rfl rfl rfl (run_build43_5 x m.au m.ch m.h HG.out.2.2 op)
      simp only [Act.put, List.setIfInBounds_toArray, List.set_cons_zero, List.set_cons_succ]
      refine wpAnyH_ready (rs := [12]) (by kernel_rfl) (by simp) (AllReadyH.cons (i := 12) (o := { dst := none, op := Op.store 43 (Operand.tmp 6) (Operand.tmp 30), type := 0, pos := "ref.go:160", after := #[{ on := 11, ground := Ground.data }, { on := 10, ground := Ground.data }, { on := 9, ground := Ground.chain }, { on := 0, ground := Ground.phase }, { on := 1, ground := Ground.phase }, { on := 2, ground := Ground.phase }, { on := 3, ground := Ground.phase }, { on := 4, ground := Ground.phase }, { on := 5, ground := Ground.phase }, { on := 6, ground := Ground.phase }, { on := 7, ground := Ground.phase }, { on := 8, ground := Ground.phase }, { on := 9, ground := Ground.phase }, { on := 10, ground := Ground.phase }, { on := 11, ground := Ground.phase }], guard := none }) rfl ?_ AllReadyH.nil)
      · intro K1 hK1
        refine step_stB (by rfl) 43 (.tmp 6) (.tmp 30) rfl q (Pp.cells ⟨x, m.au, m.ch, m.h, op, ⟨none, 0, 0⟩, ⟨none, 0, 0⟩, ⟨none, 0, 0⟩⟩) 43 _ rfl rfl hX2.out.1 (by rw [Pp.length HG.out.2.2, zero_len]) (by rw [Pp.length HG.out.2.2]; exact size43) (Pp.one _) ?_
        intro V3 hr3 hg3
        have hS3 : Hid (Below A.heap.size A V3) := hS2.out.grown hg3.out hS2.out.size (fun j hj => by cases hj; exact hX2.out.2)
        have hX3 : Hid (Blk V3 q 43 (Pp.cells ⟨x, m.au, m.ch, m.h, op, ⟨none, 0, 0⟩, ⟨none, 0, 0⟩, ⟨none, 0, 0⟩⟩) ∧ A.heap.size ≤ q) := ⟨hr3.out, hX2.out.2⟩
        clear hr3 hg3
        refine hK1.out _ _ hS3.out ?_
        clear hK1
        intro _
        try simp only [Act.put, List.setIfInBounds_toArray, List.set_cons_zero, List.set_cons_succ]
        refine wpAnyH_done (by kernel_rfl) ?_ _
        exact hQ V3 q hX3.out.1 hX3.out.2 hS3.out
end Go.Proofs.Ytaecigpjcbjcbaa.Oct
