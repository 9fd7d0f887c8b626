/-
  Layer 21 (queue): QueuePlays.
-/
import Derived.Test.YtipipckbcelphaaWpr
namespace Go.Proofs.Ytipipckbcelphaa.Oct
open Go.RowKit Go.Shelf
set_option linter.unusedSimpArgs false
set_option linter.unusedVariables false

/-- what a call leaves of the queue -/
def QR (V : World) (b K : Nat) (M : Qu) (W' : List Int) (E' : List (Int × Int × Int)) (V' : World) : Prop := ∃ M', QAt V' b M' .nilFunc K ∧ QAfter V b M M' V' ∧ M'.W = W' ∧ M'.E = E'
/-- what a call leaves of the document's queue -/
def RR (V : World) (wv ev : Value) (W' : List Int) (E' : List (Int × Int × Int)) (wv' ev' : Value) (V' : World) : Prop :=
  RQ V' wv' ev' W' E' ∧ Below V.heap.size V V' ∧ (∀ g, blkOf wv' = some g → blkOf wv = some g ∨ V.heap.size ≤ g) ∧ ∀ g, blkOf ev' = some g → blkOf ev = some g ∨ V.heap.size ≤ g
def drC (W : List Int) (x : Int) : Int := if x ∈ W then 0 else 111
def drW (W : List Int) (x : Int) : List Int := match W.findIdx? (· == x) with
  | some k => W.eraseIdx k
  | none => W
def drE (E : List (Int × Int × Int)) (W : List Int) (x : Int) : List (Int × Int × Int) := if x ∈ W then E ++ [(x, 2, 201)] else E
def stC (W : List Int) : Int := if W = [] then 111 else 0
def stX (W : List Int) (r : Int) : Int × Int × Int := match W with
  | [] => (0, 0, 0)
  | x :: _ => (x, hw r, r)
def stW (W : List Int) : List Int := W.eraseIdx 0
def stE (E : List (Int × Int × Int)) (W : List Int) (r : Int) : List (Int × Int × Int) := match W with
  | [] => E
  | x :: _ => E ++ [(x, hw r, r)]
theorem drW_yes {W : List Int} {x : Int} {k : Nat} (h : W[k]? = some x) (hn : ∀ (j : Nat) (y : Int), j < k → W[j]? = some y → y ≠ x) : drW W x = W.eraseIdx k := by
  have e : W.findIdx? (· == x) = some k := by
    obtain ⟨h1, h2⟩ := List.getElem?_eq_some_iff.1 h
    rw [List.findIdx?_eq_some_iff_getElem]
    refine ⟨h1, by simp [h2], fun j hj => ?_⟩
    have := hn j W[j] hj (List.getElem?_eq_getElem (by omega))
    simpa using this
  unfold drW
  rw [e]
theorem drW_no {W : List Int} {x : Int} (h : x ∉ W) : drW W x = W := by
  have e : W.findIdx? (· == x) = none := by
    rw [List.findIdx?_eq_none_iff]
    intro y hy
    simp
    intro e
    exact h (by rw [← e]; exact hy)
  unfold drW
  rw [e]
section
variable {V : World} {b K g6 : Nat} {M : Qu} {y : Av} {wv ev : Value} {l : List Int} {E : List (Int × Int × Int)}
theorem put_b (h : QAt V b M .nilFunc K) (hK : K + 1 ≤ 3000000000000) (x : Int) : Calls Try.prog 11 #[.pointer (some ⟨b, 0, none⟩), iv x] V fun e V' => e = .returned (iv (putC M.W x)) ∧ QR V b (K + 1) M (putW M.W x) M.E V' := (put_is h hK x).mono (by
  rintro e V' ⟨rfl, v, h1, h2⟩
  exact ⟨rfl, _, h1, h2, rfl, rfl⟩)
theorem drop_b (h : QAt V b M .nilFunc K) (hK : K + 1 ≤ 3000000000000) (x : Int) : Calls Try.prog 13 #[.pointer (some ⟨b, 0, none⟩), iv x] V fun e V' => e = .returned (iv (drC M.W x)) ∧ QR V b (K + 1) M (drW M.W x) (drE M.E M.W x) V' := by
  rcases plc_cases M.W x with ⟨_, hno⟩ | ⟨k, _, hk, hkf⟩
  · refine (drop_no h hno).mono ?_
    rintro e V' ⟨rfl, rfl⟩
    refine ⟨by simp [drC, hno], M, h.more (by omega) hK, QAfter.refl _ _ _, (drW_no hno).symm, by simp [drE, hno]⟩
  · have hm : x ∈ M.W := List.mem_of_getElem? hk
    refine (drop_yes h hk hkf (.inl rfl)).mono ?_
    rintro e V' ⟨rfl, v, u, h1, h2⟩
    exact ⟨by simp [drC, hm], _, h1.more (by omega) hK, h2, (drW_yes hk hkf).symm, by simp [drE, hm]⟩
theorem step_b (h : QAt V b M .nilFunc K) (hK : K + 1 ≤ 3000000000000) (h6 : Blk V g6 32 y.cells) (hn : g6 ∉ M.bl b) : Calls Try.prog 15 #[.pointer (some ⟨b, 0, none⟩), fnV 16 #[.pointer (some ⟨g6, 0, none⟩)]] V fun e V' => e = .returned (.tuple #[.agg (qd (stX M.W y.ans)).toArray, iv (stC M.W)]) ∧ QR V b (K + 1) M (stW M.W) (stE M.E M.W y.ans) V' := by
  obtain ⟨W, hW⟩ : ∃ W, M.W = W := ⟨_, rfl⟩
  cases W with
  | nil =>
    rw [hW]
    refine (step_none h hW).mono ?_
    rintro e V' ⟨rfl, h1⟩
    exact ⟨rfl, M, (h.more (by omega) hK).below h1, QAfter.same h1, hW, rfl⟩
  | cons x t =>
    have hx : M.W[0]? = some x := by rw [hW]; rfl
    refine (step_const h hx (enters_of Try.func16 (by kernel_rfl) rfl) (cs := #[.pointer (some ⟨g6, 0, none⟩)]) (fun A hk => try16 x y g6 A (hk.blk h6 (fun e => hn (by rw [e]; simp [Qu.bl]))))).mono ?_
    rintro e V' ⟨rfl, v, u, h1, h2⟩
    rw [hW]
    exact ⟨rfl, _, h1.more (by omega) hK, h2, by simp [stW, hW], by simp [stE]⟩
theorem rput_b (h : RQ V wv ev l E) (hl : l.length + 1 ≤ 1000) (x : Int) : Calls Try.prog 12 #[.agg #[wv, ev], iv x] V fun e V' => ∃ wv' ev', e = .returned (.tuple #[.agg #[wv', ev'], iv (putC l x)]) ∧ RR V wv ev (putW l x) E wv' ev' V' := (rput_is h hl x).mono (by
  rintro e V' ⟨wv', rfl, h1, h2, h3⟩
  refine ⟨wv', ev, rfl, h1, h2, fun g hg => ?_, fun g hg => .inl hg⟩
  rcases h3 with rfl | h3
  · exact .inl hg
  · exact .inr (h3 g hg))
theorem rdrop_b (h : RQ V wv ev l E) (hE : E.length + 1 ≤ 3000000000000) (x : Int) : Calls Try.prog 14 #[.agg #[wv, ev], iv x] V fun e V' => ∃ wv' ev', e = .returned (.tuple #[.agg #[wv', ev'], iv (drC l x)]) ∧ RR V wv ev (drW l x) (drE E l x) wv' ev' V' := by
  rcases plc_cases l x with ⟨_, hno⟩ | ⟨k, _, hk, hkf⟩
  · refine (rdrop_no h hno).mono ?_
    rintro e V' ⟨rfl, h1⟩
    rw [show drC l x = 111 by simp [drC, hno], drW_no hno, show drE E l x = E by simp [drE, hno]]
    exact ⟨wv, ev, rfl, h.below h1, h1, fun g hg => .inl hg, fun g hg => .inl hg⟩
  · have hm : x ∈ l := List.mem_of_getElem? hk
    refine (rdrop_yes h hE hk hkf).mono ?_
    rintro e V' ⟨wv', ev', rfl, h1, h2, h3, h4⟩
    rw [show drC l x = 0 by simp [drC, hm], drW_yes hk hkf, show drE E l x = E ++ [(x, 2, 201)] by simp [drE, hm]]
    exact ⟨wv', ev', rfl, h1, h2, fun g hg => .inr (h3 g hg), fun g hg => .inr (h4 g hg)⟩
theorem rstep_b (h : RQ V wv ev l E) (hE : E.length + 1 ≤ 3000000000000) (r : Int) : Calls Try.prog 17 #[.agg #[wv, ev], iv r] V fun e V' => ∃ wv' ev', e = .returned (.tuple #[.agg #[wv', ev'], .agg (qd (stX l r)).toArray, iv (stC l)]) ∧ RR V wv ev (stW l) (stE E l r) wv' ev' V' := by
  cases l with
  | nil =>
    refine (rstep_no h r).mono ?_
    rintro e V' ⟨rfl, h1⟩
    exact ⟨wv, ev, rfl, h.below h1, h1, fun g hg => .inl hg, fun g hg => .inl hg⟩
  | cons x t =>
    refine (rstep_is h hE (x := x) rfl r).mono ?_
    rintro e V' ⟨wv', ev', rfl, h1, h2, h3, h4⟩
    exact ⟨wv', ev', rfl, h1, h2, fun g hg => .inr (h3 g hg), fun g hg => .inr (h4 g hg)⟩
end
/-- where the loop over the document's queue stands -/
structure DI (V W : World) (L : List Nat) (b4 b11 : Nat) (y : Av) (W0 : List Int) (E0 : List (Int × Int × Int)) (s : Nat) (v wv ev : Value) : Prop where
  k4 : Blk W b4 30 [wv, ev]
  rq : RQ W wv ev (W0.drop s) (E0 ++ (dr (ansR y.l) 0 W0).take s)
  k11 : Blk W b11 3 [iv (s : Int)]
  ro : Ow W 38 3 v s (qdC ((dr (ansR y.l) 0 W0).take s))
  kp : Keep (fun k => k = b4 ∨ k = b11) V W
  s1 : ∀ g, blkOf wv = some g → g ≠ b4 ∧ g ≠ b11 ∧ v.ownBlock ≠ some g
  s2 : ∀ g, blkOf ev = some g → g ≠ b4 ∧ g ≠ b11 ∧ v.ownBlock ≠ some g
  s3 : ∀ g, v.ownBlock = some g → V.heap.size ≤ g
  s4 : ∀ g, (blkOf wv = some g ∨ blkOf ev = some g) → g ∉ L
def slen (v : Value) : Nat := match v with
  | .slice _ n _ => n
  | _ => 0
/-- two blocks of unlike types -/
theorem own_ne {w : World} {e sz n b t : Nat} {v : Value} {cs L : List Value} (h : Ow w e sz v n cs) (hb : Blk w b t L) (ht : t ≠ e) : v.ownBlock ≠ some b := by
  intro hg
  rcases h.2 with ⟨rfl, _⟩ | ⟨g', cap, cur, rfl, hB, hb', hr⟩
  · cases hg
  · cases hg
    unfold Blk at hb
    rw [hb] at hb'
    injection hb' with e1
    injection e1 with e2 e3 e4
    exact ht e3
theorem wpList_ne {ops : Array Oper} {rest : List Oper} {o : Oper} {a : Act} {w : World} {Q : Exit → Act → World → Prop} (hg : o.guard = none) (p q : Operand) (x : Int × Int × Int) (hop : o.op = .binOp .neq 38 p q 38) (hx : a.eval p = .agg (qd x).toArray) (hy : a.eval q = .agg (qd x).toArray)
    (h : wpList Try.prog ops Q rest (a.put o.dst (.bool false)) w) : wpList Try.prog ops Q (o :: rest) a w := by
  refine wpList_plain hg fun K hK => ?_
  unfold Oper.wp
  rw [yl_ne w p q x hop hx hy]
  exact hK _ _ h
set_option maxRecDepth 100000 in
set_option maxHeartbeats 8000000 in
theorem plays_law (l : List Av) (a : Option Addr) (n cp0 : Nat) (w : World) (hl : ArgA w a n cp0 l) :
    Calls Try.prog 3 #[.slice a n cp0] w fun e w' => e = .returned (.bool true) ∧ Below w.heap.size w w' := by
  have hz38 := zero38
  have hz32 := zero32
  have hz30 := zero30
  have hz43 : ∀ W : World, (zeroValue 43).run Try.prog W = .ok .nilFunc W := fun W => by kernel_rfl
  have hb30 : ∀ W : World, (Instr.build 30 #[]).run Try.prog W = .ok (.agg #[.slice none 0 0, .slice none 0 0]) W := fun W => by kernel_rfl
  have hmf : ∀ (fn : Fn) (first cap : Array Value) (w : World), (Instr.makeFunc fn first cap).run Try.prog w = .ok (.func fn first cap) w := fun _ _ _ _ => rfl
  have HFEW := few_is l a n cp0 w hl
  have HL : Hid (ArgA w a n cp0 l) := hl
  have HN : Hid (n ≤ 2932031007403) := hl.2.1
  have qn : (n : Int) ≤ 2932031007403 := by have := hl.2.1; omega
  have HLV := fun W => lives_is W
  clear hl
  go_enter Try.func3, Try.ntmps3
  go_wp2_with fail
  refine HFEW.mono ?_
  rintro e w1 ⟨r, rfl, hb1⟩
  have HB1 : Hid (Below w.heap.size w w1) := hb1
  clear HFEW hb1
  cases r with
  | false =>
    have HLW := HLV w1
    go_wp2_with fail
    refine HLW.mono ?_
    rintro e w2 ⟨rfl, hb2⟩
    have HB2 : Hid (Below w.heap.size w w2) := below_tr HB1.out hb2
    clear HLW hb2
    go_wp2_with fail
    go_ret
    exact ⟨rfl, HB2.out⟩
  | true =>
    have HNEW := new_is w1
    go_wp2_with fail
    refine HNEW.mono ?_
    rintro e w2 ⟨rfl, hq0, hb2⟩
    obtain ⟨b, hbb⟩ : ∃ b, w1.heap.size = b := ⟨_, rfl⟩
    rw [hbb] at hq0 ⊢
    obtain ⟨b4, hb4⟩ : ∃ b4, w2.heap.size = b4 := ⟨_, rfl⟩
    have HS0 : Hid (w.heap.size ≤ b ∧ b < b4 ∧ w.heap.size ≤ w2.heap.size) := by
      have h1 := HB1.out.size
      have h2 := hb2.size
      have hlt := hq0.blk.lt
      exact ⟨by omega, by omega, by omega⟩
    have HQ0 : Hid (QAt w2 b ⟨.slice none 0 0, .slice none 0 0, [], []⟩ .nilFunc 0 ∧ Below w.heap.size w w2 ∧ w2.heap.size = b4) := ⟨hq0, below_tr HB1.out hb2, hb4⟩
    clear HNEW hq0 hb2 hbb
    go_wp2_with (with_reducible change wpList _ _ _ ({ dst := none, op := Op.store 30 _ _, type := _, pos := _, after := _, guard := _ } :: _) _ _; refine Hid.out ?_)
    show wpList _ _ _ _ _ _
    refine wpList_store_blk rfl 30 (.tmp 4) _ rfl b4 0 30 [.slice none 0 0, .slice none 0 0] [.slice none 0 0, .slice none 0 0] rfl rfl (by rw [← hb4]; exact Blk.new w2 _ _) (by simp) size30 (by intro u hu; simp at hu; subst hu; rfl) ?_
    intro w3 hb5 hg5
    have hal : Below w2.heap.size w2 w3 := (below_al w2 _).grown hg5.out (below_al w2 _).size (fun j hj => by cases hj; omega)
    have HO0 : Hid (PlI w w3 b b4 ⟨.slice none 0 0, .slice none 0 0, [], []⟩ 0 (.slice none 0 0) (.slice none 0 0) [] []) := by
      refine ⟨HQ0.out.1.below hal, below_tr HQ0.out.2.1 hal, hb5.out, ⟨RV.nil _ _ _, RV.nil _ _ _, by simp, by simp, fun p m c e => by cases e⟩, ?_, by have := HS0.out; omega, ?_, (fun g hg => by cases hg), (fun g hg => by cases hg)⟩
      · intro k hk
        simp [Qu.bl, Value.ownBlock] at hk
        have := HS0.out
        omega
      · intro e
        simp [Qu.bl, Value.ownBlock] at e
        have := HS0.out
        omega
    clear hb5 hg5 hal hb4
    go_wp2
    go_loopw [24] (fun u W => ∃ (i : Nat) (M : Qu) (wv ev : Value), u = iv i ∧ Hid (i ≤ n ∧ PlI w W b b4 M i wv ev M.W M.E)) (fun u _ => n - (intOf u).toNat)
    case atStart => exact ⟨0, _, _, _, rfl, Nat.zero_le _, HO0.out⟩
    case round =>
      obtain ⟨i, M, wv, ev, rfl, HI⟩ := hrel
      by_cases hi : i = n
      · have q1 : (n : Int) ≤ (i : Int) := by omega
        have HLW := HLV wr
        clear hi
        go_wp2_with fail
        refine HLW.mono ?_
        rintro e w9 ⟨rfl, hb9⟩
        have HB9 : Hid (Below w.heap.size w w9) := below_tr HI.out.2.bel hb9
        clear HLW hb9
        go_wp2_with fail
        go_ret
        exact ⟨rfl, HB9.out⟩
      · have HQ : Hid (i < n) := by have := HI.out.1; show _ < _; omega
        have q1 : (i : Int) < (n : Int) := by have := HQ.out; omega
        have q2 : i < n := HQ.out
        obtain ⟨ab, off, ha, hbl, hc⟩ := HL.out.2.2.2 (by omega)
        subst ha
        obtain ⟨x, hx⟩ : ∃ x, l[i]? = some x := ⟨_, List.getElem?_eq_getElem (by rw [HL.out.1]; exact q2)⟩
        have hr : wr.rangeAt ab (off + i * 4) x.cells := rangeAt_same (hc i x hx) (HI.out.2.bel.block ab hbl)
        have HR : Hid (wr.rangeAt ab (off + i * 4) x.cells) := hr
        have HOK : Hid (x.ok w) := HL.out.2.2.1 x (List.mem_of_getElem? hx)
        clear hi hc hx hbl hr
        go_wp2_with (with_reducible change wpList _ _ _ ({ dst := some 27, op := _, type := _, pos := _, after := _, guard := _ } :: _) _ _; refine Hid.out ?_)
        show wpList _ _ _ _ _ _
        refine wpList_load_want rfl 32 (.tmp 26) rfl ab (off + i * 4) rfl x.cells _ HR.out Try.underlying32 rfl size32 ?_
        simp only [Act.put, List.setIfInBounds_toArray, List.set_cons_zero, List.set_cons_succ]
        obtain ⟨g6, hg6'⟩ : ∃ g, wr.heap.size = g := ⟨_, rfl⟩
        go_wp2_with (with_reducible change wpList _ _ _ ({ dst := none, op := Op.store 32 _ _, type := _, pos := _, after := _, guard := _ } :: _) _ _; refine Hid.out ?_)
        show wpList _ _ _ _ _ _
        refine wpList_store_blk rfl 32 (.tmp 6) (.tmp 27) rfl g6 0 32 [iv 0, iv 0, iv 0, .slice none 0 0] x.cells rfl rfl (by rw [← hg6']; exact Blk.new wr _ _) (by simp [Av.cells]) size32 (Av.one x) ?_
        intro V1 hb5' hg6
        have hV : Below wr.heap.size wr V1 := (below_al wr _).grown hg6.out (below_al wr _).size (fun j hj => by cases hj; omega)
        have c0 : V1.cell? ⟨g6, 0, none⟩ = some (iv x.kind) := hb5'.out.cell rfl
        have c1 : V1.cell? ⟨g6, 1, none⟩ = some (iv x.id) := hb5'.out.cell rfl
        have H1 : Hid (PlI w V1 b b4 M i wv ev M.W M.E ∧ Blk V1 g6 32 x.cells ∧ (w.heap.size ≤ g6 ∧ g6 ∉ M.bl b ∧ g6 ≠ b4)) := by
          have h := HI.out.2
          exact ⟨h.below hV, hb5'.out, by have := h.bel.size; omega, fun e => by have := h.q.lt _ e; omega, fun e => by have := h.k4.lt; omega⟩
        have HK : Hid (i + 1 ≤ 3000000000000 ∧ M.W.length ≤ 64 ∧ M.E.length + 1 ≤ 3000000000000) := by
          have h1 := HN.out; have h2 := HQ.out; have h3 := HI.out.2.q.nW; have h4 := HI.out.2.q.nE
          exact ⟨by omega, h3, by omega⟩
        clear hb5' hg6 hV hg6' HR
        by_cases k0 : x.kind = 0
        · have q3 : (x.kind == 0) = true := by simp [k0]
          clear k0
          obtain ⟨c, hc⟩ : ∃ c, putC M.W x.id = c := ⟨_, rfl⟩
          have HPU := put_b H1.out.1.q HK.out.1 x.id
          rw [hc] at HPU
          go_wp2_with fail
          refine HPU.mono ?_
          rintro e V2 ⟨rfl, M2, hq2, ha2, hW2, hE2⟩
          have H2 : Hid (PlI w V2 b b4 M2 (i + 1) wv ev M.W M.E ∧ Blk V2 g6 32 x.cells) := ⟨H1.out.1.call hq2 ha2, ha2.2.blk H1.out.2.1 H1.out.2.2.2.1⟩
          have d1 : V2.cell? ⟨g6, 1, none⟩ = some (iv x.id) := H2.out.2.cell rfl
          have HWE : Hid (M2.W = putW M.W x.id ∧ M2.E = M.E) := ⟨hW2, hE2⟩
          have HR2 := rput_b H2.out.1.rq (by have := HK.out.2.1; omega) x.id
          rw [hc] at HR2
          clear HPU hq2 ha2 hW2 hE2 hc c0 c1
          go_wp2_with (with_reducible change wpList _ _ _ ({ dst := some 61, op := _, type := _, pos := _, after := _, guard := _ } :: _) _ _; refine Hid.out ?_)
          show wpList _ _ _ _ _ _
          refine wpList_load_row rfl 30 (.tmp 4) rfl b4 rfl 30 #[wv, ev] (0, 0) _ H2.out.1.k4 Try.underlying30 rfl size30 ?_
          simp only [Act.put, List.setIfInBounds_toArray, List.set_cons_zero, List.set_cons_succ]
          go_wp2_with fail
          refine HR2.mono ?_
          rintro e V3 ⟨wv3, ev3, rfl, hr3⟩
          have HR3 : Hid (RR V2 wv ev (putW M.W x.id) (M.E) wv3 ev3 V3) := hr3
          clear HR2 hr3 d1
          go_wp2_with (with_reducible change wpList _ _ _ ({ dst := none, op := Op.store 30 _ _, type := _, pos := _, after := _, guard := _ } :: _) _ _; refine Hid.out ?_)
          show wpList _ _ _ _ _ _
          refine wpList_store_blk rfl 30 (.tmp 4) (.tmp 65) rfl b4 0 30 [wv, ev] [wv3, ev3] rfl rfl (H2.out.1.k4.below HR3.out.2.1 H2.out.1.k4.lt) (by simp) size30 (one_rq HR3.out.1) ?_
          intro V4 hb4' hg4
          have HZ : Hid (PlI w V4 b b4 M2 (i + 1) wv3 ev3 M2.W M2.E ∧ Blk V4 g6 32 x.cells) := by
            rw [HWE.out.1, HWE.out.2]
            exact ⟨H2.out.1.rset HR3.out.2.1 HR3.out.1 HR3.out.2.2.1 HR3.out.2.2.2 hg4.out hb4'.out, (H2.out.2.below HR3.out.2.1 H2.out.2.lt).kept hg4.out (fun e => by injection e with e; exact H1.out.2.2.2.2 e)⟩
          clear hb4' hg4
          have HG : Hid (Blk V4 g6 32 x.cells) := HZ.out.2
          obtain ⟨ra, cr, re, ce, hsw, hse⟩ := HZ.out.1.rq.shape
          obtain ⟨m, hm⟩ : ∃ m, M2.W.length = m := ⟨_, rfl⟩
          obtain ⟨k, hk⟩ : ∃ k, M2.E.length = k := ⟨_, rfl⟩
          rw [hm] at hsw
          rw [hk] at hse
          have HPI : Hid (PlI w V4 b b4 M2 (i + 1) (.slice ra m cr) (.slice re k ce) M2.W M2.E) := by rw [← hsw, ← hse]; exact HZ.out.1
          have HM : Hid (M2.W.length = m ∧ M2.E.length = k ∧ m ≤ 1000 ∧ k ≤ 3000000000000) := by
            have h1 := HZ.out.1.q.nW; have h2 := HZ.out.1.q.nE; have h3 := HZ.out.1.q.few
            exact ⟨hm, hk, by omega, by omega⟩
          clear hm hk hsw hse HZ
          go_wp2_with fail
          refine pl33 HPI HG HM ?_
          intro V9 aw9 cw9 ae9 cv9 hV9
          have HF : Hid (PlI w V9 b b4 M2 (i + 1) (.slice ra m cr) (.slice re k ce) M2.W M2.E) := HPI.out.below hV9
          clear hV9
          go_wp2
          go_roundw
          case rel => exact ⟨i + 1, M2, _, _, by simp, HQ.out, HF.out⟩
          case measure =>
            have := HQ.out
            simp only [intOf]
            omega
        · have q3 : (x.kind == 0) = false := by simpa using k0
          clear k0
          by_cases k1 : x.kind = 1
          · have q4 : (x.kind == 1) = true := by simp [k1]
            clear k1
            obtain ⟨c, hc⟩ : ∃ c, drC M.W x.id = c := ⟨_, rfl⟩
            have HPU := drop_b H1.out.1.q HK.out.1 x.id
            rw [hc] at HPU
            go_wp2_with fail
            refine HPU.mono ?_
            rintro e V2 ⟨rfl, M2, hq2, ha2, hW2, hE2⟩
            have H2 : Hid (PlI w V2 b b4 M2 (i + 1) wv ev M.W M.E ∧ Blk V2 g6 32 x.cells) := ⟨H1.out.1.call hq2 ha2, ha2.2.blk H1.out.2.1 H1.out.2.2.2.1⟩
            have d1 : V2.cell? ⟨g6, 1, none⟩ = some (iv x.id) := H2.out.2.cell rfl
            have HWE : Hid (M2.W = drW M.W x.id ∧ M2.E = drE M.E M.W x.id) := ⟨hW2, hE2⟩
            have HR2 := rdrop_b H2.out.1.rq HK.out.2.2 x.id
            rw [hc] at HR2
            clear HPU hq2 ha2 hW2 hE2 hc c0 c1
            go_wp2_with (with_reducible change wpList _ _ _ ({ dst := some 74, op := _, type := _, pos := _, after := _, guard := _ } :: _) _ _; refine Hid.out ?_)
            show wpList _ _ _ _ _ _
            refine wpList_load_row rfl 30 (.tmp 4) rfl b4 rfl 30 #[wv, ev] (0, 0) _ H2.out.1.k4 Try.underlying30 rfl size30 ?_
            simp only [Act.put, List.setIfInBounds_toArray, List.set_cons_zero, List.set_cons_succ]
            go_wp2_with fail
            refine HR2.mono ?_
            rintro e V3 ⟨wv3, ev3, rfl, hr3⟩
            have HR3 : Hid (RR V2 wv ev (drW M.W x.id) (drE M.E M.W x.id) wv3 ev3 V3) := hr3
            clear HR2 hr3 d1
            go_wp2_with (with_reducible change wpList _ _ _ ({ dst := none, op := Op.store 30 _ _, type := _, pos := _, after := _, guard := _ } :: _) _ _; refine Hid.out ?_)
            show wpList _ _ _ _ _ _
            refine wpList_store_blk rfl 30 (.tmp 4) (.tmp 78) rfl b4 0 30 [wv, ev] [wv3, ev3] rfl rfl (H2.out.1.k4.below HR3.out.2.1 H2.out.1.k4.lt) (by simp) size30 (one_rq HR3.out.1) ?_
            intro V4 hb4' hg4
            have HZ : Hid (PlI w V4 b b4 M2 (i + 1) wv3 ev3 M2.W M2.E ∧ Blk V4 g6 32 x.cells) := by
              rw [HWE.out.1, HWE.out.2]
              exact ⟨H2.out.1.rset HR3.out.2.1 HR3.out.1 HR3.out.2.2.1 HR3.out.2.2.2 hg4.out hb4'.out, (H2.out.2.below HR3.out.2.1 H2.out.2.lt).kept hg4.out (fun e => by injection e with e; exact H1.out.2.2.2.2 e)⟩
            clear hb4' hg4
            have HG : Hid (Blk V4 g6 32 x.cells) := HZ.out.2
            obtain ⟨ra, cr, re, ce, hsw, hse⟩ := HZ.out.1.rq.shape
            obtain ⟨m, hm⟩ : ∃ m, M2.W.length = m := ⟨_, rfl⟩
            obtain ⟨k, hk⟩ : ∃ k, M2.E.length = k := ⟨_, rfl⟩
            rw [hm] at hsw
            rw [hk] at hse
            have HPI : Hid (PlI w V4 b b4 M2 (i + 1) (.slice ra m cr) (.slice re k ce) M2.W M2.E) := by rw [← hsw, ← hse]; exact HZ.out.1
            have HM : Hid (M2.W.length = m ∧ M2.E.length = k ∧ m ≤ 1000 ∧ k ≤ 3000000000000) := by
              have h1 := HZ.out.1.q.nW; have h2 := HZ.out.1.q.nE; have h3 := HZ.out.1.q.few
              exact ⟨hm, hk, by omega, by omega⟩
            clear hm hk hsw hse HZ
            go_wp2_with fail
            refine pl33 HPI HG HM ?_
            intro V9 aw9 cw9 ae9 cv9 hV9
            have HF : Hid (PlI w V9 b b4 M2 (i + 1) (.slice ra m cr) (.slice re k ce) M2.W M2.E) := HPI.out.below hV9
            clear hV9
            go_wp2
            go_roundw
            case rel => exact ⟨i + 1, M2, _, _, by simp, HQ.out, HF.out⟩
            case measure =>
              have := HQ.out
              simp only [intOf]
              omega
          · have q4 : (x.kind == 1) = false := by simpa using k1
            clear k1
            by_cases k2 : x.kind = 2
            · have q5 : (x.kind == 2) = true := by simp [k2]
              clear k2
              obtain ⟨c, hc⟩ : ∃ c, stC M.W = c := ⟨_, rfl⟩
              obtain ⟨X, hX⟩ : ∃ X, stX M.W x.ans = X := ⟨_, rfl⟩
              obtain ⟨g9, hg9⟩ : ∃ g, V1.heap.size = g := ⟨_, rfl⟩
              obtain ⟨V2, hV2⟩ : ∃ V, (V1.alloc (.cells #[iv 0, iv 0, iv 0] 38)).alloc (.cells #[iv 0, iv 0, iv 0] 38) = V := ⟨_, rfl⟩
              have hB2 : Below V1.heap.size V1 V2 := by rw [← hV2]; exact ((Below.refl _ V1).alloc (Nat.le_refl _) _).alloc (by simp) _
              have HBX : Hid (Blk V2 g9 38 q0 ∧ Blk V2 (g9 + 1) 38 q0) := by
                refine ⟨by rw [← hV2, ← hg9]; exact (Blk.new V1 _ _).alloc _, ?_⟩
                rw [← hV2, ← hg9]
                have := Blk.new (V1.alloc (.cells #[iv 0, iv 0, iv 0] 38)) #[iv 0, iv 0, iv 0] 38
                rwa [World.size_alloc] at this
              have HG9 : Hid (V1.heap.size = g9) := hg9
              have H2 : Hid (PlI w V2 b b4 M i wv ev M.W M.E ∧ Blk V2 g6 32 x.cells) := ⟨H1.out.1.below hB2, H1.out.2.1.below hB2 H1.out.2.1.lt⟩
              have HN9 : Hid (g9 ∉ M.bl b ∧ g9 + 1 ∉ M.bl b ∧ g6 < g9 ∧ b4 < g9 ∧ w.heap.size ≤ g9) := by
                have h6 := H1.out.2.1.lt
                have h4 := H1.out.1.k4.lt
                have h0 := H1.out.1.bel.size
                exact ⟨fun e => by have := H1.out.1.q.lt _ e; omega, fun e => by have := H1.out.1.q.lt _ e; omega, by omega, by omega, by omega⟩
              have HST := step_b H2.out.1.q HK.out.1 H2.out.2 H1.out.2.2.2.1
              rw [hc, hX] at HST
              clear hB2
              go_wp2_with fail
              refine HST.mono ?_
              rintro e V3 ⟨rfl, M3, hq3, ha3, hW3, hE3⟩
              have H3 : Hid (PlI w V3 b b4 M3 (i + 1) wv ev M.W M.E ∧ Blk V3 g6 32 x.cells ∧ Blk V3 g9 38 q0 ∧ Blk V3 (g9 + 1) 38 q0) := ⟨H2.out.1.call hq3 ha3, ha3.2.blk H2.out.2 H1.out.2.2.2.1, ha3.2.blk HBX.out.1 HN9.out.1, ha3.2.blk HBX.out.2 HN9.out.2.1⟩
              have HBN : Hid (∀ k ∈ M3.bl b, k ≠ g9 ∧ k ≠ g9 + 1) := fun k hk => by
                have h1 := HBX.out.2.lt
                rcases ha3.1 k hk with e | e
                · exact ⟨fun e' => HN9.out.1 (by rw [← e']; exact e), fun e' => HN9.out.2.1 (by rw [← e']; exact e)⟩
                · exact ⟨by omega, by omega⟩
              have HWE : Hid (M3.W = stW M.W ∧ M3.E = stE M.E M.W x.ans) := ⟨hW3, hE3⟩
              clear HST hq3 ha3 hW3 hE3 c0 c1 hg9
              go_wp2_with (with_reducible change wpList _ _ _ ({ dst := none, op := Op.store 38 _ _, type := _, pos := _, after := _, guard := _ } :: _) _ _; refine Hid.out ?_)
              show wpList _ _ _ _ _ _
              refine wpList_store_blk rfl 38 (.tmp 9) (.tmp 86) rfl g9 0 38 q0 (qd X) rfl rfl H3.out.2.2.1 (by simp [qd, q0]) size38 (qd_one X) ?_
              intro V4 hb4' hg4
              have hk4 : Keep (fun j => j = g9) V3 V4 := Keep.grown hg4.out rfl
              have HX4 : Hid (Blk V4 g9 38 (qd X) ∧ Blk V4 (g9 + 1) 38 q0 ∧ Blk V4 g6 32 x.cells) := ⟨by simpa [qd, q0] using hb4'.out, H3.out.2.2.2.kept hg4.out (by simp), H3.out.2.1.kept hg4.out (fun e => by injection e with e; have := HN9.out; omega)⟩
              have HP4 : Hid (PlI w V4 b b4 M3 (i + 1) wv ev M.W M.E) := by
                have h := H3.out.1
                have hn := HN9.out
                have e1 := HG9.out
                refine ⟨h.q.keep hk4 (fun k hk e => (HBN.out k hk).1 e), h.bel.grown hg4.out h.bel.size (fun j hj => by cases hj; omega), hk4.blk h.k4 (by omega), h.rq.keep hk4 (fun g hg e => ?_) (fun g hg e => ?_), h.old, h.o4, h.s1, h.s2, h.s3⟩
                · have := H1.out.1.rq.wr.lt hg; omega
                · have := H1.out.1.rq.er.lt hg; omega
              have d2 : V4.cell? ⟨g6, 2, none⟩ = some (iv x.ans) := HX4.out.2.2.cell rfl
              have HR4 := rstep_b HP4.out.rq HK.out.2.2 x.ans
              rw [hc, hX] at HR4
              clear hb4' hg4 hk4 hX hc
              go_wp2_with (with_reducible change wpList _ _ _ ({ dst := some 89, op := _, type := _, pos := _, after := _, guard := _ } :: _) _ _; refine Hid.out ?_)
              show wpList _ _ _ _ _ _
              refine wpList_load_row rfl 30 (.tmp 4) rfl b4 rfl 30 #[wv, ev] (0, 0) _ HP4.out.k4 Try.underlying30 rfl size30 ?_
              simp only [Act.put, List.setIfInBounds_toArray, List.set_cons_zero, List.set_cons_succ]
              go_wp2_with fail
              refine HR4.mono ?_
              rintro e V5 ⟨wv5, ev5, rfl, hr5⟩
              have HR5 : Hid (RR V4 wv ev (stW M.W) (stE M.E M.W x.ans) wv5 ev5 V5) := hr5
              have HX5 : Hid (Blk V5 g9 38 (qd X) ∧ Blk V5 (g9 + 1) 38 q0 ∧ Blk V5 g6 32 x.cells) := ⟨HX4.out.1.below hr5.2.1 HX4.out.1.lt, HX4.out.2.1.below hr5.2.1 HX4.out.2.1.lt, HX4.out.2.2.below hr5.2.1 HX4.out.2.2.lt⟩
              clear HR4 hr5 d2
              go_wp2_with (with_reducible change wpList _ _ _ ({ dst := none, op := Op.store 30 _ _, type := _, pos := _, after := _, guard := _ } :: _) _ _; refine Hid.out ?_)
              show wpList _ _ _ _ _ _
              refine wpList_store_blk rfl 30 (.tmp 4) (.tmp 93) rfl b4 0 30 [wv, ev] [wv5, ev5] rfl rfl (HP4.out.k4.below HR5.out.2.1 HP4.out.k4.lt) (by simp) size30 (one_rq HR5.out.1) ?_
              intro V6 hb6' hg6'
              have HP6 : Hid (PlI w V6 b b4 M3 (i + 1) wv5 ev5 M3.W M3.E) := by
                rw [HWE.out.1, HWE.out.2]
                exact HP4.out.rset HR5.out.2.1 HR5.out.1 HR5.out.2.2.1 HR5.out.2.2.2 hg6'.out hb6'.out
              have HX6 : Hid (Blk V6 g9 38 (qd X) ∧ Blk V6 (g9 + 1) 38 q0 ∧ Blk V6 g6 32 x.cells) := ⟨HX5.out.1.kept hg6'.out (fun e => by injection e with e; have := HN9.out; omega), HX5.out.2.1.kept hg6'.out (fun e => by injection e with e; have := HN9.out; omega), HX5.out.2.2.kept hg6'.out (fun e => by injection e with e; exact H1.out.2.2.2.2 e)⟩
              have HBR : Hid ((∀ g, blkOf wv5 = some g → g ≠ g9 + 1) ∧ ∀ g, blkOf ev5 = some g → g ≠ g9 + 1) := by
                have e1 := HG9.out
                have h1 := HX4.out.2.1.lt
                refine ⟨fun g hg => ?_, fun g hg => ?_⟩
                · rcases HR5.out.2.2.1 g hg with e | e
                  · have := H1.out.1.rq.wr.lt e; omega
                  · omega
                · rcases HR5.out.2.2.2 g hg with e | e
                  · have := H1.out.1.rq.er.lt e; omega
                  · omega
              clear hb6' hg6'
              go_wp2_with (with_reducible change wpList _ _ _ ({ dst := none, op := Op.store 38 _ _, type := _, pos := _, after := _, guard := _ } :: _) _ _; refine Hid.out ?_)
              show wpList _ _ _ _ _ _
              refine wpList_store_blk rfl 38 (.tmp 10) (.tmp 94) rfl (g9 + 1) 0 38 q0 (qd X) rfl rfl HX6.out.2.1 (by simp [qd, q0]) size38 (qd_one X) ?_
              intro V7 hb7' hg7'
              have hk7 : Keep (fun j => j = g9 + 1) V6 V7 := Keep.grown hg7'.out rfl
              have HX7 : Hid (Blk V7 g9 38 (qd X) ∧ Blk V7 (g9 + 1) 38 (qd X)) := ⟨HX6.out.1.kept hg7'.out (by simp), by simpa [qd, q0] using hb7'.out⟩
              have HZ : Hid (PlI w V7 b b4 M3 (i + 1) wv5 ev5 M3.W M3.E ∧ Blk V7 g6 32 x.cells) := by
                have h := HP6.out
                have hn := HN9.out
                refine ⟨⟨h.q.keep hk7 (fun k hk e => (HBN.out k hk).2 e), h.bel.grown hg7'.out h.bel.size (fun j hj => by cases hj; omega), hk7.blk h.k4 (by omega), h.rq.keep hk7 (fun g hg e => HBR.out.1 g hg e) (fun g hg e => HBR.out.2 g hg e), h.old, h.o4, h.s1, h.s2, h.s3⟩, hk7.blk HX6.out.2.2 (by omega)⟩
              clear hb7' hg7' hk7
              go_wp2_with (with_reducible change wpList _ _ _ ({ dst := some 96, op := _, type := _, pos := _, after := _, guard := _ } :: _) _ _; refine Hid.out ?_)
              show wpList _ _ _ _ _ _
              refine wpList_load_row rfl 38 (.tmp 9) rfl g9 rfl 38 (qd X).toArray (0, 0) _ HX7.out.1 Try.underlying38 rfl size38 ?_
              simp only [Act.put, List.setIfInBounds_toArray, List.set_cons_zero, List.set_cons_succ]
              refine wpList_load_row rfl 38 (.tmp 10) rfl (g9 + 1) rfl 38 (qd X).toArray (0, 0) _ HX7.out.2 Try.underlying38 rfl size38 ?_
              simp only [Act.put, List.setIfInBounds_toArray, List.set_cons_zero, List.set_cons_succ]
              refine wpList_ne rfl (.tmp 96) (.tmp 97) X rfl rfl rfl ?_
              simp only [Act.put, List.setIfInBounds_toArray, List.set_cons_zero, List.set_cons_succ]
              have HG : Hid (Blk V7 g6 32 x.cells) := HZ.out.2
              obtain ⟨ra, cr, re, ce, hsw, hse⟩ := HZ.out.1.rq.shape
              obtain ⟨m, hm⟩ : ∃ m, M3.W.length = m := ⟨_, rfl⟩
              obtain ⟨k, hk⟩ : ∃ k, M3.E.length = k := ⟨_, rfl⟩
              rw [hm] at hsw
              rw [hk] at hse
              have HPI : Hid (PlI w V7 b b4 M3 (i + 1) (.slice ra m cr) (.slice re k ce) M3.W M3.E) := by rw [← hsw, ← hse]; exact HZ.out.1
              have HM : Hid (M3.W.length = m ∧ M3.E.length = k ∧ m ≤ 1000 ∧ k ≤ 3000000000000) := by
                have h1 := HZ.out.1.q.nW; have h2 := HZ.out.1.q.nE; have h3 := HZ.out.1.q.few
                exact ⟨hm, hk, by omega, by omega⟩
              clear hm hk hsw hse HZ
              go_wp2_with fail
              refine pl33 HPI HG HM ?_
              intro V9 aw9 cw9 ae9 cv9 hV9
              have HF : Hid (PlI w V9 b b4 M3 (i + 1) (.slice ra m cr) (.slice re k ce) M3.W M3.E) := HPI.out.below hV9
              clear hV9
              go_wp2
              go_roundw
              case rel => exact ⟨i + 1, M3, _, _, by simp, HQ.out, HF.out⟩
              case measure =>
                have := HQ.out
                simp only [intOf]
                omega
            · have q5 : (x.kind == 2) = false := by simpa using k2
              clear k2
              obtain ⟨b11, hb11⟩ : ∃ g, V1.heap.size = g := ⟨_, rfl⟩
              obtain ⟨V2, hV2⟩ : ∃ V, (V1.alloc (.cells #[iv 0] 3)).alloc (.cells #[.nilFunc] 43) = V := ⟨_, rfl⟩
              have hB2 : Below V1.heap.size V1 V2 := by rw [← hV2]; exact ((Below.refl _ V1).alloc (Nat.le_refl _) _).alloc (by simp) _
              have k11 : Blk V2 b11 3 [iv 0] := by rw [← hV2, ← hb11]; exact (Blk.new V1 _ _).alloc _
              have k12 : Blk V2 (b11 + 1) 43 [.nilFunc] := by
                rw [← hV2, ← hb11]
                have := Blk.new (V1.alloc (.cells #[iv 0] 3)) #[.nilFunc] 43
                rwa [World.size_alloc] at this
              have hst := store_fn (v := fnV 18 #[.pointer (some ⟨b11, 0, none⟩), .pointer (some ⟨g6, 0, none⟩)]) rfl (k12.cell rfl : V2.cell? ⟨b11 + 1, 0, none⟩ = some .nilFunc) (k12.free 0)
              obtain ⟨V3, hV3⟩ : ∃ V, V2.setCell ⟨b11 + 1, 0, none⟩ (fnV 18 #[.pointer (some ⟨b11, 0, none⟩), .pointer (some ⟨g6, 0, none⟩)]) = V := ⟨_, rfl⟩
              have hB3 : Below V1.heap.size V1 V3 := by
                rw [← hV3]
                exact hB2.grown (grown_setCell _ _ _ _) hB2.size (fun j hj => by cases hj; omega)
              have H3 : Hid (PlI w V3 b b4 M i wv ev M.W M.E ∧ Blk V3 b11 3 [iv 0] ∧ Blk V3 (b11 + 1) 43 [fnV 18 #[.pointer (some ⟨b11, 0, none⟩), .pointer (some ⟨g6, 0, none⟩)]] ∧ Blk V3 g6 32 x.cells ∧ V1.heap.size = b11) := by
                refine ⟨H1.out.1.below hB3, ?_, ?_, H1.out.2.1.below hB3 H1.out.2.1.lt, hb11⟩
                · rw [← hV3]; exact k11.other (by simp) _
                · rw [← hV3]; exact k12.set 0 _
              have HLT : Hid (g6 < b11 ∧ b4 < b11 ∧ (∀ k ∈ M.bl b, k < b11) ∧ w.heap.size ≤ b11) := by
                have h6 := H1.out.2.1.lt
                have h4 := H1.out.1.k4.lt
                have h0 := H1.out.1.bel.size
                exact ⟨by omega, by omega, fun k hk => by have := H1.out.1.q.lt _ hk; omega, by omega⟩
              have HAR : Hid (ArgN V3 x.sa x.sn x.sc x.l ∧ ∀ k, w.heap.size ≤ k → AwayA x k) := by
                have ha := HOK.out.2.2.2.1
                refine ⟨ha.below (below_tr H1.out.1.bel hB3), fun k hk hp o e => ?_⟩
                obtain ⟨g, o', f1, f2, _⟩ := ha.2.2.2.2 hp
                rw [f1] at e
                cases e
                omega
              have HDR := drain_all (g6 := g6) (y := x) H3.out.1.q H3.out.2.1 H3.out.2.2.1 H3.out.2.2.2.1 HAR.out.1 (fun k hk => ⟨by have := HLT.out.2.2.1 k hk; omega, by have := HLT.out.2.2.1 k hk; omega, fun e => H1.out.2.2.2.1 (by rw [← e]; exact hk), HAR.out.2 k (H1.out.1.old k hk)⟩) ⟨by omega, by have := HLT.out; omega, HAR.out.2 _ HLT.out.2.2.2⟩ HK.out.2.1
              clear hB2 hB3 k11 k12
              go_wp2_with fail
              refine HDR.mono ?_
              rintro e V4 ⟨tv, M4, rfl, hq4, hW4, hE4, htv4, hk4, hbl4, k114⟩
              obtain ⟨nw, hnw⟩ : ∃ nw, M.W.length = nw := ⟨_, rfl⟩
              rw [hnw] at htv4 k114
              have c11 : V4.cell? ⟨b11, 0, none⟩ = some (iv (nw : Int)) := k114.cell rfl
              have f11 : V4.frozen? ⟨b11, 0, none⟩ = false := k114.free 0
              obtain ⟨V5, hV5⟩ : ∃ V, V4.setCell ⟨b11, 0, none⟩ (iv 0) = V := ⟨_, rfl⟩
              have hk5 : Keep (fun k => k = b11) V4 V5 := by rw [← hV5]; exact Keep.grown (grown_setCell _ _ _ _) rfl
              have hn11 : ∀ k ∈ M4.bl b, k ≠ b11 := fun k hk => by
                have h3 := H3.out.2.1.lt
                rcases hbl4 k hk with e | e
                · have := HLT.out.2.2.1 k e; omega
                · omega
              have hkA : Keep (fun k => k ∈ M.bl b ∨ k = b11) V3 V5 := hk4.trans (hk5.mono (T := fun k => k ∈ M.bl b ∨ k = b11) (fun j _ hj => .inr hj)) (fun _ hj _ => hj)
              have hw11 : ∀ g, blkOf wv = some g → g < b11 ∧ g ≠ b4 ∧ g ∉ M.bl b := fun g hg => ⟨by have := H1.out.1.rq.wr.lt hg; have := H3.out.2.2.2.2; omega, H1.out.1.s2 g hg⟩
              have he11 : ∀ g, blkOf ev = some g → g < b11 ∧ g ≠ b4 ∧ g ∉ M.bl b := fun g hg => ⟨by have := H1.out.1.rq.er.lt hg; have := H3.out.2.2.2.2; omega, H1.out.1.s3 g hg⟩
              have HV5 : Hid (QAt V5 b M4 .nilFunc i ∧ Below w.heap.size w V5 ∧ Blk V5 b4 30 [wv, ev] ∧ RQ V5 wv ev M.W M.E ∧ Blk V5 b11 3 [iv 0]) := by
                refine ⟨hq4.keep hk5 (fun k hk e => hn11 k hk e), ?_, hkA.blk H3.out.1.k4 (fun e => ?_), H3.out.1.rq.keep hkA (fun g hg e => ?_) (fun g hg e => ?_), ?_⟩
                · exact H3.out.1.bel.trans (hkA.toBelow H3.out.1.bel.size (fun k hk => by
                    rcases hk with e | e
                    · exact H1.out.1.old k e
                    · have := HLT.out.2.2.2; omega))
                · rcases e with e | e
                  · exact H1.out.1.s1 e
                  · have := HLT.out; omega
                · have h := hw11 g hg
                  rcases e with e | e
                  · exact h.2.2 e
                  · omega
                · have h := he11 g hg
                  rcases e with e | e
                  · exact h.2.2 e
                  · omega
                · rw [← hV5]; exact k114.set 0 _
              have HW5 : Hid (Blk V5 (b11 + 1) 43 [fnV 18 #[.pointer (some ⟨b11, 0, none⟩), .pointer (some ⟨g6, 0, none⟩)]] ∧ Blk V5 g6 32 x.cells ∧ ArgN V5 x.sa x.sn x.sc x.l ∧ Ow V5 38 3 tv nw (qdC (dr (ansR x.l) 0 M.W))) := by
                refine ⟨hkA.blk H3.out.2.2.1 (fun e => ?_), hkA.blk H3.out.2.2.2.1 (fun e => ?_), argN_same HAR.out.1 (fun hp g o e hg => ?_) hkA.size, htv4.same fun g hg => ?_⟩
                · rcases e with e | e
                  · have := HLT.out.2.2.1 _ e; omega
                  · omega
                · rcases e with e | e
                  · exact H1.out.2.2.2.1 e
                  · have := HLT.out; omega
                · refine hkA.block g hg (fun e' => ?_)
                  rcases e' with e' | e'
                  · exact HAR.out.2 g (H1.out.1.old g e') hp o e
                  · exact HAR.out.2 g (by have := HLT.out; omega) hp o e
                · exact hk5.block g (htv4.lt hg) (fun e => own_ne htv4 k114 (by decide) (by rw [hg, e]))
              have HM4 : Hid (M4.W = [] ∧ M4.E = M.E ++ dr (ansR x.l) 0 M.W ∧ (∀ k ∈ M4.bl b, k ≠ b11 ∧ k ≠ b4 ∧ w.heap.size ≤ k) ∧ M.W.length = nw ∧ nw ≤ 64 ∧ (∀ g, blkOf wv = some g → g ∉ M4.bl b) ∧ (∀ g, blkOf ev = some g → g ∉ M4.bl b)) := by
                have h3 := H3.out.2.1.lt
                have h0 := H3.out.1.bel.size
                refine ⟨hW4, hE4, fun k hk => ⟨hn11 k hk, fun e => ?_, ?_⟩, hnw, by have := HK.out.2.1; omega, fun g hg e => ?_, fun g hg e => ?_⟩
                · rcases hbl4 k hk with e' | e'
                  · exact H1.out.1.s1 (by rw [← e]; exact e')
                  · have := H3.out.1.k4.lt; omega
                · rcases hbl4 k hk with e' | e'
                  · exact H1.out.1.old k e'
                  · omega
                · have h := hw11 g hg
                  rcases hbl4 g e with e' | e'
                  · exact h.2.2 e'
                  · omega
                · have h := he11 g hg
                  rcases hbl4 g e with e' | e'
                  · exact h.2.2 e'
                  · omega
              have HD0 : Hid (DI V5 V5 (M4.bl b) b4 b11 x M.W M.E 0 (.slice none 0 0) wv ev) := by
                refine ⟨HV5.out.2.2.1, by simpa using HV5.out.2.2.2.1, HV5.out.2.2.2.2, by simpa [qdC] using Ow.nil V5 38 3, Keep.refl _ _, fun g hg => ⟨(hw11 g hg).2.1, by have := (hw11 g hg).1; omega, fun e => by cases e⟩, fun g hg => ⟨(he11 g hg).2.1, by have := (he11 g hg).1; omega, fun e => by cases e⟩, (fun g hg => by cases hg), fun g hg => hg.elim (HM4.out.2.2.2.2.2.1 g) (HM4.out.2.2.2.2.2.2 g)⟩
              have HAP : Hid (b4 ≠ b11 ∧ b11 + 1 < V5.heap.size ∧ g6 < b11 ∧ b4 < b11) := ⟨by have := HLT.out; omega, HW5.out.1.lt, HLT.out.1, HLT.out.2.1⟩
              clear HDR hq4 hW4 hE4 htv4 hk4 hbl4 k114 hnw hk5 hn11 hkA hw11 he11 hst hV2 hV3 hb11 c0 c1
              obtain ⟨wo, hwo⟩ : ∃ wo, wr = wo := ⟨_, rfl⟩
              subst hwo
              go_wp2
              go_loopw [14] (fun u W => ∃ (s : Nat) (av : Option Addr) (cv : Nat) (wv2 ev2 : Value), u = .slice av s cv ∧ Hid (s ≤ nw ∧ DI V5 W (M4.bl b) b4 b11 x M.W M.E s (.slice av s cv) wv2 ev2)) (fun u _ => nw - slen u)
              case atStart => exact ⟨0, none, 0, wv, ev, rfl, Nat.zero_le _, HD0.out⟩
              case round =>
                obtain ⟨s, av, cv, wv2, ev2, rfl, HJ⟩ := hrel
                obtain ⟨ra, cr, re, ce, hsw, hse⟩ := HJ.out.2.rq.shape
                obtain ⟨m, hm⟩ : ∃ m, (M.W.drop s).length = m := ⟨_, rfl⟩
                obtain ⟨k, hk⟩ : ∃ k, (M.E ++ (dr (ansR x.l) 0 M.W).take s).length = k := ⟨_, rfl⟩
                rw [hm] at hsw
                rw [hk] at hse
                subst hsw
                subst hse
                have c4 : wr.cell? ⟨b4, 0, none⟩ = some (.slice ra m cr) := HJ.out.2.k4.cell rfl
                have hms : m = nw - s := by rw [← hm, List.length_drop, HM4.out.2.2.2.1]
                have hdl : (dr (ansR x.l) 0 M.W).length = nw := by rw [dr_len]; exact HM4.out.2.2.2.1
                have hkk : k ≤ i := by
                  rw [← hk, List.length_append, List.length_take]
                  have h1 := HI.out.2.q.nE
                  have h2 := HM4.out.2.2.2.1
                  omega
                have HKK : Hid (m = nw - s ∧ k ≤ i ∧ (dr (ansR x.l) 0 M.W).length = nw ∧ (M.W.drop s).length = m ∧ (M.E ++ (dr (ansR x.l) 0 M.W).take s).length = k) := ⟨hms, hkk, hdl, hm, hk⟩
                by_cases hs : s = nw
                · have hm0 : m = 0 := by omega
                  subst hm0
                  have HSN : Hid (s = nw) := hs
                  have HSM : Hid (Calls Try.prog 21 #[tv, .slice av s cv] wr fun e V' => e = .returned (.bool true) ∧ Below wr.heap.size wr V') := by
                    have h := HJ.out.2
                    have hro := h.ro
                    have ht : Ow wr 38 3 tv nw (qdC (dr (ansR x.l) 0 M.W)) := HW5.out.2.2.2.same fun g hg => h.kp.block g (HW5.out.2.2.2.lt hg) (fun e => by
                      rcases e with e | e
                      · exact own_ne HW5.out.2.2.2 HV5.out.2.2.1 (by decide) (by rw [hg, e])
                      · exact own_ne HW5.out.2.2.2 HV5.out.2.2.2.2 (by decide) (by rw [hg, e]))
                    rw [List.take_of_length_le (by omega)] at hro
                    subst hs
                    exact same_at (RV.own ht (qdC_one _)).1 (RV.own hro (qdC_one _)).1 hdl (by have := HM4.out.2.2.2.2.1; omega)
                  clear hs hms hdl hkk hm hk
                  have HSM' := HSM.out
                  go_wp2_with fail
                  refine HSM'.mono ?_
                  rintro e V6 ⟨rfl, hb6⟩
                  have HZ : Hid (PlI w V6 b b4 M4 (i + 1) (.slice ra 0 cr) (.slice re k ce) M4.W M4.E ∧ Blk V6 g6 32 x.cells) := by
                    have h := HJ.out.2
                    have hr := h.rq
                    rw [HSN.out, List.drop_of_length_le (by have := HM4.out.2.2.2.1; omega), List.take_of_length_le (by have := HKK.out.2.2.1; omega)] at hr
                    have hS : ∀ k' ∈ M4.bl b, ¬ (k' = b4 ∨ k' = b11) := fun k' hk' e => by
                      have := HM4.out.2.2.1 k' hk'
                      rcases e with e | e <;> omega
                    have hW5s : w.heap.size ≤ V5.heap.size := HV5.out.2.1.size
                    have hP : PlI w wr b b4 M4 (i + 1) (.slice ra 0 cr) (.slice re k ce) M4.W M4.E := by
                      rw [HM4.out.1, HM4.out.2.1]
                      refine ⟨(HV5.out.1.more (by omega) HK.out.1).keep h.kp hS, ?_, h.k4, hr, fun k' hk' => (HM4.out.2.2.1 k' hk').2.2, H1.out.1.o4, fun e => (HM4.out.2.2.1 _ e).2.1 rfl, ?_, ?_⟩
                      · exact HV5.out.2.1.trans (h.kp.toBelow hW5s (fun k' e => by
                          rcases e with e | e
                          · rw [e]; exact H1.out.1.o4
                          · have := HLT.out; omega))
                      · exact fun g hg => ⟨(h.s1 g hg).1, fun e => (h.s4 g (.inl hg)) e⟩
                      · exact fun g hg => ⟨(h.s2 g hg).1, fun e => (h.s4 g (.inr hg)) e⟩
                    refine ⟨hP.below hb6, (h.kp.blk HW5.out.2.1 (fun e => ?_)).below hb6 (Nat.lt_of_lt_of_le HW5.out.2.1.lt h.kp.size)⟩
                    rcases e with e | e
                    · exact H1.out.2.2.2.2 e
                    · have := HAP.out; omega
                  clear hb6 HSM' HSM c4
                  have HG : Hid (Blk V6 g6 32 x.cells) := HZ.out.2
                  have HPI : Hid (PlI w V6 b b4 M4 (i + 1) (.slice ra 0 cr) (.slice re k ce) M4.W M4.E) := HZ.out.1
                  have HM : Hid (M4.W.length = 0 ∧ M4.E.length = k ∧ 0 ≤ 1000 ∧ k ≤ 3000000000000) := by
                    refine ⟨by rw [HM4.out.1]; rfl, ?_, by omega, by have h1 := HKK.out.2.1; have h2 := HK.out.1; omega⟩
                    have h := HKK.out.2.2.2.2
                    rw [HM4.out.2.1, ← h, List.take_of_length_le (by have h1 := HKK.out.2.2.1; have h2 := HSN.out; omega)]
                  go_wp2_with fail
                  refine pl33 HPI HG HM ?_
                  intro V9 aw9 cw9 ae9 cv9 hV9
                  have HF : Hid (PlI w V9 b b4 M4 (i + 1) (.slice ra 0 cr) (.slice re k ce) M4.W M4.E) := HPI.out.below hV9
                  clear hV9
                  go_wp2
                  go_roundw
                  case rel => exact ⟨i + 1, M4, _, _, by simp, HQ.out, HF.out⟩
                  case measure =>
                    have := HQ.out
                    simp only [intOf]
                    omega
                · have HSN : Hid (s < nw) := by have := HJ.out.1; show _ < _; omega
                  have q6 : (0 : Int) < (m : Int) := by have := HSN.out; omega
                  have q7 : (m : Int) ≤ 64 := by have := HM4.out.2.2.2.2.1; omega
                  obtain ⟨xx, hxx⟩ : ∃ xx, M.W[s]? = some xx := ⟨_, List.getElem?_eq_getElem (by rw [HM4.out.2.2.2.1]; exact HSN.out)⟩
                  obtain ⟨r, hr0⟩ : ∃ r, ansR x.l s = r := ⟨_, rfl⟩
                  obtain ⟨X, hX⟩ : ∃ X, (xx, hw r, r) = X := ⟨_, rfl⟩
                  obtain ⟨b15, hb15⟩ : ∃ g, wr.heap.size = g := ⟨_, rfl⟩
                  obtain ⟨A, hA⟩ : ∃ A, wr.alloc (.cells #[iv 0, iv 0, iv 0] 38) = A := ⟨_, rfl⟩
                  have hBA : Below wr.heap.size wr A := by rw [← hA]; exact below_al _ _
                  have hx0 : (M.W.drop s)[0]? = some xx := by rw [List.getElem?_drop]; exact hxx
                  have hk12 : Blk wr (b11 + 1) 43 [fnV 18 #[.pointer (some ⟨b11, 0, none⟩), .pointer (some ⟨g6, 0, none⟩)]] := HJ.out.2.kp.blk HW5.out.1 (fun e => by have := HAP.out; rcases e with e | e <;> omega)
                  have hk6 : Blk wr g6 32 x.cells := HJ.out.2.kp.blk HW5.out.2.1 (fun e => by
                    have := HAP.out
                    rcases e with e | e
                    · exact H1.out.2.2.2.2 e
                    · omega)
                  have harg : ArgN wr x.sa x.sn x.sc x.l := argN_same HW5.out.2.2.1 (fun hp g o e hg => HJ.out.2.kp.block g hg (fun e' => by
                    rcases e' with e' | e'
                    · exact HAR.out.2 g (by rw [e']; exact H1.out.1.o4) hp o e
                    · exact HAR.out.2 g (by have := HLT.out; omega) hp o e)) HJ.out.2.kp.size
                  have l4 := HJ.out.2.k4.lt
                  have l11 := HJ.out.2.k11.lt
                  have HL17 : Hid (b11 + 1 < A.heap.size ∧ ¬ (b11 + 1 = b11 ∨ b11 + 1 = b4 ∨ b11 + 1 = b15) ∧ b4 ≠ b11 ∧ b15 ≠ b11 ∧ b4 ≠ b15) := by
                    have h1 := hk12.lt
                    have h2 := hBA.size
                    have h3 := HAP.out
                    exact ⟨by omega, by omega, by omega, by omega, by omega⟩
                  have k12A : A.cell? ⟨b11 + 1, 0, none⟩ = some (.func (.func 18) #[] #[.pointer (some ⟨b11, 0, none⟩), .pointer (some ⟨g6, 0, none⟩)]) := (hk12.below hBA hk12.lt).cell rfl
                  have HX17 : Hid (Blk A b4 30 [.slice ra m cr, .slice re k ce] ∧ Blk A b15 38 q0) := ⟨HJ.out.2.k4.below hBA l4, by rw [← hA, ← hb15]; exact Blk.new wr _ _⟩
                  have hBD : Below wr.heap.size wr A.drew := below_tr hBA (below_drew0 A)
                  have HT17 := ans18 (A := A.drew) (b11 := b11) (g6 := g6) (s := s) (y := x) (HJ.out.2.k11.below hBD l11) (hk6.below hBD hk6.lt) (harg.below hBD) (by have := HM4.out.2.2.2.2.1; have := HSN.out; omega) (by have := HAP.out; omega) (fun hp b' o e e' => HAR.out.2 b' (by have := HLT.out; omega) hp o e)
                  rw [hr0] at HT17
                  have HU17 : Hid (∀ V, Keep (fun j => j = b11) A.drew V → Calls Try.prog 17 #[.agg #[.slice ra m cr, .slice re k ce], iv r] V fun e V' => ∃ wv1 ev1, e = .returned (.tuple #[.agg #[wv1, ev1], .agg (qd X).toArray, iv 0]) ∧ REndP V ((M.W.drop s).eraseIdx 0) ((M.E ++ (dr (ansR x.l) 0 M.W).take s) ++ [X]) wv1 ev1 V') := fun V hV => by
                    have h := rstep_is (((HJ.out.2.rq.below hBA).below (below_drew0 A)).keep hV (fun g hg e => (HJ.out.2.s1 g hg).2.1 e) (fun g hg e => (HJ.out.2.s2 g hg).2.1 e)) (by have h1 := HKK.out.2.2.2.2; have h2 := HKK.out.2.1; have h3 := HK.out.1; omega) hx0 r
                    rw [hX] at h
                    exact h
                  have HXX : Hid (M.W[s]? = some xx ∧ ansR x.l s = r ∧ (xx, hw r, r) = X) := ⟨hxx, hr0, hX⟩
                  have HBA : Hid (Below wr.heap.size wr A ∧ wr.heap.size = b15 ∧ A.heap.size = b15 + 1) := ⟨hBA, hb15, by rw [← hA]; simp [hb15]⟩
                  clear hs hms hdl hkk hm hk hxx hr0 hX hBA hBD hx0 hk12 hk6 harg l4 l11
                  go_wp2_with fail
                  refine pl17 HL17 k12A HX17 HT17 HU17 ?_
                  intro V6 V7 V8 wv1 ev1 hk6 hb6 hre hk8 hb8
                  clear hb15
                  have e0 : V8.cell? ⟨b15, 0, none⟩ = some (iv X.1) := hb8.2.cell rfl
                  have e1 : V8.cell? ⟨b15, 1, none⟩ = some (iv X.2.1) := hb8.2.cell rfl
                  have e2 : V8.cell? ⟨b15, 2, none⟩ = some (iv X.2.2) := hb8.2.cell rfl
                  have HC : Hid (Keep (fun j => j = b11) A.drew V6 ∧ Blk V6 b11 3 [iv ((s : Int) + 1)] ∧ REndP V6 ((M.W.drop s).eraseIdx 0) ((M.E ++ (dr (ansR x.l) 0 M.W).take s) ++ [X]) wv1 ev1 V7 ∧ Keep (fun j => j = b4 ∨ j = b15) V7 V8 ∧ Blk V8 b4 30 [wv1, ev1]) := ⟨hk6, hb6, hre, hk8, hb8.1⟩
                  have HSZ : Hid (V5.heap.size ≤ wr.heap.size ∧ wr.heap.size = b15 ∧ b15 + 1 ≤ V6.heap.size ∧ V6.heap.size ≤ V7.heap.size ∧ V7.heap.size ≤ V8.heap.size) := by
                    have h1 := HBA.out
                    have h2 := hk6.size
                    have h3 : A.drew.heap.size = A.heap.size := rfl
                    exact ⟨HJ.out.2.kp.size, h1.2.1, by omega, hre.2.1.size, hk8.size⟩
                  have HOB : Hid (∀ g, (Value.slice av s cv).ownBlock = some g → V5.heap.size ≤ g ∧ g < b15) := fun g hg => ⟨HJ.out.2.s3 g hg, by have := HJ.out.2.ro.lt hg; have := HSZ.out; omega⟩
                  have hch : ∀ g, g < wr.heap.size → g ≠ b11 → g ≠ b4 → V8.heap[g]? = wr.heap[g]? := fun g hg h1 h2 => by
                    have h3 := HSZ.out
                    have h4 := HBA.out
                    exact (hk8.block g (by omega) (by omega)).trans ((hre.2.1.block g (by omega)).trans ((hk6.block g (by show g < A.heap.size; omega) h1).trans (h4.1.block g hg)))
                  have HRO : Hid (Ow V8 38 3 (.slice av s cv) s (qdC ((dr (ansR x.l) 0 M.W).take s))) := HJ.out.2.ro.same fun g hg => by
                    have h1 := HOB.out g hg
                    have h2 := HAP.out
                    have h3 := HSZ.out
                    exact hch g (by omega) (by omega) (by omega)
                  obtain ⟨i0, hi0, hsc, hby, z, hz, hzs⟩ := sized38
                  have HI0 : Hid (Try.prog.info? 38 = some i0 ∧ i0.zero = some z ∧ i0.size = 3 ∧ i0.bytes ≤ 24 ∧ z.cells.size = 3) := ⟨hi0, hz, hsc, by omega, hzs⟩
                  have hu28 := Try.underlying28
                  clear hk6 hb6 hre hk8 hb8 hch hi0 hsc hby hz hzs HT17 k12A c4
                  go_wp2_with (with_reducible change wpList _ _ _ ({ dst := some 49, op := _, type := _, pos := _, after := _, guard := _ } :: _) _ _; refine Hid.out ?_)
                  show wpList _ _ _ _ _ _
                  refine wpList_append_ow rfl (.tmp 46) (.tmp 48) 28 rfl _ 38 i0 z 3 Try.underlying28 HI0.out.1 HI0.out.2.1 HI0.out.2.2.1 HI0.out.2.2.2.1 HI0.out.2.2.2.2 (by omega) (.slice av s cv) s (qdC ((dr (ansR x.l) 0 M.W).take s)) (HRO.out.below (below_al V8 _)) V8.heap.size 1 1 (qd X) rfl rfl rfl (range_new V8 (qd X) 38) (qd_one X) (by omega) (by have h1 := HM4.out.2.2.2.2.1; have h2 := HSN.out; omega) ?_
                  intro v5 w5 ho5 hg5 hg6
                  simp only [Act.put, List.setIfInBounds_toArray, List.set_cons_zero, List.set_cons_succ]
                  obtain ⟨a5, c5', hv5, _⟩ := ho5.out.read
                  subst hv5
                  have HF : Hid (DI V5 w5 (M4.bl b) b4 b11 x M.W M.E (s + 1) (.slice a5 (s + 1) c5') wv1 ev1) := by
                    have h := HJ.out.2
                    have hs3 := HSZ.out
                    have hap := HAP.out
                    obtain ⟨hk6, hb6, hre, hk8, hb8⟩ := HC.out
                    obtain ⟨g', hg', hgo⟩ := hg6.out
                    have hal : Below V8.heap.size V8 (V8.alloc (.cells (qd X).toArray 38)) := below_al _ _
                    have hasz : (V8.alloc (.cells (qd X).toArray 38)).heap.size = V8.heap.size + 1 := by simp
                    have hasz2 : (V8.alloc (.cells #[iv X.1, iv X.2.1, iv X.2.2] 38)).heap.size = V8.heap.size + 1 := by simp
                    have hd : (dr (ansR x.l) 0 M.W)[s]? = some X := by
                      have := dr_at (ansR x.l) 0 M.W s xx HXX.out.1
                      rw [Nat.zero_add, HXX.out.2.1, HXX.out.2.2] at this
                      exact this
                    have l1 : (M.W.drop s).eraseIdx 0 = M.W.drop (s + 1) := by
                      rw [List.drop_eq_getElem_cons (by rw [HM4.out.2.2.2.1]; exact HSN.out)]
                      rfl
                    have l2 : (M.E ++ (dr (ansR x.l) 0 M.W).take s) ++ [X] = M.E ++ (dr (ansR x.l) 0 M.W).take (s + 1) := by rw [take_succ_at hd, List.append_assoc]
                    have ob : ∀ g, (Value.slice av s cv).ownBlock = some g → V5.heap.size ≤ g ∧ g < b15 := HOB.out
                    have kg : Keep (fun j => (Value.slice av s cv).ownBlock = some j) (V8.alloc (.cells (qd X).toArray 38)) w5 := Keep.grownO hg5.out (fun b' e => e)
                    have v5le : ∀ g, (Value.slice a5 (s + 1) c5').ownBlock = some g → V5.heap.size ≤ g ∧ (g < b15 ∨ V8.heap.size < g) := fun g hg => by
                      rw [hg'] at hg
                      cases hg
                      rcases hgo with e | e
                      · have := ob _ e; omega
                      · omega
                    rw [l1, l2] at hre
                    refine ⟨kg.blk (hb8.alloc _) (fun e => by have := ob _ e; omega), ?_, ?_, ?_, ?_, ?_, ?_, ?_, ?_⟩
                    · refine ((hre.1.keep hk8 (fun g hg e => ?_) (fun g hg e => ?_)).below hal).keep kg (fun g hg e => ?_) (fun g hg e => ?_)
                      · have := hre.2.2.1 g hg; rcases e with e | e <;> omega
                      · have := hre.2.2.2 g hg; rcases e with e | e <;> omega
                      · have h1 := hre.2.2.1 g hg; have h2 := ob _ e; omega
                      · have h1 := hre.2.2.2 g hg; have h2 := ob _ e; omega
                    · have h1 : Blk V7 b11 3 [iv ((s : Int) + 1)] := hb6.below hre.2.1 hb6.lt
                      have h2 : Blk V8 b11 3 [iv ((s : Int) + 1)] := hk8.blk h1 (by omega)
                      have h3 := kg.blk (h2.alloc _) (fun e => by have := ob _ e; omega)
                      simpa using h3
                    · rw [take_succ_at hd, qdC_app]
                      exact ho5.out
                    · have k1 : Keep (fun j => j = b11 ∨ b15 ≤ j ∨ j = b4 ∨ (Value.slice av s cv).ownBlock = some j) wr A.drew := Keep.below (below_tr HBA.out.1 (below_drew0 A))
                      have k2 := k1.trans (hk6.mono (T := fun j => j = b11 ∨ b15 ≤ j ∨ j = b4 ∨ (Value.slice av s cv).ownBlock = some j) (fun j _ hj => .inl hj)) (fun _ hj _ => hj)
                      have k3 := k2.trans (Keep.below (S := fun j => j = b11 ∨ b15 ≤ j ∨ j = b4 ∨ (Value.slice av s cv).ownBlock = some j) hre.2.1) (fun _ hj _ => hj)
                      have k4 := k3.trans (hk8.mono (T := fun j => j = b11 ∨ b15 ≤ j ∨ j = b4 ∨ (Value.slice av s cv).ownBlock = some j) (fun j _ hj => hj.elim (fun e => .inr (.inr (.inl e))) (fun e => .inr (.inl (by omega))))) (fun _ hj _ => hj)
                      have k5 := k4.trans (Keep.below (S := fun j => j = b11 ∨ b15 ≤ j ∨ j = b4 ∨ (Value.slice av s cv).ownBlock = some j) hal) (fun _ hj _ => hj)
                      have k6 := k5.trans (kg.mono (T := fun j => j = b11 ∨ b15 ≤ j ∨ j = b4 ∨ (Value.slice av s cv).ownBlock = some j) (fun j _ hj => .inr (.inr (.inr hj)))) (fun _ hj _ => hj)
                      refine h.kp.trans k6 (fun j hj hl => ?_)
                      rcases hj with e | e | e | e
                      · exact .inr e
                      · omega
                      · exact .inl e
                      · have := ob _ e; omega
                    · intro g hg
                      have h1 := hre.2.2.1 g hg
                      have h2 := hre.1.wr.lt hg
                      exact ⟨by omega, by omega, fun e => by have := v5le _ e; omega⟩
                    · intro g hg
                      have h1 := hre.2.2.2 g hg
                      have h2 := hre.1.er.lt hg
                      exact ⟨by omega, by omega, fun e => by have := v5le _ e; omega⟩
                    · exact fun g hg => (v5le g hg).1
                    · intro g hg e
                      have h1 := HV5.out.1.lt g e
                      rcases hg with hg | hg
                      · have := hre.2.2.1 g hg; omega
                      · have := hre.2.2.2 g hg; omega
                  clear ho5 hg5 hg6 e0 e1 e2
                  go_wp2
                  go_roundw
                  case rel => exact ⟨s + 1, a5, c5', wv1, ev1, rfl, HSN.out, HF.out⟩
                  case measure =>
                    have := HSN.out
                    simp only [slen]
                    omega
#print axioms plays_law

end Go.Proofs.Ytipipckbcelphaa.Oct
