/-
  Layer 21 (queue): the reference: a queue as a value; Place, Put.
-/
import Derived.Test.YtipipckbcelphaaWQun
namespace Go.Proofs.Ytipipckbcelphaa.Oct
open Go.RowKit Go.Shelf
set_option linter.unusedSimpArgs false
set_option linter.unusedVariables false

def blkOf (v : Value) : Option Nat := match v with
  | .slice (some p) _ _ => some p.block
  | _ => none
/-- a row that is read -/
def RV (w : World) (e sz : Nat) (v : Value) (n : Nat) (cs : List Value) : Prop := ∃ a c, v = .slice a n c ∧ n ≤ c ∧ c ≤ maxLen ∧ Rd w e sz a n cs ∧ Ad a c ∧ ∀ p, a = some p → p.block < w.heap.size
theorem RV.keep {S : Nat → Prop} {w w' : World} {e sz n : Nat} {v : Value} {cs : List Value} (h : RV w e sz v n cs) (hk : Keep S w w') (hs : ∀ g, blkOf v = some g → ¬ S g) : RV w' e sz v n cs := by
  obtain ⟨a, c, rfl, h1, h2, h3, h4, h5⟩ := h
  refine ⟨a, c, rfl, h1, h2, ⟨h3.1, h3.2.1, fun hp => ?_⟩, h4, fun p hp => Nat.lt_of_lt_of_le (h5 p hp) hk.size⟩
  obtain ⟨g, off, rfl, k1, k2⟩ := h3.2.2 hp
  have hb := hk.block g k1 (hs g rfl)
  exact ⟨g, off, rfl, k1.same hb, fun j u hu => (World.cell?_of_block (a := ⟨g, off + j, none⟩) hb).trans (k2 j u hu)⟩
theorem RV.below {w w' : World} {e sz n : Nat} {v : Value} {cs : List Value} (h : RV w e sz v n cs) (hb : Below w.heap.size w w') : RV w' e sz v n cs := h.keep (S := fun _ => False) (Keep.below hb) (fun _ _ h => h)
theorem RV.lt {w : World} {e sz n : Nat} {v : Value} {cs : List Value} (h : RV w e sz v n cs) {g : Nat} (hg : blkOf v = some g) : g < w.heap.size := by
  obtain ⟨a, c, rfl, _, _, _, _, h5⟩ := h
  cases a with
  | none => cases hg
  | some p => cases hg; exact h5 p rfl
theorem RV.own {w : World} {B e sz n : Nat} {v : Value} {cs : List Value} (h : w.ownsRow B e sz v n cs) (h1 : ∀ u ∈ cs, u.oneCell' = true) : RV w e sz v n cs ∧ (∀ g, blkOf v = some g → B ≤ g) ∧ ∀ p m c, v = .slice (some p) m c → p = ⟨p.block, 0, none⟩ := by
  rcases h.2 with ⟨rfl, rfl⟩ | ⟨g, cap, cur, rfl, hB, hb, hn, hc, hsz, ht⟩
  · exact ⟨⟨none, 0, rfl, Nat.le_refl _, by unfold maxLen; omega, ⟨h.1, h1, fun hp => absurd hp (by omega)⟩, .inl ⟨rfl, rfl⟩, fun p hp => by cases hp⟩, (fun g hg => by cases hg), fun p m c hp => by cases hp⟩
  · refine ⟨⟨_, cap, rfl, hn, hc, ⟨h.1, h1, fun _ => ⟨g, 0, rfl, lt_of_block hb, fun j u hu => ?_⟩⟩, .inr ⟨g, 0, rfl⟩, fun p hp => by cases hp; exact lt_of_block hb⟩, (fun g' hg' => by cases hg'; exact hB), fun p m c hp => by cases hp; rfl⟩
    rw [Nat.zero_add, cell_of_row w g j _ e (0, 0) hb]
    rw [← ht, List.getElem?_take] at hu
    split at hu
    · simpa using hu
    · cases hu
theorem RV.nums {w : World} {v : Value} {n : Nat} {l : List Int} (h : RV w 3 1 v n (ivs l)) : ∃ a c, v = .slice a n c ∧ n ≤ c ∧ c ≤ maxLen ∧ Nums w a n l := by
  obtain ⟨a, c, rfl, h1, h2, h3, _⟩ := h
  refine ⟨a, c, rfl, h1, h2, by have := h3.1; simpa [ivs] using this, fun hp => ?_⟩
  obtain ⟨g, off, rfl, k1, k2⟩ := h3.2.2 hp
  exact ⟨g, off, rfl, k1, fun i x hx => k2 i _ (ivs_at hx)⟩
theorem RV.nil (w : World) (e sz : Nat) : RV w e sz (.slice none 0 0) 0 [] := ⟨none, 0, rfl, Nat.le_refl _, by unfold maxLen; omega, Rd.nil _ _ _ _, .inl ⟨rfl, rfl⟩, fun p hp => by cases hp⟩
/-- a queue of the reference: what waits and what ended -/
structure RQ (w : World) (wv ev : Value) (W : List Int) (E : List (Int × Int × Int)) : Prop where
  wr : RV w 3 1 wv W.length (ivs W)
  er : RV w 38 3 ev E.length (qdC E)
  nW : W.length ≤ 1000
  nE : E.length ≤ 3000000000000
  wz : ∀ p m c, wv = .slice (some p) m c → p = ⟨p.block, 0, none⟩
theorem RQ.keep {S : Nat → Prop} {w w' : World} {wv ev : Value} {W : List Int} {E : List (Int × Int × Int)} (h : RQ w wv ev W E) (hk : Keep S w w') (h1 : ∀ g, blkOf wv = some g → ¬ S g) (h2 : ∀ g, blkOf ev = some g → ¬ S g) : RQ w' wv ev W E := ⟨h.wr.keep hk h1, h.er.keep hk h2, h.nW, h.nE, h.wz⟩
theorem RQ.below {w w' : World} {wv ev : Value} {W : List Int} {E : List (Int × Int × Int)} (h : RQ w wv ev W E) (hb : Below w.heap.size w w') : RQ w' wv ev W E := ⟨h.wr.below hb, h.er.below hb, h.nW, h.nE, h.wz⟩
theorem RQ.shape {w : World} {wv ev : Value} {W : List Int} {E : List (Int × Int × Int)} (h : RQ w wv ev W E) : ∃ a c a' c', wv = .slice a W.length c ∧ ev = .slice a' E.length c' := by
  obtain ⟨a, c, h1, _⟩ := h.wr
  obtain ⟨a', c', h2, _⟩ := h.er
  exact ⟨a, c, a', c', h1, h2⟩
set_option maxRecDepth 100000 in
set_option maxHeartbeats 1000000 in
theorem rplace_is {w : World} {wv ev : Value} {l : List Int} {E : List (Int × Int × Int)} (h : RQ w wv ev l E) (x : Int) : Calls Try.prog 26 #[.agg #[wv, ev], iv x] w fun e w' => e = .returned (iv (plc l x)) ∧ Below w.heap.size w w' := by
  obtain ⟨a, c, a', c', rfl, rfl⟩ := h.shape
  obtain ⟨n, hn⟩ : ∃ n, l.length = n := ⟨_, rfl⟩
  obtain ⟨m, hm⟩ : ∃ m, E.length = m := ⟨_, rfl⟩
  obtain ⟨a2, c2, hv, hnc, hcm, hnum⟩ := h.wr.nums
  rw [hn] at hv hnum hnc ⊢
  rw [hm]
  cases hv
  obtain ⟨b2, hb2⟩ : ∃ b, w.heap.size = b := ⟨_, rfl⟩
  obtain ⟨A, hA⟩ : ∃ A, w.alloc (.cells #[.slice a n c, .slice a' m c'] 30) = A := ⟨_, rfl⟩
  have hB : Below w.heap.size w A := by rw [← hA]; exact below_al _ _
  have cb : A.cell? ⟨b2, 0, none⟩ = some (.slice a n c) := by rw [← hA, ← hb2]; exact (Blk.new w #[.slice a n c, .slice a' m c'] 30).cell rfl
  have HL : Hid (l.length = n ∧ Nums A a n l ∧ Below w.heap.size w A) := ⟨hn, hnum.below hB, hB⟩
  have q0 : (n : Int) ≤ 1000 := by have := h.nW; omega
  clear h hnum hnc hcm hn hm hB
  go_enter Try.func26, Try.ntmps26
  go_wp2
  go_loopw [5] (fun u W => ∃ j : Nat, u = iv j ∧ Hid (j ≤ n ∧ A = W ∧ ∀ (k : Nat) (y : Int), k < j → l[k]? = some y → y ≠ x)) (fun u _ => n - (intOf u).toNat)
  case atStart => exact ⟨0, rfl, Nat.zero_le _, rfl, fun k y hk => absurd hk (by omega)⟩
  case round =>
    obtain ⟨j, rfl, HJ⟩ := hrel
    have cb' : wr.cell? ⟨b2, 0, none⟩ = some (.slice a n c) := by rw [← HJ.out.2.1]; exact cb
    by_cases hj : j = n
    · have q1 : (n : Int) ≤ (j : Int) := by omega
      have HE : Hid (plc l x = -1 ∧ Below w.heap.size w wr) := ⟨plc_no fun k y hy => HJ.out.2.2 k y (by have h1 := (List.getElem?_eq_some_iff.1 hy).1; have h2 := HL.out.1; omega) hy, by rw [← HJ.out.2.1]; exact HL.out.2.2⟩
      clear hj HJ
      go_wp2
      go_ret
      exact ⟨by rw [HE.out.1]; rfl, HE.out.2⟩
    · have HJM : Hid (j < n) := by have := HJ.out.1; show _ < _; omega
      have q1 : (j : Int) < (n : Int) := by have := HJM.out; omega
      have q2 : j < n := HJM.out
      obtain ⟨g, off, ha, _, hra⟩ := HL.out.2.1.2 (by omega)
      subst ha
      obtain ⟨y, hy⟩ : ∃ y, l[j]? = some y := ⟨_, List.getElem?_eq_getElem (by rw [HL.out.1]; exact q2)⟩
      have hc : wr.cell? ⟨g, off + j, none⟩ = some (iv y) := by rw [← HJ.out.2.1]; exact hra j y hy
      have HY : Hid (l[j]? = some y) := hy
      clear hj hra hy
      by_cases he : y = x
      · have hb : (y == x) = true := by simp [he]
        have HE : Hid (plc l x = j ∧ Below w.heap.size w wr) := ⟨plc_yes (by rw [← he]; exact HY.out) HJ.out.2.2, by rw [← HJ.out.2.1]; exact HL.out.2.2⟩
        clear he
        go_wp2
        go_ret
        exact ⟨by rw [HE.out.1]; rfl, HE.out.2⟩
      · have hb : (y == x) = false := by simp [he]
        have HE : Hid (j + 1 ≤ n ∧ A = wr ∧ ∀ (k : Nat) (y : Int), k < j + 1 → l[k]? = some y → y ≠ x) := ⟨HJM.out, HJ.out.2.1, fun k z hk hz => by
          by_cases e : k = j
          · subst e; rw [HY.out] at hz; cases hz; exact he
          · exact HJ.out.2.2 k z (by omega) hz⟩
        clear he
        go_wp2
        go_roundw
        case rel => exact ⟨j + 1, by simp, HE.out⟩
        case measure =>
          have := HJM.out
          simp only [intOf]
          omega
#print axioms rplace_is
theorem size30 : (Try.prog.info? 30).map (·.size) = some 2 := by kernel_rfl
theorem zero30 (W : World) : (zeroValue 30).run Try.prog W = .ok (.agg #[.slice none 0 0, .slice none 0 0]) W := by kernel_rfl
theorem ret30 {R : Ending → World → Prop} {fn : Func} {pt u : Tmp} {a : Act} {w : World} {g : Nat} {X : List Value} (hr : fn.results = #[.cell pt 30, .tmp u]) (hd : a.defers = []) (hp : a.tmps.getD pt undef = .pointer (some ⟨g, 0, none⟩)) (hl : X.length = 2)
    (hb : Blk w g 30 X) (hR : R (.returned (.tuple #[.agg X.toArray, a.tmps.getD u undef])) w) : bodyPost Try.prog fn R .ret a w := by
  have hl := run_loadVar_mid (P := Try.prog) w g 0 30 X _ (by have := hb.range 0 2; rwa [List.drop_zero, List.take_of_length_le (by omega)] at this) Try.underlying30 rfl (by rw [hl]; exact size30)
  refine bodyPost_ret (v := .tuple #[.agg X.toArray, a.tmps.getD u undef]) ?_ hd hR
  rw [results_cell_tmp hr, hp]
  simp [asAddr, hl, Result.andThen]
theorem run_bs27_0' (W : World) : (Instr.buildSlice 27 0 #[]).run Try.prog W = .ok (.slice (some ⟨W.heap.size, 0, none⟩) 0 0) (W.alloc (.cells #[] 3)) := by kernel_rfl
theorem run_append_ownR {P : Program} (w : World) (t ty e : TypeId) (i : TypeInfo) (z : Value) (sz B : Nat) (ht : P.underlying t = some (.slice e)) (hi : P.info? e = some i) (hz : i.zero = some z) (hs : i.size = sz) (hby : i.bytes ≤ 24) (hzs : z.cells.size = sz) (hsz : 0 < sz)
    (v : Value) (n : Nat) (cs : List Value) (h : w.ownsRow B e sz v n cs) (o : Option Addr) (q c : Nat) (qs : List Value) (ho : Rd w e sz o q qs) (hB : B ≤ w.heap.size) (hn : n + q ≤ 4000000000000) :
    ∃ v' w', (Builtin.append_ #[t, t] ty #[v, .slice o q c]).run P w = .ok v' w' ∧ w'.ownsRow B e sz v' (n + q) (cs ++ qs) ∧ Below B w w' := by
  by_cases hq : q = 0
  · subst hq
    have hqs : qs = [] := List.eq_nil_of_length_eq_zero (by rw [ho.1]; omega)
    subst hqs
    have : ∃ a cap, v = .slice a n cap ∧ n ≤ cap := by
      rcases h.2 with ⟨rfl, rfl⟩ | ⟨g, cap, cur, rfl, _, _, hn, _⟩
      · exact ⟨none, 0, rfl, Nat.le_refl _⟩
      · exact ⟨_, cap, rfl, hn⟩
    obtain ⟨a, cap, rfl, hnc⟩ := this
    exact ⟨_, w, run_append_zero w t ty e i ht hi a o n cap c hnc, by simpa using h, Below.refl _ _⟩
  · obtain ⟨g2, off2, rfl, _, hq2⟩ := ho.2.2 (by omega)
    obtain ⟨v', w', hr, h2, h3, _⟩ := run_append_own_wide (P := P) w B t ty e i z sz i.bytes ht hi hz hs rfl hzs hsz v n cs h ⟨g2, off2, none⟩ q c qs ho.1 (fun j u hu => by rw [Addr.add_lit]; exact hq2 j u hu) ho.2.1 (by unfold maxLen; omega) (Nat.le_trans (Nat.mul_le_mul_left _ hby) (by omega)) hB
    refine ⟨v', w', hr, h2, ⟨h3.os, h3.tape, h3.output, h3.size, fun k hk => h3.block k (by omega) fun e => ?_⟩⟩
    have := (h.lt k e.symm).1
    omega
theorem wpList_append_ownR {P : Program} {ops : Array Oper} {rest : List Oper} {o : Oper} {a : Act} {Q : Exit → Act → World → Prop} (hgd : o.guard = none) (s x : Operand) (t : TypeId)
    (hop : o.op = .call { callee := .builtin .append, args := #[s, x], argTypes := #[t, t] }) (w : World) (e : TypeId) (i : TypeInfo) (z : Value) (sz B : Nat) (ht : P.underlying t = some (.slice e)) (hi : P.info? e = some i) (hz : i.zero = some z) (hs : i.size = sz) (hby : i.bytes ≤ 24) (hzs : z.cells.size = sz) (hsz : 0 < sz)
    (v : Value) (n : Nat) (cs : List Value) (h : w.ownsRow B e sz v n cs) (ao : Option Addr) (q c : Nat) (qs : List Value) (hsv : a.eval s = v) (hx : a.eval x = .slice ao q c) (ho : Rd w e sz ao q qs) (hB : B ≤ w.heap.size) (hn : n + q ≤ 4000000000000)
    (hk : ∀ v' w', Hid (w'.ownsRow B e sz v' (n + q) (cs ++ qs)) → Hid (Below B w w') → wpList P ops Q rest (a.put o.dst v') w') : wpList P ops Q (o :: rest) a w := by
  refine wpList_plain hgd fun K hK => ?_
  obtain ⟨v', w', hr, h2, h3⟩ := run_append_ownR (P := P) w t o.type e i z sz B ht hi hz hs hby hzs hsz v n cs h ao q c qs ho hB hn
  unfold Oper.wp execOp
  simp only [hop, resolve, invoke, builtin, Sem.run_bind, Sem.run_pure, Result.andThen_ok, List.map_toArray, List.map_cons, List.map_nil, hsv, hx, hr]
  exact hK _ _ (hk v' w' h2 h3)
theorem step_append_ownR {P : Program} {ops : Array Oper} {o : Oper} {a : Act} {K : Act → World → Prop} {Q : Exit → Act → World → Prop} {E : Prop} (hw : Region.wanted o (yielded ops a.tmps) = true) (s x : Operand) (t : TypeId)
    (hop : o.op = .call { callee := .builtin .append, args := #[s, x], argTypes := #[t, t] }) (w : World) (e : TypeId) (i : TypeInfo) (z : Value) (sz B : Nat) (ht : P.underlying t = some (.slice e)) (hi : P.info? e = some i) (hz : i.zero = some z) (hs : i.size = sz) (hby : i.bytes ≤ 24) (hzs : z.cells.size = sz) (hsz : 0 < sz)
    (v : Value) (n : Nat) (cs : List Value) (h : w.ownsRow B e sz v n cs) (ao : Option Addr) (q c : Nat) (qs : List Value) (hsv : a.eval s = v) (hx : a.eval x = .slice ao q c) (ho : Rd w e sz ao q qs) (hB : B ≤ w.heap.size) (hn : n + q ≤ 4000000000000)
    (hk : ∀ v' w', Hid (w'.ownsRow B e sz v' (n + q) (cs ++ qs)) → Hid (Below B w w') → K (a.put o.dst v') w') : if Region.wanted o (yielded ops a.tmps) = true then Oper.wp P o a w K Q else E := by
  rw [if_pos hw]
  obtain ⟨v', w', hr, h2, h3⟩ := run_append_ownR (P := P) w t o.type e i z sz B ht hi hz hs hby hzs hsz v n cs h ao q c qs ho hB hn
  unfold Oper.wp execOp
  simp only [hop, resolve, invoke, builtin, Sem.run_bind, Sem.run_pure, Result.andThen_ok, List.map_toArray, List.map_cons, List.map_nil, hsv, hx, hr]
  exact hk v' w' h2 h3
theorem Rd.one (w : World) (x : Int) : Rd (w.alloc (.cells #[iv x] 3)) 3 1 (some ⟨w.heap.size, 0, none⟩) 1 [iv x] :=
  ⟨rfl, by intro u hu; simp at hu; subst hu; rfl, fun _ => ⟨w.heap.size, 0, rfl, by show _ < _; simp, fun j u hu => range_new w [iv x] 3 j u hu⟩⟩
theorem Rd.belowS {w w' : World} {e sz : Nat} {a : Option Addr} {n : Nat} {cs : List Value} (h : Rd w e sz a n cs) (hb : Below w.heap.size w w') : Rd w' e sz a n cs := h.below hb (Nat.le_refl _)
/-- what Put of the reference answers -/
def RPutP (w : World) (wv ev : Value) (l : List Int) (E : List (Int × Int × Int)) (x : Int) (e : Ending) (w' : World) : Prop :=
  ∃ wv', e = .returned (.tuple #[.agg #[wv', ev], iv (putC l x)]) ∧ RQ w' wv' ev (putW l x) E ∧ Below w.heap.size w w' ∧ (wv' = wv ∨ ∀ g, blkOf wv' = some g → w.heap.size ≤ g)
set_option maxRecDepth 100000 in
set_option maxHeartbeats 2000000 in
theorem rput_is {w : World} {wv ev : Value} {l : List Int} {E : List (Int × Int × Int)} (h : RQ w wv ev l E) (hl9 : l.length + 1 ≤ 1000) (x : Int) : Calls Try.prog 12 #[.agg #[wv, ev], iv x] w (RPutP w wv ev l E x) := by
  obtain ⟨a, c, a', c', rfl, rfl⟩ := h.shape
  obtain ⟨n, hn⟩ : ∃ n, l.length = n := ⟨_, rfl⟩
  obtain ⟨m, hm⟩ : ∃ m, E.length = m := ⟨_, rfl⟩
  have HRQ : Hid (RQ w (.slice a n c) (.slice a' m c') l E) := by rw [← hn, ← hm]; exact h
  rw [hn, hm]
  have hz30 := zero30
  obtain ⟨b2, hb2⟩ : ∃ b, w.heap.size = b := ⟨_, rfl⟩
  obtain ⟨A, hA⟩ : ∃ A, (w.alloc (.cells #[.slice a n c, .slice a' m c'] 30)).alloc (.cells #[.slice none 0 0, .slice none 0 0] 30) = A := ⟨_, rfl⟩
  have hB : Below w.heap.size w A := by rw [← hA]; exact ((Below.refl _ w).alloc (Nat.le_refl _) _).alloc (by simp) _
  have h2 : Blk A b2 30 [.slice a n c, .slice a' m c'] := by rw [← hA, ← hb2]; exact (Blk.new w _ _).alloc _
  have h4 : Blk A (b2 + 1) 30 [.slice none 0 0, .slice none 0 0] := by
    rw [← hA, ← hb2]
    have := Blk.new (w.alloc (.cells #[.slice a n c, .slice a' m c'] 30)) #[.slice none 0 0, .slice none 0 0] 30
    rwa [World.size_alloc] at this
  have cb : A.cell? ⟨b2, 0, none⟩ = some (.slice a n c) := h2.cell rfl
  have cb1 : A.cell? ⟨b2, 1, none⟩ = some (.slice a' m c') := h2.cell rfl
  have HB : Hid (Below w.heap.size w A ∧ Blk A b2 30 [.slice a n c, .slice a' m c'] ∧ Blk A (b2 + 1) 30 [.slice none 0 0, .slice none 0 0] ∧ l.length = n ∧ n + 1 ≤ 1000) := ⟨hB, h2, h4, hn, by omega⟩
  have HSZ : Hid (w.heap.size = b2) := hb2
  have q0 : (n : Int) ≤ 1000 := by omega
  clear h2 h4 hm
  by_cases hx : x < 1
  · have HC : Hid (putC l x = 2 ∧ putW l x = l) := ⟨by simp [putC, hx], by simp [putW, hx]⟩
    clear hn hB
    go_enter Try.func12, Try.ntmps12
    go_wp2_with (with_reducible change wpList _ _ _ ({ dst := some 8, op := _, type := _, pos := _, after := _, guard := _ } :: _) _ _; refine Hid.out ?_)
    show wpList _ _ _ _ _ _
    refine wpList_load_row rfl 30 (.tmp 2) rfl b2 rfl 30 #[.slice a n c, .slice a' m c'] (0, 0) _ HB.out.2.1 Try.underlying30 rfl size30 ?_
    simp only [Act.put, List.setIfInBounds_toArray, List.set_cons_zero, List.set_cons_succ]
    go_wp2_with (with_reducible change wpList _ _ _ ({ dst := none, op := Op.store 30 _ _, type := _, pos := _, after := _, guard := _ } :: _) _ _; refine Hid.out ?_)
    show wpList _ _ _ _ _ _
    refine wpList_store_blk rfl 30 (.tmp 4) (.tmp 8) rfl (b2 + 1) 0 30 [.slice none 0 0, .slice none 0 0] [.slice a n c, .slice a' m c'] rfl rfl HB.out.2.2.1 (by simp) size30 (by intro u hu; simp at hu; rcases hu with rfl | rfl <;> rfl) ?_
    intro V hb5 hg5
    have HV : Hid (Blk V (b2 + 1) 30 [.slice a n c, .slice a' m c'] ∧ Below w.heap.size w V) := ⟨hb5.out, HB.out.1.grown hg5.out HB.out.1.size (fun j hj => by cases hj; have := HSZ.out; omega)⟩
    clear hb5 hg5
    go_wp2_with fail
    refine ret30 rfl rfl rfl rfl HV.out.1 ?_
    exact ⟨_, by rw [HC.out.1]; rfl, by rw [HC.out.2]; exact HRQ.out.below HV.out.2, HV.out.2, .inl rfl⟩
  · have hx1 : 1 ≤ x := by omega
    have HP := rplace_is (HRQ.out.below hB) x
    have hpl := has_plc l x
    clear hB
    by_cases hmem : x ∈ l
    · have HC : Hid (putC l x = 110 ∧ putW l x = l) := ⟨by simp [putC, hx, hmem], by simp [putW, hx, hmem]⟩
      obtain ⟨p, hp⟩ : ∃ p, plc l x = p := ⟨_, rfl⟩
      rw [hp] at HP hpl
      have q3 : (0 : Int) ≤ p := by simpa [hmem] using hpl
      clear hn hmem hpl hp hx
      go_enter Try.func12, Try.ntmps12
      go_wp2_with fail
      refine HP.mono ?_
      rintro e A2 ⟨rfl, hb2'⟩
      have HB2 : Hid (Below w.heap.size w A2 ∧ Blk A2 b2 30 [.slice a n c, .slice a' m c'] ∧ Blk A2 (b2 + 1) 30 [.slice none 0 0, .slice none 0 0]) := ⟨below_tr HB.out.1 hb2', HB.out.2.1.below hb2' HB.out.2.1.lt, HB.out.2.2.1.below hb2' HB.out.2.2.1.lt⟩
      have c20 : A2.cell? ⟨b2, 0, none⟩ = some (.slice a n c) := HB2.out.2.1.cell rfl
      clear HP hb2'
      go_wp2_with (with_reducible change wpList _ _ _ ({ dst := some 13, op := _, type := _, pos := _, after := _, guard := _ } :: _) _ _; refine Hid.out ?_)
      show wpList _ _ _ _ _ _
      refine wpList_load_row rfl 30 (.tmp 2) rfl b2 rfl 30 #[.slice a n c, .slice a' m c'] (0, 0) _ HB2.out.2.1 Try.underlying30 rfl size30 ?_
      simp only [Act.put, List.setIfInBounds_toArray, List.set_cons_zero, List.set_cons_succ]
      go_wp2_with (with_reducible change wpList _ _ _ ({ dst := none, op := Op.store 30 _ _, type := _, pos := _, after := _, guard := _ } :: _) _ _; refine Hid.out ?_)
      show wpList _ _ _ _ _ _
      refine wpList_store_blk rfl 30 (.tmp 4) (.tmp 13) rfl (b2 + 1) 0 30 [.slice none 0 0, .slice none 0 0] [.slice a n c, .slice a' m c'] rfl rfl HB2.out.2.2 (by simp) size30 (by intro u hu; simp at hu; rcases hu with rfl | rfl <;> rfl) ?_
      intro V hb5 hg5
      have HV : Hid (Blk V (b2 + 1) 30 [.slice a n c, .slice a' m c'] ∧ Below w.heap.size w V) := ⟨hb5.out, HB2.out.1.grown hg5.out HB2.out.1.size (fun j hj => by cases hj; have := HSZ.out; omega)⟩
      clear hb5 hg5
      go_wp2_with fail
      refine ret30 rfl rfl rfl rfl HV.out.1 ?_
      exact ⟨_, by rw [HC.out.1]; rfl, by rw [HC.out.2]; exact HRQ.out.below HV.out.2, HV.out.2, .inl rfl⟩
    · obtain ⟨p, hp⟩ : ∃ p, plc l x = p := ⟨_, rfl⟩
      rw [hp] at HP hpl
      have q3 : ¬ ((0 : Int) ≤ p) := by simpa [hmem] using hpl
      by_cases hlen : 64 ≤ n
      · have HC : Hid (putC l x = 3 ∧ putW l x = l) := ⟨by simp [putC, hx, hmem, hn, hlen], by simp [putW, hx, hmem, hn, hlen]⟩
        have q4 : (64 : Int) ≤ (n : Int) := by omega
        clear hn hmem hpl hp hx hlen
        go_enter Try.func12, Try.ntmps12
        go_wp2_with fail
        refine HP.mono ?_
        rintro e A2 ⟨rfl, hb2'⟩
        have HB2 : Hid (Below w.heap.size w A2 ∧ Blk A2 b2 30 [.slice a n c, .slice a' m c'] ∧ Blk A2 (b2 + 1) 30 [.slice none 0 0, .slice none 0 0]) := ⟨below_tr HB.out.1 hb2', HB.out.2.1.below hb2' HB.out.2.1.lt, HB.out.2.2.1.below hb2' HB.out.2.2.1.lt⟩
        have c20 : A2.cell? ⟨b2, 0, none⟩ = some (.slice a n c) := HB2.out.2.1.cell rfl
        clear HP hb2'
        go_wp2_with (with_reducible change wpList _ _ _ ({ dst := some 18, op := _, type := _, pos := _, after := _, guard := _ } :: _) _ _; refine Hid.out ?_)
        show wpList _ _ _ _ _ _
        refine wpList_load_row rfl 30 (.tmp 2) rfl b2 rfl 30 #[.slice a n c, .slice a' m c'] (0, 0) _ HB2.out.2.1 Try.underlying30 rfl size30 ?_
        simp only [Act.put, List.setIfInBounds_toArray, List.set_cons_zero, List.set_cons_succ]
        go_wp2_with (with_reducible change wpList _ _ _ ({ dst := none, op := Op.store 30 _ _, type := _, pos := _, after := _, guard := _ } :: _) _ _; refine Hid.out ?_)
        show wpList _ _ _ _ _ _
        refine wpList_store_blk rfl 30 (.tmp 4) (.tmp 18) rfl (b2 + 1) 0 30 [.slice none 0 0, .slice none 0 0] [.slice a n c, .slice a' m c'] rfl rfl HB2.out.2.2 (by simp) size30 (by intro u hu; simp at hu; rcases hu with rfl | rfl <;> rfl) ?_
        intro V hb5 hg5
        have HV : Hid (Blk V (b2 + 1) 30 [.slice a n c, .slice a' m c'] ∧ Below w.heap.size w V) := ⟨hb5.out, HB2.out.1.grown hg5.out HB2.out.1.size (fun j hj => by cases hj; have := HSZ.out; omega)⟩
        clear hb5 hg5
        go_wp2_with fail
        refine ret30 rfl rfl rfl rfl HV.out.1 ?_
        exact ⟨_, by rw [HC.out.1]; rfl, by rw [HC.out.2]; exact HRQ.out.below HV.out.2, HV.out.2, .inl rfl⟩
      · have HC : Hid (putC l x = 0 ∧ putW l x = l ++ [x]) := ⟨by simp [putC, hx, hmem, hn, hlen], by simp [putW, hx, hmem, hn, hlen]⟩
        have q4 : ¬ ((64 : Int) ≤ (n : Int)) := by omega
        clear hn hmem hpl hp hx hlen
        have hbs0 := run_bs27_0'
        have hbs := run_bs27 x
        obtain ⟨i0, hi0, hs1, hby, z, hz, hzs⟩ := sized3
        have HI0 : Hid (Try.prog.info? 3 = some i0 ∧ i0.zero = some z ∧ i0.size = 1 ∧ i0.bytes ≤ 24 ∧ z.cells.size = 1) := ⟨hi0, hz, hs1, by omega, hzs⟩
        clear hi0 hs1 hby hz hzs
        go_enter Try.func12, Try.ntmps12
        go_wp2_with fail
        refine HP.mono ?_
        rintro e A2 ⟨rfl, hb2'⟩
        have HB2 : Hid (Below w.heap.size w A2 ∧ Blk A2 b2 30 [.slice a n c, .slice a' m c'] ∧ Blk A2 (b2 + 1) 30 [.slice none 0 0, .slice none 0 0] ∧ RQ A2 (.slice a n c) (.slice a' m c') l E) := ⟨below_tr HB.out.1 hb2', HB.out.2.1.below hb2' HB.out.2.1.lt, HB.out.2.2.1.below hb2' HB.out.2.2.1.lt, HRQ.out.below (below_tr HB.out.1 hb2')⟩
        have c20 : A2.cell? ⟨b2, 0, none⟩ = some (.slice a n c) := HB2.out.2.1.cell rfl
        have c20' : (A2.alloc (.cells #[] 3)).cell? ⟨b2, 0, none⟩ = some (.slice a n c) := (HB2.out.2.1.alloc _).cell rfl
        clear HP hb2'
        go_wp2_with (with_reducible change wpList _ _ _ ({ dst := some 22, op := _, type := _, pos := _, after := _, guard := _ } :: _) _ _; refine Hid.out ?_)
        show wpList _ _ _ _ _ _
        have HRD : Hid (Rd A2 3 1 a n (ivs l)) := by
          obtain ⟨a9, c9, e9, _, _, h9, _⟩ := HB2.out.2.2.2.wr
          rw [HB.out.2.2.2.1] at e9 h9
          cases e9
          exact h9
        refine wpList_append_ownR rfl (.tmp 19) (.tmp 21) 27 rfl _ 3 i0 z 1 A2.heap.size Try.underlying27 HI0.out.1 HI0.out.2.1 HI0.out.2.2.1 HI0.out.2.2.2.1 HI0.out.2.2.2.2 (by omega) _ 0 [] (empty_row A2 3 1) a n c (ivs l) rfl rfl (HRD.out.belowS (below_al A2 _)) (by simp) (by have := HB.out.2.2.2.2; omega) ?_
        intro v1 W1 ho1 hw1
        simp only [Act.put, List.setIfInBounds_toArray, List.set_cons_zero, List.set_cons_succ]
        have HW1 : Hid (W1.ownsRow A2.heap.size 3 1 v1 n (ivs l) ∧ Below A2.heap.size A2 W1) := ⟨by have := ho1.out; rwa [Nat.zero_add, List.nil_append] at this, (below_al A2 _).trans hw1.out⟩
        clear ho1 hw1 c20'
        go_wp2_with (with_reducible change wpList _ _ _ ({ dst := some 25, op := _, type := _, pos := _, after := _, guard := _ } :: _) _ _; refine Hid.out ?_)
        show wpList _ _ _ _ _ _
        refine wpList_append_ownR rfl (.tmp 22) (.tmp 24) 27 rfl _ 3 i0 z 1 A2.heap.size Try.underlying27 HI0.out.1 HI0.out.2.1 HI0.out.2.2.1 HI0.out.2.2.2.1 HI0.out.2.2.2.2 (by omega) v1 n (ivs l) (ownsRow_below HW1.out.1 (below_al W1 _)) (some ⟨W1.heap.size, 0, none⟩) 1 1 [iv x] rfl rfl (Rd.one W1 x) (Nat.le_trans HW1.out.2.size (by simp)) (by have := HB.out.2.2.2.2; omega) ?_
        intro v2 W2 ho2 hw2
        simp only [Act.put, List.setIfInBounds_toArray, List.set_cons_zero, List.set_cons_succ]
        have hb2W : Below A2.heap.size A2 W2 := (HW1.out.2.trans ((below_al W1 _).mono HW1.out.2.size)).trans hw2.out
        have HRV : Hid (RV W2 3 1 v2 (n + 1) (ivs (l ++ [x])) ∧ (∀ g, blkOf v2 = some g → A2.heap.size ≤ g) ∧ ∀ p m c, v2 = .slice (some p) m c → p = ⟨p.block, 0, none⟩) := by
          have := RV.own (e := 3) (sz := 1) (cs := ivs (l ++ [x])) (by have := ho2.out; simpa [ivs] using this) (ivs_one _)
          exact this
        obtain ⟨a2, c2, hv2, _⟩ := HRV.out.1
        subst hv2
        have h2W : Blk W2 b2 30 [.slice a n c, .slice a' m c'] := HB2.out.2.1.below hb2W HB2.out.2.1.lt
        have h4W : Blk W2 (b2 + 1) 30 [.slice none 0 0, .slice none 0 0] := HB2.out.2.2.1.below hb2W HB2.out.2.2.1.lt
        have d1 : W2.cell? ⟨b2, 0, none⟩ = some (.slice a n c) := h2W.cell rfl
        have d2 : W2.frozen? ⟨b2, 0, none⟩ = false := h2W.free 0
        have HW2 : Hid (Below w.heap.size w W2 ∧ Blk W2 b2 30 [.slice a n c, .slice a' m c'] ∧ Blk W2 (b2 + 1) 30 [.slice none 0 0, .slice none 0 0] ∧ RQ W2 (.slice a n c) (.slice a' m c') l E) := ⟨below_tr HB2.out.1 hb2W, h2W, h4W, HB2.out.2.2.2.below hb2W⟩
        clear ho2 hw2 hb2W h2W h4W HW1 c20
        go_wp2_with (with_reducible change wpList _ _ _ ({ dst := some 27, op := _, type := _, pos := _, after := _, guard := _ } :: _) _ _; refine Hid.out ?_)
        show wpList _ _ _ _ _ _
        obtain ⟨W3, hW3⟩ : ∃ W3, W2.setCell ⟨b2, 0, none⟩ (.slice a2 (n + 1) c2) = W3 := ⟨_, rfl⟩
        rw [hW3]
        have hk3 : Keep (fun k => k = b2) W2 W3 := by rw [← hW3]; exact Keep.grown (grown_setCell W2 b2 0 _) rfl
        have HW3 : Hid (Blk W3 b2 30 [.slice a2 (n + 1) c2, .slice a' m c'] ∧ Blk W3 (b2 + 1) 30 [.slice none 0 0, .slice none 0 0] ∧ Keep (fun k => k = b2) W2 W3) := ⟨by rw [← hW3]; exact HW2.out.2.1.set 0 _, hk3.blk HW2.out.2.2.1 (by omega), hk3⟩
        clear hW3 hk3 d1 d2
        refine wpList_load_row rfl 30 (.tmp 2) rfl b2 rfl 30 #[.slice a2 (n + 1) c2, .slice a' m c'] (0, 0) _ HW3.out.1 Try.underlying30 rfl size30 ?_
        simp only [Act.put, List.setIfInBounds_toArray, List.set_cons_zero, List.set_cons_succ]
        go_wp2_with (with_reducible change wpList _ _ _ ({ dst := none, op := Op.store 30 _ _, type := _, pos := _, after := _, guard := _ } :: _) _ _; refine Hid.out ?_)
        show wpList _ _ _ _ _ _
        refine wpList_store_blk rfl 30 (.tmp 4) (.tmp 27) rfl (b2 + 1) 0 30 [.slice none 0 0, .slice none 0 0] [.slice a2 (n + 1) c2, .slice a' m c'] rfl rfl HW3.out.2.1 (by simp) size30 (by intro u hu; simp at hu; rcases hu with rfl | rfl <;> rfl) ?_
        intro V hb5 hg5
        have hk5 : Keep (fun k => k = b2 ∨ k = b2 + 1) W2 V := (HW3.out.2.2.mono (fun j _ hj => .inl hj)).trans (Keep.grown (S := fun k => k = b2 ∨ k = b2 + 1) hg5.out (.inr rfl)) (fun _ hj _ => hj)
        have hold : ∀ g, g < w.heap.size → ¬ (g = b2 ∨ g = b2 + 1) := fun g hg e => by have := HSZ.out; omega
        have HV : Hid (Blk V (b2 + 1) 30 [.slice a2 (n + 1) c2, .slice a' m c'] ∧ Below w.heap.size w V ∧ RQ V (.slice a2 (n + 1) c2) (.slice a' m c') (l ++ [x]) E) := by
          refine ⟨hb5.out, HW2.out.1.trans (hk5.toBelow HW2.out.1.size (fun k hk => by have := HSZ.out; omega)), ⟨?_, ?_, ?_, HRQ.out.nE, HRV.out.2.2⟩⟩
          · have h1 := HRV.out.1.keep hk5 (fun g hg e => by have h1 := HRV.out.2.1 g hg; have h2 := HB2.out.2.2.1.lt; omega)
            rw [show (l ++ [x]).length = n + 1 by rw [List.length_append, HB.out.2.2.2.1]; rfl]
            exact h1
          · exact HW2.out.2.2.2.er.keep hk5 (fun g hg => hold g (HRQ.out.er.lt hg))
          · have h1 := HB.out.2.2.2
            simp
            omega
        clear hb5 hg5 hk5 hold
        go_wp2_with fail
        refine ret30 rfl rfl rfl rfl HV.out.1 ?_
        exact ⟨_, by rw [HC.out.1]; rfl, by rw [HC.out.2]; exact HV.out.2.2, HV.out.2.1, .inr (fun g hg => Nat.le_trans HB2.out.1.size (HRV.out.2.1 g hg))⟩
#print axioms rput_is
end Go.Proofs.Ytipipckbcelphaa.Oct
