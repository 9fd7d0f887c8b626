/-
  Layer 20 (review): the document's board: There, IsOpen, Of, live.
  Layer 20 (review): the document's board: live, Open.
  Layer 20 (review): the document's board: with; the drawn regions of with and Propose.
-/
import Derived.Test.YtaecigpjcbjcbaaFew
/- Layer 20 (review): the document's board: There, IsOpen, Of, live. -/
namespace Go.Proofs.Ytaecigpjcbjcbaa.Oct
open Go.RowKit
set_option linter.unusedSimpArgs false
set_option linter.unusedVariables false

/-- a row that is read -/
def SV (w : World) (v : Value) (n sz : Nat) (cs : List Value) : Prop := ∃ a c, v = .slice a n c ∧ n ≤ c ∧ c ≤ maxLen ∧ cs.length = n * sz ∧ (∀ u ∈ cs, u.oneCell' = true) ∧ ((a = none ∧ c = 0) ∨ ∃ g, a = some ⟨g, 0, none⟩ ∧ g < w.heap.size ∧ ∀ j u, cs[j]? = some u → w.cell? ⟨g, j, none⟩ = some u)
theorem SV.same {w w' : World} {v : Value} {n sz : Nat} {cs : List Value} (h : SV w v n sz cs) (hs : ∀ g, v.ownBlock = some g → w'.heap[g]? = w.heap[g]?) : SV w' v n sz cs := by
  obtain ⟨a, c, rfl, h1, h2, h3, h4, h5⟩ := h
  refine ⟨a, c, rfl, h1, h2, h3, h4, h5.imp id ?_⟩
  rintro ⟨g, rfl, hg, hc⟩
  have e := hs g rfl
  refine ⟨g, rfl, ?_, fun j u hu => ?_⟩
  · rw [Array.getElem?_eq_getElem hg] at e
    exact (Array.getElem?_eq_some_iff.1 e).1
  · have := hc j u hu
    unfold World.cell? at this ⊢
    simp only [e]
    exact this
theorem SV.below {w w' : World} {v : Value} {n sz : Nat} {cs : List Value} (h : SV w v n sz cs) (hb : Below w.heap.size w w') : SV w' v n sz cs := by
  obtain ⟨a, c, rfl, h1, h2, h3, h4, h5⟩ := h
  refine ⟨a, c, rfl, h1, h2, h3, h4, h5.imp id ?_⟩
  rintro ⟨g, rfl, hg, hc⟩
  exact ⟨g, rfl, Nat.lt_of_lt_of_le hg hb.size, fun j u hu => (hb.cell (p := ⟨g, j, none⟩) hg).trans (hc j u hu)⟩
theorem SV.nil (w : World) (sz : Nat) : SV w (.slice none 0 0) 0 sz [] := ⟨none, 0, rfl, Nat.le_refl _, by unfold maxLen; omega, by simp, by simp, .inl ⟨rfl, rfl⟩⟩
theorem SV.own {w : World} {B e sz n : Nat} {v : Value} {cs : List Value} (h : w.ownsRow B e sz v n cs) (h1 : ∀ u ∈ cs, u.oneCell' = true) : SV w v n sz cs := by
  rcases h.2 with ⟨rfl, rfl⟩ | ⟨g, cap, cur, rfl, hB, hb, hn, hc, hsz, ht⟩
  · exact ⟨none, 0, rfl, Nat.le_refl _, by unfold maxLen; omega, h.1, h1, .inl ⟨rfl, rfl⟩⟩
  · refine ⟨_, cap, rfl, hn, hc, h.1, h1, .inr ⟨g, rfl, lt_of_block hb, fun j u hu => ?_⟩⟩
    rw [cell_of_row w g j _ e (0, 0) hb]
    rw [← ht, List.getElem?_take] at hu
    split at hu
    · simpa using hu
    · cases hu
theorem SV.one {w : World} {v : Value} {n sz : Nat} {cs : List Value} (h : SV w v n sz cs) : v.oneCell' = true ∧ v.cells = #[v] := by
  obtain ⟨a, c, rfl, _⟩ := h
  exact ⟨rfl, rfl⟩
theorem SV.lt {w : World} {v : Value} {n sz : Nat} {cs : List Value} (h : SV w v n sz cs) {g : Nat} (hg : v.ownBlock = some g) : g < w.heap.size := by
  obtain ⟨a, c, rfl, h1, h2, h3, h4, h5⟩ := h
  rcases h5 with ⟨rfl, rfl⟩ | ⟨g', rfl, h6, _⟩
  · cases hg
  · cases hg; exact h6
/-- what was made, what was done, by the document -/
structure Mk where
  au : BA
  ch : BA
  h : Hs
def Mk.cells (m : Mk) : List Value := .string m.au :: .string m.ch :: U m.h
def mkC (l : List Mk) : List Value := l.flatMap Mk.cells
structure Dd where
  k : Int
  id : Int
  u : BA
  t : BA
def Dd.cells (d : Dd) : List Value := [iv d.k, iv d.id, .string d.u, .string d.t]
def ddC (l : List Dd) : List Value := l.flatMap Dd.cells
structure Rb where
  L : List Mk
  D : List Dd
structure RBt (w : World) (lv dv : Value) (R : Rb) : Prop where
  l : SV w lv R.L.length 34 (mkC R.L)
  d : SV w dv R.D.length 4 (ddC R.D)
  hs : ∀ m ∈ R.L, m.h.length = 32
  ks : ∀ d ∈ R.D, 1 ≤ d.k ∧ d.k ≤ 5
  nl : R.L.length ≤ 1000
  nd : R.D.length ≤ 1000
theorem RBt.below {w w' : World} {lv dv : Value} {R : Rb} (h : RBt w lv dv R) (hb : Below w.heap.size w w') : RBt w' lv dv R := ⟨h.l.below hb, h.d.below hb, h.hs, h.ks, h.nl, h.nd⟩
theorem RBt.same {w w' : World} {lv dv : Value} {R : Rb} (h : RBt w lv dv R) (h1 : ∀ g, lv.ownBlock = some g → w'.heap[g]? = w.heap[g]?) (h2 : ∀ g, dv.ownBlock = some g → w'.heap[g]? = w.heap[g]?) : RBt w' lv dv R := ⟨h.l.same h1, h.d.same h2, h.hs, h.ks, h.nl, h.nd⟩
theorem size30 : (Try.prog.info? 30).map (·.size) = some 2 := by kernel_rfl
theorem zero30 (W : World) : (zeroValue 30).run Try.prog W = .ok (.agg #[.slice none 0 0, .slice none 0 0]) W := by kernel_rfl
theorem size94 : (Try.prog.info? 94).map (·.size) = some 4 := by kernel_rfl
theorem size92 : (Try.prog.info? 92).map (·.size) = some 34 := by kernel_rfl
theorem flatN {α : Type} {f : α → List Value} {k : Nat} : ∀ {l : List α} {i : Nat} {a : α}, (∀ a ∈ l, (f a).length = k) → l[i]? = some a → ∀ j u, (f a)[j]? = some u → (l.flatMap f)[i * k + j]? = some u
  | [], i, a, _, h, _, _, _ => by simp at h
  | b :: t, 0, a, hf, h, j, u, hj => by
    simp at h
    subst h
    have hj3 : j < k := by have := (List.getElem?_eq_some_iff.1 hj).1; rw [hf b (by simp)] at this; exact this
    rw [List.flatMap_cons, List.getElem?_append_left (by rw [hf b (by simp)]; omega)]
    simpa using hj
  | b :: t, i + 1, a, hf, h, j, u, hj => by
    have := flatN (l := t) (fun a ha => hf a (by simp [ha])) (by simpa using h) j u hj
    rw [List.flatMap_cons, List.getElem?_append_right (by rw [hf b (by simp), Nat.add_mul]; omega), hf b (by simp), show (i + 1) * k + j - k = i * k + j by rw [Nat.add_mul]; omega]
    exact this
theorem RBt.deed {w : World} {lv : Value} {da : Option Addr} {nd dc : Nat} {R : Rb} (h : RBt w lv (.slice da nd dc) R) {i : Nat} (hi : i < nd) : ∃ g d, da = some ⟨g, 0, none⟩ ∧ g < w.heap.size ∧ R.D[i]? = some d ∧ (1 ≤ d.k ∧ d.k ≤ 5) ∧ w.rangeAt g (i * 4) d.cells := by
  obtain ⟨a, c, e, h1, h2, h3, h4, h5⟩ := h.d
  injection e with e1 e2 e3
  subst e1 e3
  have hl : R.D.length = nd := by omega
  obtain ⟨d, hd⟩ : ∃ d, R.D[i]? = some d := ⟨_, List.getElem?_eq_getElem (by omega)⟩
  rcases h5 with ⟨_, rfl⟩ | ⟨g, rfl, hg, hc⟩
  · omega
  · exact ⟨g, d, rfl, hg, hd, h.ks d (List.mem_of_getElem? hd), fun j u hu => hc _ u (flatN (f := Dd.cells) (fun _ _ => rfl) hd j u hu)⟩
theorem Dd.cell {w : World} {g o : Nat} {d : Dd} (h : w.rangeAt g o d.cells) : w.cell? ⟨g, o, none⟩ = some (iv d.k) ∧ w.cell? ⟨g, o + 1, none⟩ = some (iv d.id) ∧ w.cell? ⟨g, o + 2, none⟩ = some (.string d.u) ∧ w.cell? ⟨g, o + 3, none⟩ = some (.string d.t) := ⟨h 0 _ rfl, h 1 _ rfl, h 2 _ rfl, h 3 _ rfl⟩
/-- is there such a proposal, is it open, whose vote is what -/
def thereR (R : Rb) (x : Int) : Bool := decide (1 ≤ x ∧ x ≤ (R.L.length : Int))
def shutD (D : List Dd) (x : Int) : Bool := D.any fun d => d.id == x && d.k == 5
def openR (R : Rb) (x : Int) : Bool := !shutD R.D x && thereR R x
def ofD (D : List Dd) (x : Int) (u : BA) : Int := D.foldl (fun v d => if d.id = x ∧ d.u = u ∧ d.k < 4 then d.k.tmod 3 else v) 0
def liveR (R : Rb) (x : Int) : Int := if thereR R x = false then 111 else if openR R x = false then 201 else 0
set_option maxRecDepth 100000 in
set_option maxHeartbeats 4000000 in
theorem rthere_is {w : World} {lv dv : Value} {R : Rb} (h : RBt w lv dv R) (x : Int) : Calls Try.prog 17 #[.agg #[lv, dv], iv x] w (fun e w' => e = .returned (.bool (thereR R x)) ∧ Below w.heap.size w w') := by
  obtain ⟨nl, hnl⟩ : ∃ m, R.L.length = m := ⟨_, rfl⟩
  obtain ⟨nd, hnd⟩ : ∃ m, R.D.length = m := ⟨_, rfl⟩
  obtain ⟨la, lc, rfl, _⟩ := h.l
  obtain ⟨da, dc, rfl, _⟩ := h.d
  rw [hnl, hnd] at h ⊢
  obtain ⟨b, hb⟩ : ∃ b, w.heap.size = b := ⟨_, rfl⟩
  obtain ⟨A, hA⟩ : ∃ A, w.alloc (.cells #[.slice la nl lc, .slice da nd dc] 30) = A := ⟨_, rfl⟩
  have hB : Below w.heap.size w A := by rw [← hA]; exact below_al _ _
  have h2 : Blk A b 30 [.slice la nl lc, .slice da nd dc] := by rw [← hA, ← hb]; exact Blk.new w _ _
  have HA0 : Hid (RBt w (.slice la nl lc) (.slice da nd dc) R) := h
  have HA : Hid (Below w.heap.size w A ∧ Blk A b 30 [.slice la nl lc, .slice da nd dc] ∧ RBt A (.slice la nl lc) (.slice da nd dc) R ∧ True) := ⟨hB, h2, h.below hB, trivial⟩
  have HN : Hid (R.L.length = nl ∧ R.D.length = nd ∧ w.heap.size = b) := ⟨hnl, hnd, hb⟩
  have ql : (nl : Int) ≤ 1000 := by have := h.nl; omega
  have qd : (nd : Int) ≤ 1000 := by have := h.nd; omega
  obtain ⟨r, hr⟩ : ∃ r, thereR R x = r := ⟨_, rfl⟩
  have HR : Hid (thereR R x = r) := hr
  rw [hr]
  clear hr
  clear h hnl hnd hB h2
  go_enter Try.func17, Try.ntmps17
  have c0A : A.cell? ⟨b, 0, none⟩ = some (.slice la nl lc) := HA.out.2.1.cell rfl
  have c1A : A.cell? ⟨b, 1, none⟩ = some (.slice da nd dc) := HA.out.2.1.cell rfl
  by_cases h1 : (1 : Int) ≤ x
  · by_cases h2 : x ≤ (nl : Int)
    · have HF : Hid (r = true) := by
        show _ = _
        rw [← HR.out]; unfold thereR; rw [HN.out.1]; exact decide_eq_true ⟨h1, h2⟩
      go_wp2
      go_ret
      exact ⟨by rw [HF.out]; simp [h2], HA.out.1⟩
    · have h3 : (nl : Int) < x := by omega
      have HF : Hid (r = false) := by
        show _ = _
        rw [← HR.out]; unfold thereR; rw [HN.out.1]; exact decide_eq_false (fun h => h2 h.2)
      clear h2
      go_wp2
      go_ret
      exact ⟨by rw [HF.out]; simp; try omega, HA.out.1⟩
  · have h3 : x < (1 : Int) := by omega
    have HF : Hid (r = false) := by
      show _ = _
      rw [← HR.out]; unfold thereR; exact decide_eq_false (fun h => h1 h.1)
    clear h1
    go_wp2
    go_ret
    exact ⟨by rw [HF.out]; try rfl, by first | exact HA.out.1 | (rw [← HN.out.2.2]; exact HA.out.1)⟩
set_option maxRecDepth 100000 in
set_option maxHeartbeats 4000000 in
theorem rIsOpen_is {w : World} {lv dv : Value} {R : Rb} (h : RBt w lv dv R) (x : Int) : Calls Try.prog 38 #[.agg #[lv, dv], iv x] w (fun e w' => e = .returned (.bool (openR R x)) ∧ Below w.heap.size w w') := by
  obtain ⟨nl, hnl⟩ : ∃ m, R.L.length = m := ⟨_, rfl⟩
  obtain ⟨nd, hnd⟩ : ∃ m, R.D.length = m := ⟨_, rfl⟩
  obtain ⟨la, lc, rfl, _⟩ := h.l
  obtain ⟨da, dc, rfl, _⟩ := h.d
  rw [hnl, hnd] at h ⊢
  obtain ⟨b, hb⟩ : ∃ b, w.heap.size = b := ⟨_, rfl⟩
  obtain ⟨A, hA⟩ : ∃ A, w.alloc (.cells #[.slice la nl lc, .slice da nd dc] 30) = A := ⟨_, rfl⟩
  have hB : Below w.heap.size w A := by rw [← hA]; exact below_al _ _
  have h2 : Blk A b 30 [.slice la nl lc, .slice da nd dc] := by rw [← hA, ← hb]; exact Blk.new w _ _
  have HA0 : Hid (RBt w (.slice la nl lc) (.slice da nd dc) R) := h
  have HA : Hid (Below w.heap.size w A ∧ Blk A b 30 [.slice la nl lc, .slice da nd dc] ∧ RBt A (.slice la nl lc) (.slice da nd dc) R ∧ True) := ⟨hB, h2, h.below hB, trivial⟩
  have HN : Hid (R.L.length = nl ∧ R.D.length = nd ∧ w.heap.size = b) := ⟨hnl, hnd, hb⟩
  have ql : (nl : Int) ≤ 1000 := by have := h.nl; omega
  have qd : (nd : Int) ≤ 1000 := by have := h.nd; omega
  obtain ⟨r, hr⟩ : ∃ r, openR R x = r := ⟨_, rfl⟩
  have HR : Hid (openR R x = r) := hr
  rw [hr]
  clear hr
  clear h hnl hnd hB h2
  go_enter Try.func38, Try.ntmps38
  have c0A : A.cell? ⟨b, 0, none⟩ = some (.slice la nl lc) := HA.out.2.1.cell rfl
  have c1A : A.cell? ⟨b, 1, none⟩ = some (.slice da nd dc) := HA.out.2.1.cell rfl
  go_wp2
  go_loopw [5] (fun u wr => ∃ i : Nat, u = iv i ∧ Hid (i ≤ nd ∧ shutD (R.D.take i) x = false ∧ A = wr)) (fun u _ => nd - (intOf u).toNat)
  case atStart => exact ⟨0, rfl, Nat.zero_le _, rfl, by first | rfl | assumption⟩
  case round =>
    obtain ⟨i, rfl, HI⟩ := hrel
    obtain ⟨h1, h2, rfl⟩ := HI.out
    by_cases hi : i = nd
    · have q1 : (nd : Int) ≤ (i : Int) := by omega
      have HF : Hid (thereR R x = r) := by
        show _ = _
        rw [hi, ← HN.out.2.1, List.take_length] at h2
        rw [← HR.out]; unfold openR; rw [h2]; rfl
      have HC := rthere_is HA.out.2.2.1 x
      rw [HF.out] at HC
      clear h1 h2 hi HI
      go_wp2_with (with_reducible change wpList _ _ _ ({ dst := some 30, op := _, type := _, pos := _, after := _, guard := _ } :: _) _ _; refine Hid.out ?_)
      show wpList _ _ _ _ _ _
      refine wpList_load_row rfl 30 (.tmp 2) rfl b rfl 30 #[.slice la nl lc, .slice da nd dc] (0, 0) _ HA.out.2.1 Try.underlying30 rfl size30 ?_
      simp only [Act.put, List.setIfInBounds_toArray, List.set_cons_zero, List.set_cons_succ]
      go_wp2_with fail
      refine HC.mono ?_
      rintro e V ⟨rfl, hbV⟩
      have HV : Hid (Below w.heap.size w V) := below_tr HA.out.1 hbV
      clear HC hbV
      go_wp2
      go_ret
      exact ⟨rfl, by first | exact HV.out | (rw [← HN.out.2.2]; exact HV.out)⟩
    · have q1 : (i : Int) < (nd : Int) := by omega
      have q2 : i < nd := by omega
      have HI2 : Hid (i < nd) := q2
      obtain ⟨g, d, ha, hg, hd, hk, hra⟩ := HA.out.2.2.1.deed q2
      subst ha
      obtain ⟨k0, k1, k2, k3⟩ := Dd.cell hra
      have HD : Hid (R.D[i]? = some d ∧ shutD (R.D.take i) x = false) := ⟨hd, h2⟩
      clear h1 h2 hi HI hd hra hk
      by_cases he : d.id = x
      · by_cases hk : d.k = 5
        · have HF : Hid (r = false) := by
            show _ = _
            rw [← HR.out]; unfold openR
            have : shutD R.D x = true := by
              unfold shutD; rw [List.any_eq_true]; exact ⟨d, List.mem_of_getElem? HD.out.1, by simp [he, hk]⟩
            rw [this]; rfl
          have e1 : (d.id == x) = true := by simpa using he
          have e2 : (d.k == 5) = true := by simpa using hk
          clear he hk
          go_wp2
          go_ret
          exact ⟨by rw [HF.out]; rfl, by first | exact HA.out.1 | (rw [← HN.out.2.2]; exact HA.out.1)⟩
        · have HF : Hid (shutD (R.D.take (i + 1)) x = false) := by
            show _ = _
            rw [List.take_add_one, HD.out.1]
            have := HD.out.2
            unfold shutD at *
            rw [List.any_append, this]; simp [hk]
          have e1 : (d.id == x) = true := by simpa using he
          have e2 : (d.k == 5) = false := by simpa using hk
          clear he hk
          go_wp2
          refine ⟨⟨i + 1, by simp, HI2.out, HF.out, by first | rfl | trivial⟩, ?_⟩
          have := HI2.out
          simp only [intOf]
          omega
      · have HF : Hid (shutD (R.D.take (i + 1)) x = false) := by
          show _ = _
          rw [List.take_add_one, HD.out.1]
          have := HD.out.2
          unfold shutD at *
          rw [List.any_append, this]; simp [he]
        have e1 : (d.id == x) = false := by simpa using he
        clear he
        go_wp2
        refine ⟨⟨i + 1, by simp, HI2.out, HF.out, by first | rfl | trivial⟩, ?_⟩
        have := HI2.out
        simp only [intOf]
        omega
theorem ofD_snoc (D : List Dd) (d : Dd) (x : Int) (u : BA) : ofD (D ++ [d]) x u = if d.id = x ∧ d.u = u ∧ d.k < 4 then d.k.tmod 3 else ofD D x u := by unfold ofD; rw [List.foldl_append]; rfl
theorem take_snoc {α : Type} {l : List α} {s : Nat} {x : α} (h : l[s]? = some x) : l.take (s + 1) = l.take s ++ [x] := by rw [List.take_add_one, h]; rfl
theorem zero94 (W : World) : (zeroValue 94).run Try.prog W = .ok (.agg #[iv 0, iv 0, .string ⟨#[]⟩, .string ⟨#[]⟩]) W := by kernel_rfl
theorem Dd.one (d : Dd) : ∀ v ∈ d.cells, v.oneCell' = true := by intro v hv; simp [Dd.cells] at hv; rcases hv with rfl | rfl | rfl | rfl <;> rfl
set_option maxRecDepth 100000 in
set_option maxHeartbeats 4000000 in
theorem rOf_is {w : World} {lv dv : Value} {R : Rb} (h : RBt w lv dv R) (x : Int) (u : BA) : Calls Try.prog 43 #[.agg #[lv, dv], iv x, .string u] w (fun e w' => e = .returned (iv (ofD R.D x u)) ∧ Below w.heap.size w w') := by
  obtain ⟨nl, hnl⟩ : ∃ m, R.L.length = m := ⟨_, rfl⟩
  obtain ⟨nd, hnd⟩ : ∃ m, R.D.length = m := ⟨_, rfl⟩
  obtain ⟨la, lc, rfl, _⟩ := h.l
  obtain ⟨da, dc, rfl, _⟩ := h.d
  rw [hnl, hnd] at h ⊢
  obtain ⟨b, hb⟩ : ∃ b, w.heap.size = b := ⟨_, rfl⟩
  obtain ⟨A, hA⟩ : ∃ A, w.alloc (.cells #[.slice la nl lc, .slice da nd dc] 30) = A := ⟨_, rfl⟩
  have hB : Below w.heap.size w A := by rw [← hA]; exact below_al _ _
  have h2 : Blk A b 30 [.slice la nl lc, .slice da nd dc] := by rw [← hA, ← hb]; exact Blk.new w _ _
  have HA0 : Hid (RBt w (.slice la nl lc) (.slice da nd dc) R) := h
  have HA : Hid (Below w.heap.size w A ∧ Blk A b 30 [.slice la nl lc, .slice da nd dc] ∧ RBt A (.slice la nl lc) (.slice da nd dc) R ∧ True) := ⟨hB, h2, h.below hB, trivial⟩
  have HN : Hid (R.L.length = nl ∧ R.D.length = nd ∧ w.heap.size = b) := ⟨hnl, hnd, hb⟩
  have ql : (nl : Int) ≤ 1000 := by have := h.nl; omega
  have qd : (nd : Int) ≤ 1000 := by have := h.nd; omega
  have hz94 := zero94
  obtain ⟨r, hr⟩ : ∃ r, ofD R.D x u = r := ⟨_, rfl⟩
  have HR : Hid (ofD R.D x u = r) := hr
  rw [hr]
  clear hr
  clear h hnl hnd hB h2
  go_enter Try.func43, Try.ntmps43
  go_wp2
  go_loopw [7, 8] (fun u0 u1 wr => ∃ (i : Nat) (z : Int), u0 = iv z ∧ u1 = iv i ∧ Hid (i ≤ nd ∧ ofD (R.D.take i) x u = z ∧ Below w.heap.size w wr ∧ Blk wr b 30 [.slice la nl lc, .slice da nd dc] ∧ RBt wr (.slice la nl lc) (.slice da nd dc) R)) (fun _ u1 _ => nd - (intOf u1).toNat)
  case atStart => exact ⟨0, 0, rfl, rfl, Nat.zero_le _, rfl, HA.out.1, HA.out.2.1, HA.out.2.2.1⟩
  case round =>
    obtain ⟨i, z, rfl, rfl, HI⟩ := hrel
    have c1 : wr.cell? ⟨b, 1, none⟩ = some (.slice da nd dc) := HI.out.2.2.2.1.cell rfl
    by_cases hi : i = nd
    · have q1 : (nd : Int) ≤ (i : Int) := by omega
      have HF : Hid (z = r) := by
        show _ = _
        have h2 := HI.out.2.1
        rw [hi, ← HN.out.2.1, List.take_length] at h2
        rw [← HR.out, h2]
      have HB : Hid (Below w.heap.size w wr) := HI.out.2.2.1
      clear hi HI
      go_wp2
      go_ret
      exact ⟨by rw [HF.out]; rfl, by first | exact HB.out | (rw [← HN.out.2.2]; exact HB.out)⟩
    · have q2 : i < nd := by have := HI.out.1; omega
      have q1 : (i : Int) < (nd : Int) := by omega
      have HI2 : Hid (i < nd) := q2
      obtain ⟨g, d, ha, hg, hd, hk, hra⟩ := HI.out.2.2.2.2.deed q2
      subst ha
      have HG : Hid (wr.rangeAt g (i * 4) d.cells) := hra
      have HD : Hid (R.D[i]? = some d ∧ (1 ≤ d.k ∧ d.k ≤ 5)) := ⟨hd, hk⟩
      obtain ⟨q, hq⟩ : ∃ q, wr.heap.size = q := ⟨_, rfl⟩
      have HQ : Hid (wr.heap.size = q) := hq
      clear hi hd hra hk
      go_wp2_with (with_reducible change wpList _ _ _ ({ dst := some 21, op := _, type := _, pos := _, after := _, guard := _ } :: _) _ _; refine Hid.out ?_)
      show wpList _ _ _ _ _ _
      refine wpList_load_want rfl 94 (.tmp 20) rfl g (i * 4) rfl d.cells _ HG.out Try.underlying94 rfl size94 ?_
      simp only [Act.put, List.setIfInBounds_toArray, List.set_cons_zero, List.set_cons_succ]
      go_wp2_with (with_reducible change wpList _ _ _ ({ dst := none, op := Op.store 94 _ _, type := _, pos := _, after := _, guard := _ } :: _) _ _; refine Hid.out ?_)
      show wpList _ _ _ _ _ _
      refine wpList_store_blk rfl 94 (.tmp 9) (.tmp 21) rfl q 0 94 [iv 0, iv 0, .string ⟨#[]⟩, .string ⟨#[]⟩] d.cells rfl rfl (by rw [← HQ.out]; simpa using Blk.new wr #[iv 0, iv 0, .string ⟨#[]⟩, .string ⟨#[]⟩] 94) (by simp [Dd.cells]) size94 (Dd.one d) ?_
      intro V hb5 hg5
      have h0 : Below wr.heap.size wr V := (below_al wr _).grown hg5.out (below_al wr _).size (fun j hj => by cases hj; exact Nat.le_of_eq HQ.out)
      have HV : Hid (Below w.heap.size w V ∧ Blk V b 30 [.slice la nl lc, .slice (some ⟨g, 0, none⟩) nd dc] ∧ RBt V (.slice la nl lc) (.slice (some ⟨g, 0, none⟩) nd dc) R) := ⟨below_tr HI.out.2.2.1 h0, HI.out.2.2.2.1.below h0 HI.out.2.2.2.1.lt, HI.out.2.2.2.2.below h0⟩
      have hbk : Blk V q 94 d.cells := by
        have := hb5.out
        simpa [Dd.cells] using this
      obtain ⟨k0, k1, k2, k3⟩ := Dd.cell hbk.range0
      rw [Nat.zero_add] at k1 k2 k3
      clear hb5 hg5 h0 hbk c1 hq
      by_cases he : d.id = x
      · have e1 : (d.id == x) = true := by simpa using he
        by_cases hu : d.u = u
        · have e2 : (d.u.toList == u.toList) = true := by rw [eq_iff]; simpa using hu
          by_cases h4 : d.k < 4
          · have HF : Hid (ofD (R.D.take (i + 1)) x u = d.k.tmod 3 ∧ d.k.tmod 3 = d.k % 3) := by
              refine ⟨?_, Int.tmod_eq_emod_of_nonneg (by have := HD.out.2.1; omega)⟩
              rw [take_snoc HD.out.1, ofD_snoc, if_pos ⟨he, hu, h4⟩]
            obtain ⟨y, hy⟩ : ∃ y, d.k.tmod 3 = y := ⟨_, rfl⟩
            have HY : Hid (d.k.tmod 3 = y) := hy
            have k5 : 1 ≤ d.k := HD.out.2.1
            clear he hu
            go_wp2
            refine ⟨⟨i + 1, y, by simp, by simp, HI2.out, by rw [HF.out.1, HY.out], HV.out⟩, ?_⟩
            have := HI2.out
            simp only [intOf]
            omega
          · have h5 : 4 ≤ d.k := by omega
            have HF : Hid (ofD (R.D.take (i + 1)) x u = z) := by
              show _ = _
              rw [take_snoc HD.out.1, ofD_snoc, if_neg (fun h => h4 h.2.2)]; exact HI.out.2.1
            clear he hu h4
            go_wp2
            refine ⟨⟨i + 1, z, by simp, by simp, HI2.out, HF.out, HV.out⟩, ?_⟩
            have := HI2.out
            simp only [intOf]
            omega
        · have e2 : (d.u.toList == u.toList) = false := by rw [eq_iff]; simpa using hu
          have HF : Hid (ofD (R.D.take (i + 1)) x u = z) := by
            show _ = _
            rw [take_snoc HD.out.1, ofD_snoc, if_neg (fun h => hu h.2.1)]; exact HI.out.2.1
          clear he hu
          go_wp2
          refine ⟨⟨i + 1, z, by simp, by simp, HI2.out, HF.out, HV.out⟩, ?_⟩
          have := HI2.out
          simp only [intOf]
          omega
      · have e1 : (d.id == x) = false := by simpa using he
        have HF : Hid (ofD (R.D.take (i + 1)) x u = z) := by
          show _ = _
          rw [take_snoc HD.out.1, ofD_snoc, if_neg (fun h => he h.1)]; exact HI.out.2.1
        clear he
        go_wp2
        refine ⟨⟨i + 1, z, by simp, by simp, HI2.out, HF.out, HV.out⟩, ?_⟩
        have := HI2.out
        simp only [intOf]
        omega
end Go.Proofs.Ytaecigpjcbjcbaa.Oct

/- Layer 20 (review): the document's board: live, Open. -/
namespace Go.Proofs.Ytaecigpjcbjcbaa.Oct
open Go.RowKit
set_option linter.unusedSimpArgs false
set_option linter.unusedVariables false

theorem own_ne {w : World} {B e sz n b T : Nat} {v : Value} {cs L : List Value} (h : w.ownsRow B e sz v n cs) (hb : Blk w b T L) (hne : e ≠ T) : some b ≠ v.ownBlock := by
  intro he
  rcases h.2 with ⟨rfl, _⟩ | ⟨g, cap, cur, rfl, _, hg, _⟩
  · cases he
  · cases he
    unfold Blk at hb
    rw [hg] at hb
    injection hb with hb
    injection hb with h1 h2
    exact hne h2
set_option maxRecDepth 100000 in
set_option maxHeartbeats 4000000 in
theorem rlive_is {w : World} {lv dv : Value} {R : Rb} (h : RBt w lv dv R) (x : Int) : Calls Try.prog 52 #[.agg #[lv, dv], iv x] w (fun e w' => e = .returned (iv (liveR R x)) ∧ Below w.heap.size w w') := by
  obtain ⟨nl, hnl⟩ : ∃ m, R.L.length = m := ⟨_, rfl⟩
  obtain ⟨nd, hnd⟩ : ∃ m, R.D.length = m := ⟨_, rfl⟩
  obtain ⟨la, lc, rfl, _⟩ := h.l
  obtain ⟨da, dc, rfl, _⟩ := h.d
  rw [hnl, hnd] at h ⊢
  obtain ⟨b, hb⟩ : ∃ b, w.heap.size = b := ⟨_, rfl⟩
  obtain ⟨A, hA⟩ : ∃ A, w.alloc (.cells #[.slice la nl lc, .slice da nd dc] 30) = A := ⟨_, rfl⟩
  have hB : Below w.heap.size w A := by rw [← hA]; exact below_al _ _
  have h2 : Blk A b 30 [.slice la nl lc, .slice da nd dc] := by rw [← hA, ← hb]; exact Blk.new w _ _
  have HA0 : Hid (RBt w (.slice la nl lc) (.slice da nd dc) R) := h
  have HA : Hid (Below w.heap.size w A ∧ Blk A b 30 [.slice la nl lc, .slice da nd dc] ∧ RBt A (.slice la nl lc) (.slice da nd dc) R ∧ True) := ⟨hB, h2, h.below hB, trivial⟩
  have HN : Hid (R.L.length = nl ∧ R.D.length = nd ∧ w.heap.size = b) := ⟨hnl, hnd, hb⟩
  have ql : (nl : Int) ≤ 1000 := by have := h.nl; omega
  have qd : (nd : Int) ≤ 1000 := by have := h.nd; omega
  obtain ⟨r, hr⟩ : ∃ r, liveR R x = r := ⟨_, rfl⟩
  have HR : Hid (liveR R x = r) := hr
  rw [hr]
  clear hr
  obtain ⟨t, ht⟩ : ∃ t, thereR R x = t := ⟨_, rfl⟩
  obtain ⟨p, hp⟩ : ∃ t, openR R x = t := ⟨_, rfl⟩
  have HT : Hid (thereR R x = t ∧ openR R x = p) := ⟨ht, hp⟩
  clear ht hp
  clear h hnl hnd hB h2
  go_enter Try.func52, Try.ntmps52
  have HCV := rthere_is HA.out.2.2.1 x
  rw [HT.out.1] at HCV
  have c0A : A.cell? ⟨b, 0, none⟩ = some (.slice la nl lc) := HA.out.2.1.cell rfl
  have c1A : A.cell? ⟨b, 1, none⟩ = some (.slice da nd dc) := HA.out.2.1.cell rfl
  go_wp2_with (with_reducible change wpList _ _ _ ({ dst := some 5, op := _, type := _, pos := _, after := _, guard := _ } :: _) _ _; refine Hid.out ?_)
  show wpList _ _ _ _ _ _
  refine wpList_load_row rfl 30 (.tmp 2) rfl b rfl 30 #[.slice la nl lc, .slice da nd dc] (0, 0) _ HA.out.2.1 Try.underlying30 rfl size30 ?_
  simp only [Act.put, List.setIfInBounds_toArray, List.set_cons_zero, List.set_cons_succ]
  go_wp2_with fail
  refine HCV.mono ?_
  rintro e V ⟨rfl, hbV⟩
  have HV : Hid (Below w.heap.size w V ∧ Blk V b 30 [.slice la nl lc, .slice da nd dc] ∧ RBt V (.slice la nl lc) (.slice da nd dc) R ∧ True) := ⟨below_tr HA.out.1 hbV, HA.out.2.1.below hbV HA.out.2.1.lt, HA.out.2.2.1.below hbV, trivial⟩
  clear hb hA hbV
  clear c0A c1A
  clear HCV
  cases t
  · have HF : Hid (r = 111) := by show _ = _; rw [← HR.out]; unfold liveR; rw [HT.out.1]; rfl
    go_wp2
    go_ret
    exact ⟨by rw [HF.out]; rfl, HV.out.1⟩
  · have HCV2 := rIsOpen_is HV.out.2.2.1 x
    rw [HT.out.2] at HCV2
    have c0V : V.cell? ⟨b, 0, none⟩ = some (.slice la nl lc) := HV.out.2.1.cell rfl
    have c1V : V.cell? ⟨b, 1, none⟩ = some (.slice da nd dc) := HV.out.2.1.cell rfl
    go_wp2_with (with_reducible change wpList _ _ _ ({ dst := some 9, op := _, type := _, pos := _, after := _, guard := _ } :: _) _ _; refine Hid.out ?_)
    show wpList _ _ _ _ _ _
    refine wpList_load_row rfl 30 (.tmp 2) rfl b rfl 30 #[.slice la nl lc, .slice da nd dc] (0, 0) _ HV.out.2.1 Try.underlying30 rfl size30 ?_
    simp only [Act.put, List.setIfInBounds_toArray, List.set_cons_zero, List.set_cons_succ]
    go_wp2_with fail
    refine HCV2.mono ?_
    rintro e V2 ⟨rfl, hbV2⟩
    have HV2 : Hid (Below w.heap.size w V2 ∧ Blk V2 b 30 [.slice la nl lc, .slice da nd dc] ∧ RBt V2 (.slice la nl lc) (.slice da nd dc) R ∧ True) := ⟨below_tr HV.out.1 hbV2, HV.out.2.1.below hbV2 HV.out.2.1.lt, HV.out.2.2.1.below hbV2, trivial⟩
    clear hbV2
    clear c0V c1V
    clear HCV2
    cases p
    · have HF : Hid (r = 201) := by show _ = _; rw [← HR.out]; unfold liveR; rw [HT.out.1, HT.out.2]; rfl
      go_wp2
      go_ret
      exact ⟨by rw [HF.out]; rfl, HV2.out.1⟩
    · have HF : Hid (r = 0) := by show _ = _; rw [← HR.out]; unfold liveR; rw [HT.out.1, HT.out.2]; rfl
      go_wp2
      go_ret
      exact ⟨by rw [HF.out]; rfl, HV2.out.1⟩
/-- the open ones -/
def openN (R : Rb) : Nat → List Nat
  | 0 => []
  | k + 1 => openN R k ++ (if openR R ((k : Int) + 1) then [k + 1] else [])
theorem openN_len (R : Rb) : ∀ k, (openN R k).length ≤ k
  | 0 => Nat.le_refl _
  | k + 1 => by
    have := openN_len R k
    unfold openN
    rw [List.length_append]
    split <;> simp <;> omega
set_option maxRecDepth 100000 in
set_option maxHeartbeats 4000000 in
theorem rOpen_is {w : World} {lv dv : Value} {R : Rb} (h : RBt w lv dv R)  : Calls Try.prog 15 #[.agg #[lv, dv]] w (fun e w' => ∃ v', e = .returned v' ∧ w'.ownsRow w.heap.size 3 1 v' (openN R R.L.length).length (opnC (openN R R.L.length)) ∧ Below w.heap.size w w') := by
  obtain ⟨nl, hnl⟩ : ∃ m, R.L.length = m := ⟨_, rfl⟩
  obtain ⟨nd, hnd⟩ : ∃ m, R.D.length = m := ⟨_, rfl⟩
  obtain ⟨la, lc, rfl, _⟩ := h.l
  obtain ⟨da, dc, rfl, _⟩ := h.d
  rw [hnl, hnd] at h ⊢
  have HB0 : Hid (w.heap.size = w.heap.size) := rfl
  obtain ⟨b, hb⟩ : ∃ b, w.heap.size = b := ⟨_, rfl⟩
  obtain ⟨A, hA⟩ : ∃ A, w.alloc (.cells #[.slice la nl lc, .slice da nd dc] 30) = A := ⟨_, rfl⟩
  have hB : Below w.heap.size w A := by rw [← hA]; exact below_al _ _
  have h2 : Blk A b 30 [.slice la nl lc, .slice da nd dc] := by rw [← hA, ← hb]; exact Blk.new w _ _
  have HA0 : Hid (RBt w (.slice la nl lc) (.slice da nd dc) R) := h
  have HA : Hid (Below w.heap.size w A ∧ Blk A b 30 [.slice la nl lc, .slice da nd dc] ∧ RBt A (.slice la nl lc) (.slice da nd dc) R ∧ True) := ⟨hB, h2, h.below hB, trivial⟩
  have HN : Hid (R.L.length = nl ∧ R.D.length = nd ∧ w.heap.size = b) := ⟨hnl, hnd, hb⟩
  have ql : (nl : Int) ≤ 1000 := by have := h.nl; omega
  have qd : (nd : Int) ≤ 1000 := by have := h.nd; omega
  clear h hnl hnd hB h2
  go_enter Try.func15, Try.ntmps15
  go_wp2
  go_loopw [3, 4] (fun v u wr => ∃ i : Nat, u = iv ((i : Int) + 1) ∧ Hid (i ≤ nl ∧ wr.ownsRow w.heap.size 3 1 v (openN R i).length (opnC (openN R i)) ∧ Below w.heap.size w wr ∧ Blk wr b 30 [.slice la nl lc, .slice da nd dc] ∧ RBt wr (.slice la nl lc) (.slice da nd dc) R ∧ True)) (fun _ u _ => nl + 1 - (intOf u).toNat)
  case atStart => exact ⟨0, rfl, Nat.zero_le _, ⟨rfl, .inl ⟨rfl, rfl⟩⟩, HA.out⟩
  case round =>
    obtain ⟨i, rfl, HI⟩ := hrel
    have HW : Hid (Below w.heap.size w wr ∧ Blk wr b 30 [.slice la nl lc, .slice da nd dc] ∧ RBt wr (.slice la nl lc) (.slice da nd dc) R ∧ True) := HI.out.2.2
    by_cases hi : i = nl
    · have q1 : (nl : Int) < (i : Int) + 1 := by omega
      have HF : Hid (wr.ownsRow w.heap.size 3 1 u3 (openN R nl).length (opnC (openN R nl))) := by rw [← hi]; exact HI.out.2.1
      clear hi HI
      have c0W : wr.cell? ⟨b, 0, none⟩ = some (.slice la nl lc) := HW.out.2.1.cell rfl
      have c1W : wr.cell? ⟨b, 1, none⟩ = some (.slice da nd dc) := HW.out.2.1.cell rfl
      go_wp2
      go_ret
      exact ⟨_, rfl, by first | exact HF.out | (rw [← HN.out.2.2]; exact HF.out), by first | exact HW.out.1 | (rw [← HN.out.2.2]; exact HW.out.1)⟩
    · have q2 : i < nl := by have := HI.out.1; omega
      have q1 : (i : Int) + 1 ≤ (nl : Int) := by omega
      have HQ : Hid (i < nl) := q2
      obtain ⟨p, hp⟩ : ∃ t, openR R ((i : Int) + 1) = t := ⟨_, rfl⟩
      have HP : Hid (openR R ((i : Int) + 1) = p) := hp
      clear hi hp
      have HC := rIsOpen_is HW.out.2.2.1 ((i : Int) + 1)
      rw [HP.out] at HC
      have c0W : wr.cell? ⟨b, 0, none⟩ = some (.slice la nl lc) := HW.out.2.1.cell rfl
      have c1W : wr.cell? ⟨b, 1, none⟩ = some (.slice da nd dc) := HW.out.2.1.cell rfl
      go_wp2_with (with_reducible change wpList _ _ _ ({ dst := some 12, op := _, type := _, pos := _, after := _, guard := _ } :: _) _ _; refine Hid.out ?_)
      show wpList _ _ _ _ _ _
      refine wpList_load_row rfl 30 (.tmp 1) rfl b rfl 30 #[.slice la nl lc, .slice da nd dc] (0, 0) _ HW.out.2.1 Try.underlying30 rfl size30 ?_
      simp only [Act.put, List.setIfInBounds_toArray, List.set_cons_zero, List.set_cons_succ]
      go_wp2_with fail
      refine HC.mono ?_
      rintro e V ⟨rfl, hbV⟩
      have HV : Hid (wr.ownsRow w.heap.size 3 1 u3 (openN R i).length (opnC (openN R i)) ∧ V.ownsRow w.heap.size 3 1 u3 (openN R i).length (opnC (openN R i)) ∧ Below w.heap.size w V ∧ Blk V b 30 [.slice la nl lc, .slice da nd dc] ∧ RBt V (.slice la nl lc) (.slice da nd dc) R ∧ True) := ⟨HI.out.2.1, ownsRow_below HI.out.2.1 hbV, below_tr HW.out.1 hbV, HW.out.2.1.below hbV HW.out.2.1.lt, HW.out.2.2.1.below hbV, trivial⟩
      clear HC hbV HI HW c0W c1W
      cases p
      · have HX : Hid (openN R (i + 1) = openN R i) := by show openN R i ++ _ = _; rw [HP.out]; simp
        go_wp2
        go_roundw
        case rel => exact ⟨i + 1, by simp, HQ.out, by rw [HX.out]; exact HV.out.2.1, HV.out.2.2⟩
        case measure =>
          have := HQ.out
          simp only [intOf]
          omega
      · have HX : Hid (openN R (i + 1) = openN R i ++ [i + 1]) := by show openN R i ++ _ = _; rw [HP.out]; simp
        obtain ⟨i0, z0, k0, k1, k2, k3, k4⟩ := info3'
        have HI0 : Hid (Try.prog.info? 3 = some i0 ∧ i0.zero = some z0 ∧ i0.size = 1 ∧ i0.bytes ≤ 1000 ∧ z0.cells.size = 1) := ⟨k0, k1, k2, k3, k4⟩
        have hbs := run_bs38 ((i : Int) + 1)
        have HLN : Hid ((openN R i).length + 1 ≤ 1000000) := by
          have h1 := openN_len R i
          have := HV.out.2.2.2.2.1.nl
          have := HN.out.1
          have := HQ.out
          show _ ≤ _
          omega
        clear k0 k1 k2 k3 k4
        go_wp2_with (with_reducible change wpList _ _ _ ({ dst := some 18, op := _, type := _, pos := _, after := _, guard := _ } :: _) _ _; refine Hid.out ?_)
        show wpList _ _ _ _ _ _
        refine wpList_append_own1 rfl (.tmp 15) (.tmp 17) 38 rfl _ 3 i0 z0 1 w.heap.size Try.underlying38 HI0.out.1 HI0.out.2.1 HI0.out.2.2.1 HI0.out.2.2.2.1 HI0.out.2.2.2.2 (by omega) u3 _ _ (ownsRow_below HV.out.2.1 (below_al V _)) V.heap.size 1 1 [iv ((i : Int) + 1)] rfl rfl rfl (range_new V [iv ((i : Int) + 1)] 3) (by intro u hu; simp at hu; subst hu; rfl) (by have := HV.out.2.2.1.size; simp; omega) HLN.out ?_
        intro v5 w5 ho5 hg5
        have HF : Hid (w5.ownsRow w.heap.size 3 1 v5 (openN R (i + 1)).length (opnC (openN R (i + 1))) ∧ Below w.heap.size w w5 ∧ Blk w5 b 30 [.slice la nl lc, .slice da nd dc] ∧ RBt w5 (.slice la nl lc) (.slice da nd dc) R ∧ True) := by
          have hb0 := below_tr HV.out.2.2.1 (below_al V (.cells #[iv ((i : Int) + 1)] 3))
          have hb5 : Below w.heap.size w w5 := hb0.grown hg5.out hb0.size (fun j hj => (HV.out.2.1.lt j hj).1)
          refine ⟨?_, hb5, ?_, HA0.out.below hb5, trivial⟩
          · rw [HX.out, opnC_app, List.length_append]
            have := ho5.out
            simpa [opnC] using this
          · refine (HV.out.2.2.2.1.alloc _).kept hg5.out ?_
            exact own_ne HV.out.2.1 HV.out.2.2.2.1 (by decide)
        clear ho5 hg5
        go_wp2
        go_roundw
        case rel => exact ⟨i + 1, by simp, HQ.out, HF.out⟩
        case measure =>
          have := HQ.out
          simp only [intOf]
          omega
end Go.Proofs.Ytaecigpjcbjcbaa.Oct

/- Layer 20 (review): the document's board: with; the drawn regions of with and Propose. -/
namespace Go.Proofs.Ytaecigpjcbjcbaa.Oct
open Go.RowKit
set_option linter.unusedSimpArgs false
set_option linter.unusedVariables false

/-- what is appended -/
def Rx (w : World) (a : Option Addr) (q sz : Nat) (qs : List Value) : Prop := qs.length = q * sz ∧ (∀ u ∈ qs, u.oneCell' = true) ∧ (0 < q → ∃ g off, a = some ⟨g, off, none⟩ ∧ ∀ j u, qs[j]? = some u → w.cell? ⟨g, off + j, none⟩ = some u)
theorem SV.rx {w : World} {a : Option Addr} {n c sz : Nat} {cs : List Value} (h : SV w (.slice a n c) n sz cs) : Rx w a n sz cs := by
  obtain ⟨a', c', e, h1, h2, h3, h4, h5⟩ := h
  cases e
  refine ⟨h3, h4, fun hp => ?_⟩
  rcases h5 with ⟨_, rfl⟩ | ⟨g, rfl, hg, hc⟩
  · omega
  · exact ⟨g, 0, rfl, fun j u hu => by rw [Nat.zero_add]; exact hc j u hu⟩
theorem run_append_g (w : World) (t ty e : TypeId) (i : TypeInfo) (z : Value) (sz B : Nat) (ht : Try.prog.underlying t = some (.slice e)) (hi : Try.prog.info? e = some i) (hz : i.zero = some z) (hs : i.size = sz) (hby : i.bytes ≤ 1000) (hzs : z.cells.size = sz) (hsz : 0 < sz)
    (v : Value) (n : Nat) (cs : List Value) (h : w.ownsRow B e sz v n cs) (o : Option Addr) (q c : Nat) (qs : List Value) (ho : Rx w o q sz qs) (hB : B ≤ w.heap.size) (hn : n + q ≤ 1000000) :
    ∃ v' w', (Builtin.append_ #[t, t] ty #[v, .slice o q c]).run Try.prog w = .ok v' w' ∧ w'.ownsRow B e sz v' (n + q) (cs ++ qs) ∧ w.grownBy w' v.ownBlock ∧ (v'.ownBlock = v.ownBlock ∨ v'.ownBlock = some w.heap.size) := by
  by_cases hq : q = 0
  · subst hq
    have hqs : qs = [] := List.eq_nil_of_length_eq_zero (by rw [ho.1]; omega)
    subst hqs
    have : ∃ a cap, v = .slice a n cap ∧ n ≤ cap := by
      rcases h.2 with ⟨rfl, rfl⟩ | ⟨g, cap, cur, rfl, _, _, hn, _⟩
      · exact ⟨none, 0, rfl, Nat.le_refl _⟩
      · exact ⟨_, cap, rfl, hn⟩
    obtain ⟨a, cap, rfl, hnc⟩ := this
    exact ⟨_, w, run_append_zero w t ty e i ht hi a o n cap c hnc, by simpa using h, World.grownBy.refl _ _, .inl rfl⟩
  · obtain ⟨g2, off2, rfl, hq2⟩ := ho.2.2 (by omega)
    obtain ⟨v', w', hr, h2, h3, _, h5⟩ := run_append_own_at (P := Try.prog) w B t ty e i z sz i.bytes ht hi hz hs rfl hzs hsz v n cs h ⟨g2, off2, none⟩ q c qs ho.1 (fun j u hu => by rw [Addr.add_lit]; exact hq2 j u hu) ho.2.1 (by unfold maxLen; omega) (Nat.le_trans (Nat.mul_le_mul_left _ hby) (by omega)) hB
    exact ⟨v', w', hr, h2, h3, h5⟩
theorem step_append_g {ops : Array Oper} {o : Oper} {a : Act} {K : Act → World → Prop} {Q : Exit → Act → World → Prop} {E : Prop} (hw : Region.wanted o (yielded ops a.tmps) = true) (s x : Operand) (t : TypeId)
    (hop : o.op = .call { callee := .builtin .append, args := #[s, x], argTypes := #[t, t] }) (w : World) (e : TypeId) (i : TypeInfo) (z : Value) (sz B : Nat) (ht : Try.prog.underlying t = some (.slice e)) (hi : Try.prog.info? e = some i) (hz : i.zero = some z) (hs : i.size = sz) (hby : i.bytes ≤ 1000) (hzs : z.cells.size = sz) (hsz : 0 < sz)
    (v : Value) (n : Nat) (cs : List Value) (h : w.ownsRow B e sz v n cs) (ao : Option Addr) (q c : Nat) (qs : List Value) (hsv : a.eval s = v) (hx : a.eval x = .slice ao q c) (ho : Rx w ao q sz qs) (hB : B ≤ w.heap.size) (hn : n + q ≤ 1000000)
    (hk : ∀ v' w', Hid (w'.ownsRow B e sz v' (n + q) (cs ++ qs)) → Hid (w.grownBy w' v.ownBlock) → Hid (v'.ownBlock = v.ownBlock ∨ v'.ownBlock = some w.heap.size) → K (a.put o.dst v') w') : if Region.wanted o (yielded ops a.tmps) = true then Oper.wp Try.prog o a w K Q else E := by
  rw [if_pos hw]
  obtain ⟨v', w', hr, h2, h3, h4⟩ := run_append_g w t o.type e i z sz B ht hi hz hs hby hzs hsz v n cs h ao q c qs ho hB hn
  unfold Oper.wp execOp
  simp only [hop, resolve, invoke, builtin, Sem.run_bind, Sem.run_pure, Result.andThen_ok, List.map_toArray, List.map_cons, List.map_nil, hsv, hx, hr]
  exact hk v' w' h2 h3 h4
theorem own_slice {w : World} {B e sz n : Nat} {v : Value} {cs : List Value} (h : w.ownsRow B e sz v n cs) : v.cells = #[v] ∧ v.oneCell' = true := by
  rcases h.2 with ⟨rfl, _⟩ | ⟨g, cap, cur, rfl, _⟩ <;> exact ⟨rfl, rfl⟩
theorem own_sameR {w w' : World} {B e sz n : Nat} {v : Value} {cs : List Value} (h : w.ownsRow B e sz v n cs) (hs : ∀ g, B ≤ g → g < w.heap.size → w'.heap[g]? = w.heap[g]?) : w'.ownsRow B e sz v n cs := by
  refine ⟨h.1, ?_⟩
  rcases h.2 with hn | ⟨g, cap, cur, rfl, hB, hb, hr⟩
  · exact .inl hn
  · exact .inr ⟨g, cap, cur, rfl, hB, (hs g hB (lt_of_block hb)).trans hb, hr⟩
theorem step_bs0R {ops : Array Oper} {o : Oper} {a : Act} {w : World} {K : Act → World → Prop} {Q : Exit → Act → World → Prop} {E : Prop} (hw : Region.wanted o (yielded ops a.tmps) = true) (t : TypeId) (hop : o.op = .buildSlice t 0 #[]) {v : Value} {w' : World} (hrun : (Instr.buildSlice t 0 #[]).run Try.prog w = .ok v w')
    (hk : K (a.put o.dst v) w') : if Region.wanted o (yielded ops a.tmps) = true then Oper.wp Try.prog o a w K Q else E := by
  rw [if_pos hw]
  unfold Oper.wp execOp
  simp [hop, hrun, Result.andThen]
  exact hk
theorem keepB {S : Nat → Prop} {A V V' : World} (h : Keep S A V) (hb : Below A.heap.size V V') : Keep S A V' := ⟨hb.os.trans h.os, hb.tape.trans h.tape, hb.output.trans h.output, Nat.le_trans h.size hb.size, fun k hk hn => (hb.block k hk).trans (h.block k hk hn)⟩
theorem grown_below {w w' : World} {B e sz n : Nat} {v : Value} {cs : List Value} (h : w.ownsRow B e sz v n cs) (hg : w.grownBy w' v.ownBlock) (hB : B ≤ w.heap.size) : Below B w w' := ⟨hg.os, hg.tape, hg.output, hg.size, fun k hk => hg.block k (by omega) fun e => by have := (h.lt k e.symm).1; omega⟩
theorem info94 : ∃ (i : TypeInfo) (z : Value), Try.prog.info? 94 = some i ∧ i.zero = some z ∧ i.size = 4 ∧ i.bytes ≤ 1000 ∧ z.cells.size = 4 := by
  have h : (Try.prog.info? 94).map (fun i => (i.size, decide (i.bytes ≤ 1000), i.zero.map (·.cells.size))) = some (4, true, some 4) := by kernel_rfl
  obtain ⟨i, hi, he⟩ := Option.map_eq_some_iff.1 h
  simp only [Prod.mk.injEq] at he
  obtain ⟨z, hz, hz2⟩ := Option.map_eq_some_iff.1 he.2.2
  exact ⟨i, z, hi, hz, he.1, by simpa using he.2.1, hz2⟩
theorem info92 : ∃ (i : TypeInfo) (z : Value), Try.prog.info? 92 = some i ∧ i.zero = some z ∧ i.size = 34 ∧ i.bytes ≤ 1000 ∧ z.cells.size = 34 := by
  have h : (Try.prog.info? 92).map (fun i => (i.size, decide (i.bytes ≤ 1000), i.zero.map (·.cells.size))) = some (34, true, some 34) := by kernel_rfl
  obtain ⟨i, hi, he⟩ := Option.map_eq_some_iff.1 h
  simp only [Prod.mk.injEq] at he
  obtain ⟨z, hz, hz2⟩ := Option.map_eq_some_iff.1 he.2.2
  exact ⟨i, z, hi, hz, he.1, by simpa using he.2.1, hz2⟩
theorem run_bs28_0 (W : World) : (Instr.buildSlice 28 0 #[]).run Try.prog W = .ok (.slice (some ⟨W.heap.size, 0, none⟩) 0 0) (W.alloc (.cells #[] 94)) := by kernel_rfl
theorem run_bs28 (f : Dd) (W : World) : (Instr.buildSlice 28 1 #[(0, .agg f.cells.toArray)]).run Try.prog W = .ok (.slice (some ⟨W.heap.size, 0, none⟩) 1 1) (W.alloc (.cells f.cells.toArray 94)) := by
  show (Instr.buildSlice 28 1 #[(0, .agg #[iv f.k, iv f.id, .string f.u, .string f.t])]).run Try.prog W = .ok (.slice (some ⟨W.heap.size, 0, none⟩) 1 1) (W.alloc (.cells #[iv f.k, iv f.id, .string f.u, .string f.t] 94))
  kernel_rfl
theorem run_bs27_0 (W : World) : (Instr.buildSlice 27 0 #[]).run Try.prog W = .ok (.slice (some ⟨W.heap.size, 0, none⟩) 0 0) (W.alloc (.cells #[] 92)) := by kernel_rfl
theorem Mk.len {m : Mk} (h : m.h.length = 32) : m.cells.length = 34 := by simp [Mk.cells, U_length, h]
theorem Mk.one (m : Mk) : ∀ v ∈ m.cells, v.oneCell' = true := by
  intro v hv
  simp only [Mk.cells, List.mem_cons] at hv
  rcases hv with rfl | rfl | hv
  · rfl
  · rfl
  · exact U_one _ v hv
theorem rx_oneD {V : World} {nb : Nat} {f : Dd} (h : Blk V nb 94 f.cells) : Rx V (some ⟨nb, 0, none⟩) 1 4 f.cells := ⟨rfl, Dd.one f, fun _ => ⟨nb, 0, rfl, fun j u hu => by rw [Nat.zero_add]; exact h.cell hu⟩⟩
theorem rx_oneM {V : World} {nb : Nat} {f : Mk} (h : Blk V nb 92 f.cells) (hl : f.h.length = 32) : Rx V (some ⟨nb, 0, none⟩) 1 34 f.cells := ⟨by rw [Mk.len hl], Mk.one f, fun _ => ⟨nb, 0, rfl, fun j u hu => by rw [Nat.zero_add]; exact h.cell hu⟩⟩
set_option maxRecDepth 100000 in
set_option maxHeartbeats 4000000 in
theorem rwi1 {Q : Exit → Act → World → Prop} {x0 x1 x4 x5 x6 x7 x8 x9 x10 x11 x12 x13 : Value} {ds : List Deferred} {A : World} {b2 b3 n c : Nat} {fa : Option Addr} {cs : List Value} {f : Dd} {lv : Value} {i0 : TypeInfo} {z : Value}
    (HL : Hid (b2 < A.heap.size)) (HX : Hid (Blk A b2 30 [lv, .slice fa n c])) (HR : Hid (∀ V, Keep (fun j => j = b2) A V → Rx V fa n 4 cs)) (HN : Hid (n ≤ 100000)) (HI0 : Hid (Try.prog.info? 94 = some i0 ∧ i0.zero = some z ∧ i0.size = 4 ∧ i0.bytes ≤ 1000 ∧ z.cells.size = 4)) (HF3 : Hid (A.rangeAt b3 0 f.cells ∧ b3 < A.heap.size ∧ ¬ (b3 = b2)))
    (hQ : ∀ V1 v1 v2 q nb, V1.ownsRow A.heap.size 94 4 v2 (0 + n + 1) ([] ++ cs ++ f.cells) → Blk V1 b2 30 [lv, v2] → Keep (fun j => j = b2) A V1 → Q .normal { tmps := #[x0, x1, .pointer (some ⟨b2, 0, none⟩), .pointer (some ⟨b3, 0, none⟩), x4, .slice (some ⟨q, 0, none⟩) 0 0, .pointer (some ⟨b2, 1, none⟩), .slice fa n c, v1, .agg f.cells.toArray, .slice (some ⟨nb, 0, none⟩) 1 1, v2, .pointer (some ⟨b2, 1, none⟩), x13], defers := ds } V1) :
    (Code.region 1 #[{ dst := some 5, op := Op.buildSlice 28 0 #[], type := 28, pos := "ref.go:41", after := #[], guard := none }, { dst := some 6, op := Op.fieldAddr 30 (Operand.tmp 2) 1, type := 0, pos := "ref.go:41", after := #[], guard := none }, { dst := some 7, op := Op.load 28 (Operand.tmp 6), type := 28, pos := "ref.go:41", after := #[{ on := 1, ground := Ground.data }], guard := none }, { dst := some 8, op := Op.call { callee := Callee.builtin Builtin.append, args := #[Operand.tmp 5, Operand.tmp 7], argTypes := #[28, 28] }, type := 28, pos := "ref.go:41", after := #[{ on := 0, ground := Ground.data }, { on := 2, ground := Ground.data }], guard := none }, { dst := some 9, op := Op.load 94 (Operand.tmp 3), type := 94, pos := "ref.go:41", after := #[], guard := none }, { dst := some 10, op := Op.buildSlice 28 1 #[(0, Operand.tmp 9)], type := 28, pos := "ref.go:41", after := #[{ on := 4, ground := Ground.data }], guard := none }, { dst := some 11, op := Op.call { callee := Callee.builtin Builtin.append, args := #[Operand.tmp 8, Operand.tmp 10], argTypes := #[28, 28] }, type := 28, pos := "ref.go:41", after := #[{ on := 3, ground := Ground.data }, { on := 5, ground := Ground.data }, { on := 3, ground := Ground.chain }], guard := none }, { dst := some 12, op := Op.fieldAddr 30 (Operand.tmp 2) 1, type := 0, pos := "ref.go:41", after := #[{ on := 0, ground := Ground.phase }, { on := 1, ground := Ground.phase }, { on := 2, ground := Ground.phase }, { on := 3, ground := Ground.phase }, { on := 4, ground := Ground.phase }, { on := 5, ground := Ground.phase }, { on := 6, ground := Ground.phase }], guard := none }, { dst := none, op := Op.store 28 (Operand.tmp 12) (Operand.tmp 11), type := 0, pos := "ref.go:41", after := #[{ on := 7, ground := Ground.data }, { on := 6, ground := Ground.data }, { on := 6, ground := Ground.chain }, { on := 0, ground := Ground.phase }, { on := 1, ground := Ground.phase }, { on := 2, ground := Ground.phase }, { on := 3, ground := Ground.phase }, { on := 4, ground := Ground.phase }, { on := 5, ground := Ground.phase }, { on := 6, ground := Ground.phase }], guard := none }] true).wp Try.prog Q { tmps := #[x0, x1, .pointer (some ⟨b2, 0, none⟩), .pointer (some ⟨b3, 0, none⟩), x4, x5, x6, x7, x8, x9, x10, x11, x12, x13], defers := ds } A := by
  refine Code.wp_mono (Q := fun x a' w' => match x with | .normal => Q .normal a' w' | _ => False) (by intro x a' w' h; cases x <;> first | exact h | exact h.elim) ?_
  refine wp_region_held (S := fun V => Keep (fun j => j = b2) A V) (by kernel_rfl) ?_
  have hS0 : Hid (Keep (fun j => j = b2) A A.drew) := (Keep.refl _ A).drew
  change wpAnyH Try.prog .any _ _ (fun V => Keep (fun j => j = b2) A V) 9 (Array.replicate 9 false) _ A.drew
  obtain ⟨V0, hV0⟩ : ∃ V0, A.drew = V0 := ⟨_, rfl⟩
  rw [hV0]
  rw [hV0] at hS0
  have hX0 : Hid (Blk V0 b2 30 [lv, .slice fa n c]) := by rw [← hV0]; exact HX.out
  clear hV0
  refine wpAnyH_take (i := 1) (oi := { dst := some 6, op := Op.fieldAddr 30 (Operand.tmp 2) 1, type := 0, pos := "ref.go:41", after := #[], guard := none }) (v := .pointer (some ⟨b2, 1, none⟩)) rfl (by kernel_rfl) (by kernel_rfl) (by kernel_rfl) (fun _ _ _ h => h.elim) (Or.inl ⟨by rfl, ?y1⟩) hS0.out ?_
  case y1 =>
    intro V hV
    go_simp
  simp only [Act.put, List.setIfInBounds_toArray, List.set_cons_zero, List.set_cons_succ]
  refine wpAnyH_take (i := 4) (oi := { dst := some 9, op := Op.load 94 (Operand.tmp 3), type := 94, pos := "ref.go:41", after := #[], guard := none }) (v := .agg f.cells.toArray) rfl (by kernel_rfl) (by kernel_rfl) (by kernel_rfl) (fun _ _ _ h => h.elim) (yieldsIf_load_mid (by rfl) _ _ rfl _ _ rfl (f.cells) _ (fun V hV => rangeAt_same (HF3.out.1) ((show Keep (fun j => j = b2) A V from hV).block _ (HF3.out.2.1) (HF3.out.2.2))) Try.underlying94 rfl ((by kernel_rfl))) hS0.out ?_
  simp only [Act.put, List.setIfInBounds_toArray, List.set_cons_zero, List.set_cons_succ]
  refine wpAnyH_ready (rs := [0, 2, 5]) (by kernel_rfl) (by simp) (AllReadyH.cons (i := 0) (o := { dst := some 5, op := Op.buildSlice 28 0 #[], type := 28, pos := "ref.go:41", after := #[], guard := none }) rfl ?_ (AllReadyH.cons (i := 2) (o := { dst := some 7, op := Op.load 28 (Operand.tmp 6), type := 28, pos := "ref.go:41", after := #[{ on := 1, ground := Ground.data }], guard := none }) rfl ?_ (AllReadyH.cons (i := 5) (o := { dst := some 10, op := Op.buildSlice 28 1 #[(0, Operand.tmp 9)], type := 28, pos := "ref.go:41", after := #[{ on := 4, ground := Ground.data }], guard := none }) rfl ?_ AllReadyH.nil)))
  · intro K1 hK1
    refine step_bs0R (by rfl) 28 rfl (run_bs28_0 _) ?_
    have hr1 : V0.heap.size ≥ A.heap.size := hS0.out.size
    obtain ⟨V1, hv1⟩ : ∃ V, V0.alloc (.cells #[] 94) = V := ⟨_, rfl⟩
    have hl1 : Below V0.heap.size V0 V1 := by rw [← hv1]; exact below_al _ _
    have hw1 : Below A.heap.size V0 V1 := hl1.mono hr1
    have hO1 : Hid (V1.ownsRow A.heap.size 94 4 (.slice (some ⟨V0.heap.size, 0, none⟩) 0 0) 0 []) := by rw [← hv1]; exact own_base (empty_row V0 94 4) hr1
    have hS1 : Hid (Keep (fun j => j = b2) A V1) := keepB hS0.out hw1
    have hX1 : Hid (Blk V1 b2 30 [lv, .slice fa n c]) := ((hw1).block b2 HL.out).trans hX0.out
    obtain ⟨q1, hq1⟩ : ∃ m, V0.heap.size = m := ⟨_, rfl⟩
    rw [hq1] at hO1
    rw [hv1, hq1]
    clear hv1 hq1 hw1 hr1 hl1
    refine hK1.out _ _ hS1.out ?_
    clear hK1
    intro _
    try simp only [Act.put, List.setIfInBounds_toArray, List.set_cons_zero, List.set_cons_succ]
    refine wpAnyH_ready (rs := [2, 5]) (by kernel_rfl) (by simp) (AllReadyH.cons (i := 2) (o := { dst := some 7, op := Op.load 28 (Operand.tmp 6), type := 28, pos := "ref.go:41", after := #[{ on := 1, ground := Ground.data }], guard := none }) rfl ?_ (AllReadyH.cons (i := 5) (o := { dst := some 10, op := Op.buildSlice 28 1 #[(0, Operand.tmp 9)], type := 28, pos := "ref.go:41", after := #[{ on := 4, ground := Ground.data }], guard := none }) rfl ?_ AllReadyH.nil))
    · intro K1 hK1
      rw [if_pos (by rfl)]
      have hc : V1.cell? ⟨b2, 1, none⟩ = some (.slice fa n c) := hX1.out.cell rfl
      go_wp2
      clear hc
      refine hK1.out _ _ hS1.out ?_
      clear hK1
      intro _
      try simp only [Act.put, List.setIfInBounds_toArray, List.set_cons_zero, List.set_cons_succ]
      refine wpAnyH_ready (rs := [3, 5]) (by kernel_rfl) (by simp) (AllReadyH.cons (i := 3) (o := { dst := some 8, op := Op.call { callee := Callee.builtin Builtin.append, args := #[Operand.tmp 5, Operand.tmp 7], argTypes := #[28, 28] }, type := 28, pos := "ref.go:41", after := #[{ on := 0, ground := Ground.data }, { on := 2, ground := Ground.data }], guard := none }) rfl ?_ (AllReadyH.cons (i := 5) (o := { dst := some 10, op := Op.buildSlice 28 1 #[(0, Operand.tmp 9)], type := 28, pos := "ref.go:41", after := #[{ on := 4, ground := Ground.data }], guard := none }) rfl ?_ AllReadyH.nil))
      · intro K1 hK1
        have hd3 := HR.out V1 hS1.out
        refine step_append_g (by rfl) (.tmp 5) (.tmp 7) 28 rfl _ 94 i0 z 4 A.heap.size Try.underlying28 HI0.out.1 HI0.out.2.1 HI0.out.2.2.1 HI0.out.2.2.2.1 HI0.out.2.2.2.2 (by omega) _ 0 [] hO1.out fa (n) c cs rfl rfl hd3 hS1.out.size (by have := HN.out; omega) ?_
        intro v3 V3 ho3 hg3 hp3
        have hw3 : Below A.heap.size V1 V3 := grown_below hO1.out hg3.out hS1.out.size
        have hS3 : Hid (Keep (fun j => j = b2) A V3) := keepB hS1.out hw3
        have hX3 : Hid (Blk V3 b2 30 [lv, .slice fa n c]) := ((hw3).block b2 HL.out).trans hX1.out
        clear hd3 hw3 hg3 hp3
        refine hK1.out _ _ hS3.out ?_
        clear hK1
        intro _
        try simp only [Act.put, List.setIfInBounds_toArray, List.set_cons_zero, List.set_cons_succ]
        refine wpAnyH_ready (rs := [5]) (by kernel_rfl) (by simp) (AllReadyH.cons (i := 5) (o := { dst := some 10, op := Op.buildSlice 28 1 #[(0, Operand.tmp 9)], type := 28, pos := "ref.go:41", after := #[{ on := 4, ground := Ground.data }], guard := none }) rfl ?_ AllReadyH.nil)
        · intro K1 hK1
          refine step_bs (by rfl) 28 (.tmp 9) _ rfl rfl (run_bs28 f _) ?_
          have hr4 : V3.heap.size ≥ A.heap.size := hS3.out.size
          obtain ⟨V4, hv4⟩ : ∃ V, V3.alloc (.cells f.cells.toArray 94) = V := ⟨_, rfl⟩
          have hl4 : Below V3.heap.size V3 V4 := by rw [← hv4]; exact below_al _ _
          have hw4 : Below A.heap.size V3 V4 := hl4.mono hr4
          have hS4 : Hid (Keep (fun j => j = b2) A V4) := keepB hS3.out hw4
          have hX4 : Hid (Blk V4 b2 30 [lv, .slice fa n c]) := ((hw4).block b2 HL.out).trans hX3.out
          obtain ⟨nb, hnb⟩ : ∃ m, V3.heap.size = m := ⟨_, rfl⟩
          have hM4 : Hid (Blk V4 nb 94 f.cells) := by show Blk _ _ _ _; rw [← hv4, ← hnb]; simpa using Blk.new V3 f.cells.toArray 94
          have hO4 : Hid (V4.ownsRow A.heap.size 94 4 v3 (0 + n) ([] ++ cs)) := ownsRow_below ho3.out hl4
          have hN4 : Hid (Blk V4 nb 94 f.cells ∧ v3.ownBlock ≠ some nb) := ⟨hM4.out, fun e => by have h1 := (ho3.out.lt _ e).2; omega⟩
          rw [hv4, hnb]
          clear hv4 hnb hw4 hr4 hl4
          refine hK1.out _ _ hS4.out ?_
          clear hK1
          intro _
          try simp only [Act.put, List.setIfInBounds_toArray, List.set_cons_zero, List.set_cons_succ]
          refine wpAnyH_ready (rs := [6]) (by kernel_rfl) (by simp) (AllReadyH.cons (i := 6) (o := { dst := some 11, op := Op.call { callee := Callee.builtin Builtin.append, args := #[Operand.tmp 8, Operand.tmp 10], argTypes := #[28, 28] }, type := 28, pos := "ref.go:41", after := #[{ on := 3, ground := Ground.data }, { on := 5, ground := Ground.data }, { on := 3, ground := Ground.chain }], guard := none }) rfl ?_ AllReadyH.nil)
          · intro K1 hK1
            have hd5 := rx_oneD hN4.out.1
            refine step_append_g (by rfl) (.tmp 8) (.tmp 10) 28 rfl _ 94 i0 z 4 A.heap.size Try.underlying28 HI0.out.1 HI0.out.2.1 HI0.out.2.2.1 HI0.out.2.2.2.1 HI0.out.2.2.2.2 (by omega) _ (0 + n) ([] ++ cs) hO4.out (some ⟨nb, 0, none⟩) (1) 1 f.cells rfl rfl hd5 hS4.out.size (by have := HN.out; omega) ?_
            intro v5 V5 ho5 hg5 hp5
            have hw5 : Below A.heap.size V4 V5 := grown_below hO4.out hg5.out hS4.out.size
            have hS5 : Hid (Keep (fun j => j = b2) A V5) := keepB hS4.out hw5
            have hX5 : Hid (Blk V5 b2 30 [lv, .slice fa n c]) := ((hw5).block b2 HL.out).trans hX4.out
            clear hd5 hw5 hg5 hp5
            refine hK1.out _ _ hS5.out ?_
            clear hK1
            intro _
            try simp only [Act.put, List.setIfInBounds_toArray, List.set_cons_zero, List.set_cons_succ]
            refine wpAnyH_take (i := 7) (oi := { dst := some 12, op := Op.fieldAddr 30 (Operand.tmp 2) 1, type := 0, pos := "ref.go:41", after := #[{ on := 0, ground := Ground.phase }, { on := 1, ground := Ground.phase }, { on := 2, ground := Ground.phase }, { on := 3, ground := Ground.phase }, { on := 4, ground := Ground.phase }, { on := 5, ground := Ground.phase }, { on := 6, ground := Ground.phase }], guard := none }) (v := .pointer (some ⟨b2, 1, none⟩)) rfl (by kernel_rfl) (by kernel_rfl) (by kernel_rfl) (fun _ _ _ h => h.elim) (Or.inl ⟨by rfl, ?y2⟩) hS5.out ?_
            case y2 =>
              intro V hV
              go_simp
            simp only [Act.put, List.setIfInBounds_toArray, List.set_cons_zero, List.set_cons_succ]
            refine wpAnyH_ready (rs := [8]) (by kernel_rfl) (by simp) (AllReadyH.cons (i := 8) (o := { dst := none, op := Op.store 28 (Operand.tmp 12) (Operand.tmp 11), type := 0, pos := "ref.go:41", after := #[{ on := 7, ground := Ground.data }, { on := 6, ground := Ground.data }, { on := 6, ground := Ground.chain }, { on := 0, ground := Ground.phase }, { on := 1, ground := Ground.phase }, { on := 2, ground := Ground.phase }, { on := 3, ground := Ground.phase }, { on := 4, ground := Ground.phase }, { on := 5, ground := Ground.phase }, { on := 6, ground := Ground.phase }], guard := none }) rfl ?_ AllReadyH.nil)
            · intro K1 hK1
              refine step_st (by rfl) 28 (.tmp 12) (.tmp 11) rfl b2 1 v5 30 _ rfl rfl hX5.out (by simp) (by kernel_rfl) (own_slice ho5.out).1 (own_slice ho5.out).2 ?_
              obtain ⟨V6, hv6⟩ : ∃ V, V5.setCell ⟨b2, 1, none⟩ v5 = V := ⟨_, rfl⟩
              have hg6 : V5.grownBy V6 (some b2) := by rw [← hv6]; exact grown_setCell _ _ _ _
              have hS6 : Hid (Keep (fun j => j = b2) A V6) := hS5.out.trans (Keep.grown (S := fun j => j = b2) hg6 rfl) (fun _ hj _ => hj)
              have hX6 : Hid (Blk V6 b2 30 [lv, v5]) := by rw [← hv6]; exact hX5.out.set 1 v5
              have hO6 : Hid (V6.ownsRow A.heap.size 94 4 v5 (0 + n + 1) ([] ++ cs ++ f.cells)) := own_sameR ho5.out (fun g h1 h2 => hg6.block g h2 (fun e => by cases e; have := HL.out; omega))
              rw [hv6]
              clear hv6 hg6
              refine hK1.out _ _ hS6.out ?_
              clear hK1
              intro _
              try simp only [Act.put, List.setIfInBounds_toArray, List.set_cons_zero, List.set_cons_succ]
              refine wpAnyH_done (by kernel_rfl) ?_ _
              exact hQ V6 _ _ _ _ hO6.out hX6.out hS6.out
      · intro K1 hK1
        refine step_bs (by rfl) 28 (.tmp 9) _ rfl rfl (run_bs28 f _) ?_
        have hr3 : V1.heap.size ≥ A.heap.size := hS1.out.size
        obtain ⟨V3, hv3⟩ : ∃ V, V1.alloc (.cells f.cells.toArray 94) = V := ⟨_, rfl⟩
        have hl3 : Below V1.heap.size V1 V3 := by rw [← hv3]; exact below_al _ _
        have hw3 : Below A.heap.size V1 V3 := hl3.mono hr3
        have hS3 : Hid (Keep (fun j => j = b2) A V3) := keepB hS1.out hw3
        have hX3 : Hid (Blk V3 b2 30 [lv, .slice fa n c]) := ((hw3).block b2 HL.out).trans hX1.out
        obtain ⟨nb, hnb⟩ : ∃ m, V1.heap.size = m := ⟨_, rfl⟩
        have hM3 : Hid (Blk V3 nb 94 f.cells) := by show Blk _ _ _ _; rw [← hv3, ← hnb]; simpa using Blk.new V1 f.cells.toArray 94
        have hO3 : Hid (V3.ownsRow A.heap.size 94 4 (.slice (some ⟨q1, 0, none⟩) 0 0) 0 []) := ownsRow_below hO1.out hl3
        have hN3 : Hid (Blk V3 nb 94 f.cells ∧ (Value.slice (some ⟨q1, 0, none⟩) 0 0).ownBlock ≠ some nb) := ⟨hM3.out, fun e => by have h1 := (hO1.out.lt _ e).2; omega⟩
        rw [hv3, hnb]
        clear hv3 hnb hw3 hr3 hl3
        refine hK1.out _ _ hS3.out ?_
        clear hK1
        intro _
        try simp only [Act.put, List.setIfInBounds_toArray, List.set_cons_zero, List.set_cons_succ]
        refine wpAnyH_ready (rs := [3]) (by kernel_rfl) (by simp) (AllReadyH.cons (i := 3) (o := { dst := some 8, op := Op.call { callee := Callee.builtin Builtin.append, args := #[Operand.tmp 5, Operand.tmp 7], argTypes := #[28, 28] }, type := 28, pos := "ref.go:41", after := #[{ on := 0, ground := Ground.data }, { on := 2, ground := Ground.data }], guard := none }) rfl ?_ AllReadyH.nil)
        · intro K1 hK1
          have hd4 := HR.out V3 hS3.out
          refine step_append_g (by rfl) (.tmp 5) (.tmp 7) 28 rfl _ 94 i0 z 4 A.heap.size Try.underlying28 HI0.out.1 HI0.out.2.1 HI0.out.2.2.1 HI0.out.2.2.2.1 HI0.out.2.2.2.2 (by omega) _ 0 [] hO3.out fa (n) c cs rfl rfl hd4 hS3.out.size (by have := HN.out; omega) ?_
          intro v4 V4 ho4 hg4 hp4
          have hw4 : Below A.heap.size V3 V4 := grown_below hO3.out hg4.out hS3.out.size
          have hS4 : Hid (Keep (fun j => j = b2) A V4) := keepB hS3.out hw4
          have hX4 : Hid (Blk V4 b2 30 [lv, .slice fa n c]) := ((hw4).block b2 HL.out).trans hX3.out
          have hN4 : Hid (Blk V4 nb 94 f.cells ∧ v4.ownBlock ≠ some nb) := ⟨hN3.out.1.kept hg4.out (fun e => hN3.out.2 e.symm), fun e => by
            rcases hp4.out with e2 | e2
            · exact hN3.out.2 (by rw [← e2]; exact e)
            · have h1 := hN3.out.1.lt
              rw [e2] at e
              cases e
              omega⟩
          clear hd4 hw4 hg4 hp4
          refine hK1.out _ _ hS4.out ?_
          clear hK1
          intro _
          try simp only [Act.put, List.setIfInBounds_toArray, List.set_cons_zero, List.set_cons_succ]
          refine wpAnyH_ready (rs := [6]) (by kernel_rfl) (by simp) (AllReadyH.cons (i := 6) (o := { dst := some 11, op := Op.call { callee := Callee.builtin Builtin.append, args := #[Operand.tmp 8, Operand.tmp 10], argTypes := #[28, 28] }, type := 28, pos := "ref.go:41", after := #[{ on := 3, ground := Ground.data }, { on := 5, ground := Ground.data }, { on := 3, ground := Ground.chain }], guard := none }) rfl ?_ AllReadyH.nil)
          · intro K1 hK1
            have hd5 := rx_oneD hN4.out.1
            refine step_append_g (by rfl) (.tmp 8) (.tmp 10) 28 rfl _ 94 i0 z 4 A.heap.size Try.underlying28 HI0.out.1 HI0.out.2.1 HI0.out.2.2.1 HI0.out.2.2.2.1 HI0.out.2.2.2.2 (by omega) _ (0 + n) ([] ++ cs) ho4.out (some ⟨nb, 0, none⟩) (1) 1 f.cells rfl rfl hd5 hS4.out.size (by have := HN.out; omega) ?_
            intro v5 V5 ho5 hg5 hp5
            have hw5 : Below A.heap.size V4 V5 := grown_below ho4.out hg5.out hS4.out.size
            have hS5 : Hid (Keep (fun j => j = b2) A V5) := keepB hS4.out hw5
            have hX5 : Hid (Blk V5 b2 30 [lv, .slice fa n c]) := ((hw5).block b2 HL.out).trans hX4.out
            clear hd5 hw5 hg5 hp5
            refine hK1.out _ _ hS5.out ?_
            clear hK1
            intro _
            try simp only [Act.put, List.setIfInBounds_toArray, List.set_cons_zero, List.set_cons_succ]
            refine wpAnyH_take (i := 7) (oi := { dst := some 12, op := Op.fieldAddr 30 (Operand.tmp 2) 1, type := 0, pos := "ref.go:41", after := #[{ on := 0, ground := Ground.phase }, { on := 1, ground := Ground.phase }, { on := 2, ground := Ground.phase }, { on := 3, ground := Ground.phase }, { on := 4, ground := Ground.phase }, { on := 5, ground := Ground.phase }, { on := 6, ground := Ground.phase }], guard := none }) (v := .pointer (some ⟨b2, 1, none⟩)) rfl (by kernel_rfl) (by kernel_rfl) (by kernel_rfl) (fun _ _ _ h => h.elim) (Or.inl ⟨by rfl, ?y3⟩) hS5.out ?_
            case y3 =>
              intro V hV
              go_simp
            simp only [Act.put, List.setIfInBounds_toArray, List.set_cons_zero, List.set_cons_succ]
            refine wpAnyH_ready (rs := [8]) (by kernel_rfl) (by simp) (AllReadyH.cons (i := 8) (o := { dst := none, op := Op.store 28 (Operand.tmp 12) (Operand.tmp 11), type := 0, pos := "ref.go:41", after := #[{ on := 7, ground := Ground.data }, { on := 6, ground := Ground.data }, { on := 6, ground := Ground.chain }, { on := 0, ground := Ground.phase }, { on := 1, ground := Ground.phase }, { on := 2, ground := Ground.phase }, { on := 3, ground := Ground.phase }, { on := 4, ground := Ground.phase }, { on := 5, ground := Ground.phase }, { on := 6, ground := Ground.phase }], guard := none }) rfl ?_ AllReadyH.nil)
            · intro K1 hK1
              refine step_st (by rfl) 28 (.tmp 12) (.tmp 11) rfl b2 1 v5 30 _ rfl rfl hX5.out (by simp) (by kernel_rfl) (own_slice ho5.out).1 (own_slice ho5.out).2 ?_
              obtain ⟨V6, hv6⟩ : ∃ V, V5.setCell ⟨b2, 1, none⟩ v5 = V := ⟨_, rfl⟩
              have hg6 : V5.grownBy V6 (some b2) := by rw [← hv6]; exact grown_setCell _ _ _ _
              have hS6 : Hid (Keep (fun j => j = b2) A V6) := hS5.out.trans (Keep.grown (S := fun j => j = b2) hg6 rfl) (fun _ hj _ => hj)
              have hX6 : Hid (Blk V6 b2 30 [lv, v5]) := by rw [← hv6]; exact hX5.out.set 1 v5
              have hO6 : Hid (V6.ownsRow A.heap.size 94 4 v5 (0 + n + 1) ([] ++ cs ++ f.cells)) := own_sameR ho5.out (fun g h1 h2 => hg6.block g h2 (fun e => by cases e; have := HL.out; omega))
              rw [hv6]
              clear hv6 hg6
              refine hK1.out _ _ hS6.out ?_
              clear hK1
              intro _
              try simp only [Act.put, List.setIfInBounds_toArray, List.set_cons_zero, List.set_cons_succ]
              refine wpAnyH_done (by kernel_rfl) ?_ _
              exact hQ V6 _ _ _ _ hO6.out hX6.out hS6.out
    · intro K1 hK1
      refine step_bs (by rfl) 28 (.tmp 9) _ rfl rfl (run_bs28 f _) ?_
      have hr2 : V1.heap.size ≥ A.heap.size := hS1.out.size
      obtain ⟨V2, hv2⟩ : ∃ V, V1.alloc (.cells f.cells.toArray 94) = V := ⟨_, rfl⟩
      have hl2 : Below V1.heap.size V1 V2 := by rw [← hv2]; exact below_al _ _
      have hw2 : Below A.heap.size V1 V2 := hl2.mono hr2
      have hS2 : Hid (Keep (fun j => j = b2) A V2) := keepB hS1.out hw2
      have hX2 : Hid (Blk V2 b2 30 [lv, .slice fa n c]) := ((hw2).block b2 HL.out).trans hX1.out
      obtain ⟨nb, hnb⟩ : ∃ m, V1.heap.size = m := ⟨_, rfl⟩
      have hM2 : Hid (Blk V2 nb 94 f.cells) := by show Blk _ _ _ _; rw [← hv2, ← hnb]; simpa using Blk.new V1 f.cells.toArray 94
      have hO2 : Hid (V2.ownsRow A.heap.size 94 4 (.slice (some ⟨q1, 0, none⟩) 0 0) 0 []) := ownsRow_below hO1.out hl2
      have hN2 : Hid (Blk V2 nb 94 f.cells ∧ (Value.slice (some ⟨q1, 0, none⟩) 0 0).ownBlock ≠ some nb) := ⟨hM2.out, fun e => by have h1 := (hO1.out.lt _ e).2; omega⟩
      rw [hv2, hnb]
      clear hv2 hnb hw2 hr2 hl2
      refine hK1.out _ _ hS2.out ?_
      clear hK1
      intro _
      try simp only [Act.put, List.setIfInBounds_toArray, List.set_cons_zero, List.set_cons_succ]
      refine wpAnyH_ready (rs := [2]) (by kernel_rfl) (by simp) (AllReadyH.cons (i := 2) (o := { dst := some 7, op := Op.load 28 (Operand.tmp 6), type := 28, pos := "ref.go:41", after := #[{ on := 1, ground := Ground.data }], guard := none }) rfl ?_ AllReadyH.nil)
      · intro K1 hK1
        rw [if_pos (by rfl)]
        have hc : V2.cell? ⟨b2, 1, none⟩ = some (.slice fa n c) := hX2.out.cell rfl
        go_wp2
        clear hc
        refine hK1.out _ _ hS2.out ?_
        clear hK1
        intro _
        try simp only [Act.put, List.setIfInBounds_toArray, List.set_cons_zero, List.set_cons_succ]
        refine wpAnyH_ready (rs := [3]) (by kernel_rfl) (by simp) (AllReadyH.cons (i := 3) (o := { dst := some 8, op := Op.call { callee := Callee.builtin Builtin.append, args := #[Operand.tmp 5, Operand.tmp 7], argTypes := #[28, 28] }, type := 28, pos := "ref.go:41", after := #[{ on := 0, ground := Ground.data }, { on := 2, ground := Ground.data }], guard := none }) rfl ?_ AllReadyH.nil)
        · intro K1 hK1
          have hd4 := HR.out V2 hS2.out
          refine step_append_g (by rfl) (.tmp 5) (.tmp 7) 28 rfl _ 94 i0 z 4 A.heap.size Try.underlying28 HI0.out.1 HI0.out.2.1 HI0.out.2.2.1 HI0.out.2.2.2.1 HI0.out.2.2.2.2 (by omega) _ 0 [] hO2.out fa (n) c cs rfl rfl hd4 hS2.out.size (by have := HN.out; omega) ?_
          intro v4 V4 ho4 hg4 hp4
          have hw4 : Below A.heap.size V2 V4 := grown_below hO2.out hg4.out hS2.out.size
          have hS4 : Hid (Keep (fun j => j = b2) A V4) := keepB hS2.out hw4
          have hX4 : Hid (Blk V4 b2 30 [lv, .slice fa n c]) := ((hw4).block b2 HL.out).trans hX2.out
          have hN4 : Hid (Blk V4 nb 94 f.cells ∧ v4.ownBlock ≠ some nb) := ⟨hN2.out.1.kept hg4.out (fun e => hN2.out.2 e.symm), fun e => by
            rcases hp4.out with e2 | e2
            · exact hN2.out.2 (by rw [← e2]; exact e)
            · have h1 := hN2.out.1.lt
              rw [e2] at e
              cases e
              omega⟩
          clear hd4 hw4 hg4 hp4
          refine hK1.out _ _ hS4.out ?_
          clear hK1
          intro _
          try simp only [Act.put, List.setIfInBounds_toArray, List.set_cons_zero, List.set_cons_succ]
          refine wpAnyH_ready (rs := [6]) (by kernel_rfl) (by simp) (AllReadyH.cons (i := 6) (o := { dst := some 11, op := Op.call { callee := Callee.builtin Builtin.append, args := #[Operand.tmp 8, Operand.tmp 10], argTypes := #[28, 28] }, type := 28, pos := "ref.go:41", after := #[{ on := 3, ground := Ground.data }, { on := 5, ground := Ground.data }, { on := 3, ground := Ground.chain }], guard := none }) rfl ?_ AllReadyH.nil)
          · intro K1 hK1
            have hd5 := rx_oneD hN4.out.1
            refine step_append_g (by rfl) (.tmp 8) (.tmp 10) 28 rfl _ 94 i0 z 4 A.heap.size Try.underlying28 HI0.out.1 HI0.out.2.1 HI0.out.2.2.1 HI0.out.2.2.2.1 HI0.out.2.2.2.2 (by omega) _ (0 + n) ([] ++ cs) ho4.out (some ⟨nb, 0, none⟩) (1) 1 f.cells rfl rfl hd5 hS4.out.size (by have := HN.out; omega) ?_
            intro v5 V5 ho5 hg5 hp5
            have hw5 : Below A.heap.size V4 V5 := grown_below ho4.out hg5.out hS4.out.size
            have hS5 : Hid (Keep (fun j => j = b2) A V5) := keepB hS4.out hw5
            have hX5 : Hid (Blk V5 b2 30 [lv, .slice fa n c]) := ((hw5).block b2 HL.out).trans hX4.out
            clear hd5 hw5 hg5 hp5
            refine hK1.out _ _ hS5.out ?_
            clear hK1
            intro _
            try simp only [Act.put, List.setIfInBounds_toArray, List.set_cons_zero, List.set_cons_succ]
            refine wpAnyH_take (i := 7) (oi := { dst := some 12, op := Op.fieldAddr 30 (Operand.tmp 2) 1, type := 0, pos := "ref.go:41", after := #[{ on := 0, ground := Ground.phase }, { on := 1, ground := Ground.phase }, { on := 2, ground := Ground.phase }, { on := 3, ground := Ground.phase }, { on := 4, ground := Ground.phase }, { on := 5, ground := Ground.phase }, { on := 6, ground := Ground.phase }], guard := none }) (v := .pointer (some ⟨b2, 1, none⟩)) rfl (by kernel_rfl) (by kernel_rfl) (by kernel_rfl) (fun _ _ _ h => h.elim) (Or.inl ⟨by rfl, ?y4⟩) hS5.out ?_
            case y4 =>
              intro V hV
              go_simp
            simp only [Act.put, List.setIfInBounds_toArray, List.set_cons_zero, List.set_cons_succ]
            refine wpAnyH_ready (rs := [8]) (by kernel_rfl) (by simp) (AllReadyH.cons (i := 8) (o := { dst := none, op := Op.store 28 (Operand.tmp 12) (Operand.tmp 11), type := 0, pos := "ref.go:41", after := #[{ on := 7, ground := Ground.data }, { on := 6, ground := Ground.data }, { on := 6, ground := Ground.chain }, { on := 0, ground := Ground.phase }, { on := 1, ground := Ground.phase }, { on := 2, ground := Ground.phase }, { on := 3, ground := Ground.phase }, { on := 4, ground := Ground.phase }, { on := 5, ground := Ground.phase }, { on := 6, ground := Ground.phase }], guard := none }) rfl ?_ AllReadyH.nil)
            · intro K1 hK1
              refine step_st (by rfl) 28 (.tmp 12) (.tmp 11) rfl b2 1 v5 30 _ rfl rfl hX5.out (by simp) (by kernel_rfl) (own_slice ho5.out).1 (own_slice ho5.out).2 ?_
              obtain ⟨V6, hv6⟩ : ∃ V, V5.setCell ⟨b2, 1, none⟩ v5 = V := ⟨_, rfl⟩
              have hg6 : V5.grownBy V6 (some b2) := by rw [← hv6]; exact grown_setCell _ _ _ _
              have hS6 : Hid (Keep (fun j => j = b2) A V6) := hS5.out.trans (Keep.grown (S := fun j => j = b2) hg6 rfl) (fun _ hj _ => hj)
              have hX6 : Hid (Blk V6 b2 30 [lv, v5]) := by rw [← hv6]; exact hX5.out.set 1 v5
              have hO6 : Hid (V6.ownsRow A.heap.size 94 4 v5 (0 + n + 1) ([] ++ cs ++ f.cells)) := own_sameR ho5.out (fun g h1 h2 => hg6.block g h2 (fun e => by cases e; have := HL.out; omega))
              rw [hv6]
              clear hv6 hg6
              refine hK1.out _ _ hS6.out ?_
              clear hK1
              intro _
              try simp only [Act.put, List.setIfInBounds_toArray, List.set_cons_zero, List.set_cons_succ]
              refine wpAnyH_done (by kernel_rfl) ?_ _
              exact hQ V6 _ _ _ _ hO6.out hX6.out hS6.out
  · intro K1 hK1
    rw [if_pos (by rfl)]
    have hc : V0.cell? ⟨b2, 1, none⟩ = some (.slice fa n c) := hX0.out.cell rfl
    go_wp2
    clear hc
    refine hK1.out _ _ hS0.out ?_
    clear hK1
    intro _
    try simp only [Act.put, List.setIfInBounds_toArray, List.set_cons_zero, List.set_cons_succ]
    refine wpAnyH_ready (rs := [0, 5]) (by kernel_rfl) (by simp) (AllReadyH.cons (i := 0) (o := { dst := some 5, op := Op.buildSlice 28 0 #[], type := 28, pos := "ref.go:41", after := #[], guard := none }) rfl ?_ (AllReadyH.cons (i := 5) (o := { dst := some 10, op := Op.buildSlice 28 1 #[(0, Operand.tmp 9)], type := 28, pos := "ref.go:41", after := #[{ on := 4, ground := Ground.data }], guard := none }) rfl ?_ AllReadyH.nil))
    · intro K1 hK1
      refine step_bs0R (by rfl) 28 rfl (run_bs28_0 _) ?_
      have hr2 : V0.heap.size ≥ A.heap.size := hS0.out.size
      obtain ⟨V2, hv2⟩ : ∃ V, V0.alloc (.cells #[] 94) = V := ⟨_, rfl⟩
      have hl2 : Below V0.heap.size V0 V2 := by rw [← hv2]; exact below_al _ _
      have hw2 : Below A.heap.size V0 V2 := hl2.mono hr2
      have hO2 : Hid (V2.ownsRow A.heap.size 94 4 (.slice (some ⟨V0.heap.size, 0, none⟩) 0 0) 0 []) := by rw [← hv2]; exact own_base (empty_row V0 94 4) hr2
      have hS2 : Hid (Keep (fun j => j = b2) A V2) := keepB hS0.out hw2
      have hX2 : Hid (Blk V2 b2 30 [lv, .slice fa n c]) := ((hw2).block b2 HL.out).trans hX0.out
      obtain ⟨q2, hq2⟩ : ∃ m, V0.heap.size = m := ⟨_, rfl⟩
      rw [hq2] at hO2
      rw [hv2, hq2]
      clear hv2 hq2 hw2 hr2 hl2
      refine hK1.out _ _ hS2.out ?_
      clear hK1
      intro _
      try simp only [Act.put, List.setIfInBounds_toArray, List.set_cons_zero, List.set_cons_succ]
      refine wpAnyH_ready (rs := [3, 5]) (by kernel_rfl) (by simp) (AllReadyH.cons (i := 3) (o := { dst := some 8, op := Op.call { callee := Callee.builtin Builtin.append, args := #[Operand.tmp 5, Operand.tmp 7], argTypes := #[28, 28] }, type := 28, pos := "ref.go:41", after := #[{ on := 0, ground := Ground.data }, { on := 2, ground := Ground.data }], guard := none }) rfl ?_ (AllReadyH.cons (i := 5) (o := { dst := some 10, op := Op.buildSlice 28 1 #[(0, Operand.tmp 9)], type := 28, pos := "ref.go:41", after := #[{ on := 4, ground := Ground.data }], guard := none }) rfl ?_ AllReadyH.nil))
      · intro K1 hK1
        have hd3 := HR.out V2 hS2.out
        refine step_append_g (by rfl) (.tmp 5) (.tmp 7) 28 rfl _ 94 i0 z 4 A.heap.size Try.underlying28 HI0.out.1 HI0.out.2.1 HI0.out.2.2.1 HI0.out.2.2.2.1 HI0.out.2.2.2.2 (by omega) _ 0 [] hO2.out fa (n) c cs rfl rfl hd3 hS2.out.size (by have := HN.out; omega) ?_
        intro v3 V3 ho3 hg3 hp3
        have hw3 : Below A.heap.size V2 V3 := grown_below hO2.out hg3.out hS2.out.size
        have hS3 : Hid (Keep (fun j => j = b2) A V3) := keepB hS2.out hw3
        have hX3 : Hid (Blk V3 b2 30 [lv, .slice fa n c]) := ((hw3).block b2 HL.out).trans hX2.out
        clear hd3 hw3 hg3 hp3
        refine hK1.out _ _ hS3.out ?_
        clear hK1
        intro _
        try simp only [Act.put, List.setIfInBounds_toArray, List.set_cons_zero, List.set_cons_succ]
        refine wpAnyH_ready (rs := [5]) (by kernel_rfl) (by simp) (AllReadyH.cons (i := 5) (o := { dst := some 10, op := Op.buildSlice 28 1 #[(0, Operand.tmp 9)], type := 28, pos := "ref.go:41", after := #[{ on := 4, ground := Ground.data }], guard := none }) rfl ?_ AllReadyH.nil)
        · intro K1 hK1
          refine step_bs (by rfl) 28 (.tmp 9) _ rfl rfl (run_bs28 f _) ?_
          have hr4 : V3.heap.size ≥ A.heap.size := hS3.out.size
          obtain ⟨V4, hv4⟩ : ∃ V, V3.alloc (.cells f.cells.toArray 94) = V := ⟨_, rfl⟩
          have hl4 : Below V3.heap.size V3 V4 := by rw [← hv4]; exact below_al _ _
          have hw4 : Below A.heap.size V3 V4 := hl4.mono hr4
          have hS4 : Hid (Keep (fun j => j = b2) A V4) := keepB hS3.out hw4
          have hX4 : Hid (Blk V4 b2 30 [lv, .slice fa n c]) := ((hw4).block b2 HL.out).trans hX3.out
          obtain ⟨nb, hnb⟩ : ∃ m, V3.heap.size = m := ⟨_, rfl⟩
          have hM4 : Hid (Blk V4 nb 94 f.cells) := by show Blk _ _ _ _; rw [← hv4, ← hnb]; simpa using Blk.new V3 f.cells.toArray 94
          have hO4 : Hid (V4.ownsRow A.heap.size 94 4 v3 (0 + n) ([] ++ cs)) := ownsRow_below ho3.out hl4
          have hN4 : Hid (Blk V4 nb 94 f.cells ∧ v3.ownBlock ≠ some nb) := ⟨hM4.out, fun e => by have h1 := (ho3.out.lt _ e).2; omega⟩
          rw [hv4, hnb]
          clear hv4 hnb hw4 hr4 hl4
          refine hK1.out _ _ hS4.out ?_
          clear hK1
          intro _
          try simp only [Act.put, List.setIfInBounds_toArray, List.set_cons_zero, List.set_cons_succ]
          refine wpAnyH_ready (rs := [6]) (by kernel_rfl) (by simp) (AllReadyH.cons (i := 6) (o := { dst := some 11, op := Op.call { callee := Callee.builtin Builtin.append, args := #[Operand.tmp 8, Operand.tmp 10], argTypes := #[28, 28] }, type := 28, pos := "ref.go:41", after := #[{ on := 3, ground := Ground.data }, { on := 5, ground := Ground.data }, { on := 3, ground := Ground.chain }], guard := none }) rfl ?_ AllReadyH.nil)
          · intro K1 hK1
            have hd5 := rx_oneD hN4.out.1
            refine step_append_g (by rfl) (.tmp 8) (.tmp 10) 28 rfl _ 94 i0 z 4 A.heap.size Try.underlying28 HI0.out.1 HI0.out.2.1 HI0.out.2.2.1 HI0.out.2.2.2.1 HI0.out.2.2.2.2 (by omega) _ (0 + n) ([] ++ cs) hO4.out (some ⟨nb, 0, none⟩) (1) 1 f.cells rfl rfl hd5 hS4.out.size (by have := HN.out; omega) ?_
            intro v5 V5 ho5 hg5 hp5
            have hw5 : Below A.heap.size V4 V5 := grown_below hO4.out hg5.out hS4.out.size
            have hS5 : Hid (Keep (fun j => j = b2) A V5) := keepB hS4.out hw5
            have hX5 : Hid (Blk V5 b2 30 [lv, .slice fa n c]) := ((hw5).block b2 HL.out).trans hX4.out
            clear hd5 hw5 hg5 hp5
            refine hK1.out _ _ hS5.out ?_
            clear hK1
            intro _
            try simp only [Act.put, List.setIfInBounds_toArray, List.set_cons_zero, List.set_cons_succ]
            refine wpAnyH_take (i := 7) (oi := { dst := some 12, op := Op.fieldAddr 30 (Operand.tmp 2) 1, type := 0, pos := "ref.go:41", after := #[{ on := 0, ground := Ground.phase }, { on := 1, ground := Ground.phase }, { on := 2, ground := Ground.phase }, { on := 3, ground := Ground.phase }, { on := 4, ground := Ground.phase }, { on := 5, ground := Ground.phase }, { on := 6, ground := Ground.phase }], guard := none }) (v := .pointer (some ⟨b2, 1, none⟩)) rfl (by kernel_rfl) (by kernel_rfl) (by kernel_rfl) (fun _ _ _ h => h.elim) (Or.inl ⟨by rfl, ?y5⟩) hS5.out ?_
            case y5 =>
              intro V hV
              go_simp
            simp only [Act.put, List.setIfInBounds_toArray, List.set_cons_zero, List.set_cons_succ]
            refine wpAnyH_ready (rs := [8]) (by kernel_rfl) (by simp) (AllReadyH.cons (i := 8) (o := { dst := none, op := Op.store 28 (Operand.tmp 12) (Operand.tmp 11), type := 0, pos := "ref.go:41", after := #[{ on := 7, ground := Ground.data }, { on := 6, ground := Ground.data }, { on := 6, ground := Ground.chain }, { on := 0, ground := Ground.phase }, { on := 1, ground := Ground.phase }, { on := 2, ground := Ground.phase }, { on := 3, ground := Ground.phase }, { on := 4, ground := Ground.phase }, { on := 5, ground := Ground.phase }, { on := 6, ground := Ground.phase }], guard := none }) rfl ?_ AllReadyH.nil)
            · intro K1 hK1
              refine step_st (by rfl) 28 (.tmp 12) (.tmp 11) rfl b2 1 v5 30 _ rfl rfl hX5.out (by simp) (by kernel_rfl) (own_slice ho5.out).1 (own_slice ho5.out).2 ?_
              obtain ⟨V6, hv6⟩ : ∃ V, V5.setCell ⟨b2, 1, none⟩ v5 = V := ⟨_, rfl⟩
              have hg6 : V5.grownBy V6 (some b2) := by rw [← hv6]; exact grown_setCell _ _ _ _
              have hS6 : Hid (Keep (fun j => j = b2) A V6) := hS5.out.trans (Keep.grown (S := fun j => j = b2) hg6 rfl) (fun _ hj _ => hj)
              have hX6 : Hid (Blk V6 b2 30 [lv, v5]) := by rw [← hv6]; exact hX5.out.set 1 v5
              have hO6 : Hid (V6.ownsRow A.heap.size 94 4 v5 (0 + n + 1) ([] ++ cs ++ f.cells)) := own_sameR ho5.out (fun g h1 h2 => hg6.block g h2 (fun e => by cases e; have := HL.out; omega))
              rw [hv6]
              clear hv6 hg6
              refine hK1.out _ _ hS6.out ?_
              clear hK1
              intro _
              try simp only [Act.put, List.setIfInBounds_toArray, List.set_cons_zero, List.set_cons_succ]
              refine wpAnyH_done (by kernel_rfl) ?_ _
              exact hQ V6 _ _ _ _ hO6.out hX6.out hS6.out
      · intro K1 hK1
        refine step_bs (by rfl) 28 (.tmp 9) _ rfl rfl (run_bs28 f _) ?_
        have hr3 : V2.heap.size ≥ A.heap.size := hS2.out.size
        obtain ⟨V3, hv3⟩ : ∃ V, V2.alloc (.cells f.cells.toArray 94) = V := ⟨_, rfl⟩
        have hl3 : Below V2.heap.size V2 V3 := by rw [← hv3]; exact below_al _ _
        have hw3 : Below A.heap.size V2 V3 := hl3.mono hr3
        have hS3 : Hid (Keep (fun j => j = b2) A V3) := keepB hS2.out hw3
        have hX3 : Hid (Blk V3 b2 30 [lv, .slice fa n c]) := ((hw3).block b2 HL.out).trans hX2.out
        obtain ⟨nb, hnb⟩ : ∃ m, V2.heap.size = m := ⟨_, rfl⟩
        have hM3 : Hid (Blk V3 nb 94 f.cells) := by show Blk _ _ _ _; rw [← hv3, ← hnb]; simpa using Blk.new V2 f.cells.toArray 94
        have hO3 : Hid (V3.ownsRow A.heap.size 94 4 (.slice (some ⟨q2, 0, none⟩) 0 0) 0 []) := ownsRow_below hO2.out hl3
        have hN3 : Hid (Blk V3 nb 94 f.cells ∧ (Value.slice (some ⟨q2, 0, none⟩) 0 0).ownBlock ≠ some nb) := ⟨hM3.out, fun e => by have h1 := (hO2.out.lt _ e).2; omega⟩
        rw [hv3, hnb]
        clear hv3 hnb hw3 hr3 hl3
        refine hK1.out _ _ hS3.out ?_
        clear hK1
        intro _
        try simp only [Act.put, List.setIfInBounds_toArray, List.set_cons_zero, List.set_cons_succ]
        refine wpAnyH_ready (rs := [3]) (by kernel_rfl) (by simp) (AllReadyH.cons (i := 3) (o := { dst := some 8, op := Op.call { callee := Callee.builtin Builtin.append, args := #[Operand.tmp 5, Operand.tmp 7], argTypes := #[28, 28] }, type := 28, pos := "ref.go:41", after := #[{ on := 0, ground := Ground.data }, { on := 2, ground := Ground.data }], guard := none }) rfl ?_ AllReadyH.nil)
        · intro K1 hK1
          have hd4 := HR.out V3 hS3.out
          refine step_append_g (by rfl) (.tmp 5) (.tmp 7) 28 rfl _ 94 i0 z 4 A.heap.size Try.underlying28 HI0.out.1 HI0.out.2.1 HI0.out.2.2.1 HI0.out.2.2.2.1 HI0.out.2.2.2.2 (by omega) _ 0 [] hO3.out fa (n) c cs rfl rfl hd4 hS3.out.size (by have := HN.out; omega) ?_
          intro v4 V4 ho4 hg4 hp4
          have hw4 : Below A.heap.size V3 V4 := grown_below hO3.out hg4.out hS3.out.size
          have hS4 : Hid (Keep (fun j => j = b2) A V4) := keepB hS3.out hw4
          have hX4 : Hid (Blk V4 b2 30 [lv, .slice fa n c]) := ((hw4).block b2 HL.out).trans hX3.out
          have hN4 : Hid (Blk V4 nb 94 f.cells ∧ v4.ownBlock ≠ some nb) := ⟨hN3.out.1.kept hg4.out (fun e => hN3.out.2 e.symm), fun e => by
            rcases hp4.out with e2 | e2
            · exact hN3.out.2 (by rw [← e2]; exact e)
            · have h1 := hN3.out.1.lt
              rw [e2] at e
              cases e
              omega⟩
          clear hd4 hw4 hg4 hp4
          refine hK1.out _ _ hS4.out ?_
          clear hK1
          intro _
          try simp only [Act.put, List.setIfInBounds_toArray, List.set_cons_zero, List.set_cons_succ]
          refine wpAnyH_ready (rs := [6]) (by kernel_rfl) (by simp) (AllReadyH.cons (i := 6) (o := { dst := some 11, op := Op.call { callee := Callee.builtin Builtin.append, args := #[Operand.tmp 8, Operand.tmp 10], argTypes := #[28, 28] }, type := 28, pos := "ref.go:41", after := #[{ on := 3, ground := Ground.data }, { on := 5, ground := Ground.data }, { on := 3, ground := Ground.chain }], guard := none }) rfl ?_ AllReadyH.nil)
          · intro K1 hK1
            have hd5 := rx_oneD hN4.out.1
            refine step_append_g (by rfl) (.tmp 8) (.tmp 10) 28 rfl _ 94 i0 z 4 A.heap.size Try.underlying28 HI0.out.1 HI0.out.2.1 HI0.out.2.2.1 HI0.out.2.2.2.1 HI0.out.2.2.2.2 (by omega) _ (0 + n) ([] ++ cs) ho4.out (some ⟨nb, 0, none⟩) (1) 1 f.cells rfl rfl hd5 hS4.out.size (by have := HN.out; omega) ?_
            intro v5 V5 ho5 hg5 hp5
            have hw5 : Below A.heap.size V4 V5 := grown_below ho4.out hg5.out hS4.out.size
            have hS5 : Hid (Keep (fun j => j = b2) A V5) := keepB hS4.out hw5
            have hX5 : Hid (Blk V5 b2 30 [lv, .slice fa n c]) := ((hw5).block b2 HL.out).trans hX4.out
            clear hd5 hw5 hg5 hp5
            refine hK1.out _ _ hS5.out ?_
            clear hK1
            intro _
            try simp only [Act.put, List.setIfInBounds_toArray, List.set_cons_zero, List.set_cons_succ]
            refine wpAnyH_take (i := 7) (oi := { dst := some 12, op := Op.fieldAddr 30 (Operand.tmp 2) 1, type := 0, pos := "ref.go:41", after := #[{ on := 0, ground := Ground.phase }, { on := 1, ground := Ground.phase }, { on := 2, ground := Ground.phase }, { on := 3, ground := Ground.phase }, { on := 4, ground := Ground.phase }, { on := 5, ground := Ground.phase }, { on := 6, ground := Ground.phase }], guard := none }) (v := .pointer (some ⟨b2, 1, none⟩)) rfl (by kernel_rfl) (by kernel_rfl) (by kernel_rfl) (fun _ _ _ h => h.elim) (Or.inl ⟨by rfl, ?y6⟩) hS5.out ?_
            case y6 =>
              intro V hV
              go_simp
            simp only [Act.put, List.setIfInBounds_toArray, List.set_cons_zero, List.set_cons_succ]
            refine wpAnyH_ready (rs := [8]) (by kernel_rfl) (by simp) (AllReadyH.cons (i := 8) (o := { dst := none, op := Op.store 28 (Operand.tmp 12) (Operand.tmp 11), type := 0, pos := "ref.go:41", after := #[{ on := 7, ground := Ground.data }, { on := 6, ground := Ground.data }, { on := 6, ground := Ground.chain }, { on := 0, ground := Ground.phase }, { on := 1, ground := Ground.phase }, { on := 2, ground := Ground.phase }, { on := 3, ground := Ground.phase }, { on := 4, ground := Ground.phase }, { on := 5, ground := Ground.phase }, { on := 6, ground := Ground.phase }], guard := none }) rfl ?_ AllReadyH.nil)
            · intro K1 hK1
              refine step_st (by rfl) 28 (.tmp 12) (.tmp 11) rfl b2 1 v5 30 _ rfl rfl hX5.out (by simp) (by kernel_rfl) (own_slice ho5.out).1 (own_slice ho5.out).2 ?_
              obtain ⟨V6, hv6⟩ : ∃ V, V5.setCell ⟨b2, 1, none⟩ v5 = V := ⟨_, rfl⟩
              have hg6 : V5.grownBy V6 (some b2) := by rw [← hv6]; exact grown_setCell _ _ _ _
              have hS6 : Hid (Keep (fun j => j = b2) A V6) := hS5.out.trans (Keep.grown (S := fun j => j = b2) hg6 rfl) (fun _ hj _ => hj)
              have hX6 : Hid (Blk V6 b2 30 [lv, v5]) := by rw [← hv6]; exact hX5.out.set 1 v5
              have hO6 : Hid (V6.ownsRow A.heap.size 94 4 v5 (0 + n + 1) ([] ++ cs ++ f.cells)) := own_sameR ho5.out (fun g h1 h2 => hg6.block g h2 (fun e => by cases e; have := HL.out; omega))
              rw [hv6]
              clear hv6 hg6
              refine hK1.out _ _ hS6.out ?_
              clear hK1
              intro _
              try simp only [Act.put, List.setIfInBounds_toArray, List.set_cons_zero, List.set_cons_succ]
              refine wpAnyH_done (by kernel_rfl) ?_ _
              exact hQ V6 _ _ _ _ hO6.out hX6.out hS6.out
    · intro K1 hK1
      refine step_bs (by rfl) 28 (.tmp 9) _ rfl rfl (run_bs28 f _) ?_
      have hr2 : V0.heap.size ≥ A.heap.size := hS0.out.size
      obtain ⟨V2, hv2⟩ : ∃ V, V0.alloc (.cells f.cells.toArray 94) = V := ⟨_, rfl⟩
      have hl2 : Below V0.heap.size V0 V2 := by rw [← hv2]; exact below_al _ _
      have hw2 : Below A.heap.size V0 V2 := hl2.mono hr2
      have hS2 : Hid (Keep (fun j => j = b2) A V2) := keepB hS0.out hw2
      have hX2 : Hid (Blk V2 b2 30 [lv, .slice fa n c]) := ((hw2).block b2 HL.out).trans hX0.out
      obtain ⟨nb, hnb⟩ : ∃ m, V0.heap.size = m := ⟨_, rfl⟩
      have hM2 : Hid (Blk V2 nb 94 f.cells) := by show Blk _ _ _ _; rw [← hv2, ← hnb]; simpa using Blk.new V0 f.cells.toArray 94
      rw [hv2, hnb]
      clear hv2 hnb hw2 hr2 hl2
      refine hK1.out _ _ hS2.out ?_
      clear hK1
      intro _
      try simp only [Act.put, List.setIfInBounds_toArray, List.set_cons_zero, List.set_cons_succ]
      refine wpAnyH_ready (rs := [0]) (by kernel_rfl) (by simp) (AllReadyH.cons (i := 0) (o := { dst := some 5, op := Op.buildSlice 28 0 #[], type := 28, pos := "ref.go:41", after := #[], guard := none }) rfl ?_ AllReadyH.nil)
      · intro K1 hK1
        refine step_bs0R (by rfl) 28 rfl (run_bs28_0 _) ?_
        have hr3 : V2.heap.size ≥ A.heap.size := hS2.out.size
        obtain ⟨V3, hv3⟩ : ∃ V, V2.alloc (.cells #[] 94) = V := ⟨_, rfl⟩
        have hl3 : Below V2.heap.size V2 V3 := by rw [← hv3]; exact below_al _ _
        have hw3 : Below A.heap.size V2 V3 := hl3.mono hr3
        have hO3 : Hid (V3.ownsRow A.heap.size 94 4 (.slice (some ⟨V2.heap.size, 0, none⟩) 0 0) 0 []) := by rw [← hv3]; exact own_base (empty_row V2 94 4) hr3
        have hS3 : Hid (Keep (fun j => j = b2) A V3) := keepB hS2.out hw3
        have hX3 : Hid (Blk V3 b2 30 [lv, .slice fa n c]) := ((hw3).block b2 HL.out).trans hX2.out
        have hN3 : Hid (Blk V3 nb 94 f.cells ∧ (Value.slice (some ⟨V2.heap.size, 0, none⟩) 0 0).ownBlock ≠ some nb) := ⟨hM2.out.below hl3 hM2.out.lt, fun e => by have h1 := hM2.out.lt; simp [Value.ownBlock] at e; omega⟩
        obtain ⟨q3, hq3⟩ : ∃ m, V2.heap.size = m := ⟨_, rfl⟩
        rw [hq3] at hO3
        rw [hq3] at hN3
        rw [hv3, hq3]
        clear hv3 hq3 hw3 hr3 hl3
        refine hK1.out _ _ hS3.out ?_
        clear hK1
        intro _
        try simp only [Act.put, List.setIfInBounds_toArray, List.set_cons_zero, List.set_cons_succ]
        refine wpAnyH_ready (rs := [3]) (by kernel_rfl) (by simp) (AllReadyH.cons (i := 3) (o := { dst := some 8, op := Op.call { callee := Callee.builtin Builtin.append, args := #[Operand.tmp 5, Operand.tmp 7], argTypes := #[28, 28] }, type := 28, pos := "ref.go:41", after := #[{ on := 0, ground := Ground.data }, { on := 2, ground := Ground.data }], guard := none }) rfl ?_ AllReadyH.nil)
        · intro K1 hK1
          have hd4 := HR.out V3 hS3.out
          refine step_append_g (by rfl) (.tmp 5) (.tmp 7) 28 rfl _ 94 i0 z 4 A.heap.size Try.underlying28 HI0.out.1 HI0.out.2.1 HI0.out.2.2.1 HI0.out.2.2.2.1 HI0.out.2.2.2.2 (by omega) _ 0 [] hO3.out fa (n) c cs rfl rfl hd4 hS3.out.size (by have := HN.out; omega) ?_
          intro v4 V4 ho4 hg4 hp4
          have hw4 : Below A.heap.size V3 V4 := grown_below hO3.out hg4.out hS3.out.size
          have hS4 : Hid (Keep (fun j => j = b2) A V4) := keepB hS3.out hw4
          have hX4 : Hid (Blk V4 b2 30 [lv, .slice fa n c]) := ((hw4).block b2 HL.out).trans hX3.out
          have hN4 : Hid (Blk V4 nb 94 f.cells ∧ v4.ownBlock ≠ some nb) := ⟨hN3.out.1.kept hg4.out (fun e => hN3.out.2 e.symm), fun e => by
            rcases hp4.out with e2 | e2
            · exact hN3.out.2 (by rw [← e2]; exact e)
            · have h1 := hN3.out.1.lt
              rw [e2] at e
              cases e
              omega⟩
          clear hd4 hw4 hg4 hp4
          refine hK1.out _ _ hS4.out ?_
          clear hK1
          intro _
          try simp only [Act.put, List.setIfInBounds_toArray, List.set_cons_zero, List.set_cons_succ]
          refine wpAnyH_ready (rs := [6]) (by kernel_rfl) (by simp) (AllReadyH.cons (i := 6) (o := { dst := some 11, op := Op.call { callee := Callee.builtin Builtin.append, args := #[Operand.tmp 8, Operand.tmp 10], argTypes := #[28, 28] }, type := 28, pos := "ref.go:41", after := #[{ on := 3, ground := Ground.data }, { on := 5, ground := Ground.data }, { on := 3, ground := Ground.chain }], guard := none }) rfl ?_ AllReadyH.nil)
          · intro K1 hK1
            have hd5 := rx_oneD hN4.out.1
            refine step_append_g (by rfl) (.tmp 8) (.tmp 10) 28 rfl _ 94 i0 z 4 A.heap.size Try.underlying28 HI0.out.1 HI0.out.2.1 HI0.out.2.2.1 HI0.out.2.2.2.1 HI0.out.2.2.2.2 (by omega) _ (0 + n) ([] ++ cs) ho4.out (some ⟨nb, 0, none⟩) (1) 1 f.cells rfl rfl hd5 hS4.out.size (by have := HN.out; omega) ?_
            intro v5 V5 ho5 hg5 hp5
            have hw5 : Below A.heap.size V4 V5 := grown_below ho4.out hg5.out hS4.out.size
            have hS5 : Hid (Keep (fun j => j = b2) A V5) := keepB hS4.out hw5
            have hX5 : Hid (Blk V5 b2 30 [lv, .slice fa n c]) := ((hw5).block b2 HL.out).trans hX4.out
            clear hd5 hw5 hg5 hp5
            refine hK1.out _ _ hS5.out ?_
            clear hK1
            intro _
            try simp only [Act.put, List.setIfInBounds_toArray, List.set_cons_zero, List.set_cons_succ]
            refine wpAnyH_take (i := 7) (oi := { dst := some 12, op := Op.fieldAddr 30 (Operand.tmp 2) 1, type := 0, pos := "ref.go:41", after := #[{ on := 0, ground := Ground.phase }, { on := 1, ground := Ground.phase }, { on := 2, ground := Ground.phase }, { on := 3, ground := Ground.phase }, { on := 4, ground := Ground.phase }, { on := 5, ground := Ground.phase }, { on := 6, ground := Ground.phase }], guard := none }) (v := .pointer (some ⟨b2, 1, none⟩)) rfl (by kernel_rfl) (by kernel_rfl) (by kernel_rfl) (fun _ _ _ h => h.elim) (Or.inl ⟨by rfl, ?y7⟩) hS5.out ?_
            case y7 =>
              intro V hV
              go_simp
            simp only [Act.put, List.setIfInBounds_toArray, List.set_cons_zero, List.set_cons_succ]
            refine wpAnyH_ready (rs := [8]) (by kernel_rfl) (by simp) (AllReadyH.cons (i := 8) (o := { dst := none, op := Op.store 28 (Operand.tmp 12) (Operand.tmp 11), type := 0, pos := "ref.go:41", after := #[{ on := 7, ground := Ground.data }, { on := 6, ground := Ground.data }, { on := 6, ground := Ground.chain }, { on := 0, ground := Ground.phase }, { on := 1, ground := Ground.phase }, { on := 2, ground := Ground.phase }, { on := 3, ground := Ground.phase }, { on := 4, ground := Ground.phase }, { on := 5, ground := Ground.phase }, { on := 6, ground := Ground.phase }], guard := none }) rfl ?_ AllReadyH.nil)
            · intro K1 hK1
              refine step_st (by rfl) 28 (.tmp 12) (.tmp 11) rfl b2 1 v5 30 _ rfl rfl hX5.out (by simp) (by kernel_rfl) (own_slice ho5.out).1 (own_slice ho5.out).2 ?_
              obtain ⟨V6, hv6⟩ : ∃ V, V5.setCell ⟨b2, 1, none⟩ v5 = V := ⟨_, rfl⟩
              have hg6 : V5.grownBy V6 (some b2) := by rw [← hv6]; exact grown_setCell _ _ _ _
              have hS6 : Hid (Keep (fun j => j = b2) A V6) := hS5.out.trans (Keep.grown (S := fun j => j = b2) hg6 rfl) (fun _ hj _ => hj)
              have hX6 : Hid (Blk V6 b2 30 [lv, v5]) := by rw [← hv6]; exact hX5.out.set 1 v5
              have hO6 : Hid (V6.ownsRow A.heap.size 94 4 v5 (0 + n + 1) ([] ++ cs ++ f.cells)) := own_sameR ho5.out (fun g h1 h2 => hg6.block g h2 (fun e => by cases e; have := HL.out; omega))
              rw [hv6]
              clear hv6 hg6
              refine hK1.out _ _ hS6.out ?_
              clear hK1
              intro _
              try simp only [Act.put, List.setIfInBounds_toArray, List.set_cons_zero, List.set_cons_succ]
              refine wpAnyH_done (by kernel_rfl) ?_ _
              exact hQ V6 _ _ _ _ hO6.out hX6.out hS6.out
  · intro K1 hK1
    refine step_bs (by rfl) 28 (.tmp 9) _ rfl rfl (run_bs28 f _) ?_
    have hr1 : V0.heap.size ≥ A.heap.size := hS0.out.size
    obtain ⟨V1, hv1⟩ : ∃ V, V0.alloc (.cells f.cells.toArray 94) = V := ⟨_, rfl⟩
    have hl1 : Below V0.heap.size V0 V1 := by rw [← hv1]; exact below_al _ _
    have hw1 : Below A.heap.size V0 V1 := hl1.mono hr1
    have hS1 : Hid (Keep (fun j => j = b2) A V1) := keepB hS0.out hw1
    have hX1 : Hid (Blk V1 b2 30 [lv, .slice fa n c]) := ((hw1).block b2 HL.out).trans hX0.out
    obtain ⟨nb, hnb⟩ : ∃ m, V0.heap.size = m := ⟨_, rfl⟩
    have hM1 : Hid (Blk V1 nb 94 f.cells) := by show Blk _ _ _ _; rw [← hv1, ← hnb]; simpa using Blk.new V0 f.cells.toArray 94
    rw [hv1, hnb]
    clear hv1 hnb hw1 hr1 hl1
    refine hK1.out _ _ hS1.out ?_
    clear hK1
    intro _
    try simp only [Act.put, List.setIfInBounds_toArray, List.set_cons_zero, List.set_cons_succ]
    refine wpAnyH_ready (rs := [0, 2]) (by kernel_rfl) (by simp) (AllReadyH.cons (i := 0) (o := { dst := some 5, op := Op.buildSlice 28 0 #[], type := 28, pos := "ref.go:41", after := #[], guard := none }) rfl ?_ (AllReadyH.cons (i := 2) (o := { dst := some 7, op := Op.load 28 (Operand.tmp 6), type := 28, pos := "ref.go:41", after := #[{ on := 1, ground := Ground.data }], guard := none }) rfl ?_ AllReadyH.nil))
    · intro K1 hK1
      refine step_bs0R (by rfl) 28 rfl (run_bs28_0 _) ?_
      have hr2 : V1.heap.size ≥ A.heap.size := hS1.out.size
      obtain ⟨V2, hv2⟩ : ∃ V, V1.alloc (.cells #[] 94) = V := ⟨_, rfl⟩
      have hl2 : Below V1.heap.size V1 V2 := by rw [← hv2]; exact below_al _ _
      have hw2 : Below A.heap.size V1 V2 := hl2.mono hr2
      have hO2 : Hid (V2.ownsRow A.heap.size 94 4 (.slice (some ⟨V1.heap.size, 0, none⟩) 0 0) 0 []) := by rw [← hv2]; exact own_base (empty_row V1 94 4) hr2
      have hS2 : Hid (Keep (fun j => j = b2) A V2) := keepB hS1.out hw2
      have hX2 : Hid (Blk V2 b2 30 [lv, .slice fa n c]) := ((hw2).block b2 HL.out).trans hX1.out
      have hN2 : Hid (Blk V2 nb 94 f.cells ∧ (Value.slice (some ⟨V1.heap.size, 0, none⟩) 0 0).ownBlock ≠ some nb) := ⟨hM1.out.below hl2 hM1.out.lt, fun e => by have h1 := hM1.out.lt; simp [Value.ownBlock] at e; omega⟩
      obtain ⟨q2, hq2⟩ : ∃ m, V1.heap.size = m := ⟨_, rfl⟩
      rw [hq2] at hO2
      rw [hq2] at hN2
      rw [hv2, hq2]
      clear hv2 hq2 hw2 hr2 hl2
      refine hK1.out _ _ hS2.out ?_
      clear hK1
      intro _
      try simp only [Act.put, List.setIfInBounds_toArray, List.set_cons_zero, List.set_cons_succ]
      refine wpAnyH_ready (rs := [2]) (by kernel_rfl) (by simp) (AllReadyH.cons (i := 2) (o := { dst := some 7, op := Op.load 28 (Operand.tmp 6), type := 28, pos := "ref.go:41", after := #[{ on := 1, ground := Ground.data }], guard := none }) rfl ?_ AllReadyH.nil)
      · intro K1 hK1
        rw [if_pos (by rfl)]
        have hc : V2.cell? ⟨b2, 1, none⟩ = some (.slice fa n c) := hX2.out.cell rfl
        go_wp2
        clear hc
        refine hK1.out _ _ hS2.out ?_
        clear hK1
        intro _
        try simp only [Act.put, List.setIfInBounds_toArray, List.set_cons_zero, List.set_cons_succ]
        refine wpAnyH_ready (rs := [3]) (by kernel_rfl) (by simp) (AllReadyH.cons (i := 3) (o := { dst := some 8, op := Op.call { callee := Callee.builtin Builtin.append, args := #[Operand.tmp 5, Operand.tmp 7], argTypes := #[28, 28] }, type := 28, pos := "ref.go:41", after := #[{ on := 0, ground := Ground.data }, { on := 2, ground := Ground.data }], guard := none }) rfl ?_ AllReadyH.nil)
        · intro K1 hK1
          have hd4 := HR.out V2 hS2.out
          refine step_append_g (by rfl) (.tmp 5) (.tmp 7) 28 rfl _ 94 i0 z 4 A.heap.size Try.underlying28 HI0.out.1 HI0.out.2.1 HI0.out.2.2.1 HI0.out.2.2.2.1 HI0.out.2.2.2.2 (by omega) _ 0 [] hO2.out fa (n) c cs rfl rfl hd4 hS2.out.size (by have := HN.out; omega) ?_
          intro v4 V4 ho4 hg4 hp4
          have hw4 : Below A.heap.size V2 V4 := grown_below hO2.out hg4.out hS2.out.size
          have hS4 : Hid (Keep (fun j => j = b2) A V4) := keepB hS2.out hw4
          have hX4 : Hid (Blk V4 b2 30 [lv, .slice fa n c]) := ((hw4).block b2 HL.out).trans hX2.out
          have hN4 : Hid (Blk V4 nb 94 f.cells ∧ v4.ownBlock ≠ some nb) := ⟨hN2.out.1.kept hg4.out (fun e => hN2.out.2 e.symm), fun e => by
            rcases hp4.out with e2 | e2
            · exact hN2.out.2 (by rw [← e2]; exact e)
            · have h1 := hN2.out.1.lt
              rw [e2] at e
              cases e
              omega⟩
          clear hd4 hw4 hg4 hp4
          refine hK1.out _ _ hS4.out ?_
          clear hK1
          intro _
          try simp only [Act.put, List.setIfInBounds_toArray, List.set_cons_zero, List.set_cons_succ]
          refine wpAnyH_ready (rs := [6]) (by kernel_rfl) (by simp) (AllReadyH.cons (i := 6) (o := { dst := some 11, op := Op.call { callee := Callee.builtin Builtin.append, args := #[Operand.tmp 8, Operand.tmp 10], argTypes := #[28, 28] }, type := 28, pos := "ref.go:41", after := #[{ on := 3, ground := Ground.data }, { on := 5, ground := Ground.data }, { on := 3, ground := Ground.chain }], guard := none }) rfl ?_ AllReadyH.nil)
          · intro K1 hK1
            have hd5 := rx_oneD hN4.out.1
            refine step_append_g (by rfl) (.tmp 8) (.tmp 10) 28 rfl _ 94 i0 z 4 A.heap.size Try.underlying28 HI0.out.1 HI0.out.2.1 HI0.out.2.2.1 HI0.out.2.2.2.1 HI0.out.2.2.2.2 (by omega) _ (0 + n) ([] ++ cs) ho4.out (some ⟨nb, 0, none⟩) (1) 1 f.cells rfl rfl hd5 hS4.out.size (by have := HN.out; omega) ?_
            intro v5 V5 ho5 hg5 hp5
            have hw5 : Below A.heap.size V4 V5 := grown_below ho4.out hg5.out hS4.out.size
            have hS5 : Hid (Keep (fun j => j = b2) A V5) := keepB hS4.out hw5
            have hX5 : Hid (Blk V5 b2 30 [lv, .slice fa n c]) := ((hw5).block b2 HL.out).trans hX4.out
            clear hd5 hw5 hg5 hp5
            refine hK1.out _ _ hS5.out ?_
            clear hK1
            intro _
            try simp only [Act.put, List.setIfInBounds_toArray, List.set_cons_zero, List.set_cons_succ]
            refine wpAnyH_take (i := 7) (oi := { dst := some 12, op := Op.fieldAddr 30 (Operand.tmp 2) 1, type := 0, pos := "ref.go:41", after := #[{ on := 0, ground := Ground.phase }, { on := 1, ground := Ground.phase }, { on := 2, ground := Ground.phase }, { on := 3, ground := Ground.phase }, { on := 4, ground := Ground.phase }, { on := 5, ground := Ground.phase }, { on := 6, ground := Ground.phase }], guard := none }) (v := .pointer (some ⟨b2, 1, none⟩)) rfl (by kernel_rfl) (by kernel_rfl) (by kernel_rfl) (fun _ _ _ h => h.elim) (Or.inl ⟨by rfl, ?y8⟩) hS5.out ?_
            case y8 =>
              intro V hV
              go_simp
            simp only [Act.put, List.setIfInBounds_toArray, List.set_cons_zero, List.set_cons_succ]
            refine wpAnyH_ready (rs := [8]) (by kernel_rfl) (by simp) (AllReadyH.cons (i := 8) (o := { dst := none, op := Op.store 28 (Operand.tmp 12) (Operand.tmp 11), type := 0, pos := "ref.go:41", after := #[{ on := 7, ground := Ground.data }, { on := 6, ground := Ground.data }, { on := 6, ground := Ground.chain }, { on := 0, ground := Ground.phase }, { on := 1, ground := Ground.phase }, { on := 2, ground := Ground.phase }, { on := 3, ground := Ground.phase }, { on := 4, ground := Ground.phase }, { on := 5, ground := Ground.phase }, { on := 6, ground := Ground.phase }], guard := none }) rfl ?_ AllReadyH.nil)
            · intro K1 hK1
              refine step_st (by rfl) 28 (.tmp 12) (.tmp 11) rfl b2 1 v5 30 _ rfl rfl hX5.out (by simp) (by kernel_rfl) (own_slice ho5.out).1 (own_slice ho5.out).2 ?_
              obtain ⟨V6, hv6⟩ : ∃ V, V5.setCell ⟨b2, 1, none⟩ v5 = V := ⟨_, rfl⟩
              have hg6 : V5.grownBy V6 (some b2) := by rw [← hv6]; exact grown_setCell _ _ _ _
              have hS6 : Hid (Keep (fun j => j = b2) A V6) := hS5.out.trans (Keep.grown (S := fun j => j = b2) hg6 rfl) (fun _ hj _ => hj)
              have hX6 : Hid (Blk V6 b2 30 [lv, v5]) := by rw [← hv6]; exact hX5.out.set 1 v5
              have hO6 : Hid (V6.ownsRow A.heap.size 94 4 v5 (0 + n + 1) ([] ++ cs ++ f.cells)) := own_sameR ho5.out (fun g h1 h2 => hg6.block g h2 (fun e => by cases e; have := HL.out; omega))
              rw [hv6]
              clear hv6 hg6
              refine hK1.out _ _ hS6.out ?_
              clear hK1
              intro _
              try simp only [Act.put, List.setIfInBounds_toArray, List.set_cons_zero, List.set_cons_succ]
              refine wpAnyH_done (by kernel_rfl) ?_ _
              exact hQ V6 _ _ _ _ hO6.out hX6.out hS6.out
    · intro K1 hK1
      rw [if_pos (by rfl)]
      have hc : V1.cell? ⟨b2, 1, none⟩ = some (.slice fa n c) := hX1.out.cell rfl
      go_wp2
      clear hc
      refine hK1.out _ _ hS1.out ?_
      clear hK1
      intro _
      try simp only [Act.put, List.setIfInBounds_toArray, List.set_cons_zero, List.set_cons_succ]
      refine wpAnyH_ready (rs := [0]) (by kernel_rfl) (by simp) (AllReadyH.cons (i := 0) (o := { dst := some 5, op := Op.buildSlice 28 0 #[], type := 28, pos := "ref.go:41", after := #[], guard := none }) rfl ?_ AllReadyH.nil)
      · intro K1 hK1
        refine step_bs0R (by rfl) 28 rfl (run_bs28_0 _) ?_
        have hr3 : V1.heap.size ≥ A.heap.size := hS1.out.size
        obtain ⟨V3, hv3⟩ : ∃ V, V1.alloc (.cells #[] 94) = V := ⟨_, rfl⟩
        have hl3 : Below V1.heap.size V1 V3 := by rw [← hv3]; exact below_al _ _
        have hw3 : Below A.heap.size V1 V3 := hl3.mono hr3
        have hO3 : Hid (V3.ownsRow A.heap.size 94 4 (.slice (some ⟨V1.heap.size, 0, none⟩) 0 0) 0 []) := by rw [← hv3]; exact own_base (empty_row V1 94 4) hr3
        have hS3 : Hid (Keep (fun j => j = b2) A V3) := keepB hS1.out hw3
        have hX3 : Hid (Blk V3 b2 30 [lv, .slice fa n c]) := ((hw3).block b2 HL.out).trans hX1.out
        have hN3 : Hid (Blk V3 nb 94 f.cells ∧ (Value.slice (some ⟨V1.heap.size, 0, none⟩) 0 0).ownBlock ≠ some nb) := ⟨hM1.out.below hl3 hM1.out.lt, fun e => by have h1 := hM1.out.lt; simp [Value.ownBlock] at e; omega⟩
        obtain ⟨q3, hq3⟩ : ∃ m, V1.heap.size = m := ⟨_, rfl⟩
        rw [hq3] at hO3
        rw [hq3] at hN3
        rw [hv3, hq3]
        clear hv3 hq3 hw3 hr3 hl3
        refine hK1.out _ _ hS3.out ?_
        clear hK1
        intro _
        try simp only [Act.put, List.setIfInBounds_toArray, List.set_cons_zero, List.set_cons_succ]
        refine wpAnyH_ready (rs := [3]) (by kernel_rfl) (by simp) (AllReadyH.cons (i := 3) (o := { dst := some 8, op := Op.call { callee := Callee.builtin Builtin.append, args := #[Operand.tmp 5, Operand.tmp 7], argTypes := #[28, 28] }, type := 28, pos := "ref.go:41", after := #[{ on := 0, ground := Ground.data }, { on := 2, ground := Ground.data }], guard := none }) rfl ?_ AllReadyH.nil)
        · intro K1 hK1
          have hd4 := HR.out V3 hS3.out
          refine step_append_g (by rfl) (.tmp 5) (.tmp 7) 28 rfl _ 94 i0 z 4 A.heap.size Try.underlying28 HI0.out.1 HI0.out.2.1 HI0.out.2.2.1 HI0.out.2.2.2.1 HI0.out.2.2.2.2 (by omega) _ 0 [] hO3.out fa (n) c cs rfl rfl hd4 hS3.out.size (by have := HN.out; omega) ?_
          intro v4 V4 ho4 hg4 hp4
          have hw4 : Below A.heap.size V3 V4 := grown_below hO3.out hg4.out hS3.out.size
          have hS4 : Hid (Keep (fun j => j = b2) A V4) := keepB hS3.out hw4
          have hX4 : Hid (Blk V4 b2 30 [lv, .slice fa n c]) := ((hw4).block b2 HL.out).trans hX3.out
          have hN4 : Hid (Blk V4 nb 94 f.cells ∧ v4.ownBlock ≠ some nb) := ⟨hN3.out.1.kept hg4.out (fun e => hN3.out.2 e.symm), fun e => by
            rcases hp4.out with e2 | e2
            · exact hN3.out.2 (by rw [← e2]; exact e)
            · have h1 := hN3.out.1.lt
              rw [e2] at e
              cases e
              omega⟩
          clear hd4 hw4 hg4 hp4
          refine hK1.out _ _ hS4.out ?_
          clear hK1
          intro _
          try simp only [Act.put, List.setIfInBounds_toArray, List.set_cons_zero, List.set_cons_succ]
          refine wpAnyH_ready (rs := [6]) (by kernel_rfl) (by simp) (AllReadyH.cons (i := 6) (o := { dst := some 11, op := Op.call { callee := Callee.builtin Builtin.append, args := #[Operand.tmp 8, Operand.tmp 10], argTypes := #[28, 28] }, type := 28, pos := "ref.go:41", after := #[{ on := 3, ground := Ground.data }, { on := 5, ground := Ground.data }, { on := 3, ground := Ground.chain }], guard := none }) rfl ?_ AllReadyH.nil)
          · intro K1 hK1
            have hd5 := rx_oneD hN4.out.1
            refine step_append_g (by rfl) (.tmp 8) (.tmp 10) 28 rfl _ 94 i0 z 4 A.heap.size Try.underlying28 HI0.out.1 HI0.out.2.1 HI0.out.2.2.1 HI0.out.2.2.2.1 HI0.out.2.2.2.2 (by omega) _ (0 + n) ([] ++ cs) ho4.out (some ⟨nb, 0, none⟩) (1) 1 f.cells rfl rfl hd5 hS4.out.size (by have := HN.out; omega) ?_
            intro v5 V5 ho5 hg5 hp5
            have hw5 : Below A.heap.size V4 V5 := grown_below ho4.out hg5.out hS4.out.size
            have hS5 : Hid (Keep (fun j => j = b2) A V5) := keepB hS4.out hw5
            have hX5 : Hid (Blk V5 b2 30 [lv, .slice fa n c]) := ((hw5).block b2 HL.out).trans hX4.out
            clear hd5 hw5 hg5 hp5
            refine hK1.out _ _ hS5.out ?_
            clear hK1
            intro _
            try simp only [Act.put, List.setIfInBounds_toArray, List.set_cons_zero, List.set_cons_succ]
            refine wpAnyH_take (i := 7) (oi := { dst := some 12, op := Op.fieldAddr 30 (Operand.tmp 2) 1, type := 0, pos := "ref.go:41", after := #[{ on := 0, ground := Ground.phase }, { on := 1, ground := Ground.phase }, { on := 2, ground := Ground.phase }, { on := 3, ground := Ground.phase }, { on := 4, ground := Ground.phase }, { on := 5, ground := Ground.phase }, { on := 6, ground := Ground.phase }], guard := none }) (v := .pointer (some ⟨b2, 1, none⟩)) rfl (by kernel_rfl) (by kernel_rfl) (by kernel_rfl) (fun _ _ _ h => h.elim) (Or.inl ⟨by rfl, ?y9⟩) hS5.out ?_
            case y9 =>
              intro V hV
              go_simp
            simp only [Act.put, List.setIfInBounds_toArray, List.set_cons_zero, List.set_cons_succ]
            refine wpAnyH_ready (rs := [8]) (by kernel_rfl) (by simp) (AllReadyH.cons (i := 8) (o := { dst := none, op := Op.store 28 (Operand.tmp 12) (Operand.tmp 11), type := 0, pos := "ref.go:41", after := #[{ on := 7, ground := Ground.data }, { on := 6, ground := Ground.data }, { on := 6, ground := Ground.chain }, { on := 0, ground := Ground.phase }, { on := 1, ground := Ground.phase }, { on := 2, ground := Ground.phase }, { on := 3, ground := Ground.phase }, { on := 4, ground := Ground.phase }, { on := 5, ground := Ground.phase }, { on := 6, ground := Ground.phase }], guard := none }) rfl ?_ AllReadyH.nil)
            · intro K1 hK1
              refine step_st (by rfl) 28 (.tmp 12) (.tmp 11) rfl b2 1 v5 30 _ rfl rfl hX5.out (by simp) (by kernel_rfl) (own_slice ho5.out).1 (own_slice ho5.out).2 ?_
              obtain ⟨V6, hv6⟩ : ∃ V, V5.setCell ⟨b2, 1, none⟩ v5 = V := ⟨_, rfl⟩
              have hg6 : V5.grownBy V6 (some b2) := by rw [← hv6]; exact grown_setCell _ _ _ _
              have hS6 : Hid (Keep (fun j => j = b2) A V6) := hS5.out.trans (Keep.grown (S := fun j => j = b2) hg6 rfl) (fun _ hj _ => hj)
              have hX6 : Hid (Blk V6 b2 30 [lv, v5]) := by rw [← hv6]; exact hX5.out.set 1 v5
              have hO6 : Hid (V6.ownsRow A.heap.size 94 4 v5 (0 + n + 1) ([] ++ cs ++ f.cells)) := own_sameR ho5.out (fun g h1 h2 => hg6.block g h2 (fun e => by cases e; have := HL.out; omega))
              rw [hv6]
              clear hv6 hg6
              refine hK1.out _ _ hS6.out ?_
              clear hK1
              intro _
              try simp only [Act.put, List.setIfInBounds_toArray, List.set_cons_zero, List.set_cons_succ]
              refine wpAnyH_done (by kernel_rfl) ?_ _
              exact hQ V6 _ _ _ _ hO6.out hX6.out hS6.out
end Go.Proofs.Ytaecigpjcbjcbaa.Oct
