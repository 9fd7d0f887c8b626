/-
  Layer 21 (queue): what a call leaves of a queue; Put.
-/
import Derived.Test.YtipipckbcelphaaWQcl
namespace Go.Proofs.Ytipipckbcelphaa.Oct
open Go.RowKit
set_option linter.unusedSimpArgs false
set_option linter.unusedVariables false

theorem wpList_append_ow {P : Program} {ops : Array Oper} {rest : List Oper} {o : Oper} {a : Act} {Q : Exit → Act → World → Prop} (hgd : o.guard = none) (s x : Operand) (t : TypeId)
    (hop : o.op = .call { callee := .builtin .append, args := #[s, x], argTypes := #[t, t] }) (w : World) (e : TypeId) (i : TypeInfo) (z : Value) (sz : Nat) (ht : P.underlying t = some (.slice e)) (hi : P.info? e = some i) (hz : i.zero = some z) (hs : i.size = sz) (hby : i.bytes ≤ 24) (hzs : z.cells.size = sz) (hsz : 0 < sz)
    (v : Value) (n : Nat) (cs : List Value) (h : Ow w e sz v n cs) (g q c : Nat) (qs : List Value) (hsv : a.eval s = v) (hx : a.eval x = .slice (some ⟨g, 0, none⟩) q c) (hl : qs.length = q * sz) (hq : w.rangeAt g 0 qs) (h1 : ∀ u ∈ qs, u.oneCell' = true) (hq0 : 0 < q) (hn : n + q ≤ 4000000000000)
    (hk : ∀ v' w', Hid (Ow w' e sz v' (n + q) (cs ++ qs)) → Hid (w.grownBy w' v.ownBlock) → Hid (∃ g', v'.ownBlock = some g' ∧ (v.ownBlock = some g' ∨ g' = w.heap.size)) → wpList P ops Q rest (a.put o.dst v') w') : wpList P ops Q (o :: rest) a w := by
  refine wpList_plain hgd fun K hK => ?_
  obtain ⟨v', w', hr, h2, h3, h4⟩ := run_append_ow (P := P) w t o.type e i z sz ht hi hz hs hzs hsz v n cs h g 0 q c qs hl hq h1 hn hq0 hby
  unfold Oper.wp execOp
  simp only [hop, resolve, invoke, builtin, Sem.run_bind, Sem.run_pure, Result.andThen_ok, List.map_toArray, List.map_cons, List.map_nil, hsv, hx, hr]
  exact hK _ _ (hk v' w' h2 h3 h4)
theorem nod3 {b : Nat} {o1 o2 : Option Nat} (h1 : o1 ≠ some b) (h2 : o2 ≠ some b) (h3 : ∀ g, o1 = some g → o2 ≠ some g) : (b :: (o1.toList ++ o2.toList)).Nodup := by
  cases o1 with
  | none =>
    cases o2 with
    | none => simp
    | some g2 =>
      simp only [Option.toList, List.nil_append, List.nodup_cons, List.mem_singleton, List.not_mem_nil, not_false_eq_true, List.nodup_nil, and_self, and_true]
      exact fun e => h2 (by rw [e])
  | some g1 =>
    cases o2 with
    | none =>
      simp only [Option.toList, List.append_nil, List.nodup_cons, List.mem_singleton, List.not_mem_nil, not_false_eq_true, List.nodup_nil, and_self, and_true]
      exact fun e => h1 (by rw [e])
    | some g2 =>
      have := h3 g1 rfl
      simp only [Option.toList, List.cons_append, List.nil_append, List.nodup_cons, List.mem_cons, List.mem_singleton, List.not_mem_nil, not_false_eq_true, List.nodup_nil, and_self, and_true, or_false, not_or]
      exact ⟨⟨fun e => h1 (by rw [e]), fun e => h2 (by rw [e])⟩, fun e => this (by rw [e])⟩
section
variable {w A w1 : World} {b K K' : Nat} {M : Qu} {T v : Value}
theorem QAt.wput (h : QAt w b M T K) (hA : Below w.heap.size w A) {W' : List Int} (ho : Ow w1 3 1 v W'.length (ivs W')) (hg : A.grownBy w1 M.wv.ownBlock) (hv : ∀ g, v.ownBlock = some g → M.wv.ownBlock = some g ∨ w.heap.size ≤ g) (hl : W'.length ≤ 64) (hK : W'.length + M.E.length ≤ K') (hf : K' ≤ 3000000000000) :
    QAt (w1.setCell ⟨b, 1, none⟩ v) b ⟨v, M.ev, W', M.E⟩ T K' ∧ QAfter w b M ⟨v, M.ev, W', M.E⟩ (w1.setCell ⟨b, 1, none⟩ v) := by
  obtain ⟨p1, p2, p3⟩ := h.parts
  have hAb := h.below hA
  have hbl := h.blk.lt
  have hblk1 : Blk w1 b 54 [.bool true, M.wv, M.ev, T] := hAb.blk.kept hg (fun e => p1 e.symm)
  obtain ⟨V, hV⟩ : ∃ V, w1.setCell ⟨b, 1, none⟩ v = V := ⟨_, rfl⟩
  rw [hV]
  have hgv : w1.grownBy V (some b) := by rw [← hV]; exact grown_setCell _ _ _ _
  have hvb : ∀ g, v.ownBlock = some g → g ≠ b := fun g hg' e => by
    rcases hv g hg' with h1 | h1
    · exact p1 (by rw [h1, e])
    · omega
  refine ⟨⟨?_, ?_, ?_, ?_, hl, hK, hf⟩, ?_, ?_⟩
  · rw [← hV]; exact hblk1.set 1 _
  · exact ho.same fun g hg' => hgv.block g (ho.lt hg') (fun e => hvb g hg' (by cases e; rfl))
  · refine hAb.erow.same fun g hg' => ?_
    have hlt := hAb.erow.lt hg'
    rw [hgv.block g (Nat.lt_of_lt_of_le hlt hg.size) (fun e => p2 (by cases e; exact hg')), hg.block g hlt (fun e => p3 g e.symm hg')]
  · refine nod3 (fun e => hvb b e rfl) p2 (fun g h1 h2 => ?_)
    rcases hv g h1 with h3 | h3
    · exact p3 g h3 h2
    · have := h.erow.lt h2; omega
  · intro k hk
    simp only [Qu.bl, List.mem_cons, List.mem_append, Option.mem_toList] at hk ⊢
    rcases hk with rfl | hk | hk
    · exact .inl (.inl rfl)
    · rcases hv k hk with h3 | h3
      · exact .inl (.inr (.inl h3))
      · exact .inr h3
    · exact .inl (.inr (.inr hk))
  · have k1 : Keep (fun k => k ∈ M.bl b) A w1 := Keep.grownO hg fun k hk => by simp [Qu.bl, hk]
    have k2 : Keep (fun k => k ∈ M.bl b) w1 V := Keep.grown hgv (by simp [Qu.bl])
    exact (Keep.below hA).trans (k1.trans k2 (fun _ hj _ => hj)) (fun _ hj _ => hj)
theorem QAt.eput (h : QAt w b M T K) (hA : Below w.heap.size w A) {E' : List (Int × Int × Int)} (ho : Ow w1 38 3 v E'.length (qdC E')) (hg : A.grownBy w1 M.ev.ownBlock) (hv : ∀ g, v.ownBlock = some g → M.ev.ownBlock = some g ∨ w.heap.size ≤ g) (hK : M.W.length + E'.length ≤ K') (hf : K' ≤ 3000000000000) :
    QAt (w1.setCell ⟨b, 2, none⟩ v) b ⟨M.wv, v, M.W, E'⟩ T K' ∧ QAfter w b M ⟨M.wv, v, M.W, E'⟩ (w1.setCell ⟨b, 2, none⟩ v) := by
  obtain ⟨p1, p2, p3⟩ := h.parts
  have hAb := h.below hA
  have hbl := h.blk.lt
  have hblk1 : Blk w1 b 54 [.bool true, M.wv, M.ev, T] := hAb.blk.kept hg (fun e => p2 e.symm)
  obtain ⟨V, hV⟩ : ∃ V, w1.setCell ⟨b, 2, none⟩ v = V := ⟨_, rfl⟩
  rw [hV]
  have hgv : w1.grownBy V (some b) := by rw [← hV]; exact grown_setCell _ _ _ _
  have hvb : ∀ g, v.ownBlock = some g → g ≠ b := fun g hg' e => by
    rcases hv g hg' with h1 | h1
    · exact p2 (by rw [h1, e])
    · omega
  refine ⟨⟨?_, ?_, ?_, ?_, h.nW, hK, hf⟩, ?_, ?_⟩
  · rw [← hV]; exact hblk1.set 2 _
  · refine hAb.wrow.same fun g hg' => ?_
    have hlt := hAb.wrow.lt hg'
    rw [hgv.block g (Nat.lt_of_lt_of_le hlt hg.size) (fun e => p1 (by cases e; exact hg')), hg.block g hlt (fun e => p3 g hg' e.symm)]
  · exact ho.same fun g hg' => hgv.block g (ho.lt hg') (fun e => hvb g hg' (by cases e; rfl))
  · refine nod3 p1 (fun e => hvb b e rfl) (fun g h1 h2 => ?_)
    rcases hv g h2 with h3 | h3
    · exact p3 g h1 h3
    · have := h.wrow.lt h1; omega
  · intro k hk
    simp only [Qu.bl, List.mem_cons, List.mem_append, Option.mem_toList] at hk ⊢
    rcases hk with rfl | hk | hk
    · exact .inl (.inl rfl)
    · exact .inl (.inr (.inl hk))
    · rcases hv k hk with h3 | h3
      · exact .inl (.inr (.inr h3))
      · exact .inr h3
  · have k1 : Keep (fun k => k ∈ M.bl b) A w1 := Keep.grownO hg fun k hk => by simp [Qu.bl, hk]
    have k2 : Keep (fun k => k ∈ M.bl b) w1 V := Keep.grown hgv (by simp [Qu.bl])
    exact (Keep.below hA).trans (k1.trans k2 (fun _ hj _ => hj)) (fun _ hj _ => hj)
/-- the try that is at work, turned -/
theorem QAt.tput (h : QAt w b M T K) (T' : Value) : QAt (w.setCell ⟨b, 3, none⟩ T') b M T' K ∧ QAfter w b M M (w.setCell ⟨b, 3, none⟩ T') := by
  obtain ⟨p1, p2, p3⟩ := h.parts
  have hgv := grown_setCell w b 3 T'
  refine ⟨⟨h.blk.set 3 T', h.wrow.same fun g hg => hgv.block g (h.wrow.lt hg) (fun e => p1 (by cases e; exact hg)), h.erow.same fun g hg => hgv.block g (h.erow.lt hg) (fun e => p2 (by cases e; exact hg)), h.apart, h.nW, h.nE, h.few⟩, fun _ hk => .inl hk, Keep.grown hgv (by simp [Qu.bl])⟩
end
/-- what Put answers and leaves -/
def putC (W : List Int) (x : Int) : Int := if x < 1 then 2 else if x ∈ W then 110 else if 64 ≤ W.length then 3 else 0
def putW (W : List Int) (x : Int) : List Int := if x < 1 then W else if x ∈ W then W else if 64 ≤ W.length then W else W ++ [x]
def PutP (w : World) (b K : Nat) (M : Qu) (T : Value) (x : Int) (e : Ending) (w' : World) : Prop :=
  e = .returned (iv (putC M.W x)) ∧ ∃ v, QAt w' b ⟨v, M.ev, putW M.W x, M.E⟩ T (K + 1) ∧ QAfter w b M ⟨v, M.ev, putW M.W x, M.E⟩ w'
theorem PutP.no {w : World} {b K : Nat} {M : Qu} {T : Value} {x : Int} (h : QAt w b M T K) (hK : K + 1 ≤ 3000000000000) {c : Int} (hc : putC M.W x = c) (hW : putW M.W x = M.W) : PutP w b K M T x (.returned (iv c)) w := by
  refine ⟨by rw [hc], M.wv, ?_, ?_⟩
  · rw [hW]; exact h.more (by omega) hK
  · rw [hW]; exact QAfter.refl w b M
set_option maxRecDepth 100000 in
set_option maxHeartbeats 1000000 in
theorem put_is {w : World} {b K : Nat} {M : Qu} {T : Value} (h : QAt w b M T K) (hK : K + 1 ≤ 3000000000000) (x : Int) : Calls Try.prog 11 #[.pointer (some ⟨b, 0, none⟩), iv x] w (PutP w b K M T x) := by
  have c0 : w.cell? ⟨b, 0, none⟩ = some (.bool true) := h.blk.cell rfl
  have c1 : w.cell? ⟨b, 1, none⟩ = some M.wv := h.blk.cell rfl
  have HM := isMade_is c0
  have HH : Hid (QAt w b M T K ∧ K + 1 ≤ 3000000000000) := ⟨h, hK⟩
  by_cases hx : x < 1
  · have HP : Hid _ := PutP.no h hK (x := x) (c := 2) (by simp [putC, hx]) (by simp [putW, hx])
    clear h hK HH
    go_enter Try.func11, Try.ntmps11
    go_wp2_with fail
    refine HM.mono ?_
    rintro e w1 ⟨rfl, rfl⟩
    clear HM
    go_wp2
    go_ret
    exact HP.out
  · have hx1 : 1 ≤ x := by omega
    have HC := contains_is h.wrow (by have := h.nW; omega) x
    by_cases hm : x ∈ M.W
    · have HP : Hid _ := PutP.no h hK (x := x) (c := 110) (by simp [putC, hx, hm]) (by simp [putW, hx, hm])
      have hd : decide (x ∈ M.W) = true := by simp [hm]
      rw [hd] at HC
      clear h hK HH hm hd
      go_enter Try.func11, Try.ntmps11
      go_wp2_with fail
      refine HM.mono ?_
      rintro e w1 ⟨rfl, rfl⟩
      clear HM
      go_wp2_with fail
      refine HC.mono ?_
      rintro e w1 ⟨rfl, rfl⟩
      clear HC
      go_wp2
      go_ret
      exact HP.out
    · have hd : decide (x ∈ M.W) = false := by simp [hm]
      rw [hd] at HC
      obtain ⟨a, cap, hv, _⟩ := h.wrow.read
      obtain ⟨n, hn⟩ : ∃ n, M.W.length = n := ⟨_, rfl⟩
      rw [hn] at hv
      rw [hv] at c1 HC
      by_cases hl : 64 ≤ n
      · have HP : Hid _ := PutP.no h hK (x := x) (c := 3) (by simp [putC, hx, hm, hn, hl]) (by simp [putW, hx, hm, hn, hl])
        have q1 : (64 : Int) ≤ (n : Int) := by omega
        have q2 : (n : Int) ≤ 64 := by have := h.nW; omega
        clear h hK HH hm hd hn hl hv
        go_enter Try.func11, Try.ntmps11
        go_wp2_with fail
        refine HM.mono ?_
        rintro e w1 ⟨rfl, rfl⟩
        clear HM
        go_wp2_with fail
        refine HC.mono ?_
        rintro e w1 ⟨rfl, rfl⟩
        clear HC
        go_wp2
        go_ret
        exact HP.out
      · have q1 : (n : Int) < (64 : Int) := by omega
        have HPW : Hid (putC M.W x = 0 ∧ putW M.W x = M.W ++ [x] ∧ M.W.length = n ∧ n < 64) := ⟨by simp [putC, hx, hm, hn, hl], by simp [putW, hx, hm, hn, hl], hn, by omega⟩
        have HV : Hid (M.wv = .slice a n cap) := hv
        have hbs : ∀ W : World, (Instr.buildSlice 27 1 #[(0, iv x)]).run Try.prog W = .ok (.slice (some ⟨W.heap.size, 0, none⟩) 1 1) (W.alloc (.cells #[iv x] 3)) := fun W => by kernel_rfl
        obtain ⟨i0, hi0, hs1, hby, z, hz, hzs⟩ := sized3
        have HI0 : Hid (Try.prog.info? 3 = some i0 ∧ i0.zero = some z ∧ i0.size = 1 ∧ i0.bytes ≤ 24 ∧ z.cells.size = 1) := ⟨hi0, hz, hs1, by omega, hzs⟩
        clear h hK hm hd hn hl hv hi0 hs1 hby hz hzs
        go_enter Try.func11, Try.ntmps11
        go_wp2_with fail
        refine HM.mono ?_
        rintro e w1 ⟨rfl, rfl⟩
        clear HM
        go_wp2_with fail
        refine HC.mono ?_
        rintro e w1 ⟨rfl, rfl⟩
        clear HC
        go_wp2_with (with_reducible change wpList _ _ _ ({ dst := some 33, op := _, type := _, pos := _, after := _, guard := _ } :: _) _ _; refine Hid.out ?_)
        show wpList _ _ _ _ _ _
        refine wpList_append_ow rfl (.tmp 30) (.tmp 32) 27 rfl _ 3 i0 z 1 Try.underlying27 HI0.out.1 HI0.out.2.1 HI0.out.2.2.1 HI0.out.2.2.2.1 HI0.out.2.2.2.2 (by omega) M.wv n (ivs M.W) (by rw [← HPW.out.2.2.1]; exact HH.out.1.wrow.below (below_al w _)) w.heap.size 1 1 [iv x] (by rw [HV.out]; rfl) rfl rfl (range_new w [iv x] 3) (by intro u hu; simp at hu; subst hu; rfl) (by omega) (by have := HPW.out.2.2.2; omega) ?_
        intro v5 w5 ho5 hg5 hg6
        simp only [Act.put, List.setIfInBounds_toArray, List.set_cons_zero, List.set_cons_succ]
        have ho : Ow w5 3 1 v5 (M.W ++ [x]).length (ivs (M.W ++ [x])) := by
          have := ho5.out
          rw [← HPW.out.2.2.1] at this
          simpa [ivs] using this
        obtain ⟨a5, c5, hv5, _⟩ := ho.read
        obtain ⟨n1, hn1⟩ : ∃ n1, (M.W ++ [x]).length = n1 := ⟨_, rfl⟩
        rw [hn1] at hv5
        subst hv5
        clear hn1
        have HF : Hid (_ ∧ _) := HH.out.1.wput (K' := K + 1) (below_al w (.cells #[iv x] 3)) ho hg5.out (fun g hg => by
          obtain ⟨g', e1, e2⟩ := hg6.out
          rw [hg] at e1
          cases e1
          rcases e2 with e2 | e2
          · exact .inl e2
          · right; rw [e2]; simp) (by have := HPW.out.2.2; simp; omega) (by have := HH.out.1.nE; simp; omega) HH.out.2
        have hbk : Blk w5 b 54 [.bool true, M.wv, M.ev, T] := (HH.out.1.below (below_al w (.cells #[iv x] 3))).blk.kept hg5.out (fun e => HH.out.1.parts.1 e.symm)
        have d1 : w5.cell? ⟨b, 1, none⟩ = some M.wv := hbk.cell rfl
        have d2 : w5.frozen? ⟨b, 1, none⟩ = false := hbk.free 1
        clear ho5 hg5 hg6 ho hbk c0 c1
        go_wp2
        go_ret
        exact ⟨by rw [HPW.out.1]; rfl, _, by rw [HPW.out.2.1]; exact HF.out.1, by rw [HPW.out.2.1]; exact HF.out.2⟩
#print axioms put_is
end Go.Proofs.Ytipipckbcelphaa.Oct
