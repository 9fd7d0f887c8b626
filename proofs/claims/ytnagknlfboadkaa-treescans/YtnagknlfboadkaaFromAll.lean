/-
  Layer 7 (tree): the closure of 'from', over a tree of any depth.
-/
import Derived.Test.YtnagknlfboadkaaKidRange
namespace Go.Proofs.Ytnagknlfboadkaa.Oct
open Go.RowKit Go.Shelf
attribute [local go_sem] Oper.semAt_some

/-- the closure's act between two rounds -/
inductive ActOf (Bn Bk m₀ i : Nat) (ds : List Deferred) : Act → Prop
  | mk (y0 y4 y5 y7 y8 y9 y10 y11 y12 y13 y14 y15 y16 y17 y18 y19 y20 y21 y22 y23 y24 y25 y26 y27 y28 y29 y30 y31 y32 y33 y34 y35 y36 y37 y38 y39 y40 y41 y42 y43 y44 y45 y46 y47 y48 y49 y50 y51 y52 y53 y54 y55 y56 y57 y58 y59 y60 y61 y62 y63 y64 y65 y66 y67 y68 y69 y70 y71 y72 y73 : Value) : ActOf Bn Bk m₀ i ds { tmps := #[y0, .pointer (some ⟨Bn, 0, none⟩), .pointer (some ⟨Bk, 0, none⟩), .pointer (some ⟨m₀, 0, none⟩), y4, y5, .int .i64 (i : Int), y7, y8, y9, y10, y11, y12, y13, y14, y15, y16, y17, y18, y19, y20, y21, y22, y23, y24, y25, y26, y27, y28, y29, y30, y31, y32, y33, y34, y35, y36, y37, y38, y39, y40, y41, y42, y43, y44, y45, y46, y47, y48, y49, y50, y51, y52, y53, y54, y55, y56, y57, y58, y59, y60, y61, y62, y63, y64, y65, y66, y67, y68, y69, y70, y71, y72, y73], defers := ds }
theorem rounds_of {F : Fence} {n : Nat} {P : Program} {c : Code} {Q : Exit → Act → World → Prop} {Inv : Act → World → Nat → Prop} (h0 : ∀ a w, ¬ Inv a w 0)
    (h : ∀ m a w, (∀ a' w', Inv a' w' m → Code.roundsIn F n P c Q m a' w') → Inv a w (m + 1) → Code.roundsIn F n P c Q (m + 1) a w) (m : Nat) {a : Act} {w : World} (hi : Inv a w m) : (Code.loop c).wpIn F n P Q a w := by
  refine wpIn_loop_rounds m ?_
  have key : ∀ m a w, Inv a w m → Code.roundsIn F n P c Q m a w := by
    intro m
    induction m with
    | zero => intro a w hi; exact (h0 a w hi).elim
    | succ m ih => intro a w hi; exact h m a w ih hi
  exact key m a w hi
/-- between two rounds of the loop over a node's kids -/
structure NInv (J : Nat → World → Prop) (pl : Nat → Nat) (k n m₀ l1 i : Nat) (ms : List Nat) (A : World) : Prop where
  lo : k ≤ i
  le : i ≤ n + 1
  j : J (pl i) A
  y : A.heap[m₀]? = some (.cells #[.func (.yield l1) #[] #[]] 42)
  nd : ms.Nodup
  mr : Marked ms A
  mlo : ∀ m ∈ ms, m₀ ≤ m
  sz : m₀ < A.heap.size
theorem NInv.full {J : Nat → World → Prop} {pl : Nat → Nat} {k n m₀ l1 i : Nat} {ms : List Nat} {A B : World} (h : NInv J pl k n m₀ l1 i ms A) (hJb : ∀ s A B, J s A → BelowR m₀ A B → J s B) (hb : Below A.heap.size A B) : NInv J pl k n m₀ l1 i ms B :=
  ⟨h.lo, h.le, hJb _ _ _ h.j (BelowR.full hb (Nat.le_of_lt h.sz)), (hb.block _ h.sz).trans h.y, h.nd, fun m hm => (hb.block _ (Array.getElem?_eq_some_iff.1 (h.mr m hm)).1).trans (h.mr m hm), h.mlo, Nat.lt_of_lt_of_le h.sz hb.size⟩

set_option maxRecDepth 100000 in
set_option maxHeartbeats 2000000 in
theorem from_node (d : Nat) (IH : FromC d) : FromC (d + 1) := by
  intro dp l1 Bn Bk nd t key A0 hl0 hg m₀ J Jx hJb hJxb hJx hJ hY W hW h0
  obtain ⟨a, n, cap, a', n', cap', bs, g1, g2, g3, g4, g5, g6⟩ := hl0
  refine callsIn_of_wp_marks Try.func37 rfl trivial ?_ rfl
  simp only [Try.ntmps37, List.size_toArray, List.length_cons, List.length_nil, Nat.reduceAdd, Nat.reduceSub, Array.replicate_succ, Array.replicate_zero, List.push_toArray, List.append_toArray, List.nil_append, List.cons_append]
  have hJ0 := hJb 0 W (W.alloc (.cells #[.func (.yield l1) #[] #[]] 42)) h0 (BelowR.full ((Below.refl _ W).alloc (Nat.le_refl _) _) (by omega))
  have hris : Ris t.1 := ris_own hg.ris hg.wf.1
  obtain ⟨cn, ck, hnd, _⟩ := hJ 0 _ hJ0
  obtain ⟨k, ha⟩ := find_at t.1 key (ris_mono hris key)
  have HD : Hid (Nd (W.alloc (.cells #[.func (.yield l1) #[] #[]] 42)) nd a n cap t.1 (.slice a' n' cap')) := g1.fix hnd
  have HN : Hid (AtP t.1 key k ∧ Mono t.1 key ∧ n ≤ 7 ∧ t.1.length = n) := ⟨ha, ris_mono hris key, by rw [← g1.rd.1]; exact hg.most, g1.rd.1⟩
  have HG1 : Hid (Nd A0 nd a n cap t.1 (.slice a' n' cap')) := g1
  have HG3 : Hid (RdK A0 a' n' bs) := g3
  have HG6 : Hid (∀ (i : Nat) (k : T d) (b' : Nat), t.2[i]? = some k → bs[i]? = some b' → Lies A0 d k b') := g6
  clear g1 g2 g3 g4 g6 ha hnd
  gi_wp2_with (refine ⟨trivial, (fun h => by cases h), ?_⟩; gi_at_call 38; refine (callsIn_wide.2 (place_is _ nd a n cap t.1 _ key HD.out HN.out.2.1 (by have := HN.out; omega))).mono ?_; rintro e w1 ⟨k1, rfl, HA1, HB1⟩)
  have hk1 : k1 = k := HA1.out.uniq HN.out.1
  subst hk1
  have hJ1 : J 0 w1 := hJb 0 _ _ hJ0 (BelowR.full HB1.out (by simp; omega))
  have hy1 : w1.heap[m₀]? = some (.cells #[.func (.yield l1) #[] #[]] 42) := by
    rw [HB1.out.block m₀ (by simp; omega), ← hW]
    exact World.alloc_heap_new W _
  have hsz1 : m₀ < w1.heap.size := (Array.getElem?_eq_some_iff.1 hy1).1
  have hll : (t.2.map (tl d)).length = t.1.length + 1 := by rw [List.length_map]; exact hg.wf.1
  have hkn : k1 ≤ n := by rw [← HN.out.2.2.2]; exact HN.out.1.1
  obtain ⟨pl, hpl⟩ : ∃ pl : Nat → Nat, pl = fun i => if i ≤ n then Offs key (t.2.map (tl d)) t.1 i else (ge key (tl (d + 1) t)).length := ⟨_, rfl⟩
  have hplA : ∀ i, i ≤ n → pl i = Offs key (t.2.map (tl d)) t.1 i := fun i hi => by rw [hpl]; exact if_pos hi
  have hplB : ∀ i, ¬ i ≤ n → pl i = (ge key (tl (d + 1) t)).length := fun i hi => by rw [hpl]; exact if_neg hi
  clear hpl
  have hp0 : pl k1 = 0 := by rw [hplA _ hkn]; exact offs_first hll hg.ris HN.out.1
  refine rounds_of (Inv := fun a' A m => ∃ (i : Nat) (ms : List Nat), ActOf Bn Bk m₀ i (ms.map mark) a' ∧ NInv J pl k1 n m₀ l1 i ms A ∧ n + 2 ≤ m + i) ?_ ?_ (n + 3) ⟨k1, [], ActOf.mk .., ⟨Nat.le_refl _, by omega, by rw [hp0]; exact hJ1, hy1, List.nodup_nil, (fun m hm => by cases hm), (fun m hm => by cases hm), hsz1⟩, by omega⟩
  · rintro a' A ⟨i, ms, _, h2, h3⟩
    have := h2.le; omega
  clear hJ1 hy1 hsz1 hJ0 h0 cn ck HD HB1 HA1 hp0
  rintro m act A ih ⟨i, ms, hact, hI, hm⟩
  cases hact
  have HI : Hid (NInv J pl k1 n m₀ l1 i ms A) := hI
  have HM : Hid (n + 2 ≤ m + 1 + i) := hm
  rw [roundsIn_succ]
  generalize Code.roundsIn Fence.wide dp Try.prog _ _ m = KK at ih ⊢
  have HIH : Hid (∀ a' w', (∃ (i : Nat) (ms : List Nat), ActOf Bn Bk m₀ i (ms.map mark) a' ∧ NInv J pl k1 n m₀ l1 i ms w' ∧ n + 2 ≤ m + i) → KK a' w') := ih
  clear ih
  obtain ⟨cn, ck, hkept, _⟩ := hJ _ _ hI.j
  have c0 := (HG1.out.fix hkept).blk.cell (i := 0) rfl
  have c1 := (HG1.out.fix hkept).blk.cell (i := 1) rfl
  have b1 : (i : Int) ≤ 1000001 := by have := HI.out.le; have := HN.out; omega
  clear hI hm
  by_cases hi : i ≤ n
  · have h3 := HG3.out.fix hkept
    have hn'b : bs.length = n' := h3.1
    have hti : i < t.2.length := by rw [hg.wf.1, HN.out.2.2.2]; omega
    have hbi : i < bs.length := by rw [g5]; exact hti
    obtain ⟨kid, hkid⟩ : ∃ kid, t.2[i]? = some kid := ⟨_, List.getElem?_eq_getElem hti⟩
    obtain ⟨kb, hkb⟩ : ∃ kb, bs[i]? = some kb := ⟨_, List.getElem?_eq_getElem hbi⟩
    have HK : Hid (Lies A0 d kid kb ∧ Good d kid ∧ t.2[i]? = some kid ∧ i ≤ n) := ⟨HG6.out i kid kb hkid hkb, (hg.kid hkid).1, hkid, hi⟩
    obtain ⟨g, off, rfl, _, hc⟩ := h3.2 (by omega)
    have ckb := hc i kb hkb
    have q1 : (i : Int) ≤ (n : Int) := by omega
    have q2 : (i : Int) < (n' : Int) := by omega
    have HZ : Hid (((n' : Int) == 0) = false) := by show _ = _; simp; omega
    clear h3 hc hn'b hbi hkid hkb hti
    gi_wp2_with (refine ⟨trivial, (fun h => by cases h), ?_⟩; gi_at_call 39; refine (callsIn_wide.2 (isLeaf_any A nd _ n' cap' false HZ.out c1)).mono ?_; rintro e w2 ⟨rfl, rfl⟩)
    refine reg7 ⟨cn, ck, c1, ckb⟩ q2 (callsIn_wide.2 (from_is A.drew (some ⟨kb, 0, none⟩) key)) ?_ ?_
    · rintro e B ⟨rfl, HB⟩
      have hB : Below A.heap.size A B := by rw [HB.out]; exact (((Below.refl _ A).drew).alloc (Nat.le_refl _) _).alloc (by simp) _
      have hgr := below_grown hB none
      exact ⟨_, rfl, hgr.cell cn (by simp), hgr.cell ck (by simp), hgr.cell c1 (by simp), hgr.cell ckb (by simp)⟩
    · rintro v B ⟨hv, HB⟩
      cases hv
      have HBB : Hid (Below A.heap.size A B) := by show Below _ _ _; rw [HB.out]; exact (((Below.refl _ A).drew).alloc (Nat.le_refl _) _).alloc (by simp) _
      have HSZ : Hid (B.heap.size = A.heap.size + 2) := by show _ = _; rw [HB.out]; simp
      have HNI : Hid (NInv J pl k1 n m₀ l1 i ms B) := HI.out.full hJb HBB.out
      have hbn : B.heap[A.heap.size]? = some (.cells #[.pointer (some ⟨kb, 0, none⟩)] 46) := by
        rw [HB.out, Below.heap_alloc _ _ _ (by simp)]; exact World.alloc_heap_new A.drew _
      have hbk : B.heap[A.heap.size + 1]? = some (.cells #[.string key] 9) := by
        have e := World.alloc_heap_new (A.drew.alloc (.cells #[.pointer (some ⟨kb, 0, none⟩)] 46)) (.cells #[.string key] 9)
        rw [World.size_alloc] at e
        rw [HB.out]; exact e
      have HMS : Hid (∀ m ∈ ms, m₀ ≤ m ∧ m < A.heap.size) := fun m hm => ⟨HI.out.mlo m hm, (Array.getElem?_eq_some_iff.1 (HI.out.mr m hm)).1⟩
      have HND : Hid ((B.heap.size :: ms).Nodup ∧ ∀ m ∈ B.heap.size :: ms, m₀ ≤ m) := ⟨List.nodup_cons.2 ⟨fun hm => by have := HMS.out _ hm; have := HSZ.out; omega, HI.out.nd⟩, fun m hm => by
        rcases List.mem_cons.1 hm with rfl | hm
        · have := HSZ.out; have := HI.out.sz; omega
        · exact HI.out.mlo m hm⟩
      have HOUT : Hid (∀ (tm : Array Value) (Z : World), (J (ge key (tl (d + 1) t)).length Z ∨ Jx Z) → Marked (B.heap.size :: ms) Z → LeavesInM Fence.wide dp Try.prog Try.f37 tm (fun e B => (∃ v, e = .returned v) ∧ (J (ge key (tl (d + 1) t)).length B ∨ Jx B)) (mark B.heap.size :: ms.map mark) .returning Z) := fun tm Z hZ hM =>
        ret_marks (D := m₀) (I := fun A => J (ge key (tl (d + 1) t)).length A ∨ Jx A) (fun A B h hb => h.imp (fun j => hJb _ A B j hb) (fun j => hJxb A B j hb)) (fun A v h => ⟨⟨v, rfl⟩, h⟩) (B.heap.size :: ms) Z hZ HND.out.1 (fun m hm => ⟨HND.out.2 m hm, hM m hm⟩)
      clear HB HBB cn ck c0 c1 ckb hkept
      gi_wp2
      refine kid_range kid key A0 HK.out.1 HK.out.2.1 IH J Jx ms (o := pl i) (b0 := A.heap.size) hJb hJxb (fun s A h => (hJ s A h).2.2.1) (fun A h => (hJx A h).2) ?_ HI.out.sz HSZ.out HMS.out ⟨HNI.out.j, HNI.out.y, hbn, hbk, HNI.out.mr⟩ ?_ ?_
      · intro s x Z hj hx
        rw [hplA i HK.out.2.2.2] at hj ⊢
        exact hY _ x Z hj (ge_kid hll (kid_map HK.out.2.2.1) hx)
      · intro Z hj hy hM
        obtain ⟨cn, ck, hkz, hz⟩ := hJ _ _ hj
        have c0 := (HG1.out.fix hkz).blk.cell (i := 0) rfl
        have cy := cell_one hy
        have HJZ : Hid (J (pl i + (ge key (tl d kid)).length) Z) := hj
        have HYZ : Hid (Z.heap[m₀]? = some (.cells #[.func (.yield l1) #[] #[]] 42)) := hy
        have HMZ : Hid (Marked (B.heap.size :: ms) Z.drew) := hM
        have HZS : Hid (m₀ ≤ Z.heap.size) := hz
        clear hbn hbk hj hy hM hz q2
        dsimp only
        gi_wp2
        by_cases hin : i < n
        · obtain ⟨x, hx⟩ : ∃ x, t.1[i]? = some x := ⟨_, List.getElem?_eq_getElem (by rw [HN.out.2.2.2]; exact hin)⟩
          have hgx : geS x.1 key = true := HN.out.1.2.2 i x HI.out.lo hx
          obtain ⟨g2, off2, rfl, _, hc⟩ := (HG1.out.fix hkz).rd.2 (by omega)
          have e0 := (hc i x hx).1
          have e1 := (hc i x hx).2
          have q3 : (i : Int) < (n : Int) := by omega
          have HJD : Hid (J (pl i + (ge key (tl d kid)).length) Z.drew) := hJb _ _ _ HJZ.out (BelowR.full (Below.refl _ Z).drew HZS.out)
          have HPN : Hid (pl (i + 1) = pl i + (ge key (tl d kid)).length + 1) := by
            show _ = _
            rw [hplA _ (by omega), hplA _ (by omega)]; exact offs_next hll (kid_map HK.out.2.2.1) hx hgx
          have HYA : Hid (YieldAt Fence.wide (dp - 1) Try.prog l1 #[.string x.1, .string x.2] Z.drew fun e B => Held m₀ Z.drew B ∧ ((e = .returned (.bool true) ∧ J (pl i + (ge key (tl d kid)).length + 1) B) ∨ (e = .returned (.bool false) ∧ Jx B))) := YieldAt.deep (dp - 1) (hY _ x Z.drew HJD.out (by rw [hplA _ (by omega)]; exact ge_pair hll (kid_map HK.out.2.2.1) hx hgx))
          have HX : Hid (t.1[i]? = some x ∧ i < n) := ⟨hx, hin⟩
          clear hc hx hgx hin
          refine reg11 cy cn c0 e0 e1 q3 HYA.out ?_ ?_
          · rintro e Y ⟨hH, hD⟩
            have hyB : Y.cell? ⟨m₀, 0, none⟩ = some (.func (.yield l1) #[] #[]) := cell_one (hH.box HYZ.out (by decide) (Nat.le_refl _))
            have fin : ∀ (v : Bool), e = .returned (.bool v) → Y.cell? ⟨Bn, 0, none⟩ = some (.pointer (some ⟨nd, 0, none⟩)) → Kept A0 Y → ∃ v : Bool, e = .returned (.bool v) ∧ Y.cell? ⟨m₀, 0, none⟩ = some (.func (.yield l1) #[] #[]) ∧ Y.cell? ⟨Bn, 0, none⟩ = some (.pointer (some ⟨nd, 0, none⟩)) ∧ Y.cell? ⟨nd, 0, none⟩ = some (.slice (some ⟨g2, off2, none⟩) n cap) ∧ Y.cell? ⟨g2, off2 + i * 2, none⟩ = some (.string x.1) ∧ Y.cell? ⟨g2, off2 + i * 2 + 1, none⟩ = some (.string x.2) := by
              intro v h1 h2 h3
              have h4 := HG1.out.fix h3
              obtain ⟨g', off', e', _, hc⟩ := h4.rd.2 (by have := HX.out; omega)
              cases e'
              exact ⟨v, h1, hyB, h2, h4.blk.cell (i := 0) rfl, (hc i x HX.out.1).1, (hc i x HX.out.1).2⟩
            rcases hD with ⟨h1, h2⟩ | ⟨h1, h2⟩
            · obtain ⟨r1, _, r3, _⟩ := hJ _ _ h2
              exact fin true h1 r1 r3
            · obtain ⟨r1, r3⟩ := hJx _ h2
              exact fin false h1 r1 r3
          · rintro v Y ⟨hH, hD⟩
            have HYB : Hid (Y.heap[m₀]? = some (.cells #[.func (.yield l1) #[] #[]] 42)) := hH.box HYZ.out (by decide) (Nat.le_refl _)
            have HMY : Hid (Marked (B.heap.size :: ms) Y) := HMZ.out.held hH HND.out.2
            clear hH cn ck c0 cy e0 e1
            cases v with
            | true =>
              have HJ3 : Hid (J (pl i + (ge key (tl d kid)).length + 1) Y) := by
                rcases hD with ⟨h1, h2⟩ | ⟨h1, h2⟩
                · exact h2
                · cases h1
              clear hD
              dsimp only
              gi_wp2
              rw [show (i : Int) + 1 = ((i + 1 : Nat) : Int) by omega]
              exact HIH.out _ _ ⟨i + 1, B.heap.size :: ms, ActOf.mk .., ⟨by have := HI.out.lo; omega, by have := HX.out; omega, by rw [HPN.out]; exact HJ3.out, HYB.out, HND.out.1, HMY.out, HND.out.2, (Array.getElem?_eq_some_iff.1 HYB.out).1⟩, by have := HM.out; omega⟩
            | false =>
              have HJ3 : Hid (Jx Y) := by
                rcases hD with ⟨h1, h2⟩ | ⟨h1, h2⟩
                · cases h1
                · exact h2
              clear hD
              dsimp only
              gi_wp2
              exact HOUT.out _ Y (.inr HJ3.out) HMY.out
        · have hie : i = n := by have := HK.out.2.2.2; omega
          have HPE : Hid (pl (i + 1) = pl i + (ge key (tl d kid)).length) := by
            show _ = _
            rw [hplB _ (by omega), hplA _ (by omega)]
            have e := offs_end (key := key) (l := tl d kid) hll (by rw [HN.out.2.2.2, ← hie]; exact kid_map HK.out.2.2.1)
            rw [HN.out.2.2.2, ← hie] at e
            exact e
          have HIE : Hid (i = n) := hie
          clear hie
          refine reg11n cn c0 (by omega) ?_
          dsimp only
          clear cn ck c0 cy
          gi_wp2
          rw [show (i : Int) + 1 = ((i + 1 : Nat) : Int) by omega]
          exact HIH.out _ _ ⟨i + 1, B.heap.size :: ms, ActOf.mk .., ⟨by have := HI.out.lo; omega, by have := HIE.out; omega, by rw [HPE.out]; exact hJb _ _ _ HJZ.out (BelowR.full (Below.refl _ Z).drew HZS.out), HYZ.out, HND.out.1, HMZ.out, HND.out.2, (Array.getElem?_eq_some_iff.1 HYZ.out).1⟩, by have := HM.out; omega⟩
      · intro Z hj hM
        gi_wp2
        exact HOUT.out _ Z (.inr hj) hM
  · have q1 : ¬ (i : Int) ≤ (n : Int) := by omega
    gi_wp2
    refine ret_marks (D := m₀) (I := fun A => J (ge key (tl (d + 1) t)).length A ∨ Jx A) (fun A B h hb => h.imp (fun j => hJb _ A B j hb) (fun j => hJxb A B j hb)) (fun A v h => ⟨⟨v, rfl⟩, h⟩) ms A (.inl ?_) HI.out.nd (fun m hm => ⟨HI.out.mlo m hm, HI.out.mr m hm⟩)
    have e := HI.out.j
    rw [hplB i hi] at e
    exact e
#print axioms from_node
theorem from_leaf : FromC 0 := by
  intro dp l1 Bn Bk nd t key A0 hl0 hg m₀ J Jx hJb hJxb hJx hJ hY W hW h0
  obtain ⟨a, n, cap, h1, _⟩ := hl0
  have hr : Ris (t : List Pr) := hg.ris
  obtain ⟨k, ha⟩ := find_at (t : List Pr) key (ris_mono hr key)
  have e : ge key (tl 0 t) = (t : List Pr).drop k := ge_leaf ha
  rw [e] at hY ⊢
  have h7 : (t : List Pr).length ≤ 7 := hg.most
  have hn : n ≤ 1000000 := by rw [← h1.rd.1]; omega
  exact from1_in dp l1 Bn Bk nd n cap a t key k hn (ris_mono hr key) ha m₀ J Jx hJb (fun A hA => ⟨(hJx A hA).1, h1.fix (hJx A hA).2⟩) (fun s A hA => ⟨(hJ s A hA).1, (hJ s A hA).2.1, h1.fix (hJ s A hA).2.2.1, (hJ s A hA).2.2.2⟩) hY W hW h0
theorem from_all : ∀ d, FromC d
  | 0 => from_leaf
  | d + 1 => from_node d (from_all d)
#print axioms from_all
end Go.Proofs.Ytnagknlfboadkaa.Oct
