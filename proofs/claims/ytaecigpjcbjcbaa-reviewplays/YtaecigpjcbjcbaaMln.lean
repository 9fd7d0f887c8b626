/-
  Layer 20 (review): ReviewMonotone.
-/
import Derived.Test.YtaecigpjcbjcbaaMon
namespace Go.Proofs.Ytaecigpjcbjcbaa.Oct
open Go.RowKit
set_option linter.unusedSimpArgs false

theorem Strs.rd {w : World} {a : Option Addr} {n : Nat} {l : List BA} (h : Strs w a n l) : Rd w 9 1 a n (strC l) := by
  refine ⟨by simp [strC, h.1], strC_one l, fun hp => ?_⟩
  obtain ⟨b, off, e1, e2, e3⟩ := h.2 hp
  refine ⟨b, off, e1, e2, fun j u hu => ?_⟩
  simp only [strC, List.getElem?_map] at hu
  obtain ⟨s, hs, rfl⟩ := Option.map_eq_some_iff.1 hu
  exact e3 j s hs
theorem bs_below {e sz B : Nat} {w w' : World} {v : Value} {n : Nat} {cs : List Value} (h : Bs e sz B w v n cs) (hb : Below w.heap.size w w') : Bs e sz B w' v n cs := by
  rcases h with ⟨a, rfl, h, h0⟩ | ⟨h1, h⟩
  · exact .inl ⟨a, rfl, h.below hb (Nat.le_refl _), h0⟩
  · exact .inr ⟨h1, ownsRow_below h hb⟩
theorem rd_new (w : World) (s : BA) : Rd (w.alloc (.cells #[.string s] 9)) 9 1 (some ⟨w.heap.size, 0, none⟩) 1 (strC [s]) := by
  refine ⟨rfl, strC_one _, fun _ => ⟨w.heap.size, 0, rfl, by show _ < _; simp, fun j u hu => ?_⟩⟩
  exact range_new w [.string s] 9 j u hu
theorem strC_app (l k : List BA) : strC (l ++ k) = strC l ++ strC k := by simp [strC]
theorem Txt.same {w w' : World} {s : Sl} {l : List BA} (h : Txt w s l) (hs : ∀ g off, s.a = some ⟨g, off, none⟩ → w'.heap[g]? = w.heap[g]?) : Txt w' s l := by
  refine ⟨⟨h.1.1, fun hp => ?_⟩, h.2⟩
  obtain ⟨b, off, e1, e2, e3⟩ := h.1.2 hp
  have hb := hs b off e1
  refine ⟨b, off, e1, ?_, fun i c hc => (World.cell?_of_block (a := ⟨b, off + i, none⟩) hb).trans (e3 i c hc)⟩
  rw [Array.getElem?_eq_getElem e2] at hb
  exact (Array.getElem?_eq_some_iff.1 hb).1
/-- behind two appends: the texts, in a row of their own -/
theorem Bs.more {B : Nat} {w : World} {v : Value} {n : Nat} {l : List BA} (h : Bs 9 1 B w v n (strC l)) (ho : w.ownsRow B 9 1 v n (strC l)) (hz : ∀ x ∈ l, x.size ≤ 140737488355328) (hn : n ≤ 1000000) : ∃ s : Sl, v = .slice s.a s.n s.c ∧ Txt w s l ∧ ∀ g off, s.a = some ⟨g, off, none⟩ → B ≤ g := by
  obtain ⟨s, rfl, ht, hsn, _⟩ := h.txt hz hn
  refine ⟨s, rfl, ht, fun g off ha => ?_⟩
  rcases ho.2 with ⟨hv, _⟩ | ⟨g', cap, cur, hv, hB, _⟩
  · rw [ha] at hv; cases hv
  · rw [ha] at hv
    cases hv
    exact hB
theorem run_bs40_0 (W : World) : (Instr.buildSlice 40 0 #[]).run Try.prog W = .ok (.slice (some ⟨W.heap.size, 0, none⟩) 0 0) (W.alloc (.cells #[] 9)) := by kernel_rfl
theorem info9' : ∃ i z, Try.prog.info? 9 = some i ∧ i.zero = some z ∧ i.size = 1 ∧ i.bytes = 16 ∧ z.cells.size = 1 := by
  obtain ⟨i, h1, h2, h3, h4⟩ := info9
  exact ⟨i, _, h1, h2, h3, h4, rfl⟩
/-- a row of the call's own behind an append to one -/
theorem wpList_append_mine {ops : Array Oper} {rest : List Oper} {o : Oper} {a : Act} {Q : Exit → Act → World → Prop} (hgd : o.guard = none) (s x : Operand)
    (hop : o.op = .call { callee := .builtin .append, args := #[s, x], argTypes := #[40, 40] }) (w : World) (B : Nat) (v : Value) (n : Nat) (l : List BA) (h : w.ownsRow B 9 1 v n (strC l)) (ao : Option Addr) (q c : Nat) (k : List BA) (hsv : a.eval s = v) (hx : a.eval x = .slice ao q c) (ho : Strs w ao q k) (hB : B ≤ w.heap.size) (hn : n + q ≤ 1000000)
    (hk : ∀ v' w', Hid (w'.ownsRow B 9 1 v' (n + q) (strC (l ++ k))) → Hid (Below B w w') → wpList Try.prog ops Q rest (a.put o.dst v') w') : wpList Try.prog ops Q (o :: rest) a w := by
  obtain ⟨i0, z0, k0, k1, k2, k3, k4⟩ := info9'
  refine wpList_plain hgd fun K hK => ?_
  have hlen : k.length = q := ho.1
  by_cases hq : q = 0
  · subst hq
    obtain rfl := List.eq_nil_of_length_eq_zero hlen
    obtain ⟨a', cap, rfl, hnc, _⟩ := Ow.read (own_base h (Nat.zero_le B))
    have hr := run_append_zero (P := Try.prog) w 40 o.type 9 i0 Try.underlying40 k0 a' ao n cap c hnc
    unfold Oper.wp execOp
    simp only [hop, resolve, invoke, builtin, Sem.run_bind, Sem.run_pure, Result.andThen_ok, List.map_toArray, List.map_cons, List.map_nil, hsv, hx, hr]
    exact hK _ _ (hk _ w (by show World.ownsRow _ _ _ _ _ _ _; simpa using h) (Below.refl _ _))
  · obtain ⟨g, off, rfl, _, hc⟩ := ho.2 (by omega)
    obtain ⟨v', w', hr, h2, h3, _⟩ := run_append_own_wide (P := Try.prog) w B 40 o.type 9 i0 z0 1 i0.bytes Try.underlying40 k0 k1 k2 rfl k4 (by omega) v n (strC l) h ⟨g, off, none⟩ q c (strC k) (by simp [strC, hlen]) (fun j u hu => by
      rw [Addr.add_lit]
      simp only [strC, List.getElem?_map] at hu
      obtain ⟨s, hs, rfl⟩ := Option.map_eq_some_iff.1 hu
      exact hc j s hs) (strC_one _) (by unfold maxLen; omega) (by rw [k3]; omega) hB
    unfold Oper.wp execOp
    simp only [hop, resolve, invoke, builtin, Sem.run_bind, Sem.run_pure, Result.andThen_ok, List.map_toArray, List.map_cons, List.map_nil, hsv, hx, hr]
    refine hK _ _ (hk v' w' (by rw [strC_app]; exact h2) ⟨h3.os, h3.tape, h3.output, h3.size, fun k hk => h3.block k (by omega) fun e => ?_⟩)
    have := (h.lt k e.symm).1
    omega
/-- texts in a row of the call's own -/
theorem own_txt {B : Nat} {w : World} {v : Value} {n : Nat} {l : List BA} (ho : w.ownsRow B 9 1 v n (strC l)) (hz : ∀ x ∈ l, x.size ≤ 140737488355328) (hn : n ≤ 1000000) : ∃ s : Sl, v = .slice s.a s.n s.c ∧ Txt w s l ∧ s.n = n ∧ ∀ g off, s.a = some ⟨g, off, none⟩ → B ≤ g ∧ g < w.heap.size := by
  have h : Bs 9 1 B w v n (strC l) := .inr ⟨strC_one _, ho⟩
  obtain ⟨s, rfl, ht, hsn, _⟩ := h.txt hz hn
  refine ⟨s, rfl, ht, hsn, fun g off ha => ?_⟩
  rcases ho.2 with ⟨hv, _⟩ | ⟨g', cap, cur, hv, hB, hb, _⟩
  · rw [ha] at hv; cases hv
  · rw [ha] at hv
    cases hv
    exact ⟨hB, lt_of_block hb⟩
theorem strs_new (w : World) (s : BA) : Strs (w.alloc (.cells #[.string s] 9)) (some ⟨w.heap.size, 0, none⟩) 1 [s] := Strs.of (rd_new w s)
set_option maxRecDepth 100000 in
set_option maxHeartbeats 4000000 in
theorem mono_law (p : Pp) (q : Po) (u : BA) (yes no : List BA) (w : World) (hp : PpAt w p yes no) (hu : u.size ≤ 140737488355328) :
    Calls Try.prog 6 #[.agg p.cells.toArray, .agg q.cells.toArray, .string u] w fun e w' => e = .returned (.bool true) ∧ Below w.heap.size w w' := by
  obtain ⟨ap, veto⟩ := q
  rw [show Po.cells ⟨ap, veto⟩ = [iv ap, .bool veto] from rfl]
  obtain ⟨cp, hcp⟩ : ∃ cp, p.cells = cp := ⟨_, rfl⟩
  obtain ⟨W1, hW1⟩ : ∃ W1, w.alloc (.cells cp.toArray 43) = W1 := ⟨_, rfl⟩
  obtain ⟨W2, hW2⟩ : ∃ W2, W1.alloc (.cells #[iv ap, .bool veto] 52) = W2 := ⟨_, rfl⟩
  have hB1 : Below w.heap.size w W1 := by rw [← hW1]; exact below_al _ _
  have hB2 : Below W1.heap.size W1 W2 := by rw [← hW2]; exact below_al _ _
  have HB : Hid (Below w.heap.size w W2) := below_tr hB1 hB2
  obtain ⟨g, hg⟩ : ∃ g, w.heap.size = g := ⟨_, rfl⟩
  obtain ⟨qb, hq⟩ : ∃ q, W1.heap.size = q := ⟨_, rfl⟩
  have hr1 : W1.rangeAt g 0 p.cells := by rw [← hg, ← hW1, hcp]; exact range_new _ _ _
  have hgl : g < W1.heap.size := by rw [← hg, ← hW1]; simp
  have hr2 : W2.rangeAt g 0 p.cells := rangeAt_same hr1 (hB2.block g hgl)
  have hbq : Blk W2 qb 52 [iv ap, .bool veto] := by rw [← hq, ← hW2]; exact Blk.new _ _ _
  obtain ⟨_, g1, _, _, g35, g36, g37, _⟩ := Pp.cell hp.1 hr2
  have q0 : W2.cell? ⟨qb, 0, none⟩ = some (iv ap) := hbq.cell rfl
  have q1 : W2.cell? ⟨qb, 1, none⟩ = some (.bool veto) := hbq.cell rfl
  have HL : Hid (W2.rangeAt g 0 p.cells ∧ g < W2.heap.size ∧ p.patch.length = 32) := ⟨hr2, Nat.lt_of_lt_of_le hgl hB2.size, hp.1⟩
  have HQ : Hid (Blk W2 qb 52 [iv ap, .bool veto]) := hbq
  have HP : Hid (Txt W2 p.y yes ∧ Txt W2 p.n no ∧ u.size ≤ 140737488355328) := ⟨hp.2.1.below HB.out, hp.2.2.1.below HB.out, hu⟩
  have HCP : Hid (p.cells = cp ∧ cp.length = 39) := ⟨hcp, by rw [← hcp]; exact Pp.length hp.1⟩
  have qy : ((p.y.n : Nat) : Int) ≤ 140737488355328 := by have := hp.2.1.2.1; omega
  have qn : ((p.n.n : Nat) : Int) ≤ 140737488355328 := by have := hp.2.2.1.2.1; omega
  have HLV := fun W => lives_is W
  rw [hcp]
  clear hp hB1 hB2 hr1 hr2 hgl hbq hcp
  obtain ⟨us, hus⟩ : ∃ us, u.size = us := ⟨_, rfl⟩
  by_cases hbig : 200 < (p.y.n : Int) + (p.n.n : Int)
  · clear hu
    go_enter Try.func6, Try.ntmps6
    go_wp2_with fail
    refine (HLV _).mono ?_
    rintro e w1 ⟨rfl, hb1⟩
    have HB1 : Hid (Below w.heap.size w w1) := below_tr HB.out hb1
    clear hb1
    go_wp2_with fail
    go_ret
    exact ⟨rfl, HB1.out⟩
  · have qs : (p.y.n : Int) + (p.n.n : Int) ≤ 200 := by omega
    by_cases hbu : 1000 < us
    · have q2 : (1000 : Int) < (us : Int) := by omega
      clear hu hbig
      go_enter Try.func6, Try.ntmps6
      go_wp2_with fail
      refine (HLV _).mono ?_
      rintro e w1 ⟨rfl, hb1⟩
      have HB1 : Hid (Below w.heap.size w w1) := below_tr HB.out hb1
      clear hb1
      go_wp2_with fail
      go_ret
      exact ⟨rfl, HB1.out⟩
    · have q2 : (us : Int) ≤ 1000 := by omega
      have HN : Hid (p.y.n + 1 ≤ 1000 ∧ p.n.n + 1 ≤ 1000) := ⟨by omega, by omega⟩
      obtain ⟨is, his⟩ : ∃ is, passB yes no p.author p.opn ⟨ap, veto⟩ = is := ⟨_, rfl⟩
      have HIS : Hid (passB yes no p.author p.opn ⟨ap, veto⟩ = is) := his
      have HPS := passes_is p ⟨ap, veto⟩ yes no W2 HL.out.2.2 HP.out.1 HP.out.2.1
      rw [his, HCP.out.1, show Po.cells ⟨ap, veto⟩ = [iv ap, .bool veto] from rfl] at HPS
      have HLC : Hid (W2.rangeAt g 0 cp) := by rw [← HCP.out.1]; exact HL.out.1
      clear hu hbig hbu his
      go_enter Try.func6, Try.ntmps6
      go_wp2_with (with_reducible change wpList _ _ _ ({ dst := some 24, op := _, type := _, pos := _, after := _, guard := _ } :: _) _ _; refine Hid.out ?_)
      show wpList _ _ _ _ _ _
      refine wpList_load_want rfl 43 (.tmp 3) rfl g 0 rfl cp _ HLC.out Try.underlying43 rfl (by rw [HCP.out.2]; exact size43) ?_
      simp only [Act.put, List.setIfInBounds_toArray, List.set_cons_zero, List.set_cons_succ]
      go_wp2_with fail
      refine HPS.mono ?_
      rintro e A ⟨rfl, hbA⟩
      have HA : Hid (Below W2.heap.size W2 A) := hbA
      have HLA : Hid (A.rangeAt g 0 p.cells ∧ g < A.heap.size ∧ p.patch.length = 32) := ⟨rangeAt_same HL.out.1 (hbA.block g HL.out.2.1), Nat.lt_of_lt_of_le HL.out.2.1 hbA.size, HL.out.2.2⟩
      have HQA : Hid (Blk A qb 52 [iv ap, .bool veto]) := HQ.out.below hbA HQ.out.lt
      have a36 : A.cell? ⟨g, 36, none⟩ = some (.slice p.y.a p.y.n p.y.c) := (hbA.cell (p := ⟨g, 36, none⟩) HL.out.2.1).trans g36
      have a37 : A.cell? ⟨g, 37, none⟩ = some (.slice p.n.a p.n.n p.n.c) := (hbA.cell (p := ⟨g, 37, none⟩) HL.out.2.1).trans g37
      clear HPS hbA g1 g35 g36 g37 q0 q1
      go_wp2_with fail
      refine mono4 (p := p) HLA ?_
      intro V m l hT
      have HT : Hid (Two A p.cells m l V) := hT
      have HVA : Hid (Below A.heap.size A V) := hT.2.2.2.2.2
      have v36 : V.cell? ⟨g, 36, none⟩ = some (.slice p.y.a p.y.n p.y.c) := (HVA.out.cell (p := ⟨g, 36, none⟩) HLA.out.2.1).trans a36
      have HYV : Hid (Strs V p.y.a p.y.n yes) := (HP.out.1.below (below_tr HA.out HVA.out)).1
      have hbs0 := run_bs40_0
      have hbs1 := run_bs40 u
      obtain ⟨B5, hB5⟩ : ∃ B5, V.heap.size = B5 := ⟨_, rfl⟩
      have HB5 : Hid (V.heap.size = B5) := hB5
      obtain ⟨V50, hV50⟩ : ∃ V50, V.alloc (.cells #[] 9) = V50 := ⟨_, rfl⟩
      have HV50 : Hid (Below V.heap.size V V50 ∧ V50.ownsRow B5 9 1 (.slice (some ⟨V.heap.size, 0, none⟩) 0 0) 0 (strC [])) := by rw [← hV50, ← hB5]; exact ⟨below_al _ _, empty_row V 9 1⟩
      have HgV : Hid (g < V.heap.size) := Nat.lt_of_lt_of_le HLA.out.2.1 HVA.out.size
      have v50 : V50.cell? ⟨g, 36, none⟩ = some (.slice p.y.a p.y.n p.y.c) := (HV50.out.1.cell (p := ⟨g, 36, none⟩) HgV.out).trans v36
      clear hT hB5 a36 v36
      go_wp2_with (with_reducible change wpList _ _ _ ({ dst := some 32, op := _, type := _, pos := _, after := _, guard := _ } :: _) _ _; refine Hid.out ?_)
      show wpList _ _ _ _ _ _
      refine wpList_append_mine rfl (.tmp 29) (.tmp 31) rfl V50 B5 _ 0 [] HV50.out.2 p.y.a p.y.n p.y.c yes rfl rfl (HYV.out.below HV50.out.1) (by rw [← HB5.out]; exact HV50.out.1.size) (by have := HN.out.1; omega) ?_
      intro v32 V51 ho51 hb51
      rw [List.nil_append, Nat.zero_add] at ho51
      obtain ⟨V52, hV52⟩ : ∃ V52, V51.alloc (.cells #[.string u] 9) = V52 := ⟨_, rfl⟩
      have HV52 : Hid (V52.ownsRow B5 9 1 v32 p.y.n (strC yes) ∧ Below V.heap.size V V52 ∧ Strs V52 (some ⟨V51.heap.size, 0, none⟩) 1 [u]) := by
        rw [← hV52]
        refine ⟨ownsRow_below ho51.out (below_al _ _), ?_, strs_new _ _⟩
        have h0 : Below V.heap.size V V51 := HV50.out.1.trans (by rw [HB5.out]; exact hb51.out)
        exact below_tr h0 (below_al _ _)
      clear ho51 hb51 hV50 v50
      go_wp2_with (with_reducible change wpList _ _ _ ({ dst := some 35, op := _, type := _, pos := _, after := _, guard := _ } :: _) _ _; refine Hid.out ?_)
      show wpList _ _ _ _ _ _
      refine wpList_append_mine rfl (.tmp 32) (.tmp 34) rfl V52 B5 v32 p.y.n yes HV52.out.1 _ 1 1 [u] rfl rfl HV52.out.2.2 (by rw [← HB5.out]; exact HV52.out.2.1.size) (by have := HN.out.1; omega) ?_
      intro v35 V53 ho53 hb53
      obtain ⟨sy, rfl, hty, hsn, hsb⟩ := own_txt ho53.out (by
        intro x hx
        rcases List.mem_append.1 hx with hx | hx
        · exact HP.out.1.2.2 x hx
        · simp at hx; rw [hx]; exact HP.out.2.2) (by have := HN.out.1; omega)
      have HSY : Hid (Txt V53 sy (yes ++ [u]) ∧ (∀ g off, sy.a = some ⟨g, off, none⟩ → B5 ≤ g ∧ g < V53.heap.size) ∧ Below V.heap.size V V53) := ⟨hty, hsb, HV52.out.2.1.trans (by rw [HB5.out]; exact hb53.out)⟩
      have HM : Hid (Blk V53 m 43 p.cells ∧ Blk V53 l 43 p.cells ∧ m < B5 ∧ l < B5 ∧ m ≠ l) := by
        have h1 := HT.out.1.below HSY.out.2.2 HT.out.1.lt
        have h2 := HT.out.2.1.below HSY.out.2.2 HT.out.2.1.lt
        exact ⟨h1, h2, by rw [← HB5.out]; exact HT.out.1.lt, by rw [← HB5.out]; exact HT.out.2.1.lt, HT.out.2.2.1⟩
      have m36 : V53.cell? ⟨m, 36, none⟩ = some (.slice p.y.a p.y.n p.y.c) := HM.out.1.cell (Pp.tail HL.out.2.2 1)
      have mfr : V53.frozen? ⟨m, 36, none⟩ = false := HM.out.1.free 36
      obtain ⟨V6, hV6⟩ : ∃ V6, V53.setCell ⟨m, 36, none⟩ (.slice sy.a sy.n sy.c) = V6 := ⟨_, rfl⟩
      have HV6 : Hid (V53.grownBy V6 (some m)) := by rw [← hV6]; exact grown_setCell _ _ _ _
      have HM6 : Hid (Blk V6 m 43 ({ p with y := sy } : Pp).cells ∧ Blk V6 l 43 p.cells) := by
        refine ⟨?_, HM.out.2.1.kept HV6.out (fun hk => by cases hk; exact HM.out.2.2.2.2 rfl)⟩
        have := HM.out.1.set 36 (.slice sy.a sy.n sy.c)
        rw [hV6, Pp.set_y HL.out.2.2] at this
        exact this
      have HSY6 : Hid (Txt V6 sy (yes ++ [u])) := HSY.out.1.same (fun g off ha => HV6.out.block g (HSY.out.2.1 g off ha).2 (fun hk => by cases hk; have := (HSY.out.2.1 m off ha).1; have := HM.out.2.2.1; omega))
      have HBV6 : Hid (Below A.heap.size A V6) := (below_tr HVA.out HSY.out.2.2).grown HV6.out (below_tr HVA.out HSY.out.2.2).size (fun j hj => by cases hj; exact HT.out.2.2.2.1)
      have c37 : V6.cell? ⟨g, 37, none⟩ = some (.slice p.n.a p.n.n p.n.c) := (HBV6.out.cell (p := ⟨g, 37, none⟩) HLA.out.2.1).trans a37
      have HNV6 : Hid (Strs V6 p.n.a p.n.n no) := (HP.out.2.1.below (below_tr HA.out HBV6.out)).1
      clear hV52 ho53 hb53 hty hsn hsb a37
      obtain ⟨B6, hB6⟩ : ∃ B6, V6.heap.size = B6 := ⟨_, rfl⟩
      have HB6 : Hid (V6.heap.size = B6 ∧ g < V6.heap.size) := ⟨hB6, Nat.lt_of_lt_of_le HLA.out.2.1 HBV6.out.size⟩
      obtain ⟨V60, hV60⟩ : ∃ V60, V6.alloc (.cells #[] 9) = V60 := ⟨_, rfl⟩
      have HV60 : Hid (Below V6.heap.size V6 V60 ∧ V60.ownsRow B6 9 1 (.slice (some ⟨V6.heap.size, 0, none⟩) 0 0) 0 (strC [])) := by rw [← hV60, ← hB6]; exact ⟨below_al _ _, empty_row V6 9 1⟩
      have d37 : V60.cell? ⟨g, 37, none⟩ = some (.slice p.n.a p.n.n p.n.c) := (HV60.out.1.cell (p := ⟨g, 37, none⟩) HB6.out.2).trans c37
      clear c37 hB6
      go_wp2_with (with_reducible change wpList _ _ _ ({ dst := some 40, op := _, type := _, pos := _, after := _, guard := _ } :: _) _ _; refine Hid.out ?_)
      show wpList _ _ _ _ _ _
      refine wpList_append_mine rfl (.tmp 37) (.tmp 39) rfl V60 B6 _ 0 [] HV60.out.2 p.n.a p.n.n p.n.c no rfl rfl (HNV6.out.below HV60.out.1) (by rw [← HB6.out.1]; exact HV60.out.1.size) (by have := HN.out.2; omega) ?_
      intro v40 V61 ho61 hb61
      rw [List.nil_append, Nat.zero_add] at ho61
      obtain ⟨V62, hV62⟩ : ∃ V62, V61.alloc (.cells #[.string u] 9) = V62 := ⟨_, rfl⟩
      have HV62 : Hid (V62.ownsRow B6 9 1 v40 p.n.n (strC no) ∧ Below V6.heap.size V6 V62 ∧ Strs V62 (some ⟨V61.heap.size, 0, none⟩) 1 [u]) := by
        rw [← hV62]
        refine ⟨ownsRow_below ho61.out (below_al _ _), ?_, strs_new _ _⟩
        have h0 : Below V6.heap.size V6 V61 := HV60.out.1.trans (by rw [HB6.out.1]; exact hb61.out)
        exact below_tr h0 (below_al _ _)
      clear ho61 hb61 hV60 d37 hV6 m36 mfr
      go_wp2_with (with_reducible change wpList _ _ _ ({ dst := some 43, op := _, type := _, pos := _, after := _, guard := _ } :: _) _ _; refine Hid.out ?_)
      show wpList _ _ _ _ _ _
      refine wpList_append_mine rfl (.tmp 40) (.tmp 42) rfl V62 B6 v40 p.n.n no HV62.out.1 _ 1 1 [u] rfl rfl HV62.out.2.2 (by rw [← HB6.out.1]; exact HV62.out.2.1.size) (by have := HN.out.2; omega) ?_
      intro v43 V63 ho63 hb63
      obtain ⟨sn, rfl, htn, hnn, hnb⟩ := own_txt ho63.out (by
        intro x hx
        rcases List.mem_append.1 hx with hx | hx
        · exact HP.out.2.1.2.2 x hx
        · simp at hx; rw [hx]; exact HP.out.2.2) (by have := HN.out.2; omega)
      have HSN : Hid (Txt V63 sn (no ++ [u]) ∧ (∀ g off, sn.a = some ⟨g, off, none⟩ → B6 ≤ g ∧ g < V63.heap.size) ∧ Below V6.heap.size V6 V63) := ⟨htn, hnb, HV62.out.2.1.trans (by rw [HB6.out.1]; exact hb63.out)⟩
      have HM3 : Hid (Blk V63 m 43 ({ p with y := sy } : Pp).cells ∧ Blk V63 l 43 p.cells) := ⟨HM6.out.1.below HSN.out.2.2 HM6.out.1.lt, HM6.out.2.below HSN.out.2.2 HM6.out.2.lt⟩
      have l37 : V63.cell? ⟨l, 37, none⟩ = some (.slice p.n.a p.n.n p.n.c) := HM3.out.2.cell (Pp.tail HL.out.2.2 2)
      have lfr : V63.frozen? ⟨l, 37, none⟩ = false := HM3.out.2.free 37
      obtain ⟨V7, hV7⟩ : ∃ V7, V63.setCell ⟨l, 37, none⟩ (.slice sn.a sn.n sn.c) = V7 := ⟨_, rfl⟩
      have HV7 : Hid (V63.grownBy V7 (some l)) := by rw [← hV7]; exact grown_setCell _ _ _ _
      have HM7 : Hid (Blk V7 m 43 ({ p with y := sy } : Pp).cells ∧ Blk V7 l 43 ({ p with n := sn } : Pp).cells) := by
        refine ⟨HM3.out.1.kept HV7.out (fun hk => by cases hk; exact HM.out.2.2.2.2 rfl), ?_⟩
        have := HM3.out.2.set 37 (.slice sn.a sn.n sn.c)
        rw [hV7, Pp.set_n HL.out.2.2] at this
        exact this
      have HBV7 : Hid (Below A.heap.size A V7) := (below_tr HBV6.out HSN.out.2.2).grown HV7.out (below_tr HBV6.out HSN.out.2.2).size (fun j hj => by cases hj; exact HT.out.2.2.2.2.1)
      have HSN7 : Hid (Txt V7 sn (no ++ [u])) := HSN.out.1.same (fun g off ha => HV7.out.block g (HSN.out.2.1 g off ha).2 (fun hk => by
        cases hk
        have h1 := (HSN.out.2.1 l off ha).1
        have h2 := HM6.out.2.lt
        have h3 := HB6.out.1
        omega))
      have HSY7 : Hid (Txt V7 sy (yes ++ [u])) := (HSY6.out.below HSN.out.2.2).same (fun g off ha => HV7.out.block g (Nat.lt_of_lt_of_le (HSY.out.2.1 g off ha).2 (Nat.le_trans HV6.out.size HSN.out.2.2.size)) (fun hk => by
        cases hk
        have h1 := (HSY.out.2.1 l off ha).1
        have h2 := HM.out.2.2.2.1
        omega))
      have HY7 : Hid (Txt V7 p.y yes ∧ Txt V7 p.n no) := ⟨HP.out.1.below (below_tr HA.out HBV7.out), HP.out.2.1.below (below_tr HA.out HBV7.out)⟩
      have HQ7 : Hid (Blk V7 qb 52 [iv ap, .bool veto]) := HQA.out.below HBV7.out HQA.out.lt
      have e0 : V7.cell? ⟨qb, 0, none⟩ = some (iv ap) := HQ7.out.cell rfl
      have e1 : V7.cell? ⟨qb, 1, none⟩ = some (.bool veto) := HQ7.out.cell rfl
      have HBW : Hid (Below w.heap.size w V7) := below_tr HB.out (below_tr HA.out HBV7.out)
      clear hV62 ho63 hb63 htn hnn hnb
      cases is with
      | true =>
        have HC := passes_is ({ p with y := sy } : Pp) ⟨ap, veto⟩ (yes ++ [u]) no V7 HL.out.2.2 HSY7.out HY7.out.2
        rw [show passB (yes ++ [u]) no ({ p with y := sy } : Pp).author ({ p with y := sy } : Pp).opn ⟨ap, veto⟩ = true from pass_more u HIS.out, show Po.cells ⟨ap, veto⟩ = [iv ap, .bool veto] from rfl] at HC
        obtain ⟨cy, hcy⟩ : ∃ cy, ({ p with y := sy } : Pp).cells = cy := ⟨_, rfl⟩
        rw [hcy] at HC
        have HCY : Hid (V7.rangeAt m 0 cy ∧ cy.length = 39) := by
          rw [← hcy]
          exact ⟨fun j v hj => by rw [Nat.zero_add]; exact HM7.out.1.cell hj, Pp.length (p := { p with y := sy }) HL.out.2.2⟩
        clear hcy
        go_wp2_with (with_reducible change wpList _ _ _ ({ dst := some 48, op := _, type := _, pos := _, after := _, guard := _ } :: _) _ _; refine Hid.out ?_)
        show wpList _ _ _ _ _ _
        refine wpList_load_want rfl 43 (.tmp 8) rfl m 0 rfl cy _ HCY.out.1 Try.underlying43 rfl (by rw [HCY.out.2]; exact size43) ?_
        simp only [Act.put, List.setIfInBounds_toArray, List.set_cons_zero, List.set_cons_succ]
        clear hV7 l37 lfr
        go_wp2_with fail
        refine HC.mono ?_
        rintro e w8 ⟨rfl, hb8⟩
        have HB8 : Hid (Below w.heap.size w w8) := below_tr HBW.out hb8
        clear HC hb8
        go_wp2_with fail
        refine (HLV _).mono ?_
        rintro e w9 ⟨rfl, hb9⟩
        have HB9 : Hid (Below w.heap.size w w9) := below_tr HB8.out hb9
        clear hb9
        go_wp2_with fail
        go_ret
        exact ⟨rfl, HB9.out⟩
      | false =>
        have HC := passes_is ({ p with n := sn } : Pp) ⟨ap, veto⟩ yes (no ++ [u]) V7 HL.out.2.2 HY7.out.1 HSN7.out
        rw [show passB yes (no ++ [u]) ({ p with n := sn } : Pp).author ({ p with n := sn } : Pp).opn ⟨ap, veto⟩ = false from pass_less u HIS.out, show Po.cells ⟨ap, veto⟩ = [iv ap, .bool veto] from rfl] at HC
        obtain ⟨cy, hcy⟩ : ∃ cy, ({ p with n := sn } : Pp).cells = cy := ⟨_, rfl⟩
        rw [hcy] at HC
        have HCY : Hid (V7.rangeAt l 0 cy ∧ cy.length = 39) := by
          rw [← hcy]
          exact ⟨fun j v hj => by rw [Nat.zero_add]; exact HM7.out.2.cell hj, Pp.length (p := { p with n := sn }) HL.out.2.2⟩
        clear hcy
        go_wp2_with (with_reducible change wpList _ _ _ ({ dst := some 55, op := _, type := _, pos := _, after := _, guard := _ } :: _) _ _; refine Hid.out ?_)
        show wpList _ _ _ _ _ _
        refine wpList_load_want rfl 43 (.tmp 9) rfl l 0 rfl cy _ HCY.out.1 Try.underlying43 rfl (by rw [HCY.out.2]; exact size43) ?_
        simp only [Act.put, List.setIfInBounds_toArray, List.set_cons_zero, List.set_cons_succ]
        clear hV7 l37 lfr
        go_wp2_with fail
        refine HC.mono ?_
        rintro e w8 ⟨rfl, hb8⟩
        have HB8 : Hid (Below w.heap.size w w8) := below_tr HBW.out hb8
        clear HC hb8
        go_wp2_with fail
        refine (HLV _).mono ?_
        rintro e w9 ⟨rfl, hb9⟩
        have HB9 : Hid (Below w.heap.size w w9) := below_tr HB8.out hb9
        clear hb9
        go_wp2_with fail
        go_ret
        exact ⟨rfl, HB9.out⟩
#print axioms mono_law
end Go.Proofs.Ytaecigpjcbjcbaa.Oct
