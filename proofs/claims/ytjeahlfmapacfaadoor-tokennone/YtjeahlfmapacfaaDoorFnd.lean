/-
  Layer 16 (token): isMade, Len, state and find.
-/
import Derived.Test.YtjeahlfmapacfaaDoorBok
namespace Go.Proofs.YtjeahlfmapacfaaDoor.Oct
open Go.RowKit Sha
set_option linter.unusedSimpArgs false
set_option linter.unusedVariables false

theorem ne_map (m : Nat) (W : World) : (binOp .neq 55 (.map (some m)) (.map none)).run Tryd.prog W = .ok (.bool true) W := by kernel_rfl
set_option maxRecDepth 100000 in
theorem made_yes {w : World} {b m : Nat} {S : List UInt8} {G : List Gr} (h : BkAt w b m S G) : Calls Tryd.prog 21 #[.pointer (some ⟨b, 0, none⟩)] w fun e w' => e = .returned (.bool true) ∧ w = w' := by
  have c1 := h.c1.1
  have hm := ne_map m
  clear h
  go_enter Tryd.func21, Tryd.ntmps21
  go_wp2
  go_ret
  exact ⟨rfl, rfl⟩
#print axioms made_yes
set_option maxRecDepth 100000 in
theorem len_is {w : World} {b m : Nat} {S : List UInt8} {G : List Gr} (h : BkAt w b m S G) : Calls Tryd.prog 18 #[.pointer (some ⟨b, 0, none⟩)] w fun e w' => e = .returned (iv (G.length : Int)) ∧ w = w' := by
  have c1 := h.c1.1
  have hl := MP.len h.map Tryd.underlying55 3
  rw [kvs_len] at hl
  have HB : Hid (BkAt w b m S G) := h
  clear h
  go_enter Tryd.func18, Tryd.ntmps18
  go_wp2_with fail
  refine (made_yes HB.out).mono ?_
  rintro e W ⟨rfl, rfl⟩
  go_wp2
  go_ret
  exact ⟨rfl, rfl⟩
#print axioms len_is
/-- what speaks against showing a token -/
def showE (g : Gr) (now : Int) : Int := if g.bk = true then 161 else if (g.t : Int) ≤ now then 162 else 0
set_option maxRecDepth 100000 in
theorem state_show (g : Gr) (now : Int) (E : Int) (hE : showE g now = E) (w : World) : Calls Tryd.prog 30 #[.agg #[.string g.u, iv (g.t : Int), .bool g.bk], iv 0, iv now] w fun e w' => e = .returned (iv E) ∧ Below w.heap.size w w' := by
  obtain ⟨u, t, bk⟩ := g
  obtain ⟨A, hA⟩ : ∃ A, w.alloc (.cells #[.string u, iv (t : Int), .bool bk] 64) = A := ⟨_, rfl⟩
  have hb : Below w.heap.size w A := by rw [← hA]; exact below_al _ _
  have HB : Hid (Below w.heap.size w A) := hb
  have hk : Blk A w.heap.size 64 [.string u, iv (t : Int), .bool bk] := by rw [← hA]; exact Blk.new w _ _
  have c1 : A.cell? ⟨w.heap.size, 1, none⟩ = some (iv (t : Int)) := hk.cell rfl
  have c2 : A.cell? ⟨w.heap.size, 2, none⟩ = some (.bool bk) := hk.cell rfl
  unfold showE at hE
  dsimp only at hE
  clear hb hk
  by_cases ht : (t : Int) ≤ now
  · cases bk
    · rw [if_neg (by simp), if_pos ht] at hE
      subst hE
      go_enter Tryd.func30, Tryd.ntmps30
      go_wp2
      go_ret
      exact ⟨rfl, HB.out⟩
    · rw [if_pos rfl] at hE
      subst hE
      go_enter Tryd.func30, Tryd.ntmps30
      go_wp2
      go_ret
      exact ⟨rfl, HB.out⟩
  · have ht2 : now < (t : Int) := by omega
    cases bk
    · rw [if_neg (by simp), if_neg ht] at hE
      subst hE
      clear ht
      go_enter Tryd.func30, Tryd.ntmps30
      go_wp2
      go_ret
      exact ⟨rfl, HB.out⟩
    · rw [if_pos rfl] at hE
      subst hE
      clear ht
      go_enter Tryd.func30, Tryd.ntmps30
      go_wp2
      go_ret
      exact ⟨rfl, HB.out⟩
#print axioms state_show
set_option maxRecDepth 100000 in
theorem state_back (g : Gr) (E : Int) (hE : (if g.bk = true then (161 : Int) else 0) = E) (w : World) : Calls Tryd.prog 30 #[.agg #[.string g.u, iv (g.t : Int), .bool g.bk], iv 1, iv 0] w fun e w' => e = .returned (iv E) ∧ Below w.heap.size w w' := by
  obtain ⟨u, t, bk⟩ := g
  obtain ⟨A, hA⟩ : ∃ A, w.alloc (.cells #[.string u, iv (t : Int), .bool bk] 64) = A := ⟨_, rfl⟩
  have hb : Below w.heap.size w A := by rw [← hA]; exact below_al _ _
  have HB : Hid (Below w.heap.size w A) := hb
  have hk : Blk A w.heap.size 64 [.string u, iv (t : Int), .bool bk] := by rw [← hA]; exact Blk.new w _ _
  have c2 : A.cell? ⟨w.heap.size, 2, none⟩ = some (.bool bk) := hk.cell rfl
  dsimp only at hE
  clear hb hk
  cases bk
  · rw [if_neg (by simp)] at hE
    subst hE
    go_enter Tryd.func30, Tryd.ntmps30
    go_wp2
    go_ret
    exact ⟨rfl, HB.out⟩
  · rw [if_pos rfl] at hE
    subst hE
    go_enter Tryd.func30, Tryd.ntmps30
    go_wp2
    go_ret
    exact ⟨rfl, HB.out⟩
#print axioms state_back
theorem build64 (W : World) : (Instr.build 64 #[]).run Tryd.prog W = .ok (.agg g0.cells.toArray) W := by kernel_rfl
theorem wpList_b0 {ops : Array Oper} {rest : List Oper} {o : Oper} {a : Act} {w : World} {Q : Exit → Act → World → Prop} (hgd : o.guard = none) (hop : o.op = .build 64 #[]) (hk : wpList Tryd.prog ops Q rest (a.put o.dst (.agg g0.cells.toArray)) w) : wpList Tryd.prog ops Q (o :: rest) a w := by
  refine wpList_plain hgd fun K hK => ?_
  have h := build64 w
  unfold Oper.wp execOp
  simp only [hop, Sem.run_bind, Sem.run_pure, Result.andThen_ok, List.map_toArray, List.map_cons, List.map_nil, h]
  exact hK _ _ hk
def FdP (w : World) (S : List UInt8) (G : List Gr) (X : BA) (e : Ending) (w' : World) : Prop :=
  ((atF S 0 G X.data.toList = none ∧ e = .returned (.tuple #[.agg g0.cells.toArray, iv 160])) ∨ ∃ g, atF S 0 G X.data.toList = some g ∧ e = .returned (.tuple #[.agg g.cells.toArray, iv 0])) ∧ Below w.heap.size w w'
set_option maxRecDepth 100000 in
set_option maxHeartbeats 1000000 in
theorem find_tok {w : World} {b m : Nat} {S : List UInt8} {G : List Gr} (h : BkAt w b m S G) (hV : VT w) (X : BA) (hX : X.size ≤ 20000) : Calls Tryd.prog 28 #[.pointer (some ⟨b, 0, none⟩), .string X, .func (.func 29) #[] #[]] w (FdP w S G X) := by
  have HB : Hid (BkAt w b m S G ∧ VT w ∧ X.size ≤ 20000) := ⟨h, hV, hX⟩
  obtain ⟨d, hd⟩ : ∃ d, w.heap.size = d := ⟨_, rfl⟩
  obtain ⟨A, hA⟩ : ∃ A, w.alloc (.cells #[.string e0, iv 0, .bool false] 64) = A := ⟨_, rfl⟩
  have HA : Hid (Below w.heap.size w A ∧ Blk A d 64 g0.cells ∧ w.heap.size = d) := ⟨by rw [← hA]; exact below_al _ _, by rw [← hA, ← hd]; exact Blk.new w _ _, hd⟩
  obtain ⟨a, n, c, s1, s2, s3⟩ := (h.below HA.out.1).sec
  have C29 : Hid (Calls Tryd.prog 29 #[.pointer (some ⟨b, 0, none⟩), .string X] A fun e w' => ∃ R : Bool, e = .returned (.bool R) ∧ Hid ((∃ bd, X.data.toList = sealT S bd) → R = true) ∧ Below A.heap.size A w') := wrote_is s1 s2 s3 (hV.below HA.out.1) X hX
  have hz := zero64
  clear h hV hX s1 s2 s3
  go_enter Tryd.func28, Tryd.ntmps28
  go_wp2_with fail
  refine C29.out.mono ?_
  rintro e W1 ⟨R, rfl, HR, hb1⟩
  have H1 : Hid (Below w.heap.size w W1 ∧ Blk W1 d 64 g0.cells ∧ BkAt W1 b m S G) := ⟨below_tr HA.out.1 hb1, HA.out.2.1.below hb1 HA.out.2.1.lt, (HB.out.1.below HA.out.1).below hb1⟩
  clear hb1 hA hd
  cases R with
  | false =>
    have HN : Hid (atF S 0 G X.data.toList = none) := by
      cases e : atF S 0 G X.data.toList with
      | none => exact rfl
      | some g => have := HR.out (at_mem 0 G e).2; cases this
    go_wp2_with (with_reducible change wpList _ _ _ ({ dst := some 15, op := _, type := _, pos := _, after := _, guard := _ } :: _) _ _; refine Hid.out ?_)
    show wpList _ _ _ _ _ _
    refine wpList_b0 rfl rfl ?_
    go_wp2_with (with_reducible change wpList _ _ _ ({ dst := none, op := Op.store 64 _ _, type := _, pos := _, after := _, guard := _ } :: _) _ _; refine Hid.out ?_)
    show wpList _ _ _ _ _ _
    refine wpList_store_blk rfl 64 (.tmp 6) (.tmp 15) rfl d 0 64 g0.cells g0.cells rfl rfl H1.out.2.1 (by show 0 + 3 ≤ 3; omega) (size64 _) (Gr.one _) ?_
    intro W2 hx2 hg2
    have H2 : Hid (Below w.heap.size w W2 ∧ Blk W2 d 64 g0.cells) := ⟨below_gr H1.out.1 hg2.out (by have := HA.out.2.2; omega), blk_all hx2.out rfl⟩
    clear hx2 hg2
    go_wp2
    exact ret_c2 rfl rfl rfl H2.out.2 Tryd.underlying64 rfl (size64 _) ⟨.inl ⟨HN.out, rfl⟩, H2.out.1⟩
  | true =>
    have c1 := H1.out.2.2.c1.1
    have hlk := MP.look2 (h := X.data.toList) H1.out.2.2.map Tryd.underlying55 (by have := HB.out.2.2; show X.size ≤ maxLen; unfold maxLen; omega) (zero64 W1)
    obtain ⟨kv, hkv⟩ : ∃ v, (kget (kvs S 0 G) X.data.toList).getD (.agg #[.string e0, iv 0, .bool false]) = v := ⟨_, rfl⟩
    obtain ⟨kb, hkb⟩ : ∃ v, khas (kvs S 0 G) X.data.toList = v := ⟨_, rfl⟩
    rw [hkv, hkb] at hlk
    have hlk2 : (Instr.lookup 55 (.map (some m)) (.string X) true).run Tryd.prog W1 = .ok (.tuple #[kv, .bool kb]) W1 := hlk
    obtain ⟨gx, hgx⟩ : ∃ gx : Gr, kv = .agg gx.cells.toArray ∧ ((atF S 0 G X.data.toList = none ∧ kb = false) ∨ (atF S 0 G X.data.toList = some gx ∧ kb = true)) := by
      unfold khas at hkb
      rw [kvs_get] at hkv hkb
      cases e : atF S 0 G X.data.toList with
      | none => rw [e] at hkv hkb; exact ⟨g0, hkv.symm, .inl ⟨rfl, hkb.symm⟩⟩
      | some g => rw [e] at hkv hkb; exact ⟨g, hkv.symm, .inr ⟨rfl, hkb.symm⟩⟩
    obtain ⟨rfl, hcs⟩ := hgx
    have HCS : Hid ((atF S 0 G X.data.toList = none ∧ kb = false) ∨ (atF S 0 G X.data.toList = some gx ∧ kb = true)) := hcs
    obtain ⟨d2, hd2⟩ : ∃ d, W1.heap.size = d := ⟨_, rfl⟩
    have HD2 : Hid (W1.heap.size = d2 ∧ d < d2 ∧ w.heap.size = d) := ⟨hd2, by have := H1.out.2.1.lt; omega, HA.out.2.2⟩
    clear hkv hkb hcs hlk HR
    go_wp2_with (with_reducible change wpList _ _ _ ({ dst := none, op := Op.store 64 _ _, type := _, pos := _, after := _, guard := _ } :: _) _ _; refine Hid.out ?_)
    show wpList _ _ _ _ _ _
    refine wpList_store_blk rfl 64 (.tmp 8) (.tmp 23) rfl d2 0 64 [.string e0, iv 0, .bool false] gx.cells rfl rfl (by rw [← HD2.out.1]; exact Blk.new W1 _ _) (by show 0 + 3 ≤ 3; omega) (size64 _) (Gr.one _) ?_
    intro W2 hx2 hg2
    have H2 : Hid (Below w.heap.size w W2 ∧ Blk W2 d 64 g0.cells ∧ Blk W2 d2 64 gx.cells) := ⟨below_gr (below_tr H1.out.1 (below_al _ _)) hg2.out (by have := HD2.out; omega), Blk.kept (H1.out.2.1.alloc _) hg2.out (by have := HD2.out; simp; omega), blk_all hx2.out rfl⟩
    clear hx2 hg2 hlk2 c1 hd2
    cases kb with
    | false =>
      have HN : Hid (atF S 0 G X.data.toList = none) := by rcases HCS.out with h | h; exact h.1; cases h.2
      go_wp2_with (with_reducible change wpList _ _ _ ({ dst := some 27, op := _, type := _, pos := _, after := _, guard := _ } :: _) _ _; refine Hid.out ?_)
      show wpList _ _ _ _ _ _
      refine wpList_b0 rfl rfl ?_
      go_wp2_with (with_reducible change wpList _ _ _ ({ dst := none, op := Op.store 64 _ _, type := _, pos := _, after := _, guard := _ } :: _) _ _; refine Hid.out ?_)
      show wpList _ _ _ _ _ _
      refine wpList_store_blk rfl 64 (.tmp 6) (.tmp 27) rfl d 0 64 g0.cells g0.cells rfl rfl H2.out.2.1 (by show 0 + 3 ≤ 3; omega) (size64 _) (Gr.one _) ?_
      intro W3 hx3 hg3
      have H3 : Hid (Below w.heap.size w W3 ∧ Blk W3 d 64 g0.cells) := ⟨below_gr H2.out.1 hg3.out (by have := HD2.out; omega), blk_all hx3.out rfl⟩
      clear hx3 hg3
      go_wp2
      exact ret_c2 rfl rfl rfl H3.out.2 Tryd.underlying64 rfl (size64 _) ⟨.inl ⟨HN.out, rfl⟩, H3.out.1⟩
    | true =>
      have HN : Hid (atF S 0 G X.data.toList = some gx) := by rcases HCS.out with h | h; cases h.2; exact h.1
      go_wp2_with (with_reducible change wpList _ _ _ ({ dst := some 28, op := _, type := _, pos := _, after := _, guard := _ } :: _) _ _; refine Hid.out ?_)
      show wpList _ _ _ _ _ _
      refine wpList_load_mid rfl 64 (.tmp 8) rfl d2 0 rfl gx.cells _ H2.out.2.2.range0 Tryd.underlying64 rfl (size64 _) ?_
      go_wp2_with (with_reducible change wpList _ _ _ ({ dst := none, op := Op.store 64 _ _, type := _, pos := _, after := _, guard := _ } :: _) _ _; refine Hid.out ?_)
      show wpList _ _ _ _ _ _
      refine wpList_store_blk rfl 64 (.tmp 6) (.tmp 28) rfl d 0 64 g0.cells gx.cells rfl rfl H2.out.2.1 (by show 0 + 3 ≤ 3; omega) (size64 _) (Gr.one _) ?_
      intro W3 hx3 hg3
      have H3 : Hid (Below w.heap.size w W3 ∧ Blk W3 d 64 gx.cells) := ⟨below_gr H2.out.1 hg3.out (by have := HD2.out; omega), blk_all hx3.out rfl⟩
      clear hx3 hg3
      go_wp2
      exact ret_c2 rfl rfl rfl H3.out.2 Tryd.underlying64 rfl (size64 _) ⟨.inr ⟨gx, HN.out, rfl⟩, H3.out.1⟩
#print axioms find_tok
end Go.Proofs.YtjeahlfmapacfaaDoor.Oct
