/-
  Layer 16 (token): the law TokenPlays.
-/
import Derived.Test.YtjeahlfmapacfaaDoorPkE
import Derived.Test.YtjeahlfmapacfaaDoorPkC
/- Layer 16 (token): the law TokenPlays. -/
namespace Go.Proofs.YtjeahlfmapacfaaDoor.Oct
open Go.RowKit Sha
set_option linter.unusedSimpArgs false
set_option linter.unusedVariables false

/-- one byte of an own slice is another one -/
theorem own_set {B : Nat} {w : World} {g n cc : Nat} {l : List UInt8} (h : Own 5 B w (.slice (some ⟨g, 0, none⟩) n cc) l) (hn : l.length = n) (t : Nat) (ht : t < l.length) :
    w.cell? ⟨g, t, none⟩ = some (.int .u8 (l[t].toNat : Int)) ∧ w.frozen? ⟨g, t, none⟩ = false ∧ B ≤ g ∧ ∀ x : UInt8, Own 5 B (w.setCell ⟨g, t, none⟩ (.int .u8 (x.toNat : Int))) (.slice (some ⟨g, 0, none⟩) n cc) (l.set t x) := by
  rcases h.2 with ⟨h1, h2⟩ | ⟨g', cap, cur, e1, e2, hg, e3, e4, e5, e6⟩
  · omega
  · simp only [Value.slice.injEq, Option.some.injEq, Addr.mk.injEq] at e1
    obtain ⟨⟨rfl, _⟩, _, rfl⟩ := e1
    have hc : ∀ i (hi : i < l.length), cur.toList[i]? = some (.int .u8 (l[i].toNat : Int)) := by
      intro i hi
      have e7 : (cur.toList.take (l.length * 1))[i]? = (U l)[i]? := by rw [e6]
      rw [U_get l i hi, List.getElem?_take, if_pos (by omega)] at e7
      exact e7
    have hcell : w.cell? ⟨g, t, none⟩ = some (.int .u8 (l[t].toNat : Int)) := by
      rw [cell_of_row w g t _ 5 (0, 0) hg, ← Array.getElem?_toList]; exact hc t ht
    refine ⟨hcell, frozen_of_row w g t _ 5 hg, e2, fun x => ?_⟩
    refine ⟨by simp [U], .inr ⟨g, cc, cur.setIfInBounds t (.int .u8 (x.toNat : Int)), by rw [List.length_set, hn], e2, heap_setCell_same w g t _ 5 _ hg, by rw [List.length_set]; exact e3, e4, by simpa using e5, ?_⟩⟩
    rw [Nat.mul_one] at e6 ⊢
    rw [List.length_set, Array.toList_setIfInBounds, List.take_set, e6]
    simp [U, List.map_set]

theorem xor_85 (x : UInt8) : bits BinOp.xor IntKind.u8 (x.toNat : Int) 85 = ((x ^^^ 85).toNat : Int) := by
  rw [show (85 : Int) = ((85 : Nat) : Int) from rfl, u8_xor_nat _ _ x.toNat_lt (by omega), UInt8.toNat_xor]
  rfl
theorem sized5 : ∃ i, Tryd.prog.info? 5 = some i ∧ i.zero = some (.int .u8 0) ∧ i.size = 1 ∧ i.bytes = 1 := by
  have h : (Tryd.prog.info? 5).map (fun i => (i.size, i.bytes, i.zero)) = some (1, 1, some (.int .u8 0)) := by kernel_rfl
  obtain ⟨i, hi, he⟩ := Option.map_eq_some_iff.1 h
  simp only [Prod.mk.injEq] at he
  exact ⟨i, hi, he.2.2, he.1, he.2.1⟩
theorem run_bs22 (W : World) : (Instr.buildSlice 22 0 #[]).run Tryd.prog W = .ok (.slice (some ⟨W.heap.size, 0, none⟩) 0 0) (W.alloc (.cells #[] 5)) := by kernel_rfl
theorem wpList_bs22 {ops : Array Oper} {rest : List Oper} {o : Oper} {a : Act} {w : World} {Q : Exit → Act → World → Prop} (hgd : o.guard = none) (hop : o.op = .buildSlice 22 0 #[])
    (hk : wpList Tryd.prog ops Q rest (a.put o.dst (.slice (some ⟨w.heap.size, 0, none⟩) 0 0)) (w.alloc (.cells #[] 5))) : wpList Tryd.prog ops Q (o :: rest) a w := by
  refine wpList_plain hgd fun K hK => ?_
  have h := run_bs22 w
  unfold Oper.wp execOp
  simp only [hop, Sem.run_bind, Sem.run_pure, Result.andThen_ok, List.map_toArray, List.map_cons, List.map_nil, h]
  exact hK _ _ hk
theorem own22 (w : World) : Own 5 w.heap.size (w.alloc (.cells #[] 5)) (.slice (some ⟨w.heap.size, 0, none⟩) 0 0) [] := by
  refine ⟨by simp [U], .inr ⟨w.heap.size, 0, #[], rfl, Nat.le_refl _, heap_alloc_new _ _, ?_⟩⟩
  refine ⟨by simp, by unfold maxLen; omega, by simp, by simp [U]⟩
/-- a copy of a text: not nil, and the call's own -/
theorem run_giv {w : World} {a : Option Addr} {n cp : Nat} {S : List UInt8} (h : In w a n cp S) (hn : n ≤ 20000) (ty : TypeId) : ∃ g cap w', (Builtin.append_ #[22, 22] ty #[.slice (some ⟨w.heap.size, 0, none⟩) 0 0, .slice a n cp]).run Tryd.prog (w.alloc (.cells #[] 5)) = .ok (.slice (some ⟨g, 0, none⟩) n cap) w' ∧ Own 5 w.heap.size w' (.slice (some ⟨g, 0, none⟩) n cap) S ∧ Below w.heap.size w w' ∧ w.heap.size ≤ g ∧ g < w'.heap.size := by
  obtain ⟨i, hi, hz, hs, hby⟩ := sized5
  have ho := own22 w
  have hb0 := below_al w (.cells #[] 5)
  by_cases h0 : n = 0
  · subst h0
    have hS : S = [] := List.eq_nil_of_length_eq_zero h.1
    subst hS
    exact ⟨w.heap.size, 0, _, run_append_zero (P := Tryd.prog) _ 22 ty 5 i Tryd.underlying22 hi _ a 0 0 cp (Nat.le_refl _), ho, hb0, Nat.le_refl _, by simp⟩
  · have hp : 0 < (U S).length := by rw [U_length, h.1]; omega
    obtain ⟨ad, rfl, hc⟩ := cells_of_in (h.below hb0) hp
    obtain ⟨v', w', hrun, h2, h3, h4, h5⟩ := run_append_own_at (P := Tryd.prog) (w.alloc (.cells #[] 5)) w.heap.size 22 ty 5 i (.int .u8 0) 1 1 Tryd.underlying22 hi hz hs hby rfl (by omega) (.slice (some ⟨w.heap.size, 0, none⟩) 0 0) 0 (U []) ho ad n cp (U S) (by rw [U_length, h.1, Nat.mul_one]) hc (U_one S) (by unfold maxLen; omega) (by omega) (by simp)
    rw [Nat.zero_add] at h2
    have h2' : Own 5 w.heap.size w' v' S := by
      show w'.ownsRow w.heap.size 5 1 v' S.length (U S)
      rw [h.1]
      exact h2
    obtain ⟨a', c', rfl, _, hg⟩ := own_in h2' (by rw [h.1]; omega)
    obtain ⟨g, rfl, hg1, hg2⟩ := hg (by rw [h.1]; omega)
    rw [h.1] at hrun h2'
    refine ⟨g, c', w', hrun, h2', below_gr hb0 h3 (Nat.le_refl _), hg1, hg2⟩
theorem wpList_giv {ops : Array Oper} {rest : List Oper} {o : Oper} {a : Act} {Q : Exit → Act → World → Prop} (hgd : o.guard = none) (s x : Operand) (hop : o.op = .call { callee := .builtin .append, args := #[s, x], argTypes := #[22, 22] })
    {W W' : World} {v u v' : Value} (hr : (Builtin.append_ #[22, 22] o.type #[v, u]).run Tryd.prog W = .ok v' W') (hs : a.eval s = v) (hx : a.eval x = u)
    (hk : wpList Tryd.prog ops Q rest (a.put o.dst v') W') : wpList Tryd.prog ops Q (o :: rest) a W := by
  refine wpList_plain hgd fun K hK => ?_
  unfold Oper.wp execOp
  simp only [hop, resolve, invoke, builtin, Sem.run_bind, Sem.run_pure, Result.andThen_ok, List.map_toArray, List.map_cons, List.map_nil, hs, hx, hr]
  exact hK _ _ hk
theorem blk_map {w w' : World} {d t m : Nat} {x : Value} {L : List Value} {l : Kv} (h : Blk w d t (x :: L)) (hm : MP w m l) (hg : w.grownBy w' (some m)) : Blk w' d t (x :: L) := h.kept hg (fun e => by
  cases e
  exact mp_not_cells hm (h.cell (i := 0) rfl))
/-- a row of tokens is in neither -/
theorem TkR.map {w w' : World} {v : Value} {L : List Tk} {m : Nat} {l : Kv} (h : TkR w v L) (hm : MP w m l) (hg : w.grownBy w' (some m)) : TkR w' v L := by
  obtain ⟨hk, a, cap, rfl, h1, h2, h3⟩ := h
  refine ⟨hk, a, cap, rfl, h1, h2, fun hp => ?_⟩
  obtain ⟨b, off, e1, e2, e3⟩ := h3 hp
  have hbm : b ≠ m := fun e => by
    subst e
    exact mp_not_cells hm (e3 0 _ (List.getElem?_eq_getElem hp) 0 _ rfl)
  exact ⟨b, off, e1, Nat.lt_of_lt_of_le e2 hg.size, fun i e he => rangeAt_same (e3 i e he) (hg.block b e2 (by simp; omega))⟩
theorem TkR.cells {w w' : World} {v : Value} {L : List Tk} {d : Nat} {sx : BA} {ax : Option Addr} {nx cx : Nat} (h : TkR w v L) (hd : Blk w d 30 [.string sx, .slice ax nx cx]) (hg : w.grownBy w' (some d)) : TkR w' v L := by
  obtain ⟨hk, a, cap, rfl, h1, h2, h3⟩ := h
  refine ⟨hk, a, cap, rfl, h1, h2, fun hp => ?_⟩
  obtain ⟨b, off, e1, e2, e3⟩ := h3 hp
  have hbd : b ≠ d := fun e => by
    subst e
    have hr := e3 0 _ (List.getElem?_eq_getElem hp)
    have k1 := hr 1 _ rfl
    have h5 : off = 0 ∨ 1 ≤ off := by omega
    rcases h5 with h5 | h5
    · subst h5
      rw [hd.cell (i := 1) rfl] at k1
      cases k1
    · unfold World.cell? at k1
      rw [show w.heap[b]? = _ from hd] at k1
      simp at k1
      rw [List.getElem?_eq_none (by show 1 ≤ off; omega)] at k1
      cases k1
  exact ⟨b, off, e1, Nat.lt_of_lt_of_le e2 hg.size, fun i e he => rangeAt_same (e3 i e he) (hg.block b e2 (by simp; omega))⟩
/-- the program's book and the document's, side by side -/
structure PI (w : World) (b m d7 : Nat) (S : List UInt8) (G : List Gr) (sec : BA) (a : Option Addr) (n c : Nat) (W : World) : Prop where
  bel : Below w.heap.size w W
  bk : BkAt W b m S G
  r : RB W S G sec a n c
  cell : Blk W d7 30 [.string sec, .slice a n c]
  ld : w.heap.size ≤ d7
  lm : w.heap.size ≤ m
theorem PI.below {w W W' : World} {b m d7 : Nat} {S : List UInt8} {G : List Gr} {sec : BA} {a : Option Addr} {n c : Nat} (h : PI w b m d7 S G sec a n c W) (hb : Below W.heap.size W W') : PI w b m d7 S G sec a n c W' :=
  ⟨below_tr h.bel hb, h.bk.below hb, h.r.below hb, h.cell.below hb h.cell.lt, h.ld, h.lm⟩
/-- behind a call that turned the map -/
theorem PI.mapped {w W W' : World} {b m d7 : Nat} {S : List UInt8} {G G' : List Gr} {sec : BA} {a : Option Addr} {n c : Nat} (h : PI w b m d7 S G sec a n c W) (hB : BkAt W' b m S G') (hg : W.grownBy W' (some m)) :
    Below w.heap.size w W' ∧ BkAt W' b m S G' ∧ RB W' S G sec a n c ∧ Blk W' d7 30 [.string sec, .slice a n c] ∧ w.heap.size ≤ d7 ∧ w.heap.size ≤ m :=
  ⟨below_gr h.bel hg h.lm, hB, ⟨h.r.sec, h.r.row.map h.bk.map hg, h.r.len⟩, blk_map h.cell h.bk.map hg, h.ld, h.lm⟩
/-- behind the store of the document's book -/
theorem pi_stored {w W W' : World} {b m d7 : Nat} {S : List UInt8} {G' : List Gr} {sec : BA} {a a' : Option Addr} {n c n' c' : Nat} (h : Below w.heap.size w W ∧ BkAt W b m S G' ∧ Blk W d7 30 [.string sec, .slice a n c] ∧ w.heap.size ≤ d7 ∧ w.heap.size ≤ m) (hr : RB W S G' sec a' n' c')
    (hx : Blk W' d7 30 [.string sec, .slice a' n' c']) (hg : W.grownBy W' (some d7)) : PI w b m d7 S G' sec a' n' c' W' :=
  ⟨below_gr h.1 hg h.2.2.2.1, bk_cells h.2.1 h.2.2.1 hg, ⟨hr.sec, hr.row.cells h.2.2.1 hg, hr.len⟩, hx, h.2.2.2.1, h.2.2.2.2⟩
/-- another block than the book's cells -/
theorem blk_d10 {w w' : World} {d10 d7 : Nat} {q : ActV} {x y : Value} (h : Blk w d10 32 q.cells) (h7 : Blk w d7 30 [x, y]) (hg : w.grownBy w' (some d7)) : Blk w' d10 32 q.cells := h.kept hg (fun e => by
  cases e
  have := h.symm.trans h7
  simp at this)
theorem str_eq {X Y : BA} (h : X.data.toList = Y.data.toList) : X = Y := by
  cases X with | mk x => cases Y with | mk y => congr 1; exact Array.toList_inj.1 h
def SP (w : World) (b m d7 F g5 n c5 : Nat) (S : List UInt8) (sec : BA) (wr : World) : Prop := ∃ (L : List UInt8) (B : Nat), L.length = n ∧ Own 5 B wr (.slice (some ⟨g5, 0, none⟩) n c5) L ∧ BkAt wr b m S [] ∧ BkHi wr b m F ∧ Blk wr d7 30 [.string sec, .slice none 0 0] ∧ Below w.heap.size w wr
set_option maxRecDepth 100000 in
set_option maxHeartbeats 8000000 in
theorem plays_law {w : World} {a a1 : Option Addr} {n cp n1 cp1 : Nat} {S : List UInt8} {l : List ActV} (hS : In w a n cp S) (hA : ArgA w a1 n1 l) (hV : VT w) : Calls Tryd.prog 3 #[.slice a n cp, .slice a1 n1 cp1] w fun e w' => e = .returned (.bool true) ∧ Below w.heap.size w w' := by
  have HV : Hid (VT w) := hV
  have HS : Hid (In w a n cp S) := hS
  have HA : Hid (ArgA w a1 n1 l) := hA
  have qn : (n : Int) ≤ 140737488355328 := by have := hS.2.2.1; omega
  have qn1 : (n1 : Int) ≤ 140737488355328 := by have := hA.2.1; omega
  clear hV hS hA
  go_enter Tryd.func3, Tryd.ntmps3
  go_wp2_with fail
  refine (few_is HA.out).mono ?_
  rintro e X ⟨B, rfl, hF, hbX⟩
  have HX : Hid (Below w.heap.size w X) := hbX
  clear hbX
  cases B
  · clear hF
    go_wp2_with fail
    refine (lives_is X (HV.out.below HX.out)).mono ?_
    rintro e WL ⟨rfl, hbL⟩
    have HBL : Hid (Below w.heap.size w WL) := below_tr HX.out hbL
    clear hbL
    go_wp2
    go_ret
    exact ⟨rfl, HBL.out⟩
  by_cases hb1 : (10000 : Int) < (n : Int)
  · clear hF
    go_wp2_with fail
    refine (lives_is X (HV.out.below HX.out)).mono ?_
    rintro e WL ⟨rfl, hbL⟩
    have HBL : Hid (Below w.heap.size w WL) := below_tr HX.out hbL
    clear hbL
    go_wp2
    go_ret
    exact ⟨rfl, HBL.out⟩
  have q1 : (n : Int) ≤ 10000 := by omega
  have HF : Hid ((l.length ≤ 100 ∧ ∀ q ∈ l, q.u.size ≤ 15000 ∧ q.x.size ≤ 15000) ∧ n ≤ 10000) := ⟨hF rfl, by omega⟩
  clear hF hb1 qn
  go_wp2_with (with_reducible change wpList _ _ _ ({ dst := some 32, op := _, type := _, pos := _, after := _, guard := _ } :: _) _ _; refine Hid.out ?_)
  show wpList _ _ _ _ _ _
  refine wpList_bs22 rfl rfl ?_
  go_wp2_with (with_reducible change wpList _ _ _ ({ dst := some 34, op := _, type := _, pos := _, after := _, guard := _ } :: _) _ _; refine Hid.out ?_)
  show wpList _ _ _ _ _ _
  obtain ⟨g5, c5, W1, hr, ho5, hb1, hg5, hg5'⟩ := run_giv (HS.out.below HX.out) (by have := HF.out.2; omega) 22
  refine wpList_giv rfl (.tmp 32) (.tmp 33) rfl hr rfl rfl ?_
  obtain ⟨sec, hsec⟩ : ∃ s : BA, (⟨S.toArray⟩ : BA) = s := ⟨_, rfl⟩
  have HE : Hid (sec.data.toList = S ∧ S.length = n) := ⟨by rw [← hsec], HS.out.1⟩
  have hin5 : In W1 (some ⟨g5, 0, none⟩) n c5 S := by
    obtain ⟨a', c', e1, e2, _⟩ := own_in ho5 (by rw [HE.out.2]; have := HF.out.2; omega)
    injection e1 with e1 e3 e4
    subst e1 e4
    rw [HE.out.2] at e2
    exact e2
  have H10 : Hid (∀ V, Below W1.heap.size W1 V → Calls Tryd.prog 10 #[.slice (some ⟨g5, 0, none⟩) n c5] V (NwQ V S)) := fun V hV => newtok_hi (hin5.below hV) (by have := HF.out.2; omega)
  have H1 : Hid (Own 5 X.heap.size W1 (.slice (some ⟨g5, 0, none⟩) n c5) S ∧ Below w.heap.size w W1 ∧ g5 < W1.heap.size ∧ X.heap.size ≤ g5 ∧ w.heap.size ≤ g5) := ⟨ho5, below_tr HX.out hb1, hg5', hg5, Nat.le_trans HX.out.size hg5⟩
  have HCV : Hid (∀ V, Below W1.heap.size W1 V → (convert 22 9 (.slice a n cp)).run Tryd.prog V = .ok (.string sec) V) := fun V hV => by rw [← hsec]; exact string_in Tryd.underlying22 Tryd.underlying5 Tryd.underlying9 (HS.out.below (below_tr H1.out.2.1 hV))
  clear hr ho5 hb1 hg5 hg5' hsec hin5
  go_wp2_with fail
  refine pl4 (S := S) H10 HCV ?_
  intro V1 b m d7 hBk hBl hbV hHi hd7
  obtain ⟨F, hFF⟩ : ∃ F, W1.heap.size = F := ⟨_, rfl⟩
  rw [hFF] at hHi hd7
  have HC : Hid (g5 < F ∧ F ≤ d7 ∧ w.heap.size ≤ g5 ∧ F ≤ m) := ⟨by have := H1.out.2.2.1; omega, hd7, H1.out.2.2.2.2, by obtain ⟨_, _, _, _, _, h, _⟩ := hHi; exact h⟩
  have H2 : Hid (SP w b m d7 F g5 n c5 S sec V1) := ⟨S, _, HE.out.2, H1.out.1.below hbV (Nat.le_refl _), hBk, hHi, hBl, below_tr H1.out.2.1 hbV⟩
  clear hBk hBl hbV hHi hd7 hFF H10 HCV H1
  go_wp2_with fail
  go_loopw [42] (fun u wr => ∃ i : Nat, u = iv (i : Int) ∧ (i : Int) ≤ (n : Int) ∧ Hid (SP w b m d7 F g5 n c5 S sec wr)) (fun u _ => n - (intOf u).toNat)
  case atStart => exact ⟨0, rfl, by omega, H2.out⟩
  case round =>
    clear H2
    obtain ⟨W0, hW0⟩ : ∃ W0, W0 = wr := ⟨_, rfl⟩
    subst hW0
    obtain ⟨i, rfl, qi, HI⟩ := hrel
    by_cases hi : i = n
    · subst hi
      have HP0 : Hid (PI w b m d7 S [] sec none 0 0 W0) := by
        obtain ⟨L, B, -, -, h1, h2, h3, h4⟩ := HI.out
        exact ⟨h4, h1, ⟨HE.out.1, TkR.nil _, rfl⟩, h3, by have := HC.out; omega, by have := HC.out; omega⟩
      clear HI qi
      go_wp2_with fail
      go_loopw [54] (fun u wr => ∃ i : Nat, u = iv (i : Int) ∧ (i : Int) ≤ (n1 : Int) ∧ Hid (∃ G ar nr cr, PI w b m d7 S G sec ar nr cr wr)) (fun u _ => n1 - (intOf u).toNat)
      case atStart => exact ⟨0, rfl, by omega, _, _, _, _, HP0.out⟩
      case round =>
        clear HP0
        obtain ⟨W2, hW2⟩ : ∃ W2, W2 = wr := ⟨_, rfl⟩
        subst hW2
        obtain ⟨j, rfl, qj, HI⟩ := hrel
        obtain ⟨G, ar, nr, cr, hPI⟩ := HI.out
        have HP : Hid (PI w b m d7 S G sec ar nr cr W2) := hPI
        clear HI hPI
        by_cases hj : j = n1
        · subst hj
          go_wp2_with fail
          refine (lives_is W2 (HV.out.below HP.out.bel)).mono ?_
          rintro e WL ⟨rfl, hbL⟩
          have HBL : Hid (Below w.heap.size w WL) := below_tr HP.out.bel hbL
          clear hbL
          go_wp2
          go_ret
          exact ⟨rfl, HBL.out⟩
        · have qj2 : (j : Int) < (n1 : Int) := by omega
          have HJ : Hid (j < n1) := by show _ < _; omega
          obtain ⟨q, hq⟩ : ∃ q, l[j]? = some q := ⟨_, List.getElem?_eq_getElem (by rw [HA.out.1]; exact HJ.out)⟩
          obtain ⟨b0, off, rfl, hb0, hel⟩ := HA.out.2.2.2 (by have := HJ.out; omega)
          have HQ : Hid (q.u.size ≤ 15000 ∧ q.x.size ≤ 15000 ∧ S.length ≤ 20000) := ⟨(HF.out.1.2 q (List.mem_of_getElem? hq)).1, (HF.out.1.2 q (List.mem_of_getElem? hq)).2, by have := HE.out.2; have := HF.out.2; omega⟩
          have HR0 : Hid (W2.rangeAt b0 (off + j * 7) q.cells) := rangeAt_same (hel j q hq) (HP.out.bel.block b0 hb0)
          obtain ⟨d10, hd10⟩ : ∃ g, W2.heap.size = g := ⟨_, rfl⟩
          have hz := zero32
          clear hj hq hb0 hel
          go_wp2_with (with_reducible change wpList _ _ _ ({ dst := some 57, op := _, type := _, pos := _, after := _, guard := _ } :: _) _ _; refine Hid.out ?_)
          show wpList _ _ _ _ _ _
          refine wpList_load_mid rfl 32 (.tmp 56) rfl b0 (off + j * 7) rfl q.cells _ HR0.out Tryd.underlying32 rfl (size32 q) ?_
          go_wp2_with (with_reducible change wpList _ _ _ ({ dst := none, op := Op.store 32 _ _, type := _, pos := _, after := _, guard := _ } :: _) _ _; refine Hid.out ?_)
          show wpList _ _ _ _ _ _
          refine wpList_store_blk rfl 32 (.tmp 10) (.tmp 57) rfl d10 0 32 [iv 0, .string e0, .string e0, iv 0, iv 0, iv 0, .bool false] q.cells rfl rfl (by rw [← hd10]; exact Blk.new W2 _ _) (by show 0 + 7 ≤ 7; omega) (size32 q) q.one ?_
          intro W3 hx3 hg3
          have hb23 : Below W2.heap.size W2 W3 := below_gr (below_al W2 _) hg3.out (by rw [hd10]; exact Nat.le_refl _)
          have HP3 : Hid (PI w b m d7 S G sec ar nr cr W3 ∧ Blk W3 d10 32 q.cells ∧ W3.heap.size = W3.heap.size) := ⟨HP.out.below hb23, blk_all hx3.out rfl, rfl⟩
          clear hx3 hg3 hb23 HP HR0 hz hd10
          have c0 : W3.cell? ⟨d10, 0, none⟩ = some (iv q.kind) := HP3.out.2.1.cell rfl
          obtain ⟨kd, hkd⟩ : ∃ k, q.kind = k := ⟨_, rfl⟩
          have HKD : Hid (q.kind = kd) := hkd
          rw [hkd] at c0
          clear hkd
          by_cases hk0 : kd = 0
          · subst hk0
            have HN1 : Hid (q.kind = 0) := HKD.out
            clear HKD
            go_wp2_with fail
            go_loopw [11] (fun u wr => ∃ k : Nat, u = iv (k : Int) ∧ (k : Int) ≤ 260 ∧ Hid (∃ G ar nr cr, PI w b m d7 S G sec ar nr cr wr ∧ Blk wr d10 32 q.cells)) (fun u _ => 260 - (intOf u).toNat)
            case atStart => exact ⟨0, rfl, by omega, _, _, _, _, HP3.out.1, HP3.out.2.1⟩
            case round =>
              obtain ⟨W5, hW5⟩ : ∃ W5, W5 = wr := ⟨_, rfl⟩
              subst hW5
              obtain ⟨k, rfl, qk, HI⟩ := hrel
              clear HP3 c0
              obtain ⟨G, ar, nr, cr, hPI, hD⟩ := HI.out
              have HP : Hid (PI w b m d7 S G sec ar nr cr W5 ∧ Blk W5 d10 32 q.cells) := ⟨hPI, hD⟩
              have c0 : W5.cell? ⟨d10, 0, none⟩ = some (iv 0) := by rw [← HN1.out]; exact hD.cell rfl
              have c1 : W5.cell? ⟨d10, 1, none⟩ = some (.string q.u) := hD.cell rfl
              have c3 : W5.cell? ⟨d10, 3, none⟩ = some (iv q.now) := hD.cell rfl
              have c4 : W5.cell? ⟨d10, 4, none⟩ = some (iv q.til) := hD.cell rfl
              have c5' : W5.cell? ⟨d10, 5, none⟩ = some (iv q.n) := hD.cell rfl
              clear HI hPI hD
              by_cases hk : k = 0
              · subst hk
                go_wp2_with fail
                refine (issue_is HP.out.1.bk (HV.out.below HP.out.1.bel) q.u HQ.out.1 q.now q.til).mono ?_
                intro e W6 hi
                obtain ⟨E, hE⟩ : ∃ E, issE G q.u q.now q.til = E := ⟨_, rfl⟩
                have HEE : Hid (issE G q.u q.now q.til = E) := hE
                rcases hi with ⟨hne, rfl, hb6⟩ | ⟨h0, Y, hY, rfl, hB6, hg6⟩
                · have H6 : Hid (PI w b m d7 S G sec ar nr cr W6 ∧ Blk W6 d10 32 q.cells ∧ E ≠ 0) := ⟨HP.out.1.below hb6, HP.out.2.below hb6 HP.out.2.lt, by rw [← hE]; exact hne⟩
                  rw [hE]
                  clear hb6 hne hE HP c0 c1 c3 c4 c5'
                  have c1 : W6.cell? ⟨d10, 1, none⟩ = some (.string q.u) := H6.out.2.1.cell rfl
                  have c3 : W6.cell? ⟨d10, 3, none⟩ = some (iv q.now) := H6.out.2.1.cell rfl
                  have c4 : W6.cell? ⟨d10, 4, none⟩ = some (iv q.til) := H6.out.2.1.cell rfl
                  go_wp2_with (with_reducible change wpList _ _ _ ({ dst := some 109, op := _, type := _, pos := _, after := _, guard := _ } :: _) _ _; refine Hid.out ?_)
                  show wpList _ _ _ _ _ _
                  refine wpList_load_mid rfl 30 (.tmp 7) rfl d7 0 rfl [.string sec, .slice ar nr cr] _ H6.out.1.cell.range0 Tryd.underlying30 rfl (size30 _ _) ?_
                  go_wp2_with fail
                  refine (rissue_is H6.out.1.r H6.out.1.bk.few HQ.out.2.2 q.u HQ.out.1 q.now q.til).mono ?_
                  intro e W7 hi
                  have hi2 : e = .returned (.tuple #[.agg #[.string sec, .slice ar nr cr], .string e0, iv E]) ∧ Below W6.heap.size W6 W7 := by
                    obtain ⟨hi, hb⟩ := hi
                    rcases hi with ⟨_, h⟩ | ⟨h, _⟩
                    · rw [HEE.out] at h; exact ⟨h, hb⟩
                    · rw [HEE.out] at h; exact absurd h H6.out.2.2
                  clear hi
                  obtain ⟨rfl, hb7⟩ := hi2
                  have H7 : Hid (PI w b m d7 S G sec ar nr cr W7 ∧ Blk W7 d10 32 q.cells) := ⟨H6.out.1.below hb7, H6.out.2.1.below hb7 H6.out.2.1.lt⟩
                  clear hb7 c1 c3 c4 H6
                  go_wp2_with (with_reducible change wpList _ _ _ ({ dst := none, op := Op.store 30 _ _, type := _, pos := _, after := _, guard := _ } :: _) _ _; refine Hid.out ?_)
                  show wpList _ _ _ _ _ _
                  refine wpList_store_blk rfl 30 (.tmp 7) (.tmp 117) rfl d7 0 30 [.string sec, .slice ar nr cr] [.string sec, .slice ar nr cr] rfl rfl H7.out.1.cell (by show 0 + 2 ≤ 2; omega) (size30 _ _) (rb_one _ _ _ _) ?_
                  intro W8 hx8 hg8
                  have H8 : Hid (PI w b m d7 S G sec ar nr cr W8 ∧ Blk W8 d10 32 q.cells) := ⟨pi_stored ⟨H7.out.1.bel, H7.out.1.bk, H7.out.1.cell, H7.out.1.ld, H7.out.1.lm⟩ H7.out.1.r (blk_all hx8.out rfl) hg8.out, blk_d10 H7.out.2 H7.out.1.cell hg8.out⟩
                  clear hx8 hg8 H7
                  have hEq : (E != E) = false := by simp
                  go_wp2
                  go_roundw
                  case rel => exact ⟨1, by simp, by omega, _, _, _, _, H8.out.1, H8.out.2⟩
                  case measure => simp only [intOf]; omega
                · have H6 : Hid ((Below w.heap.size w W6 ∧ BkAt W6 b m S (G ++ [⟨q.u, q.til.toNat, false⟩]) ∧ RB W6 S G sec ar nr cr ∧ Blk W6 d7 30 [.string sec, .slice ar nr cr] ∧ w.heap.size ≤ d7 ∧ w.heap.size ≤ m) ∧ Blk W6 d10 32 q.cells) := ⟨HP.out.1.mapped hB6 hg6, blk_map HP.out.2 HP.out.1.bk.map hg6⟩
                  have HY : Hid (Y.data.toList = keyG S G.length ⟨q.u, q.til.toNat, false⟩ ∧ issE G q.u q.now q.til = 0 ∧ G.length ≤ 256) := ⟨hY, h0, HP.out.1.bk.few⟩
                  clear hB6 hg6 hY h0 hE HP c0 c1 c3 c4 c5'
                  have c1 : W6.cell? ⟨d10, 1, none⟩ = some (.string q.u) := H6.out.2.cell rfl
                  have c3 : W6.cell? ⟨d10, 3, none⟩ = some (iv q.now) := H6.out.2.cell rfl
                  have c4 : W6.cell? ⟨d10, 4, none⟩ = some (iv q.til) := H6.out.2.cell rfl
                  go_wp2_with (with_reducible change wpList _ _ _ ({ dst := some 109, op := _, type := _, pos := _, after := _, guard := _ } :: _) _ _; refine Hid.out ?_)
                  show wpList _ _ _ _ _ _
                  refine wpList_load_mid rfl 30 (.tmp 7) rfl d7 0 rfl [.string sec, .slice ar nr cr] _ H6.out.1.2.2.2.1.range0 Tryd.underlying30 rfl (size30 _ _) ?_
                  go_wp2_with fail
                  refine (rissue_is H6.out.1.2.2.1 HY.out.2.2 HQ.out.2.2 q.u HQ.out.1 q.now q.til).mono ?_
                  intro e W7 hi
                  have hi2 : ∃ (a' : Option Addr) (c' : Nat), e = .returned (.tuple #[.agg #[.string sec, .slice a' (nr + 1) c'], .string Y, iv 0]) ∧ RB W7 S (G ++ [⟨q.u, q.til.toNat, false⟩]) sec a' (nr + 1) c' ∧ Below W6.heap.size W6 W7 := by
                    obtain ⟨hi, hb⟩ := hi
                    rcases hi with ⟨h, _⟩ | ⟨_, Y2, a', c', h1, h2, h3⟩
                    · exact absurd HY.out.2.1 h
                    · obtain rfl : Y = Y2 := str_eq (HY.out.1.trans h1.symm)
                      exact ⟨a', c', h2, h3, hb⟩
                  clear hi
                  obtain ⟨a', c', rfl, hR7, hb7⟩ := hi2
                  have H7 : Hid ((Below w.heap.size w W7 ∧ BkAt W7 b m S (G ++ [⟨q.u, q.til.toNat, false⟩]) ∧ Blk W7 d7 30 [.string sec, .slice ar nr cr] ∧ w.heap.size ≤ d7 ∧ w.heap.size ≤ m) ∧ RB W7 S (G ++ [⟨q.u, q.til.toNat, false⟩]) sec a' (nr + 1) c' ∧ Blk W7 d10 32 q.cells) := ⟨⟨below_tr H6.out.1.1 hb7, H6.out.1.2.1.below hb7, H6.out.1.2.2.2.1.below hb7 H6.out.1.2.2.2.1.lt, H6.out.1.2.2.2.2⟩, hR7, H6.out.2.below hb7 H6.out.2.lt⟩
                  clear hb7 hR7 c1 c3 c4 H6
                  go_wp2_with (with_reducible change wpList _ _ _ ({ dst := none, op := Op.store 30 _ _, type := _, pos := _, after := _, guard := _ } :: _) _ _; refine Hid.out ?_)
                  show wpList _ _ _ _ _ _
                  refine wpList_store_blk rfl 30 (.tmp 7) (.tmp 117) rfl d7 0 30 [.string sec, .slice ar nr cr] [.string sec, .slice a' (nr + 1) c'] rfl rfl H7.out.1.2.2.1 (by show 0 + 2 ≤ 2; omega) (size30 _ _) (rb_one _ _ _ _) ?_
                  intro W8 hx8 hg8
                  have H8 : Hid (PI w b m d7 S (G ++ [⟨q.u, q.til.toNat, false⟩]) sec a' (nr + 1) c' W8 ∧ Blk W8 d10 32 q.cells) := ⟨pi_stored H7.out.1 H7.out.2.1 (blk_all hx8.out rfl) hg8.out, blk_d10 H7.out.2.2 H7.out.1.2.2.1 hg8.out⟩
                  clear hx8 hg8 H7
                  have hYY : (Y.toList != Y.toList) = false := by simp
                  go_wp2
                  go_roundw
                  case rel => exact ⟨1, by simp, by omega, _, _, _, _, H8.out.1, H8.out.2⟩
                  case measure => simp only [intOf]; omega
              · have qk1 : 1 ≤ (k : Int) := by omega
                clear hk
                have HPX : Hid (PI w b m d7 S G sec ar nr cr W5) := HP.out.1
                clear HP c1 c3 c4
                have HL9 : Hid (d7 < W5.heap.size ∧ True) := ⟨HPX.out.cell.lt, trivial⟩
                have c9 : W5.cell? ⟨d7, 1, none⟩ = some (.slice ar nr cr) := HPX.out.cell.cell rfl
                have H18 : Hid (∀ V, Below W5.heap.size W5 V → Calls Tryd.prog 18 #[.pointer (some ⟨b, 0, none⟩)] V fun e V2 => e = .returned (iv ((nr : Nat) : Int)) ∧ V = V2) := fun V hV => by rw [HPX.out.r.len]; exact len_is (HPX.out.bk.below hV)
                go_wp2_with fail
                clear c0 c5'
                refine pl36 (d10 := 0) HL9 c9 H18 ?_
                intro V9 hb9
                have HP9 : Hid (PI w b m d7 S G sec ar nr cr V9) := HPX.out.below hb9
                clear hb9 HL9 c9 H18
                go_wp2
                go_roundw
                case rel => exact ⟨j + 1, by simp, by have := HJ.out; omega, _, _, _, _, HP9.out⟩
                case measure => have := HJ.out; simp only [intOf]; omega
          by_cases hk3 : kd = 3
          · subst hk3
            have HN1 : Hid (q.kind = 3) := HKD.out
            clear HKD hk0
            go_wp2_with fail
            go_loopw [11] (fun u wr => ∃ k : Nat, u = iv (k : Int) ∧ (k : Int) ≤ 260 ∧ Hid (∃ G ar nr cr, PI w b m d7 S G sec ar nr cr wr ∧ Blk wr d10 32 q.cells)) (fun u _ => 260 - (intOf u).toNat)
            case atStart => exact ⟨0, rfl, by omega, _, _, _, _, HP3.out.1, HP3.out.2.1⟩
            case round =>
              obtain ⟨W5, hW5⟩ : ∃ W5, W5 = wr := ⟨_, rfl⟩
              subst hW5
              obtain ⟨k, rfl, qk, HI⟩ := hrel
              clear HP3 c0
              obtain ⟨G, ar, nr, cr, hPI, hD⟩ := HI.out
              have HP : Hid (PI w b m d7 S G sec ar nr cr W5 ∧ Blk W5 d10 32 q.cells) := ⟨hPI, hD⟩
              have c0 : W5.cell? ⟨d10, 0, none⟩ = some (iv 3) := by rw [← HN1.out]; exact hD.cell rfl
              have c1 : W5.cell? ⟨d10, 1, none⟩ = some (.string q.u) := hD.cell rfl
              have c3 : W5.cell? ⟨d10, 3, none⟩ = some (iv q.now) := hD.cell rfl
              have c4 : W5.cell? ⟨d10, 4, none⟩ = some (iv q.til) := hD.cell rfl
              have c5' : W5.cell? ⟨d10, 5, none⟩ = some (iv q.n) := hD.cell rfl
              clear HI hPI hD
              by_cases hk : k = 0
              · subst hk
                go_wp2_with fail
                refine (issue_is HP.out.1.bk (HV.out.below HP.out.1.bel) q.u HQ.out.1 q.now q.til).mono ?_
                intro e W6 hi
                obtain ⟨E, hE⟩ : ∃ E, issE G q.u q.now q.til = E := ⟨_, rfl⟩
                have HEE : Hid (issE G q.u q.now q.til = E) := hE
                rcases hi with ⟨hne, rfl, hb6⟩ | ⟨h0, Y, hY, rfl, hB6, hg6⟩
                · have H6 : Hid (PI w b m d7 S G sec ar nr cr W6 ∧ Blk W6 d10 32 q.cells ∧ E ≠ 0) := ⟨HP.out.1.below hb6, HP.out.2.below hb6 HP.out.2.lt, by rw [← hE]; exact hne⟩
                  rw [hE]
                  clear hb6 hne hE HP c0 c1 c3 c4 c5'
                  have c1 : W6.cell? ⟨d10, 1, none⟩ = some (.string q.u) := H6.out.2.1.cell rfl
                  have c3 : W6.cell? ⟨d10, 3, none⟩ = some (iv q.now) := H6.out.2.1.cell rfl
                  have c4 : W6.cell? ⟨d10, 4, none⟩ = some (iv q.til) := H6.out.2.1.cell rfl
                  go_wp2_with (with_reducible change wpList _ _ _ ({ dst := some 109, op := _, type := _, pos := _, after := _, guard := _ } :: _) _ _; refine Hid.out ?_)
                  show wpList _ _ _ _ _ _
                  refine wpList_load_mid rfl 30 (.tmp 7) rfl d7 0 rfl [.string sec, .slice ar nr cr] _ H6.out.1.cell.range0 Tryd.underlying30 rfl (size30 _ _) ?_
                  go_wp2_with fail
                  refine (rissue_is H6.out.1.r H6.out.1.bk.few HQ.out.2.2 q.u HQ.out.1 q.now q.til).mono ?_
                  intro e W7 hi
                  have hi2 : e = .returned (.tuple #[.agg #[.string sec, .slice ar nr cr], .string e0, iv E]) ∧ Below W6.heap.size W6 W7 := by
                    obtain ⟨hi, hb⟩ := hi
                    rcases hi with ⟨_, h⟩ | ⟨h, _⟩
                    · rw [HEE.out] at h; exact ⟨h, hb⟩
                    · rw [HEE.out] at h; exact absurd h H6.out.2.2
                  clear hi
                  obtain ⟨rfl, hb7⟩ := hi2
                  have H7 : Hid (PI w b m d7 S G sec ar nr cr W7 ∧ Blk W7 d10 32 q.cells) := ⟨H6.out.1.below hb7, H6.out.2.1.below hb7 H6.out.2.1.lt⟩
                  clear hb7 c1 c3 c4 H6
                  go_wp2_with (with_reducible change wpList _ _ _ ({ dst := none, op := Op.store 30 _ _, type := _, pos := _, after := _, guard := _ } :: _) _ _; refine Hid.out ?_)
                  show wpList _ _ _ _ _ _
                  refine wpList_store_blk rfl 30 (.tmp 7) (.tmp 117) rfl d7 0 30 [.string sec, .slice ar nr cr] [.string sec, .slice ar nr cr] rfl rfl H7.out.1.cell (by show 0 + 2 ≤ 2; omega) (size30 _ _) (rb_one _ _ _ _) ?_
                  intro W8 hx8 hg8
                  have H8 : Hid (PI w b m d7 S G sec ar nr cr W8 ∧ Blk W8 d10 32 q.cells) := ⟨pi_stored ⟨H7.out.1.bel, H7.out.1.bk, H7.out.1.cell, H7.out.1.ld, H7.out.1.lm⟩ H7.out.1.r (blk_all hx8.out rfl) hg8.out, blk_d10 H7.out.2 H7.out.1.cell hg8.out⟩
                  clear hx8 hg8 H7
                  have hEq : (E != E) = false := by simp
                  go_wp2
                  go_roundw
                  case rel => exact ⟨1, by simp, by omega, _, _, _, _, H8.out.1, H8.out.2⟩
                  case measure => simp only [intOf]; omega
                · have H6 : Hid ((Below w.heap.size w W6 ∧ BkAt W6 b m S (G ++ [⟨q.u, q.til.toNat, false⟩]) ∧ RB W6 S G sec ar nr cr ∧ Blk W6 d7 30 [.string sec, .slice ar nr cr] ∧ w.heap.size ≤ d7 ∧ w.heap.size ≤ m) ∧ Blk W6 d10 32 q.cells) := ⟨HP.out.1.mapped hB6 hg6, blk_map HP.out.2 HP.out.1.bk.map hg6⟩
                  have HY : Hid (Y.data.toList = keyG S G.length ⟨q.u, q.til.toNat, false⟩ ∧ issE G q.u q.now q.til = 0 ∧ G.length ≤ 256) := ⟨hY, h0, HP.out.1.bk.few⟩
                  clear hB6 hg6 hY h0 hE HP c0 c1 c3 c4 c5'
                  have c1 : W6.cell? ⟨d10, 1, none⟩ = some (.string q.u) := H6.out.2.cell rfl
                  have c3 : W6.cell? ⟨d10, 3, none⟩ = some (iv q.now) := H6.out.2.cell rfl
                  have c4 : W6.cell? ⟨d10, 4, none⟩ = some (iv q.til) := H6.out.2.cell rfl
                  go_wp2_with (with_reducible change wpList _ _ _ ({ dst := some 109, op := _, type := _, pos := _, after := _, guard := _ } :: _) _ _; refine Hid.out ?_)
                  show wpList _ _ _ _ _ _
                  refine wpList_load_mid rfl 30 (.tmp 7) rfl d7 0 rfl [.string sec, .slice ar nr cr] _ H6.out.1.2.2.2.1.range0 Tryd.underlying30 rfl (size30 _ _) ?_
                  go_wp2_with fail
                  refine (rissue_is H6.out.1.2.2.1 HY.out.2.2 HQ.out.2.2 q.u HQ.out.1 q.now q.til).mono ?_
                  intro e W7 hi
                  have hi2 : ∃ (a' : Option Addr) (c' : Nat), e = .returned (.tuple #[.agg #[.string sec, .slice a' (nr + 1) c'], .string Y, iv 0]) ∧ RB W7 S (G ++ [⟨q.u, q.til.toNat, false⟩]) sec a' (nr + 1) c' ∧ Below W6.heap.size W6 W7 := by
                    obtain ⟨hi, hb⟩ := hi
                    rcases hi with ⟨h, _⟩ | ⟨_, Y2, a', c', h1, h2, h3⟩
                    · exact absurd HY.out.2.1 h
                    · obtain rfl : Y = Y2 := str_eq (HY.out.1.trans h1.symm)
                      exact ⟨a', c', h2, h3, hb⟩
                  clear hi
                  obtain ⟨a', c', rfl, hR7, hb7⟩ := hi2
                  have H7 : Hid ((Below w.heap.size w W7 ∧ BkAt W7 b m S (G ++ [⟨q.u, q.til.toNat, false⟩]) ∧ Blk W7 d7 30 [.string sec, .slice ar nr cr] ∧ w.heap.size ≤ d7 ∧ w.heap.size ≤ m) ∧ RB W7 S (G ++ [⟨q.u, q.til.toNat, false⟩]) sec a' (nr + 1) c' ∧ Blk W7 d10 32 q.cells) := ⟨⟨below_tr H6.out.1.1 hb7, H6.out.1.2.1.below hb7, H6.out.1.2.2.2.1.below hb7 H6.out.1.2.2.2.1.lt, H6.out.1.2.2.2.2⟩, hR7, H6.out.2.below hb7 H6.out.2.lt⟩
                  clear hb7 hR7 c1 c3 c4 H6
                  go_wp2_with (with_reducible change wpList _ _ _ ({ dst := none, op := Op.store 30 _ _, type := _, pos := _, after := _, guard := _ } :: _) _ _; refine Hid.out ?_)
                  show wpList _ _ _ _ _ _
                  refine wpList_store_blk rfl 30 (.tmp 7) (.tmp 117) rfl d7 0 30 [.string sec, .slice ar nr cr] [.string sec, .slice a' (nr + 1) c'] rfl rfl H7.out.1.2.2.1 (by show 0 + 2 ≤ 2; omega) (size30 _ _) (rb_one _ _ _ _) ?_
                  intro W8 hx8 hg8
                  have H8 : Hid (PI w b m d7 S (G ++ [⟨q.u, q.til.toNat, false⟩]) sec a' (nr + 1) c' W8 ∧ Blk W8 d10 32 q.cells) := ⟨pi_stored H7.out.1 H7.out.2.1 (blk_all hx8.out rfl) hg8.out, blk_d10 H7.out.2.2 H7.out.1.2.2.1 hg8.out⟩
                  clear hx8 hg8 H7
                  have hYY : (Y.toList != Y.toList) = false := by simp
                  go_wp2
                  go_roundw
                  case rel => exact ⟨1, by simp, by omega, _, _, _, _, H8.out.1, H8.out.2⟩
                  case measure => simp only [intOf]; omega
              · have qk1 : 1 ≤ (k : Int) := by omega
                clear hk
                by_cases hkn : (k : Int) < q.n
                · by_cases hk2 : (k : Int) < 260
                  · skip
                    go_wp2_with fail
                    refine (issue_is HP.out.1.bk (HV.out.below HP.out.1.bel) q.u HQ.out.1 q.now q.til).mono ?_
                    intro e W6 hi
                    obtain ⟨E, hE⟩ : ∃ E, issE G q.u q.now q.til = E := ⟨_, rfl⟩
                    have HEE : Hid (issE G q.u q.now q.til = E) := hE
                    rcases hi with ⟨hne, rfl, hb6⟩ | ⟨h0, Y, hY, rfl, hB6, hg6⟩
                    · have H6 : Hid (PI w b m d7 S G sec ar nr cr W6 ∧ Blk W6 d10 32 q.cells ∧ E ≠ 0) := ⟨HP.out.1.below hb6, HP.out.2.below hb6 HP.out.2.lt, by rw [← hE]; exact hne⟩
                      rw [hE]
                      clear hb6 hne hE HP c0 c1 c3 c4 c5'
                      have c1 : W6.cell? ⟨d10, 1, none⟩ = some (.string q.u) := H6.out.2.1.cell rfl
                      have c3 : W6.cell? ⟨d10, 3, none⟩ = some (iv q.now) := H6.out.2.1.cell rfl
                      have c4 : W6.cell? ⟨d10, 4, none⟩ = some (iv q.til) := H6.out.2.1.cell rfl
                      go_wp2_with (with_reducible change wpList _ _ _ ({ dst := some 109, op := _, type := _, pos := _, after := _, guard := _ } :: _) _ _; refine Hid.out ?_)
                      show wpList _ _ _ _ _ _
                      refine wpList_load_mid rfl 30 (.tmp 7) rfl d7 0 rfl [.string sec, .slice ar nr cr] _ H6.out.1.cell.range0 Tryd.underlying30 rfl (size30 _ _) ?_
                      go_wp2_with fail
                      refine (rissue_is H6.out.1.r H6.out.1.bk.few HQ.out.2.2 q.u HQ.out.1 q.now q.til).mono ?_
                      intro e W7 hi
                      have hi2 : e = .returned (.tuple #[.agg #[.string sec, .slice ar nr cr], .string e0, iv E]) ∧ Below W6.heap.size W6 W7 := by
                        obtain ⟨hi, hb⟩ := hi
                        rcases hi with ⟨_, h⟩ | ⟨h, _⟩
                        · rw [HEE.out] at h; exact ⟨h, hb⟩
                        · rw [HEE.out] at h; exact absurd h H6.out.2.2
                      clear hi
                      obtain ⟨rfl, hb7⟩ := hi2
                      have H7 : Hid (PI w b m d7 S G sec ar nr cr W7 ∧ Blk W7 d10 32 q.cells) := ⟨H6.out.1.below hb7, H6.out.2.1.below hb7 H6.out.2.1.lt⟩
                      clear hb7 c1 c3 c4 H6
                      go_wp2_with (with_reducible change wpList _ _ _ ({ dst := none, op := Op.store 30 _ _, type := _, pos := _, after := _, guard := _ } :: _) _ _; refine Hid.out ?_)
                      show wpList _ _ _ _ _ _
                      refine wpList_store_blk rfl 30 (.tmp 7) (.tmp 117) rfl d7 0 30 [.string sec, .slice ar nr cr] [.string sec, .slice ar nr cr] rfl rfl H7.out.1.cell (by show 0 + 2 ≤ 2; omega) (size30 _ _) (rb_one _ _ _ _) ?_
                      intro W8 hx8 hg8
                      have H8 : Hid (PI w b m d7 S G sec ar nr cr W8 ∧ Blk W8 d10 32 q.cells) := ⟨pi_stored ⟨H7.out.1.bel, H7.out.1.bk, H7.out.1.cell, H7.out.1.ld, H7.out.1.lm⟩ H7.out.1.r (blk_all hx8.out rfl) hg8.out, blk_d10 H7.out.2 H7.out.1.cell hg8.out⟩
                      clear hx8 hg8 H7
                      have hEq : (E != E) = false := by simp
                      go_wp2
                      go_roundw
                      case rel => exact ⟨k + 1, by simp, by omega, _, _, _, _, H8.out.1, H8.out.2⟩
                      case measure => simp only [intOf]; omega
                    · have H6 : Hid ((Below w.heap.size w W6 ∧ BkAt W6 b m S (G ++ [⟨q.u, q.til.toNat, false⟩]) ∧ RB W6 S G sec ar nr cr ∧ Blk W6 d7 30 [.string sec, .slice ar nr cr] ∧ w.heap.size ≤ d7 ∧ w.heap.size ≤ m) ∧ Blk W6 d10 32 q.cells) := ⟨HP.out.1.mapped hB6 hg6, blk_map HP.out.2 HP.out.1.bk.map hg6⟩
                      have HY : Hid (Y.data.toList = keyG S G.length ⟨q.u, q.til.toNat, false⟩ ∧ issE G q.u q.now q.til = 0 ∧ G.length ≤ 256) := ⟨hY, h0, HP.out.1.bk.few⟩
                      clear hB6 hg6 hY h0 hE HP c0 c1 c3 c4 c5'
                      have c1 : W6.cell? ⟨d10, 1, none⟩ = some (.string q.u) := H6.out.2.cell rfl
                      have c3 : W6.cell? ⟨d10, 3, none⟩ = some (iv q.now) := H6.out.2.cell rfl
                      have c4 : W6.cell? ⟨d10, 4, none⟩ = some (iv q.til) := H6.out.2.cell rfl
                      go_wp2_with (with_reducible change wpList _ _ _ ({ dst := some 109, op := _, type := _, pos := _, after := _, guard := _ } :: _) _ _; refine Hid.out ?_)
                      show wpList _ _ _ _ _ _
                      refine wpList_load_mid rfl 30 (.tmp 7) rfl d7 0 rfl [.string sec, .slice ar nr cr] _ H6.out.1.2.2.2.1.range0 Tryd.underlying30 rfl (size30 _ _) ?_
                      go_wp2_with fail
                      refine (rissue_is H6.out.1.2.2.1 HY.out.2.2 HQ.out.2.2 q.u HQ.out.1 q.now q.til).mono ?_
                      intro e W7 hi
                      have hi2 : ∃ (a' : Option Addr) (c' : Nat), e = .returned (.tuple #[.agg #[.string sec, .slice a' (nr + 1) c'], .string Y, iv 0]) ∧ RB W7 S (G ++ [⟨q.u, q.til.toNat, false⟩]) sec a' (nr + 1) c' ∧ Below W6.heap.size W6 W7 := by
                        obtain ⟨hi, hb⟩ := hi
                        rcases hi with ⟨h, _⟩ | ⟨_, Y2, a', c', h1, h2, h3⟩
                        · exact absurd HY.out.2.1 h
                        · obtain rfl : Y = Y2 := str_eq (HY.out.1.trans h1.symm)
                          exact ⟨a', c', h2, h3, hb⟩
                      clear hi
                      obtain ⟨a', c', rfl, hR7, hb7⟩ := hi2
                      have H7 : Hid ((Below w.heap.size w W7 ∧ BkAt W7 b m S (G ++ [⟨q.u, q.til.toNat, false⟩]) ∧ Blk W7 d7 30 [.string sec, .slice ar nr cr] ∧ w.heap.size ≤ d7 ∧ w.heap.size ≤ m) ∧ RB W7 S (G ++ [⟨q.u, q.til.toNat, false⟩]) sec a' (nr + 1) c' ∧ Blk W7 d10 32 q.cells) := ⟨⟨below_tr H6.out.1.1 hb7, H6.out.1.2.1.below hb7, H6.out.1.2.2.2.1.below hb7 H6.out.1.2.2.2.1.lt, H6.out.1.2.2.2.2⟩, hR7, H6.out.2.below hb7 H6.out.2.lt⟩
                      clear hb7 hR7 c1 c3 c4 H6
                      go_wp2_with (with_reducible change wpList _ _ _ ({ dst := none, op := Op.store 30 _ _, type := _, pos := _, after := _, guard := _ } :: _) _ _; refine Hid.out ?_)
                      show wpList _ _ _ _ _ _
                      refine wpList_store_blk rfl 30 (.tmp 7) (.tmp 117) rfl d7 0 30 [.string sec, .slice ar nr cr] [.string sec, .slice a' (nr + 1) c'] rfl rfl H7.out.1.2.2.1 (by show 0 + 2 ≤ 2; omega) (size30 _ _) (rb_one _ _ _ _) ?_
                      intro W8 hx8 hg8
                      have H8 : Hid (PI w b m d7 S (G ++ [⟨q.u, q.til.toNat, false⟩]) sec a' (nr + 1) c' W8 ∧ Blk W8 d10 32 q.cells) := ⟨pi_stored H7.out.1 H7.out.2.1 (blk_all hx8.out rfl) hg8.out, blk_d10 H7.out.2.2 H7.out.1.2.2.1 hg8.out⟩
                      clear hx8 hg8 H7
                      have hYY : (Y.toList != Y.toList) = false := by simp
                      go_wp2
                      go_roundw
                      case rel => exact ⟨k + 1, by simp, by omega, _, _, _, _, H8.out.1, H8.out.2⟩
                      case measure => simp only [intOf]; omega
                  · have qk2 : 260 ≤ (k : Int) := by omega
                    have HPX : Hid (PI w b m d7 S G sec ar nr cr W5) := HP.out.1
                    clear HP c1 c3 c4
                    have HL9 : Hid (d7 < W5.heap.size ∧ True) := ⟨HPX.out.cell.lt, trivial⟩
                    have c9 : W5.cell? ⟨d7, 1, none⟩ = some (.slice ar nr cr) := HPX.out.cell.cell rfl
                    have H18 : Hid (∀ V, Below W5.heap.size W5 V → Calls Tryd.prog 18 #[.pointer (some ⟨b, 0, none⟩)] V fun e V2 => e = .returned (iv ((nr : Nat) : Int)) ∧ V = V2) := fun V hV => by rw [HPX.out.r.len]; exact len_is (HPX.out.bk.below hV)
                    go_wp2_with fail
                    clear c0 c5'
                    refine pl36 (d10 := 0) HL9 c9 H18 ?_
                    intro V9 hb9
                    have HP9 : Hid (PI w b m d7 S G sec ar nr cr V9) := HPX.out.below hb9
                    clear hb9 HL9 c9 H18
                    go_wp2
                    go_roundw
                    case rel => exact ⟨j + 1, by simp, by have := HJ.out; omega, _, _, _, _, HP9.out⟩
                    case measure => have := HJ.out; simp only [intOf]; omega
                · have qkn : q.n ≤ (k : Int) := by omega
                  have HPX : Hid (PI w b m d7 S G sec ar nr cr W5) := HP.out.1
                  clear HP c1 c3 c4
                  have HL9 : Hid (d7 < W5.heap.size ∧ True) := ⟨HPX.out.cell.lt, trivial⟩
                  have c9 : W5.cell? ⟨d7, 1, none⟩ = some (.slice ar nr cr) := HPX.out.cell.cell rfl
                  have H18 : Hid (∀ V, Below W5.heap.size W5 V → Calls Tryd.prog 18 #[.pointer (some ⟨b, 0, none⟩)] V fun e V2 => e = .returned (iv ((nr : Nat) : Int)) ∧ V = V2) := fun V hV => by rw [HPX.out.r.len]; exact len_is (HPX.out.bk.below hV)
                  go_wp2_with fail
                  clear c0 c5'
                  refine pl36 (d10 := 0) HL9 c9 H18 ?_
                  intro V9 hb9
                  have HP9 : Hid (PI w b m d7 S G sec ar nr cr V9) := HPX.out.below hb9
                  clear hb9 HL9 c9 H18
                  go_wp2
                  go_roundw
                  case rel => exact ⟨j + 1, by simp, by have := HJ.out; omega, _, _, _, _, HP9.out⟩
                  case measure => have := HJ.out; simp only [intOf]; omega
          have e0' : (kd == 0) = false := by rw [beq_eq_false_iff_ne]; exact hk0
          have e3' : (kd == 3) = false := by rw [beq_eq_false_iff_ne]; exact hk3
          obtain ⟨T, hT⟩ : ∃ T, shT S G q = T := ⟨_, rfl⟩
          have HT : Hid (shT S G q = T ∧ T.size ≤ 20000) := ⟨hT, by rw [← hT]; exact sh_size HP3.out.1.bk.few HP3.out.1.bk.ok HQ.out.2.1⟩
          have c3 : W3.cell? ⟨d10, 3, none⟩ = some (iv q.now) := HP3.out.2.1.cell rfl
          clear hT
          by_cases hk1 : kd = 1
          · subst hk1
            clear hk0 hk3 e0' e3'
            have HL3 : Hid (d7 < W3.heap.size ∧ d10 < W3.heap.size) := ⟨HP3.out.1.cell.lt, HP3.out.2.1.lt⟩
            have HR7 : Hid (W3.rangeAt d7 0 [.string sec, .slice ar nr cr]) := HP3.out.1.cell.range0
            have HR10 : Hid (W3.rangeAt d10 0 q.cells) := HP3.out.2.1.range0
            have H14 : Hid (∀ V, Below W3.heap.size W3 V → Calls Tryd.prog 14 #[.agg #[.string sec, .slice ar nr cr], .agg q.cells.toArray] V fun e V2 => e = .returned (.string T) ∧ Below V.heap.size V V2) := fun V hV => shown_is (HP3.out.1.r.below hV) HP3.out.1.bk.few q T HT.out.1
            obtain ⟨o, ho⟩ : ∃ o, atF S 0 G T.data.toList = o := ⟨_, rfl⟩
            obtain ⟨Us, hUs⟩ : ∃ U, chkU o q.now = U := ⟨_, rfl⟩
            obtain ⟨E, hE⟩ : ∃ E, chkE o q.now = E := ⟨_, rfl⟩
            have HO : Hid (atF S 0 G T.data.toList = o ∧ chkU o q.now = Us ∧ chkE o q.now = E) := ⟨ho, hUs, hE⟩
            have H13 : Hid (∀ V, Below W3.heap.size W3 V → Calls Tryd.prog 13 #[.pointer (some ⟨b, 0, none⟩), .string T, iv q.now] V fun e V2 => e = .returned (.tuple #[.string Us, iv E]) ∧ Below V.heap.size V V2) := fun V hV => check_tok (HP3.out.1.bk.below hV) (HV.out.below (below_tr HP3.out.1.bel hV)) T HT.out.2 q.now o HO.out.1 Us E HO.out.2.1 HO.out.2.2
            clear ho hUs hE
            go_wp2_with fail
            refine pl32 HL3 HR7 HR10 c3 H14 H13 ?_
            intro W6 hb6
            have H6 : Hid (PI w b m d7 S G sec ar nr cr W6 ∧ Blk W6 d10 32 q.cells) := ⟨HP3.out.1.below hb6, HP3.out.2.1.below hb6 HP3.out.2.1.lt⟩
            clear hb6 HL3 HR7 HR10 H14 H13 c0 c3 HP3
            have c3 : W6.cell? ⟨d10, 3, none⟩ = some (iv q.now) := H6.out.2.cell rfl
            have HL3 : Hid (d7 < W6.heap.size ∧ d10 < W6.heap.size) := ⟨H6.out.1.cell.lt, H6.out.2.lt⟩
            have HR7 : Hid (W6.rangeAt d7 0 [.string sec, .slice ar nr cr]) := H6.out.1.cell.range0
            have HR10 : Hid (W6.rangeAt d10 0 q.cells) := H6.out.2.range0
            have H14 : Hid (∀ V, Below W6.heap.size W6 V → Calls Tryd.prog 14 #[.agg #[.string sec, .slice ar nr cr], .agg q.cells.toArray] V fun e V2 => e = .returned (.string T) ∧ Below V.heap.size V V2) := fun V hV => shown_is (H6.out.1.r.below hV) H6.out.1.bk.few q T HT.out.1
            have H15 : Hid (∀ V, Below W6.heap.size W6 V → Calls Tryd.prog 15 #[.agg #[.string sec, .slice ar nr cr], .string T, iv q.now] V fun e V2 => e = .returned (.tuple #[.string Us, iv E]) ∧ Below V.heap.size V V2) := fun V hV => rcheck_is (H6.out.1.r.below hV) (by have := H6.out.1.bk.few; omega) T q.now o HO.out.1 Us E HO.out.2.1 HO.out.2.2
            go_wp2_with fail
            refine pl33 HL3 HR7 HR10 c3 H14 H15 ?_
            intro W7 hb7
            have H7 : Hid (PI w b m d7 S G sec ar nr cr W7) := H6.out.1.below hb7
            clear hb7 HL3 HR7 HR10 H14 H15 c3 H6
            have hUU : (Us.toList != Us.toList) = false := by simp
            have hEq : (E != E) = false := by simp
            have HL9 : Hid (d7 < W7.heap.size ∧ True) := ⟨H7.out.cell.lt, trivial⟩
            have c9 : W7.cell? ⟨d7, 1, none⟩ = some (.slice ar nr cr) := H7.out.cell.cell rfl
            have H18 : Hid (∀ V, Below W7.heap.size W7 V → Calls Tryd.prog 18 #[.pointer (some ⟨b, 0, none⟩)] V fun e V2 => e = .returned (iv ((nr : Nat) : Int)) ∧ V = V2) := fun V hV => by rw [H7.out.r.len]; exact len_is (H7.out.bk.below hV)
            go_wp2_with fail
            refine pl36 (d10 := 0) HL9 c9 H18 ?_
            intro V9 hb9
            have HP9 : Hid (PI w b m d7 S G sec ar nr cr V9) := H7.out.below hb9
            clear hb9 HL9 c9 H18
            go_wp2
            go_roundw
            case rel => exact ⟨j + 1, by simp, by have := HJ.out; omega, _, _, _, _, HP9.out⟩
            case measure => have := HJ.out; simp only [intOf]; omega
          have e1' : (kd == 1) = false := by rw [beq_eq_false_iff_ne]; exact hk1
          clear hk0 hk3 hk1
          go_wp2_with (with_reducible change wpList _ _ _ ({ dst := some 60, op := _, type := _, pos := _, after := _, guard := _ } :: _) _ _; refine Hid.out ?_)
          show wpList _ _ _ _ _ _
          refine wpList_load_mid rfl 30 (.tmp 7) rfl d7 0 rfl [.string sec, .slice ar nr cr] _ HP3.out.1.cell.range0 Tryd.underlying30 rfl (size30 _ _) ?_
          go_wp2_with (with_reducible change wpList _ _ _ ({ dst := some 61, op := _, type := _, pos := _, after := _, guard := _ } :: _) _ _; refine Hid.out ?_)
          show wpList _ _ _ _ _ _
          refine wpList_load_mid rfl 32 (.tmp 10) rfl d10 0 rfl q.cells _ HP3.out.2.1.range0 Tryd.underlying32 rfl (size32 q) ?_
          go_wp2_with fail
          refine (shown_is HP3.out.1.r HP3.out.1.bk.few q T HT.out.1).mono ?_
          rintro e W5 ⟨rfl, hb5⟩
          have H5 : Hid (PI w b m d7 S G sec ar nr cr W5) := HP3.out.1.below hb5
          clear hb5 HP3 c0 c3
          go_wp2_with fail
          refine (revoke_is H5.out.bk (HV.out.below H5.out.bel) T HT.out.2).mono ?_
          intro e W6 hr
          obtain ⟨he, hr⟩ := hr
          subst he
          obtain ⟨E, hE⟩ : ∃ E, revE (atF S 0 G T.data.toList) = E := ⟨_, rfl⟩
          have HEE : Hid (revE (atF S 0 G T.data.toList) = E) := hE
          rw [hE] at hr ⊢
          have hEq : (E != E) = false := by simp
          obtain ⟨G', hG'⟩ : ∃ G', (if E = 0 then revF S 0 G T.data.toList else G) = G' := ⟨_, rfl⟩
          have HGG : Hid ((if E = 0 then revF S 0 G T.data.toList else G) = G') := hG'
          have H6 : Hid (Below w.heap.size w W6 ∧ BkAt W6 b m S G' ∧ RB W6 S G sec ar nr cr ∧ Blk W6 d7 30 [.string sec, .slice ar nr cr] ∧ w.heap.size ≤ d7 ∧ w.heap.size ≤ m) := by
            rcases hr with ⟨h1, h2⟩ | ⟨h1, h2, h3⟩
            · rw [if_neg h1] at hG'
              subst hG'
              have h := H5.out.below h2
              exact ⟨h.bel, h.bk, h.r, h.cell, h.ld, h.lm⟩
            · rw [if_pos h1] at hG'
              subst hG'
              exact H5.out.mapped h2 h3
          have HF5 : Hid (G.length ≤ 256) := H5.out.bk.few
          clear hr hE hG' H5
          go_wp2_with (with_reducible change wpList _ _ _ ({ dst := some 67, op := _, type := _, pos := _, after := _, guard := _ } :: _) _ _; refine Hid.out ?_)
          show wpList _ _ _ _ _ _
          refine wpList_load_mid rfl 30 (.tmp 7) rfl d7 0 rfl [.string sec, .slice ar nr cr] _ H6.out.2.2.2.1.range0 Tryd.underlying30 rfl (size30 _ _) ?_
          go_wp2_with fail
          refine (rrevoke_is H6.out.2.2.1 HF5.out T).mono ?_
          rintro e W7 ⟨⟨a', c', he, hR7⟩, hb7⟩
          subst he
          rw [HEE.out] at hR7 ⊢
          rw [HGG.out] at hR7
          have H7 : Hid ((Below w.heap.size w W7 ∧ BkAt W7 b m S G' ∧ Blk W7 d7 30 [.string sec, .slice ar nr cr] ∧ w.heap.size ≤ d7 ∧ w.heap.size ≤ m) ∧ RB W7 S G' sec a' nr c') := ⟨⟨below_tr H6.out.1 hb7, H6.out.2.1.below hb7, H6.out.2.2.2.1.below hb7 H6.out.2.2.2.1.lt, H6.out.2.2.2.2⟩, hR7⟩
          clear hb7 hR7 H6
          go_wp2_with (with_reducible change wpList _ _ _ ({ dst := none, op := Op.store 30 _ _, type := _, pos := _, after := _, guard := _ } :: _) _ _; refine Hid.out ?_)
          show wpList _ _ _ _ _ _
          refine wpList_store_blk rfl 30 (.tmp 7) (.tmp 70) rfl d7 0 30 [.string sec, .slice ar nr cr] [.string sec, .slice a' nr c'] rfl rfl H7.out.1.2.2.1 (by show 0 + 2 ≤ 2; omega) (size30 _ _) (rb_one _ _ _ _) ?_
          intro W8 hx8 hg8
          have H8 : Hid (PI w b m d7 S G' sec a' nr c' W8) := pi_stored H7.out.1 H7.out.2 (blk_all hx8.out rfl) hg8.out
          clear hx8 hg8 H7
          have HL9 : Hid (d7 < W8.heap.size ∧ True) := ⟨H8.out.cell.lt, trivial⟩
          have c9 : W8.cell? ⟨d7, 1, none⟩ = some (.slice a' nr c') := H8.out.cell.cell rfl
          have H18 : Hid (∀ V, Below W8.heap.size W8 V → Calls Tryd.prog 18 #[.pointer (some ⟨b, 0, none⟩)] V fun e V2 => e = .returned (iv ((nr : Nat) : Int)) ∧ V = V2) := fun V hV => by rw [H8.out.r.len]; exact len_is (H8.out.bk.below hV)
          go_wp2_with fail
          refine pl36 (d10 := 0) HL9 c9 H18 ?_
          intro V9 hb9
          have HP9 : Hid (PI w b m d7 S G' sec a' nr c' V9) := H8.out.below hb9
          clear hb9 HL9 c9 H18
          go_wp2
          go_roundw
          case rel => exact ⟨j + 1, by simp, by have := HJ.out; omega, _, _, _, _, HP9.out⟩
          case measure => have := HJ.out; simp only [intOf]; omega
    · have qi2 : (i : Int) < (n : Int) := by omega
      have HJ : Hid (i < n) := by show _ < _; omega
      obtain ⟨L, B, hL, hO, h1, h2, h3, h4⟩ := HI.out
      have hil : i < L.length := by rw [hL]; exact HJ.out
      obtain ⟨cc, cf, -, hset⟩ := own_set hO hL i hil
      have hset1 := hset (L[i] ^^^ 85)
      have hx85 := xor_85 L[i]
      generalize L[i] = y at cc hset1 hx85
      generalize y ^^^ 85 = z at hset1 hx85
      obtain ⟨W4, hW4⟩ : ∃ W4, W0.setCell ⟨g5, i, none⟩ (.int .u8 (z.toNat : Int)) = W4 := ⟨_, rfl⟩
      have HS4 : Hid (SP w b m d7 F g5 n c5 S sec W4) := by
        have hg : W0.grownBy W4 (some g5) := by rw [← hW4]; exact grown_setCell _ _ _ _
        have hh := h1.high h2 hg HC.out.1
        exact ⟨L.set i z, B, by rw [List.length_set]; exact hL, by rw [← hW4]; exact hset1, hh.1, hh.2, h3.kept hg (by have := HC.out; simp; omega), below_gr h4 hg HC.out.2.2.1⟩
      clear hset hset1 hil hL hO h1 h2 h3 h4 HI hi
      go_wp2
      go_roundw
      case rel => exact ⟨i + 1, by simp, by have := HJ.out; omega, HS4.out⟩
      case measure => have := HJ.out; simp only [intOf]; omega
end Go.Proofs.YtjeahlfmapacfaaDoor.Oct
