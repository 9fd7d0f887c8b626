/-
  Layer 10 (patch): Encode, and the laws' example.
-/
import Derived.Test.YtgdecjacbkicmaaDoorQkA
import Derived.Deep.Draws
/- Layer 10 (patch): Encode, and the laws' example. -/
namespace Go.Proofs.YtgdecjacbkicmaaDoor.Oct
open Go.RowKit
set_option maxRecDepth 100000
set_option linter.unusedSimpArgs false
set_option linter.unusedVariables false

theorem own_in {e : TypeId} {B : Nat} {w : World} {v : Value} {l : List UInt8} (h : Own e B w v l) (hc : l.length ≤ 140737488355328) :
    ∃ a cp, v = .slice a l.length cp ∧ In w a l.length cp l ∧ (0 < l.length → ∃ g, a = some ⟨g, 0, none⟩ ∧ B ≤ g ∧ g < w.heap.size) := by
  rcases h.2 with ⟨h1, h2⟩ | ⟨g, cap, cur, e1, e2, hg, e3, e4, _⟩
  · have : l = [] := List.length_eq_zero_iff.1 h2
    subst this
    exact ⟨none, 0, h1, In.nil w, by simp⟩
  · subst e1
    exact ⟨some ⟨g, 0, none⟩, cap, rfl, h.toIn hc, fun _ => ⟨g, rfl, e2, lt_of_block hg⟩⟩

theorem string_in {P : Program} {e t9 t22 : TypeId} (h22 : P.underlying t22 = some (.slice e)) (h5 : P.underlying e = some (.int .u8)) (h9 : P.underlying t9 = some .string)
    {w : World} {a : Option Addr} {n cp : Nat} {l : List UInt8} (h : In w a n cp l) : (convert t22 t9 (.slice a n cp)).run P w = .ok (.string ⟨l.toArray⟩) w := by
  obtain ⟨h1, h2, h3, h4, h6⟩ := h
  rcases Nat.eq_zero_or_pos n with hn | hn
  · have hl : l = [] := List.length_eq_zero_iff.1 (by omega)
    subst hn hl
    cases a with
    | none => exact run_convert_bytes_nil w t22 e h22 h5 0 cp t9 h9
    | some x => exact run_convert_bytes_back w t22 t9 e x cp [] h22 h5 h9 (fun j hj => absurd hj (by simp))
  · obtain ⟨b, off, rfl, hb, hc⟩ := h6 hn
    subst h1
    refine run_convert_bytes_back w t22 t9 e ⟨b, off, none⟩ cp l h22 h5 h9 fun j hj => ?_
    rw [Addr.add_lit]
    exact hc j _ (List.getElem?_eq_getElem hj)
theorem built71 (a : Option Addr) (n c : Nat) : Tryd.prog.built 48 [(1, .slice a n c)] = some #[.slice none 0 0, .slice a n c] := by kernel_rfl
theorem zero71 (W : World) : (zeroValue 48).run Tryd.prog W = .ok (.agg #[.slice none 0 0, .slice none 0 0]) W := by kernel_rfl
theorem info71 (x y : Value) : (Tryd.prog.info? 48).map (·.size) = some [x, y].length := by show _ = some 2; kernel_rfl
theorem wr_one (a b : Option Addr) (n c m d : Nat) : ∀ v ∈ [Value.slice a n c, .slice b m d], v.oneCell' = true := by
  intro v hv
  simp only [List.mem_cons, List.not_mem_nil, or_false] at hv
  rcases hv with rfl | rfl <;> rfl
/-- what Encode answers -/
def EnP (w : World) (p : PV) (e : Ending) (w' : World) : Prop :=
  ((chk p ≠ 0 ∧ e = .returned (.tuple #[.slice none 0 0, iv (chk p)])) ∨ (chk p = 0 ∧ ∃ (va : Option Addr) (n c : Nat), e = .returned (.tuple #[.slice va n c, iv 0]) ∧ Hid (Own 5 w.heap.size w' (.slice va n c) (ptB p)) ∧ n = (ptB p).length)) ∧ Below w.heap.size w w'
set_option maxHeartbeats 2000000 in
theorem encode_is (w : World) (p : PV) (h : PR w p) : Calls Tryd.prog 6 #[.agg p.cells.toArray] w (EnP w p) := by
  obtain ⟨E, hE⟩ : ∃ E, chk p = E := ⟨_, rfl⟩
  have HP : Hid (PR w p ∧ chk p = E) := ⟨h, hE⟩
  obtain ⟨d, hd⟩ : ∃ d, w.heap.size = d := ⟨_, rfl⟩
  obtain ⟨W, hW⟩ : ∃ W, w.alloc (.cells p.cells.toArray 25) = W := ⟨_, rfl⟩
  have hk : Blk W d 25 p.cells := by rw [← hW, ← hd]; exact Blk.new w _ _
  have HB0 : Hid (Below w.heap.size w W ∧ Blk W d 25 p.cells) := ⟨by rw [← hW]; exact below_al _ _, hk⟩
  clear h hE hk
  go_enter Tryd.func6, Tryd.ntmps6
  go_wp2_with (with_reducible change wpList _ _ _ ({ dst := some 6, op := _, type := _, pos := _, after := _, guard := _ } :: _) _ _; refine Hid.out ?_)
  show wpList _ _ _ _ _ _
  refine wpList_load_mid rfl 25 (.tmp 1) rfl d 0 rfl p.cells _ HB0.out.2.range0 Tryd.underlying25 rfl (info25 p) ?_
  go_wp2_with fail
  refine (check_is W p (HP.out.1.below HB0.out.1) E HP.out.2).mono ?_
  rintro e W1 ⟨rfl, hb1⟩
  have H1 : Hid (Below w.heap.size w W1 ∧ Blk W1 d 25 p.cells) := ⟨below_tr HB0.out.1 hb1, HB0.out.2.below hb1 HB0.out.2.lt⟩
  clear hb1 hW hd HB0
  by_cases hE0 : E = 0
  · subst hE0
    have c3 : W1.cell? ⟨d, 3, none⟩ = some (.slice p.da p.dn p.dc) := H1.out.2.cell rfl
    obtain ⟨g, hg⟩ : ∃ g, W1.heap.size = g := ⟨_, rfl⟩
    have HG : Hid (W1.heap.size = g) := hg
    have hz := zero71
    have HBL := built71 p.da p.dn p.dc
    go_wp2_with (with_reducible change wpList _ _ _ ({ dst := some 13, op := _, type := _, pos := _, after := _, guard := _ } :: _) _ _; refine Hid.out ?_)
    show wpList _ _ _ _ _ _
    refine wpList_built rfl 48 _ rfl #[.slice none 0 0, .slice p.da p.dn p.dc] (by rw [← HBL]; first | (simp; done) | (simp; rfl)) ?_
    go_wp2_with (with_reducible change wpList _ _ _ ({ dst := none, op := Op.store 48 _ _, type := _, pos := _, after := _, guard := _ } :: _) _ _; refine Hid.out ?_)
    show wpList _ _ _ _ _ _
    refine wpList_store_blk rfl 48 (.tmp 5) (.tmp 13) rfl g 0 48 [.slice none 0 0, .slice none 0 0] [.slice none 0 0, .slice p.da p.dn p.dc] rfl rfl (by rw [← HG.out]; exact Blk.new W1 _ _) (by show 0 + 2 ≤ 2; omega) (info71 _ _) (wr_one _ _ _ _ _ _) ?_
    intro W2 hx2 hg2
    have hb2 : Below W1.heap.size W1 W2 := below_gr (below_al W1 _) hg2.out (by rw [HG.out]; exact Nat.le_refl _)
    have hk2 : Blk W2 g 48 [.slice none 0 0, .slice p.da p.dn p.dc] := blk_all hx2.out rfl
    have HWr : Hid (Wr w.heap.size W2 g (.slice p.da p.dn p.dc) []) := ⟨⟨none, 0, 0, hk2, by simp [U], .inl ⟨rfl, rfl⟩⟩, by rw [← HG.out]; exact H1.out.1.size⟩
    have H2 : Hid (Below w.heap.size w W2 ∧ Blk W2 d 25 p.cells) := ⟨below_tr H1.out.1 hb2, H1.out.2.below hb2 H1.out.2.lt⟩
    clear hx2 hg2 hb2 hk2 hz HBL c3 hg
    go_wp2_with (with_reducible change wpList _ _ _ ({ dst := some 14, op := _, type := _, pos := _, after := _, guard := _ } :: _) _ _; refine Hid.out ?_)
    show wpList _ _ _ _ _ _
    refine wpList_load_mid rfl 25 (.tmp 1) rfl d 0 rfl p.cells _ H2.out.2.range0 Tryd.underlying25 rfl (info25 p) ?_
    go_wp2_with fail
    refine (patchW_is p HWr.out (fun V hV => HP.out.1.below (H2.out.1.trans hV)) HP.out.2 _ rfl).mono ?_
    rintro e W3 ⟨⟨rv, rfl⟩, hw3, hf3⟩
    obtain ⟨va, n, c, hb, ho⟩ := hw3.own
    have c0 : W3.cell? ⟨g, 0, none⟩ = some (.slice va n c) := hb.cell rfl
    have HF : Hid (Own 5 w.heap.size W3 (.slice va n c) (ptB p) ∧ Below w.heap.size w W3 ∧ n = (ptB p).length) := ⟨ho, H2.out.1.trans hf3.below, by obtain ⟨_, _, _, e1, e2⟩ := sl_of5 ho; cases e1; exact e2⟩
    clear hw3 hf3 hb ho
    go_wp2
    go_ret2
    exact ⟨.inr ⟨HP.out.2, va, n, c, rfl, HF.out.1, HF.out.2.2⟩, HF.out.2.1⟩
  · have e1 : (E != 0) = true := by simpa using hE0
    have HF : Hid (Below w.heap.size w W1 ∧ chk p ≠ 0 ∧ chk p = E) := ⟨H1.out.1, by rw [HP.out.2]; exact hE0, HP.out.2⟩
    clear hE0
    go_wp2
    go_ret2
    exact ⟨.inl ⟨HF.out.2.1, by rw [HF.out.2.2]; rfl⟩, HF.out.1⟩
def exO (b : Nat) : OpV := ⟨1, ⟨#[112]⟩, vTop, vBot, some ⟨b, 0, none⟩, 1, 1, [⟨#[120]⟩]⟩
def exP (b1 b2 : Nat) : PV := ⟨⟨#[97]⟩, 0, e0, none, 0, 0, [], some ⟨b2, 0, none⟩, 1, 1, [exO b1]⟩
def p00 : PV := ⟨e0, 0, e0, none, 0, 0, [], none, 0, 0, []⟩
theorem exO_ok (b : Nat) : (exO b).ok := ⟨vTop_ok, vBot_ok, rfl, by show 1 ≤ _; omega, by show 1 ≤ _; omega, (fun t ht => by rw [List.mem_singleton.1 ht]; show 1 ≤ _; omega), Nat.le_refl _, by show 1 ≤ maxLen; unfold maxLen; omega⟩
theorem chk_ex (b1 b2 : Nat) : chk (exP b1 b2) = 0 := by
  have h1 : headB (exP b1 b2) = true := by
    show (isName [97] && (decide ((0 : Int) ≤ 0) && (decide ((0 : Int) ≤ 1099511627776) && decide (((e0 : BA).size : Int) ≤ 200)))) = true
    decide +kernel
  have h2 : depsB (exP b1 b2).D = true := by
    show depsB [] = true
    decide +kernel
  have h3 : opsB (exP b1 b2).D (exP b1 b2).O = true := by
    show opsB [] [exO b1] = true
    have : opB [] (exO b1) = true := by
      show (isPath [112] && ((decide ((1 : Int) = 1) && (decide (0 < (1 : Int)) && (!([⟨#[120]⟩] : List BA).any bad && ((eqVx vTop vTop || lineOf [] vTop) && ((eqVx vBot vBot || lineOf [] vBot) && !eqVx vTop vBot))))) || killB [] (exO b1))) = true
      have : (isPath [112] && ((decide ((1 : Int) = 1) && (decide (0 < (1 : Int)) && (!([⟨#[120]⟩] : List BA).any bad && ((eqVx vTop vTop || lineOf [] vTop) && ((eqVx vBot vBot || lineOf [] vBot) && !eqVx vTop vBot))))))) = true := by decide +kernel
      rw [Bool.and_eq_true] at this ⊢
      exact ⟨this.1, by rw [this.2, Bool.true_or]⟩
    unfold opsB
    simp only [List.all_cons, List.all_nil, this]
    rfl
  unfold chk
  rw [h1, h2, h3]
  rfl
theorem ptB_ex (b1 b2 : Nat) : ptB (exP b1 b2) = [80, 1, 97, 0, 0, 0, 1, 1, 1, 112, 0, 1, 1, 1, 120] := by
  show 80 :: (encT ⟨#[97]⟩ ++ (enc 0 ++ (encT e0 ++ (enc 0 ++ (([] : List Hs).flatMap id ++ (enc 1 ++ [exO b1].flatMap (encO []))))))) = _
  have h : encO [] (exO b1) = [1, 1, 112, 0, 1, 1, 1, 120] := by
    show UInt8.ofNat (1 : Int).toNat :: (encT ⟨#[112]⟩ ++ (encV [] vTop ++ (if (1 : Int) = 1 then encV [] vBot ++ (enc 1 ++ ([⟨#[120]⟩] : List BA).flatMap encT) else []))) = _
    decide +kernel
  rw [List.flatMap_cons, h]
  decide +kernel
theorem chk_00 : chk p00 = 100 := by decide +kernel
theorem built51 (b : Nat) : Tryd.prog.built 45 [(0, iv 1), (1, .string ⟨#[112]⟩), (3, .agg vBot.cells.toArray), (4, .slice (some ⟨b, 0, none⟩) 1 1)] = some (exO b).cells.toArray := by kernel_rfl
theorem built25 (b1 b2 : Nat) : Tryd.prog.built 25 [(0, .string ⟨#[97]⟩), (4, .slice (some ⟨b2, 0, none⟩) 1 1)] = some (exP b1 b2).cells.toArray := by kernel_rfl
theorem built25b : Tryd.prog.built 25 [] = some p00.cells.toArray := by kernel_rfl
theorem run_bs31 (s : BA) (W : World) : (Instr.buildSlice 43 1 #[(0, .string s)]).run Tryd.prog W = .ok (.slice (some ⟨W.heap.size, 0, none⟩) 1 1) (W.alloc (.cells #[.string s] 9)) := by kernel_rfl
theorem run_bs23 (b : Nat) (W : World) : (Instr.buildSlice 23 1 #[(0, .agg (exO b).cells.toArray)]).run Tryd.prog W = .ok (.slice (some ⟨W.heap.size, 0, none⟩) 1 1) (W.alloc (.cells (exO b).cells.toArray 45)) := by kernel_rfl
theorem wpList_bs {ops : Array Oper} {rest : List Oper} {o : Oper} {a : Act} {w w' : World} {Q : Exit → Act → World → Prop} (hgd : o.guard = none) (t : TypeId) (x : Operand) (hop : o.op = .buildSlice t 1 #[(0, x)]) (v r : Value) (hx : a.eval x = v) (hr : (Instr.buildSlice t 1 #[(0, v)]).run Tryd.prog w = .ok r w')
    (hk : wpList Tryd.prog ops Q rest (a.put o.dst r) w') : wpList Tryd.prog ops Q (o :: rest) a w := by
  refine wpList_plain hgd fun K hK => ?_
  unfold Oper.wp execOp
  simp only [hop, Sem.run_bind, Sem.run_pure, Result.andThen_ok, List.map_toArray, List.map_cons, List.map_nil, hx, hr]
  exact hK _ _ hk
set_option maxHeartbeats 4000000 in
theorem lives_is (w : World) : Calls Tryd.prog 5 #[] w fun e w' => e = .returned (.bool true) ∧ Below w.heap.size w w' := by
  have HBL := built49b
  go_enter Tryd.func5, Tryd.ntmps5
  go_wp2_with (with_reducible change wpList _ _ _ ({ dst := some 4, op := _, type := _, pos := _, after := _, guard := _ } :: _) _ _; refine Hid.out ?_)
  show wpList _ _ _ _ _ _
  refine wpList_built rfl 42 _ rfl vBot.cells.toArray (by rw [← HBL]; first | (simp; done) | (simp; rfl)) ?_
  clear HBL
  go_wp2_with (with_reducible change wpList _ _ _ ({ dst := some 5, op := _, type := _, pos := _, after := _, guard := _ } :: _) _ _; refine Hid.out ?_)
  show wpList _ _ _ _ _ _
  refine wpList_bs rfl 43 _ rfl (.string ⟨#[120]⟩) _ rfl (run_bs31 ⟨#[120]⟩ w) ?_
  obtain ⟨b1, hb1⟩ : ∃ b, w.heap.size = b := ⟨_, rfl⟩
  obtain ⟨W1, hW1⟩ : ∃ W, w.alloc (.cells #[.string ⟨#[120]⟩] 9) = W := ⟨_, rfl⟩
  have HW1 : Hid (Below w.heap.size w W1 ∧ W1.cell? ⟨b1, 0, none⟩ = some (.string ⟨#[120]⟩) ∧ b1 < W1.heap.size) := by
    have hk : Blk W1 b1 9 [.string ⟨#[120]⟩] := by rw [← hW1, ← hb1]; exact Blk.new w _ _
    exact ⟨by rw [← hW1]; exact below_al _ _, hk.cell rfl, hk.lt⟩
  rw [hb1, hW1]
  have HB5 := built51 b1
  clear hb1 hW1
  go_wp2_with (with_reducible change wpList _ _ _ ({ dst := some 6, op := _, type := _, pos := _, after := _, guard := _ } :: _) _ _; refine Hid.out ?_)
  show wpList _ _ _ _ _ _
  refine wpList_built rfl 45 _ rfl (exO b1).cells.toArray (by rw [← HB5]; first | (simp; done) | (simp; rfl)) ?_
  clear HB5
  go_wp2_with (with_reducible change wpList _ _ _ ({ dst := some 7, op := _, type := _, pos := _, after := _, guard := _ } :: _) _ _; refine Hid.out ?_)
  show wpList _ _ _ _ _ _
  refine wpList_bs rfl 23 _ rfl (.agg (exO b1).cells.toArray) _ rfl (run_bs23 b1 W1) ?_
  obtain ⟨b2, hb2⟩ : ∃ b, W1.heap.size = b := ⟨_, rfl⟩
  obtain ⟨W2, hW2⟩ : ∃ W, W1.alloc (.cells (exO b1).cells.toArray 45) = W := ⟨_, rfl⟩
  have HW2 : Hid (Below w.heap.size w W2 ∧ PR W2 (exP b1 b2)) := by
    have hk : Blk W2 b2 45 (exO b1).cells := by rw [← hW2, ← hb2]; exact Blk.new W1 _ _
    have hbe : Below W1.heap.size W1 W2 := by rw [← hW2]; exact below_al _ _
    refine ⟨below_tr HW1.out.1 hbe, ⟨HsR.nil _ _, ⟨rfl, fun o ho => ?_, fun _ => ⟨b2, 0, rfl, hk.lt, fun i o hi => ?_⟩⟩, ⟨Nat.le_refl _, by show 0 ≤ maxLen; omega⟩, ⟨Nat.le_refl _, by show 1 ≤ maxLen; unfold maxLen; omega⟩, by show 0 ≤ _; omega, by show 1 ≤ _; omega, by show 1 ≤ _; omega, by show 0 ≤ _; omega⟩⟩
    · rw [List.mem_singleton.1 ho]
      refine ⟨exO_ok b1, rfl, fun _ => ⟨b1, 0, rfl, Nat.lt_of_lt_of_le HW1.out.2.2 hbe.size, fun i x hi => ?_⟩⟩
      cases i with
      | zero => cases hi; exact (hbe.cell (p := ⟨b1, 0, none⟩) HW1.out.2.2).trans HW1.out.2.1
      | succ i => simp [exO] at hi
    · cases i with
      | zero => cases hi; exact hk.range0
      | succ i => simp [exP] at hi
  rw [hb2, hW2]
  have HB2 := built25 b1 b2
  clear hb2 hW2
  go_wp2_with (with_reducible change wpList _ _ _ ({ dst := some 8, op := _, type := _, pos := _, after := _, guard := _ } :: _) _ _; refine Hid.out ?_)
  show wpList _ _ _ _ _ _
  refine wpList_built rfl 25 _ rfl (exP b1 b2).cells.toArray (by rw [← HB2]; first | (simp; done) | (simp; rfl)) ?_
  clear HB2
  have HC : Hid (chk (exP b1 b2) = 0 ∧ ptB (exP b1 b2) = [80, 1, 97, 0, 0, 0, 1, 1, 1, 112, 0, 1, 1, 1, 120]) := ⟨chk_ex b1 b2, ptB_ex b1 b2⟩
  obtain ⟨p, hp⟩ : ∃ p, exP b1 b2 = p := ⟨_, rfl⟩
  rw [hp] at HW2 HC ⊢
  clear hp HW1
  go_wp2_with fail
  refine (encode_is W2 p HW2.out.2).mono ?_
  intro e W3 hen
  obtain ⟨va, n, c, rfl, ho, hn, hb3⟩ : ∃ (va : Option Addr) (n c : Nat), e = .returned (.tuple #[.slice va n c, iv 0]) ∧ Hid (Own 5 W2.heap.size W3 (.slice va n c) (ptB p)) ∧ n = (ptB p).length ∧ Below W2.heap.size W2 W3 := by
    obtain ⟨h, hb⟩ := hen
    rcases h with ⟨h, _⟩ | ⟨_, va, n, c, h1, h2, h3⟩
    · exact absurd HC.out.1 h
    · exact ⟨va, n, c, h1, h2, h3, hb⟩
  obtain ⟨S, hS⟩ : ∃ S : BA, (⟨(ptB p).toArray⟩ : BA) = S := ⟨_, rfl⟩
  have hcv : (convert 28 9 (.slice va n c)).run Tryd.prog W3 = .ok (.string S) W3 := by
    rw [← hS]
    obtain ⟨a', c', e1, e2, _⟩ := own_in ho.out (by rw [HC.out.2]; show 15 ≤ _; omega)
    rw [← hn] at e1 e2
    cases e1
    exact string_in Tryd.underlying28 Tryd.underlying5 Tryd.underlying9 e2
  have e1 : (S.toList == [80, 1, 97, 0, 0, 0, 1, 1, 1, 112, 0, 1, 1, 1, 120]) = true := by
    rw [toList_d, ← hS]
    show ((ptB p) == _) = true
    rw [HC.out.2]
    rfl
  have H3 : Hid (Below w.heap.size w W3) := below_tr HW2.out.1 hb3
  have HB0 := built25b
  clear hen ho hn hb3 hS
  go_wp2_with (with_reducible change wpList _ _ _ ({ dst := some 20, op := _, type := _, pos := _, after := _, guard := _ } :: _) _ _; refine Hid.out ?_)
  show wpList _ _ _ _ _ _
  refine wpList_built_want rfl 25 _ rfl p00.cells.toArray (by rw [← HB0]; first | (simp; done) | (simp; rfl)) ?_
  clear HB0
  go_wp2_with fail
  refine (check_is W3 p00 ⟨HsR.nil _ _, ⟨rfl, (fun o ho => by cases ho), fun h => absurd h (by show ¬ (0 < 0); omega)⟩, ⟨Nat.le_refl _, by show 0 ≤ maxLen; omega⟩, ⟨Nat.le_refl _, by show 0 ≤ maxLen; omega⟩, by show 0 ≤ _; omega, by show 0 ≤ _; omega, by show 0 ≤ _; omega, by show 0 ≤ _; omega⟩ 100 chk_00).mono ?_
  rintro e W4 ⟨rfl, hb4⟩
  have HF : Hid (Below w.heap.size w W4) := below_tr H3.out hb4
  clear hb4
  go_wp2
  go_ret
  exact ⟨rfl, HF.out⟩
end Go.Proofs.YtgdecjacbkicmaaDoor.Oct
