/-
  Layer 20 (review): lives, the chapter's example.
-/
import Derived.Test.YtaecigpjcbjcbaaTld
namespace Go.Proofs.Ytaecigpjcbjcbaa.Oct
open Go.RowKit
set_option linter.unusedSimpArgs false

section
variable {ops : Array Oper} {rest : List Oper} {o : Oper} {a : Act} {w : World} {Q : Exit → Act → World → Prop}
theorem wpList_load_want (hw : Region.wanted o (yielded ops a.tmps) = true) (ty : TypeId) (x : Operand) (ho : o.op = .load ty x)
    (b p : Nat) (hx : a.eval x = .pointer (some ⟨b, p, none⟩)) (cs : List Value) (d : TypeDesc) (hc : w.rangeAt b p cs)
    (hu : Try.prog.underlying ty = some d) (hd : d.isRow = true) (hi : (Try.prog.info? ty).map (·.size) = some cs.length)
    (h : wpList Try.prog ops Q rest (a.put o.dst (.agg cs.toArray)) w) : wpList Try.prog ops Q (o :: rest) a w :=
  Go.BigFrame.wpList_want hw fun _ hK => wp_load_mid ty x ho b p hx cs d hc hu hd hi (hK _ _ h)
end
def ann : BA := ⟨#[97, 110, 110]⟩
def bob : BA := ⟨#[98, 111, 98]⟩
def mainS : BA := ⟨#[109, 97, 105, 110]⟩
def h1 : Hs := 1 :: List.replicate 31 0
set_option maxRecDepth 100000 in
theorem run_h1 (W : World) : (Instr.build 32 #[(0, .int .u8 1)]).run Try.prog W = .ok (.agg (U h1).toArray) W := by kernel_rfl
theorem wpList_b1 {ops : Array Oper} {rest : List Oper} {o : Oper} {a : Act} {w : World} {Q : Exit → Act → World → Prop} (hg : o.guard = none) (t : TypeId) (k : Nat) (x : Operand) (hop : o.op = Op.build t #[(k, x)]) (u v : Value) (hx : a.eval x = u) (hrun : ∀ W, (Instr.build t #[(k, u)]).run Try.prog W = .ok v W)
    (hK : wpList Try.prog ops Q rest (a.put o.dst v) w) : wpList Try.prog ops Q (o :: rest) a w := by
  refine wpList_plain hg fun K' hK' => ?_
  unfold Oper.wp execOp
  simp [hop, hx, hrun, Result.andThen]
  exact hK' _ _ hK
theorem Names.txt {B : Nat} {w : World} {s : Sl} {l : List Hs} (h : Names B w s l) (hl : ∀ x ∈ l, x.length ≤ 140737488355328) (hn : l.length ≤ 1000000) : Txt w s (l.map fun x => ⟨x.toArray⟩) := by
  have h' : Ow w 9 1 (.slice s.a s.n s.c) l.length (l.map hv) := own_base h (Nat.zero_le _)
  obtain ⟨a, cap, hvv, hc, _, hlen, hr⟩ := h'.read
  simp only [Value.slice.injEq] at hvv
  obtain ⟨e1, e2, e3⟩ := hvv
  refine ⟨⟨by simp [e2], fun hp => ?_⟩, by rw [e2]; omega, fun x hx => ?_⟩
  · obtain ⟨g, hg, _, hlt, hra⟩ := hr (by omega)
    refine ⟨g, 0, by rw [e1, hg], hlt, fun i x hx => ?_⟩
    refine hra i _ ?_
    rw [List.getElem?_map] at hx ⊢
    obtain ⟨y, hy, rfl⟩ := Option.map_eq_some_iff.1 hx
    rw [hy]; rfl
  · obtain ⟨y, hy, rfl⟩ := List.mem_map.1 hx
    exact hl y hy
/-- the boards of the example -/
def M0 : Br := ⟨.slice none 0 0, .slice none 0 0, [], []⟩
theorem exam_pass {yes no : List BA} (hy : yes = [bob]) (hn : no = []) : passB yes no ann true ⟨1, false⟩ = true ∧ passB yes no ann true ⟨2, false⟩ = false := by
  subst hy; subst hn
  have hne : (bob = ann) = False := by
    refine propext ⟨fun h => ?_, False.elim⟩
    have := congrArg (fun s => s.data.toList) h
    simp [bob, ann] at this
  have e : othsL ann [bob] = [bk bob] := by
    show oths ann [bob] = _
    simp [oths, hne, addK]
  unfold passB
  rw [e]
  decide
theorem exam_votes : turnV [] (bk bob) 1 = [(bk bob, 1)] := by simp [turnV, outV]
set_option maxRecDepth 100000 in
set_option maxHeartbeats 4000000 in
theorem lives_is (w : World) : Calls Try.prog 10 #[] w fun e w' => e = .returned (.bool true) ∧ Below w.heap.size w w' := by
  have HNEW := new_is w
  have hz := zero43
  obtain ⟨Z, hZ⟩ : ∃ Z, Pp.zero.cells = Z := ⟨_, rfl⟩
  rw [hZ] at hz
  have HZ : Hid (Z.length = 39) := by show _ = _; rw [← hZ, zero_len]
  have hne : bob ≠ ann := fun h => by
    have := congrArg (fun s => s.data.toList) h
    simp [bob, ann] at this
  have HNE : Hid (bob ≠ ann) := hne
  clear hZ hne
  go_enter Try.func10, Try.ntmps10
  go_wp2_with fail
  refine HNEW.mono ?_
  rintro e w1 ⟨rfl, hB0, hb1⟩
  obtain ⟨b, hbb⟩ : ∃ b, w.heap.size = b := ⟨_, rfl⟩
  rw [hbb] at hB0
  have HP := propose_is hB0 (by omega) ann mainS h1 (by simp [h1])
  have HW1 : Hid (Below w.heap.size w w1 ∧ w.heap.size = b) := ⟨hb1, hbb⟩
  rw [hbb]
  clear HNEW hb1 hbb
  go_wp2_with (with_reducible change wpList _ _ _ ({ dst := some 11, op := _, type := _, pos := _, after := _, guard := _ } :: _) _ _; refine Hid.out ?_)
  show wpList _ _ _ _ _ _
  refine wpList_b1 rfl 32 0 _ rfl _ _ rfl run_h1 ?_
  simp only [Act.put, List.setIfInBounds_toArray, List.set_cons_zero, List.set_cons_succ]
  obtain ⟨UH, hUH⟩ : ∃ L, (U h1).toArray = L := ⟨_, rfl⟩
  rw [hUH] at HP ⊢
  rw [show ann = (⟨#[97, 110, 110]⟩ : ByteArray) from rfl, show mainS = (⟨#[109, 97, 105, 110]⟩ : ByteArray) from rfl] at HP
  go_wp2_with fail
  refine HP.mono ?_
  rintro e w2 ⟨M', hB2, hAf, hcase⟩
  rcases hcase with ⟨hc, _⟩ | ⟨_, hc, _⟩ | ⟨_, _, ⟨v7, v9, mb, rfl⟩, rfl⟩
  · simp at hc
  · simp at hc
  obtain ⟨P0, hP0⟩ : ∃ P0, Pr.new (⟨#[97, 110, 110]⟩ : ByteArray) (⟨#[109, 97, 105, 110]⟩ : ByteArray) h1 mb = P0 := ⟨_, rfl⟩
  rw [hP0] at hB2 hAf
  obtain ⟨M2, hM2⟩ : ∃ M2, Br.with ⟨.slice none 0 0, .slice none 0 0, [], []⟩ v7 v9 P0 = M2 := ⟨_, rfl⟩
  rw [hM2] at hB2 hAf
  have HM2 : Hid (M2.props = [P0] ∧ M2.opn = [1] ∧ P0.author = ann ∧ P0.votes = [] ∧ P0.patch.length = 32) := by rw [← hM2, ← hP0]; exact ⟨rfl, rfl, rfl, rfl, rfl⟩
  have hat : M2.at? 1 = some P0 := by unfold Br.at?; rw [HM2.out.1]; rfl
  have hopn : hasN M2.opn 1 = true := by rw [HM2.out.2.1]; rfl
  have HAT : Hid (M2.at? 1 = some P0 ∧ hasN M2.opn 1 = true) := ⟨hat, hopn⟩
  have HAF : Hid (Below w.heap.size w w2 ∧ ∀ k ∈ M2.bl b, w.heap.size ≤ k) := by
    have h0 := hAf.below (B := w.heap.size) HW1.out.1.size (by intro k hk; simp [Br.bl, Value.ownBlock] at hk; rw [hk]; exact Nat.le_of_eq HW1.out.2)
    exact ⟨HW1.out.1.trans h0.1, h0.2⟩
  have HV1 := vote_is hB2 (by omega) 1 (⟨#[97, 110, 110]⟩ : ByteArray) (by decide) true
  have e1 : M2.vote 1 (⟨#[97, 110, 110]⟩ : ByteArray) true = (M2, 200) := by
    unfold Br.vote
    rw [hat]
    simp only [hopn, Bool.true_eq_false, if_false, HM2.out.2.2.1]
    rfl
  rw [e1] at HV1
  clear e1 HP hB2 hAf hB0 hUH hP0 hM2 hat hopn
  go_wp2_with fail
  refine HV1.mono ?_
  rintro e w3 ⟨rfl, hB3, hAf3⟩
  have HAF3 : Hid (Below w.heap.size w w3) := HAF.out.1.trans (hAf3.below HAF.out.1.size HAF.out.2).1
  have HV2 := vote_is hB3 (by omega) 1 (⟨#[98, 111, 98]⟩ : ByteArray) (by decide) true
  obtain ⟨P1, hP1⟩ : ∃ P1 : Pr, { P0 with votes := [(bk bob, 1)] } = P1 := ⟨_, rfl⟩
  have e2 : M2.vote 1 (⟨#[98, 111, 98]⟩ : ByteArray) true = ({ M2 with props := [P1] }, 0) := by
    unfold Br.vote
    rw [HAT.out.1]
    have : (⟨#[98, 111, 98]⟩ : ByteArray) ≠ P0.author := by rw [HM2.out.2.2.1]; exact HNE.out
    simp only [HAT.out.2, Bool.true_eq_false, if_false, this, Br.turn, HM2.out.1]
    rw [HM2.out.2.2.2.1]
    show (({ M2 with props := [{ P0 with votes := turnV [] (bk bob) 1 }] }, 0) : Br × Int) = _
    rw [exam_votes, hP1]
  rw [e2] at HV2
  have HP1 : Hid (P1.author = ann ∧ P1.votes = [(bk bob, 1)] ∧ P1.patch.length = 32) := by rw [← hP1]; exact ⟨HM2.out.2.2.1, rfl, HM2.out.2.2.2.2⟩
  have HAF3' : Hid (∀ k ∈ M2.bl b, w.heap.size ≤ k) := HAF.out.2
  clear HV1 hB3 hAf3 e2 hP1
  go_wp2_with fail
  refine HV2.mono ?_
  rintro e w4 ⟨rfl, hB4, hAf4⟩
  have HAF4 : Hid (Below w.heap.size w w4) := HAF3.out.trans (hAf4.below HAF3.out.size HAF3'.out).1
  have HT := proposal_is hB4 1
  clear HV2 hB4 hAf4
  go_wp2_with fail
  refine HT.mono ?_
  rintro e w5 ⟨pp, is, rfl, htold, hb5⟩
  unfold ToldB at htold
  rw [show (({ M2 with props := [P1] } : Br).at? 1) = some P1 from rfl] at htold
  obtain ⟨rfl, y, n, t, hpp, hpl, hy, hn, _⟩ := htold
  have hopn2 : hasN ({ M2 with props := [P1] } : Br).opn 1 = true := HAT.out.2
  rw [hopn2] at hpp
  rw [HP1.out.2.1] at hy hn
  have HPP : Hid (pp.author = ann ∧ pp.opn = true ∧ pp.patch.length = 32 ∧ pp.y = y ∧ pp.n = n) := by rw [hpp]; exact ⟨HP1.out.1, rfl, HP1.out.2.2, rfl, rfl⟩
  have sB : sortK (whoV [(bk bob, 1)] 1) = [bk bob] := by simp [whoV, sortK]
  have s0 : sortK (whoV [(bk bob, 1)] 2) = [] := by simp [whoV, sortK]
  rw [sB] at hy
  rw [s0] at hn
  have hlb : (bk bob).length ≤ 140737488355328 := by simp [bk, bob]
  have HTY : Hid (Txt w5 pp.y [bob] ∧ Txt w5 pp.n []) := by
    rw [HPP.out.2.2.2.1, HPP.out.2.2.2.2]
    refine ⟨?_, ?_⟩
    · have := hy.txt (by intro x hx; simp at hx; subst hx; exact hlb) (by simp)
      exact this
    · have := hn.txt (by simp) (by simp)
      exact this
  have HB5 : Hid (Below w.heap.size w w5) := below_tr HAF4.out hb5
  clear HT hb5 hpp hpl hy hn hopn2 sB s0 hlb
  obtain ⟨cp, hcp⟩ : ∃ cp, pp.cells = cp := ⟨_, rfl⟩
  have HCP : Hid (pp.cells = cp ∧ cp.length = 39) := ⟨hcp, by rw [← hcp]; exact Pp.length HPP.out.2.2.1⟩
  rw [hcp]
  clear hcp
  go_wp2_with (with_reducible change wpList _ _ _ ({ dst := none, op := Op.store _ _ _, type := _, pos := _, after := _, guard := _ } :: _) _ _; refine Hid.out ?_)
  show wpList _ _ _ _ _ _
  refine wpList_store_blk rfl 43 (.tmp 6) (.tmp 22) rfl w5.heap.size 0 43 Z cp rfl rfl (by simpa using Blk.new w5 Z.toArray 43) (by rw [HZ.out, HCP.out.2]; omega) (by rw [HCP.out.2]; exact size43) (by rw [← HCP.out.1]; exact Pp.one _) ?_
  intro w6 hb6 hg6
  obtain ⟨q, hq⟩ : ∃ q, w5.heap.size = q := ⟨_, rfl⟩
  rw [hq] at hb6 hg6 ⊢
  have HB6 : Hid (Below w.heap.size w w6 ∧ Below w5.heap.size w5 w6) := by
    have h0 : Below w5.heap.size w5 w6 := (below_al w5 _).grown hg6.out (below_al w5 _).size (fun j hj => by cases hj; exact Nat.le_of_eq hq)
    exact ⟨below_tr HB5.out h0, h0⟩
  have HR6 : Hid (w6.rangeAt q 0 cp ∧ q < w6.heap.size) := by
    have := hb6.out
    rw [List.take_zero, List.nil_append, List.drop_of_length_le (by rw [HZ.out, HCP.out.2]; omega), List.append_nil] at this
    exact ⟨fun j v hj => by rw [Nat.zero_add]; exact this.cell hj, this.lt⟩
  have HPA := fun (W : World) (hW : Below w5.heap.size w5 W) (qq : Po) => passes_is pp qq [bob] [] W HPP.out.2.2.1 (HTY.out.1.below hW) (HTY.out.2.below hW)
  rw [HCP.out.1, HPP.out.1, HPP.out.2.1] at HPA
  have ex := exam_pass (yes := [bob]) (no := []) rfl rfl
  have HP1' : Hid (Calls Try.prog 20 #[.agg cp.toArray, .agg #[iv 1, .bool false]] w6 fun e w' => e = .returned (.bool true) ∧ Below w6.heap.size w6 w') := by
    have := HPA w6 HB6.out.2 ⟨1, false⟩
    rw [ex.1] at this
    exact this
  have HP2' : Hid (∀ W, Below w6.heap.size w6 W → Calls Try.prog 20 #[.agg cp.toArray, .agg #[iv 2, .bool false]] W fun e w' => e = .returned (.bool false) ∧ Below W.heap.size W w') := fun W hW => by
    have := HPA W (below_tr HB6.out.2 hW) ⟨2, false⟩
    rw [ex.2] at this
    exact this
  clear HPA ex hb6 hg6 hq hz
  go_wp2_with (with_reducible change wpList _ _ _ ({ dst := some 42, op := _, type := _, pos := _, after := _, guard := _ } :: _) _ _; refine Hid.out ?_)
  show wpList _ _ _ _ _ _
  refine wpList_load_want rfl 43 (.tmp 6) rfl q 0 rfl cp _ HR6.out.1 Try.underlying43 rfl (by rw [HCP.out.2]; exact size43) ?_
  simp only [Act.put, List.setIfInBounds_toArray, List.set_cons_zero, List.set_cons_succ]
  go_wp2_with fail
  refine HP1'.out.mono ?_
  rintro e w7 ⟨rfl, hb7⟩
  have HP3 := HP2'.out w7 hb7
  have HR7 : Hid (w7.rangeAt q 0 cp ∧ Below w.heap.size w w7) := ⟨rangeAt_same HR6.out.1 (hb7.block q HR6.out.2), below_tr HB6.out.1 hb7⟩
  clear HP1' HP2' hb7
  go_wp2_with (with_reducible change wpList _ _ _ ({ dst := some 47, op := _, type := _, pos := _, after := _, guard := _ } :: _) _ _; refine Hid.out ?_)
  show wpList _ _ _ _ _ _
  refine wpList_load_want rfl 43 (.tmp 6) rfl q 0 rfl cp _ HR7.out.1 Try.underlying43 rfl (by rw [HCP.out.2]; exact size43) ?_
  simp only [Act.put, List.setIfInBounds_toArray, List.set_cons_zero, List.set_cons_succ]
  go_wp2_with fail
  refine HP3.mono ?_
  rintro e w8 ⟨rfl, hb8⟩
  have HB8 : Hid (Below w.heap.size w w8) := below_tr HR7.out.2 hb8
  clear HP3 hb8
  go_wp2_with fail
  go_ret
  exact ⟨rfl, HB8.out⟩
#print axioms lives_is
end Go.Proofs.Ytaecigpjcbjcbaa.Oct
