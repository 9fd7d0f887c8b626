/-
  Layer 20 (review): Proposal.
-/
import Derived.Test.YtaecigpjcbjcbaaPrp
import Derived.Laws.ResultCell
namespace Go.Proofs.Ytaecigpjcbjcbaa.Oct
open Go.RowKit
set_option linter.unusedSimpArgs false

/-- the way out of a function of a struct that lies in memory, and one value more -/
theorem ret_cell {R : Ending → World → Prop} {fn : Func} {pt u : Tmp} {ty : TypeId} {a : Act} {w : World} {g : Nat} {cs : List Value} {d : TypeDesc} (hr : fn.results = #[.cell pt ty, .tmp u]) (hd : a.defers = []) (hp : a.tmps.getD pt undef = .pointer (some ⟨g, 0, none⟩))
    (hb : w.rangeAt g 0 cs) (hu : Try.prog.underlying ty = some d) (hrow : d.isRow = true) (hi : (Try.prog.info? ty).map (·.size) = some cs.length) (hR : R (.returned (.tuple #[.agg cs.toArray, a.tmps.getD u undef])) w) : bodyPost Try.prog fn R .ret a w := by
  have hl := run_loadVar_mid (P := Try.prog) w g 0 ty cs _ hb hu hrow hi
  refine bodyPost_ret (v := .tuple #[.agg cs.toArray, a.tmps.getD u undef]) ?_ hd hR
  rw [results_cell_tmp hr, hp]
  simp [asAddr, hl, Result.andThen]
/-- a proposal as it is told -/
def ToldB (B : Nat) (w' : World) (M : Br) (x : Int) (pp : Pp) (is : Bool) : Prop := match M.at? x with
  | none => is = false ∧ pp = Pp.zero
  | some p => is = true ∧ ∃ y n t : Sl, pp = ⟨x, p.author, p.channel, p.patch, hasN M.opn x, y, n, t⟩ ∧ p.patch.length = 32 ∧ Names B w' y (sortK (whoV p.votes 1)) ∧ Names B w' n (sortK (whoV p.votes 2)) ∧ w'.ownsRow B 50 2 (.slice t.a t.n t.c) p.talk.length (talkC p.talk)
def ToldP (w : World) (M : Br) (x : Int) (e : Ending) (w' : World) : Prop := ∃ pp is, e = .returned (.tuple #[.agg pp.cells.toArray, .bool is]) ∧ ToldB w.heap.size w' M x pp is ∧ Below w.heap.size w w'
set_option maxRecDepth 100000 in
set_option maxHeartbeats 1000000 in
theorem proposal_is {w : World} {b K : Nat} {M : Br} (h : BAt w b M K) (x : Int) : Calls Try.prog 16 #[.pointer (some ⟨b, 0, none⟩), iv x] w (ToldP w M x) := by
  obtain ⟨Z, hZ⟩ : ∃ Z, Pp.zero.cells = Z := ⟨_, rfl⟩
  have hz := zero43
  have hb0 := run_build43_0
  rw [hZ] at hz hb0
  obtain ⟨A, hA⟩ : ∃ A, w.alloc (.cells Z.toArray 43) = A := ⟨_, rfl⟩
  obtain ⟨q, hq⟩ : ∃ q, w.heap.size = q := ⟨_, rfl⟩
  have hB : Below w.heap.size w A := by rw [← hA]; exact below_al _ _
  have HF := find_is (h.below hB) x
  have HQB : Hid (Blk A q 43 Pp.zero.cells) := by show Blk _ _ _ _; rw [← hA, ← hq, hZ]; simpa using Blk.new w Z.toArray 43
  have HB : Hid (Below w.heap.size w A) := hB
  have HA : Hid (BAt w b M K) := h
  have HQ : Hid (w.heap.size ≤ q) := by show _ ≤ _; omega
  have HZ : Hid (Pp.zero.cells = Z) := hZ
  clear h hB hZ
  go_enter Try.func16, Try.ntmps16
  go_wp2_with fail
  refine HF.mono ?_
  rintro e w1 ⟨⟨h1, rfl⟩ | ⟨p, g, i, h1, h2, h3, h4, rfl⟩, rfl⟩
  · have H1 : Hid (M.at? x = none) := h1
    clear h1 HF
    go_wp2_with (first
      | (with_reducible change wpList _ _ _ ({ dst := none, op := Op.store _ _ _, type := _, pos := _, after := _, guard := _ } :: _) _ _; refine Hid.out ?_))
    show wpList _ _ _ _ _ _
    refine wpList_store_blk rfl 43 (.tmp 4) (.tmp 16) rfl q 0 43 Z Z rfl rfl (by rw [← HZ.out]; exact HQB.out) (by omega) (by rw [← HZ.out, zero_len]; exact size43) (by rw [← HZ.out]; exact Pp.one _) ?_
    intro w5 hb5 hg5
    have HF5 : Hid (Blk w5 q 43 Pp.zero.cells ∧ Below w.heap.size w w5) := by
      refine ⟨?_, HB.out.grown hg5.out HB.out.size (fun j hj => by cases hj; exact HQ.out)⟩
      have := hb5.out
      rw [HZ.out]
      simpa using this
    clear hb5 hg5
    go_wp2
    refine ret_cell (cs := Pp.zero.cells) rfl rfl rfl (by have := HF5.out.1.range 0 39; rw [List.drop_zero, List.take_of_length_le (by rw [zero_len]; exact Nat.le_refl _)] at this; exact this) Try.underlying43 rfl (by rw [zero_len]; exact size43) ?_
    refine ⟨Pp.zero, false, rfl, ?_, HF5.out.2⟩
    unfold ToldB
    rw [H1.out]
    exact ⟨rfl, rfl⟩
  · have H1 : Hid (M.at? x = some p) := h1
    obtain ⟨a1, a2, a3, a4, a5, a6, a7, a8, a9⟩ := HA.out.where h3 h4
    obtain ⟨ta, hta⟩ : ∃ s : Sl, p.tv = .slice s.a s.n s.c := own_sl (HA.out.each p (List.mem_of_getElem? h3)).talk
    rw [hta] at a5
    have HTA : Hid (p.tv = .slice ta.a ta.n ta.c) := hta
    have HI : Hid (M.props[i]? = some p ∧ M.pv.ownBlock = some g) := ⟨h3, h4⟩
    have HL : Hid (g < w.heap.size ∧ w.rangeAt g (i * 36 + 2) (U p.patch) ∧ p.patch.length = 32) := ⟨a6, a3, a9⟩
    obtain ⟨r, hr⟩ : ∃ r, hasN M.opn x = r := ⟨_, rfl⟩
    have HR : Hid (hasN M.opn x = r) := hr
    clear h1 h2 h3 h4 HF a3 a4 a6 a7 a8 a9 hta hr
    go_wp2_with fail
    refine told4 (p := p) HB HA HI HL a1 a2 a5 HTA HR HQ HQB ?_
    intro V y n t hT
    have HT : Hid (Tld w p x r q y n t V) := hT
    clear hT a1 a2 a5
    go_wp2_with fail
    refine ret_cell (cs := Pp.cells ⟨x, p.author, p.channel, p.patch, r, y, n, t⟩) rfl rfl rfl HT.out.1 Try.underlying43 rfl (by rw [Pp.length HL.out.2.2]; exact size43) ?_
    refine ⟨_, true, rfl, ?_, HT.out.2.2.2.2⟩
    unfold ToldB
    rw [H1.out, HR.out]
    exact ⟨rfl, y, n, t, rfl, HL.out.2.2, HT.out.2.1, HT.out.2.2.1, HT.out.2.2.2.1⟩
#print axioms proposal_is
set_option maxRecDepth 100000 in
theorem new_is (w : World) : Calls Try.prog 11 #[] w fun e w' => e = .returned (.pointer (some ⟨w.heap.size, 0, none⟩)) ∧ BAt w' w.heap.size ⟨.slice none 0 0, .slice none 0 0, [], []⟩ 0 ∧ Below w.heap.size w w' := by
  go_enter Try.func11, Try.ntmps11
  go_wp2
  go_ret
  refine ⟨rfl, ⟨Blk.new w _ 70, Ow.nil _ _ _, Ow.nil _ _ _, by simp, by simp [Br.bl, Value.ownBlock], Nat.le_refl _, by simp, by simp, by omega⟩, below_al _ _⟩
#print axioms new_is
end Go.Proofs.Ytaecigpjcbjcbaa.Oct
