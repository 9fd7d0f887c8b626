/-
  Layer 11 (lines): Text; isAlive; counting ones.
-/
import Derived.Test.YtjcihaohpbmogaaShn
namespace Go.Proofs.Ytjcihaohpbmogaa.Oct
open Go.RowKit
set_option maxRecDepth 100000
set_option linter.unusedSimpArgs false
set_option linter.unusedVariables false
set_option linter.unusedSectionVars false

theorem one36 : One 36 9 16 := ⟨Try.underlying36, inf_of (by kernel_rfl), by omega⟩
theorem bs9 (s : BA) (W : World) : (Instr.buildSlice 36 1 #[(0, .string s)]).run Try.prog W = .ok (.slice (some ⟨W.heap.size, 0, none⟩) 1 1) (W.alloc (.cells [Value.string s].toArray 9)) := by kernel_rfl
theorem zval50 : ∃ Z : List Value, (∀ W, (zeroValue 50).run Try.prog W = .ok (.agg Z.toArray) W) ∧ Hid (Z.length = 35) := ⟨Sx.cells ⟨vTop, e0, 0⟩, fun W => by kernel_rfl, by rfl⟩
theorem Sx.text {x : Sx} (h : Sk x) : x.cells[33]? = some (.string x.t) := by
  unfold Sx.cells
  rw [List.getElem?_append_right (by rw [Vx.len h.1]; exact Nat.le_refl 33), Vx.len h.1]
  rfl
theorem Sx.kn {x : Sx} (h : Sk x) : x.cells[34]? = some (iv (x.k : Int)) := by
  unfold Sx.cells
  rw [List.getElem?_append_right (by rw [Vx.len h.1]; omega), Vx.len h.1]
  rfl
/-- the living lines' texts -/
def txs (l : List Sx) : List BA := (l.filter fun x => x.k == 0).map (·.t)
def strs (l : List BA) : List Value := l.map .string
theorem txs_take {l : List Sx} {i : Nat} {x : Sx} (h : l[i]? = some x) : txs (l.take (i + 1)) = txs (l.take i) ++ (if x.k = 0 then [x.t] else []) := by
  unfold txs
  rw [List.take_add_one, h, List.filter_append, List.map_append]
  congr 1
  by_cases hk : x.k = 0 <;> simp [hk]
theorem txs_len (l : List Sx) : (txs l).length ≤ l.length := by unfold txs; rw [List.length_map]; exact List.length_filter_le _ _
theorem ordr_le (fl : Nat → List Nat) (vs : List Nat) : (Gr.ordr fl vs).length ≤ vs.length := by
  unfold Gr.ordr
  have h : ∀ (k : Nat) (out : List Nat), (Gr.run fl vs k out).length ≤ out.length + k := by
    intro k
    induction k with
    | zero => intro out; unfold Gr.run; simp
    | succ k ih =>
      intro out
      unfold Gr.run
      cases Gr.nxt fl vs out with
      | none => simp
      | some n => have := ih (out ++ [n]); simp at this ⊢; omega
  have := h vs.length []
  simpa using this
set_option maxHeartbeats 8000000 in
theorem text_is {w : World} {p : Nat} {G : Gm} (h : GAt w p G) (F : Vx → Nat) (hF : G.acy F) : Calls Try.prog 24 #[.pointer (some ⟨p, 0, none⟩)] w fun e w' => ∃ a n c vs, e = .returned (.slice a n c) ∧ Hid (G.rise vs ∧ CR w' 9 a n (strs (txs (G.shown vs)))) ∧ Hid (Below w.heap.size w w') := by
  have HG : Hid (GAt w p G ∧ G.acy F) := ⟨h, hF⟩
  obtain ⟨Z, hZ, HZ⟩ := zval50
  clear h hF
  go_enter Try.func24, Try.ntmps24
  go_wp2_with fail
  refine (shown_is HG.out.1 F HG.out.2).mono ?_
  rintro e W1 ⟨a, n, c, vs, rfl, HS, HB⟩
  have H1 : Hid (Below w.heap.size w W1 ∧ G.rise vs ∧ SsR W1 a n (G.shown vs) ∧ n ≤ 512) := by
    refine ⟨HB.out, HS.out.1, HS.out.2, ?_⟩
    have h1 := HS.out.2.1
    have h2 := HS.out.1.1.length_eq
    have h3 := HG.out.1.few
    have h4 := ordr_le (flv G vs) (List.range vs.length)
    unfold Gm.shown at h1
    rw [List.length_map] at h1
    rw [List.length_range] at h4
    simp [Gm.keys] at h2
    omega
  have q0 : (n : Int) ≤ 512 := by have := H1.out.2.2.2; omega
  obtain ⟨L, hL⟩ : ∃ L, G.shown vs = L := ⟨_, rfl⟩
  have HL : Hid (G.shown vs = L) := hL
  rw [hL] at H1
  clear hL HB HS
  go_wp2
  go_loopw [9, 3] (fun u v wr => ∃ i : Nat, u = iv (i : Int) ∧ Hid (i ≤ n ∧ Below W1.heap.size W1 wr ∧ OC W1.heap.size wr 9 v (txs (L.take i)).length (strs (txs (L.take i))))) (fun u _ _ => n - (intOf u).toNat)
  case atStart => exact ⟨0, rfl, Nat.zero_le _, Below.refl _ _, OC.nil _ _ _⟩
  case round =>
    obtain ⟨X, hX⟩ : ∃ X, X = wr := ⟨_, rfl⟩
    subst hX
    obtain ⟨i, rfl, HI⟩ := hrel
    by_cases hi : i < n
    · obtain ⟨x, hx⟩ : ∃ x, L[i]? = some x := ⟨_, List.getElem?_eq_getElem (by rw [H1.out.2.2.1.1]; exact hi)⟩
      have HX : Hid (i < n ∧ L[i]? = some x ∧ Sk x) := ⟨hi, hx, H1.out.2.2.1.2.1 x (List.mem_of_getElem? hx)⟩
      obtain ⟨gb, off, rfl, hg, hel⟩ := H1.out.2.2.1.2.2 (by omega)
      have HR : Hid (X.rangeAt gb (off + i * 35) x.cells) := rangeAt_same (hel i x hx) (HI.out.2.1.block gb hg)
      have q1 : (i : Int) < (n : Int) := by omega
      clear hel hx hi hg
      go_wp2_with (first
        | (with_reducible change wpList _ _ _ ({ dst := some 12, op := _, type := _, pos := _, after := _, guard := _ } :: _) _ _
           refine wpList_load_want rfl 50 (.tmp 11) rfl gb (off + i * 35) rfl x.cells _ HR.out Try.underlying50 rfl (info50 HX.out.2.2) ?_)
        | (with_reducible change wpList _ _ _ ({ dst := none, op := Op.store 50 _ _, type := _, pos := _, after := _, guard := _ } :: _) _ _
           refine Hid.out ?_)
        | fail)
      show wpList _ _ _ _ _ _
      refine wpList_store_fresh rfl 50 (.tmp 5) (.tmp 12) rfl Z x.cells 50 rfl rfl (by rw [Sx.len HX.out.2.2, HZ.out]) (info50 HX.out.2.2) (Sx.one x) ?_
      obtain ⟨X2, hX2⟩ : ∃ W, X.alloc (.cells x.cells.toArray 50) = W := ⟨_, rfl⟩
      obtain ⟨d5, hd5⟩ : ∃ g, X.heap.size = g := ⟨_, rfl⟩
      have H2 : Hid (Below W1.heap.size W1 X2 ∧ OC W1.heap.size X2 9 u3 (txs (L.take i)).length (strs (txs (L.take i))) ∧ Blk X2 d5 50 x.cells) := by
        have hb : Below X.heap.size X X2 := by rw [← hX2]; exact below_al _ _
        exact ⟨HI.out.2.1.trans (hb.mono HI.out.2.1.size), HI.out.2.2.below hb, by rw [← hX2, ← hd5]; exact Blk.new _ _ _⟩
      rw [hX2, hd5]
      clear hX2 hd5 HR HI
      have c34 : X2.cell? ⟨d5, 34, none⟩ = some (iv (x.k : Int)) := H2.out.2.2.cell (Sx.kn HX.out.2.2)
      have c33 : X2.cell? ⟨d5, 33, none⟩ = some (.string x.t) := H2.out.2.2.cell (Sx.text HX.out.2.2)
      by_cases hk : x.k = 0
      · have q2 : (x.k : Int) = 0 := by omega
        rw [q2] at c34
        go_wp2_with (first
          | (with_reducible change wpList _ _ _ ({ dst := some 19, op := _, type := _, pos := _, after := _, guard := _ } :: _) _ _
             refine Hid.out ?_)
          | fail)
        show wpList _ _ _ _ _ _
        obtain ⟨X3, hX3⟩ : ∃ W, X2.alloc (.cells [Value.string x.t].toArray 9) = W := ⟨_, rfl⟩
        obtain ⟨z3, hz3⟩ : ∃ g, X2.heap.size = g := ⟨_, rfl⟩
        have H3 : Hid (Below W1.heap.size W1 X3 ∧ OC W1.heap.size X3 9 u3 (txs (L.take i)).length (strs (txs (L.take i))) ∧ Blk X3 z3 9 [.string x.t]) := by
          have hb : Below X2.heap.size X2 X3 := by rw [← hX3]; exact below_al _ _
          exact ⟨H2.out.1.trans (hb.mono H2.out.1.size), H2.out.2.1.below hb, by rw [← hX3, ← hz3]; exact Blk.new _ _ _⟩
        refine wpList_bs rfl 36 (.tmp 18) rfl (.string x.t) (.slice (some ⟨X2.heap.size, 0, none⟩) 1 1) rfl (X2.alloc (.cells [Value.string x.t].toArray 9)) (bs9 _ _) ?_
        rw [hX3, hz3]
        clear hX3 hz3 H2 c33 c34
        go_wp2_with (first
          | (with_reducible change wpList _ _ _ ({ dst := some 20, op := _, type := _, pos := _, after := _, guard := _ } :: _) _ _
             refine Hid.out ?_)
          | fail)
        show wpList _ _ _ _ _ _
        refine wpList_appc rfl one36 (.tmp 16) (.tmp 19) rfl W1.heap.size u3 _ _ z3 (.string x.t) rfl rfl H3.out.2.1 H3.out.2.2 rfl (by have h0 := txs_len (L.take i); rw [List.length_take] at h0; have := H1.out.2.2.2; have := HX.out.1; omega) H3.out.1.size ?_
        intro v' X4 r1 r2 r3
        have H4 : Hid (Below W1.heap.size W1 X4 ∧ OC W1.heap.size X4 9 v' (txs (L.take (i + 1))).length (strs (txs (L.take (i + 1))))) := by
          refine ⟨H3.out.1.grown r2 H3.out.1.size (fun k hk => (r3 k hk).1), ?_⟩
          rw [txs_take HX.out.2.1, if_pos hk, List.length_append]
          unfold strs
          rw [List.map_append]
          exact r1
        clear r1 r2 r3 H3
        go_wp2
        refine ⟨⟨i + 1, by simp, HX.out.1, H4.out.1, H4.out.2⟩, ?_⟩
        have := HX.out.1; simp [intOf]; omega
      · have q2 : ¬ (x.k : Int) = 0 := by omega
        have H4 : Hid (Below W1.heap.size W1 X2 ∧ OC W1.heap.size X2 9 u3 (txs (L.take (i + 1))).length (strs (txs (L.take (i + 1))))) := by
          refine ⟨H2.out.1, ?_⟩
          rw [txs_take HX.out.2.1, if_neg hk, List.append_nil]
          exact H2.out.2.1
        go_wp2
        refine ⟨⟨i + 1, by simp, HX.out.1, H4.out.1, H4.out.2⟩, ?_⟩
        have := HX.out.1; simp [intOf]; omega
    · have q1 : ¬ (i : Int) < (n : Int) := by omega
      obtain rfl : i = n := by have := HI.out.1; omega
      have HE : Hid (Below w.heap.size w X ∧ OC W1.heap.size X 9 u3 (txs L).length (strs (txs L))) := by
        have h1 := HI.out.2.2
        rw [List.take_of_length_le (by rw [H1.out.2.2.1.1]; exact Nat.le_refl _)] at h1
        exact ⟨below_tr H1.out.1 HI.out.2.1, h1⟩
      obtain ⟨oa, oc, rfl, HC, _⟩ := HE.out.2.read
      have HCC := hid_of HC
      clear HC HI
      go_wp2
      go_ret
      exact ⟨oa, _, ⟨oc, rfl⟩, ⟨vs, H1.out.2.1, by rw [HL.out]; exact HCC.out⟩, HE.out.1⟩
#print axioms text_is
end Go.Proofs.Ytjcihaohpbmogaa.Oct
