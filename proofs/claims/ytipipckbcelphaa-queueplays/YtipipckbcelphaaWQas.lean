/-
  Layer 21 (queue): answer.
-/
import Derived.Test.YtipipckbcelphaaWQan
namespace Go.Proofs.Ytipipckbcelphaa.Oct
open Go.RowKit Go.Shelf
set_option linter.unusedSimpArgs false
set_option linter.unusedVariables false

theorem store_fn {w : World} {a : Addr} {v u : Value} (h1 : v.oneCell' = true) (hc : w.cell? a = some u) (hf : w.frozen? a = false) : (store a v).run Try.prog w = .ok () (w.setCell a v) := by
  simp [run_store _ _ _ _ _ h1, stored, hc, hf]
set_option maxRecDepth 100000 in
theorem d46 {w : World} {b k2 : Nat} {M : Qu} {T : Value} (u : FrameMode) (hc : w.cell? ⟨k2, 0, none⟩ = some (.pointer (some ⟨b, 0, none⟩))) (hT : w.cell? ⟨b, 3, none⟩ = some T) (hz : w.frozen? ⟨b, 3, none⟩ = false) :
    CallsD Try.prog 46 #[.pointer (some ⟨k2, 0, none⟩)] u w fun e u' w' => u' = u ∧ (e = .returned (.tuple #[]) ∧ w' = w.setCell ⟨b, 3, none⟩ .nilFunc) := by
  have hst := store_fn (v := .nilFunc) rfl hT hz
  go_enter_d Try.func46, Try.ntmps46
  go_wp2
  go_end0
  exact ⟨rfl, rfl⟩
abbrev fnV (F : Nat) (cs : Array Value) : Value := .func (.func F) #[] cs
/-- what answer leaves: A: the world in which the try was called; V: behind it -/
def AnsP (w : World) (b K' : Nat) (S0 : Nat → Prop) (T : Value) (R : Int → Qu → World → World → Prop) (e : Ending) (w' : World) : Prop :=
  ∃ A V r M', e = .returned (iv r) ∧ Keep (fun k => k = b) w A ∧ QAt V b M' T K' ∧ Keep S0 A V ∧ R r M' A V ∧ w' = V.setCell ⟨b, 3, none⟩ .nilFunc ∧ A.heap.size = w.heap.size + 1
set_option maxRecDepth 100000 in
set_option maxHeartbeats 2000000 in
theorem answer_is {w : World} {b K K' F : Nat} {M : Qu} {x : Int} {cs : Array Value} {S0 : Nat → Prop} {R : Int → Qu → World → World → Prop} (h : QAt w b M .nilFunc K) (hx : M.W[0]? = some x) (hent : Enters Try.prog F) (hS : ¬ S0 w.heap.size)
    (HT : ∀ A, QAt A b M (fnV F cs) K → Keep (fun k => k = b) w A → A.heap.size = w.heap.size + 1 → Calls Try.prog F (#[iv x] ++ cs) A fun e V => ∃ r M', e = .returned (iv r) ∧ QAt V b M' (fnV F cs) K' ∧ Keep S0 A V ∧ R r M' A V) :
    Calls Try.prog 40 #[.pointer (some ⟨b, 0, none⟩), fnV F cs] w (AnsP w b K' S0 (fnV F cs) R) := by
  have hmf : ∀ (fn : Fn) (first cap : Array Value) (w : World), (Instr.makeFunc fn first cap).run Try.prog w = .ok (.func fn first cap) w := fun _ _ _ _ => rfl
  obtain ⟨A1, hA1⟩ : ∃ A1, w.alloc (.cells #[.pointer (some ⟨b, 0, none⟩)] 25) = A1 := ⟨_, rfl⟩
  have hbA : Below w.heap.size w A1 := by rw [← hA1]; exact below_al _ _
  have hqA := h.below hbA
  have hq2 := hqA.tput (fnV F cs)
  obtain ⟨A2, hA2⟩ : ∃ A2, A1.setCell ⟨b, 3, none⟩ (fnV F cs) = A2 := ⟨_, rfl⟩
  rw [hA2] at hq2
  have hbl := h.blk.lt
  have h2 : Blk A2 w.heap.size 25 [.pointer (some ⟨b, 0, none⟩)] := by
    rw [← hA2, ← hA1]
    exact (Blk.new w #[.pointer (some ⟨b, 0, none⟩)] 25).other (by show w.heap.size ≠ b; omega) _
  have hkA : Keep (fun k => k = b) w A2 := (Keep.below hbA).trans (by rw [← hA2]; exact Keep.grown (grown_setCell A1 b 3 _) rfl) (fun _ hj _ => hj)
  have hsz : A2.heap.size = w.heap.size + 1 := by rw [← hA2, ← hA1]; simp
  obtain ⟨a, cap, hv, hnc, _, hlen, hr⟩ := hq2.1.wrow.read
  have hn0 : 0 < M.W.length := (List.getElem?_eq_some_iff.1 hx).1
  obtain ⟨g, rfl, _, hgl, hra⟩ := hr hn0
  have cx : A2.cell? ⟨g, 0, none⟩ = some (iv x) := by
    have := hra 0 _ (ivs_at hx)
    exact this
  have HX : Hid (A2.cell? ⟨b, 3, none⟩ = some (fnV F cs) ∧ A2.cell? ⟨b, 1, none⟩ = some (.slice (some ⟨g, 0, none⟩) M.W.length cap) ∧ A2.cell? ⟨g, 0, none⟩ = some (iv x)) := ⟨hq2.1.blk.cell rfl, by rw [← hv]; exact hq2.1.blk.cell rfl, cx⟩
  have HN : Hid (0 < M.W.length ∧ M.W.length ≤ 64) := ⟨hn0, h.nW⟩
  have HL : Hid (w.heap.size < A2.heap.size ∧ ¬ S0 w.heap.size) := ⟨h2.lt, hS⟩
  have c2 : A2.cell? ⟨w.heap.size, 0, none⟩ = some (.pointer (some ⟨b, 0, none⟩)) := h2.cell rfl
  have HTT := HT A2.drew (hq2.1.same fun _ _ => rfl) hkA.drew hsz
  have HQ : Hid (QAt A2 b M (fnV F cs) K ∧ Keep (fun k => k = b) w A2 ∧ A2.heap.size = w.heap.size + 1 ∧ Blk A2 w.heap.size 25 [.pointer (some ⟨b, 0, none⟩)] ∧ ¬ S0 w.heap.size) := ⟨hq2.1, hkA, hsz, h2, hS⟩
  have b3 : A1.cell? ⟨b, 3, none⟩ = some .nilFunc := hqA.blk.cell rfl
  have f3 : A1.frozen? ⟨b, 3, none⟩ = false := hqA.blk.free 3
  have a2 : A1.cell? ⟨w.heap.size, 0, none⟩ = some (.pointer (some ⟨b, 0, none⟩)) := by rw [← hA1]; exact (Blk.new w #[.pointer (some ⟨b, 0, none⟩)] 25).cell rfl
  have HTT2 : Calls Try.prog F (#[iv x] ++ cs) A2.drew fun e V => ∃ r, e = .returned (iv r) ∧ Keep S0 A2 V ∧ ∃ M', QAt V b M' (fnV F cs) K' ∧ R r M' A2.drew V := by
    refine HTT.mono ?_
    rintro e V ⟨r, M', h1, h2, h3, h4⟩
    exact ⟨r, h1, ⟨h3.os, h3.tape, h3.output, h3.size, h3.block⟩, M', h2, h4⟩
  have hst := store_fn (v := fnV F cs) rfl b3 f3
  rw [hA2] at hst
  clear h hx hS HT hbA hqA hq2 hbl h2 hkA hsz hv hnc hlen hr hn0 hgl hra cx HTT
  go_enter_defers Try.func40, Try.ntmps40
  go_wp2_with fail
  refine ans3 (R := fun r V => ∃ M', QAt V b M' (fnV F cs) K' ∧ R r M' A2.drew V) HL c2 HX HN hent HTT2 ?_
  intro V r hr hk
  obtain ⟨M', hq, hR⟩ := hr
  have hkb : V.cell? ⟨w.heap.size, 0, none⟩ = some (.pointer (some ⟨b, 0, none⟩)) := (hk.blk HQ.out.2.2.2.1 HQ.out.2.2.2.2).cell rfl
  have hb3 : V.cell? ⟨b, 3, none⟩ = some (fnV F cs) := hq.blk.cell rfl
  have hf3 : V.frozen? ⟨b, 3, none⟩ = false := hq.blk.free 3
  have HD := d46 (M := M) .returning hkb hb3 hf3
  have HF : Hid (AnsP w b K' S0 (fnV F cs) R (.returned (iv r)) (V.setCell ⟨b, 3, none⟩ .nilFunc)) := ⟨A2.drew, V, r, M', rfl, HQ.out.2.1.drew, hq, ⟨hk.os, hk.tape, hk.output, hk.size, hk.block⟩, hR, rfl, HQ.out.2.2.1⟩
  clear hk hq hR hkb hb3 hf3 HL c2 HX HN HTT2 hst a2 b3 f3 hent
  go_wp2_with fail
  refine leaves_cons (f := 46) (args := #[.pointer (some ⟨w.heap.size, 0, none⟩)]) (by simp) (by simp [go_sem]) ?_
  refine HD.mono ?_
  rintro e u' w'' ⟨rfl, rfl, rfl⟩
  exact ⟨_, results_tmp (t := 4) rfl _ _ _, HF.out⟩
#print axioms answer_is
end Go.Proofs.Ytipipckbcelphaa.Oct
