/-
  Layer 21 (queue): Drop, Step.
-/
import Derived.Test.YtipipckbcelphaaWQas
namespace Go.Proofs.Ytipipckbcelphaa.Oct
open Go.RowKit Go.Shelf
set_option linter.unusedSimpArgs false
set_option linter.unusedVariables false

set_option maxRecDepth 100000 in
set_option maxHeartbeats 1000000 in
theorem drop_no {w : World} {b K : Nat} {M : Qu} {T : Value} (h : QAt w b M T K) {x : Int} (hx : x ∉ M.W) : Calls Try.prog 13 #[.pointer (some ⟨b, 0, none⟩), iv x] w fun e w' => e = .returned (iv 111) ∧ w = w' := by
  have HP := place_is h x
  have e1 : plc M.W x = -1 := (plc_cases M.W x).elim (fun h => h.1) (fun ⟨k, _, h2, _⟩ => absurd (List.mem_of_getElem? h2) hx)
  rw [e1] at HP
  have HM := isMade_is (h.blk.cell rfl : w.cell? ⟨b, 0, none⟩ = some (.bool true))
  clear h hx e1
  go_enter Try.func13, Try.ntmps13
  go_wp2_with fail
  refine HP.mono ?_
  rintro e w1 ⟨rfl, rfl⟩
  clear HP
  go_wp2_with fail
  refine HM.mono ?_
  rintro e w1 ⟨rfl, rfl⟩
  clear HM
  go_wp2
  go_ret
  exact ⟨rfl, rfl⟩
set_option maxRecDepth 100000 in
set_option maxHeartbeats 1000000 in
theorem drop_over {w : World} {b K F : Nat} {M : Qu} {cs : Array Value} (h : QAt w b M (fnV F cs) K) {x : Int} (hx : M.W[0]? = some x) : Calls Try.prog 13 #[.pointer (some ⟨b, 0, none⟩), iv x] w fun e w' => e = .returned (iv 82) ∧ w = w' := by
  have HP := place_is h x
  have e1 : plc M.W x = 0 := plc_yes (k := 0) hx (fun j y hj => absurd hj (by omega))
  rw [e1] at HP
  have HM := isMade_is (h.blk.cell rfl : w.cell? ⟨b, 0, none⟩ = some (.bool true))
  have HT := trying_yes (h.blk.cell rfl : w.cell? ⟨b, 3, none⟩ = some (fnV F cs))
  clear h hx e1
  go_enter Try.func13, Try.ntmps13
  go_wp2_with fail
  refine HP.mono ?_
  rintro e w1 ⟨rfl, rfl⟩
  clear HP
  go_wp2_with fail
  refine HM.mono ?_
  rintro e w1 ⟨rfl, rfl⟩
  clear HM
  go_wp2_with fail
  refine HT.mono ?_
  rintro e w1 ⟨rfl, rfl⟩
  clear HT
  go_wp2
  go_ret
  exact ⟨rfl, rfl⟩
set_option maxRecDepth 100000 in
set_option maxHeartbeats 1000000 in
theorem drop_yes {w : World} {b K k : Nat} {M : Qu} {T : Value} (h : QAt w b M T K) {x : Int} (hx : M.W[k]? = some x) (hf : ∀ (j : Nat) (y : Int), j < k → M.W[j]? = some y → y ≠ x) (hT : T = .nilFunc ∨ k ≠ 0) :
    Calls Try.prog 13 #[.pointer (some ⟨b, 0, none⟩), iv x] w fun e w' => e = .returned (iv 0) ∧ EndP w b K M T k (x, 2, 201) w' := by
  have HP := place_is h x
  have e1 : plc M.W x = k := plc_yes hx hf
  rw [e1] at HP
  have HM := isMade_is (h.blk.cell rfl : w.cell? ⟨b, 0, none⟩ = some (.bool true))
  have HE := end_is h hx 2 201
  have q1 : (0 : Int) ≤ (k : Int) := by omega
  by_cases hk : k = 0
  · subst hk
    have hT' : T = .nilFunc := hT.elim id (fun h => absurd rfl h)
    subst hT'
    have HT := trying_no (h.blk.cell rfl : w.cell? ⟨b, 3, none⟩ = some .nilFunc)
    clear h hx hf hT e1
    go_enter Try.func13, Try.ntmps13
    go_wp2_with fail
    refine HP.mono ?_
    rintro e w1 ⟨rfl, rfl⟩
    clear HP
    go_wp2_with fail
    refine HM.mono ?_
    rintro e w1 ⟨rfl, rfl⟩
    clear HM
    go_wp2_with fail
    refine HT.mono ?_
    rintro e w1 ⟨rfl, rfl⟩
    clear HT
    go_wp2_with fail
    refine HE.mono ?_
    rintro e w1 ⟨rfl, he⟩
    have HF : Hid _ := he
    clear HE he
    go_wp2
    go_ret
    exact ⟨rfl, HF.out⟩
  · have q2 : ¬ ((k : Int) = 0) := by omega
    have q3 : ((k : Int) == 0) = false := by simpa using hk
    clear h hx hf hT e1
    go_enter Try.func13, Try.ntmps13
    go_wp2_with fail
    refine HP.mono ?_
    rintro e w1 ⟨rfl, rfl⟩
    clear HP
    go_wp2_with fail
    refine HM.mono ?_
    rintro e w1 ⟨rfl, rfl⟩
    clear HM
    go_wp2_with fail
    refine HE.mono ?_
    rintro e w1 ⟨rfl, he⟩
    have HF : Hid _ := he
    clear HE he
    go_wp2
    go_ret
    exact ⟨rfl, HF.out⟩
#print axioms drop_yes
theorem ret38 {R : Ending → World → Prop} {fn : Func} {pt u : Tmp} {a : Act} {w : World} {g : Nat} {X : List Value} (hr : fn.results = #[.cell pt 38, .tmp u]) (hd : a.defers = []) (hp : a.tmps.getD pt undef = .pointer (some ⟨g, 0, none⟩)) (hl : X.length = 3)
    (hb : Blk w g 38 X) (hR : R (.returned (.tuple #[.agg X.toArray, a.tmps.getD u undef])) w) : bodyPost Try.prog fn R .ret a w := by
  have hl := run_loadVar_mid (P := Try.prog) w g 0 38 X _ (by have := hb.range 0 3; rwa [List.drop_zero, List.take_of_length_le (by omega)] at this) Try.underlying38 rfl (by rw [hl]; exact size38)
  refine bodyPost_ret (v := .tuple #[.agg X.toArray, a.tmps.getD u undef]) ?_ hd hR
  rw [results_cell_tmp hr, hp]
  simp [asAddr, hl, Result.andThen]
def q0 : List Value := [iv 0, iv 0, iv 0]
theorem fn_eq (F : Nat) (cs : Array Value) (W : World) : (binOp BinOp.eql 34 (fnV F cs) .nilFunc).run Try.prog W = .ok (.bool false) W := by kernel_rfl
theorem nil_eq (W : World) : (binOp BinOp.eql 34 .nilFunc .nilFunc).run Try.prog W = .ok (.bool true) W := by kernel_rfl
theorem zero38 (W : World) : (zeroValue 38).run Try.prog W = .ok (.agg #[iv 0, iv 0, iv 0]) W := by kernel_rfl
set_option maxRecDepth 100000 in
set_option maxHeartbeats 1000000 in
theorem step_nil {w : World} {b K : Nat} {M : Qu} {T : Value} (h : QAt w b M T K) :
    Calls Try.prog 15 #[.pointer (some ⟨b, 0, none⟩), .nilFunc] w fun e w' => e = .returned (.tuple #[.agg q0.toArray, iv 2]) ∧ Below w.heap.size w w' := by
  obtain ⟨A, hA⟩ : ∃ A, w.alloc (.cells #[iv 0, iv 0, iv 0] 38) = A := ⟨_, rfl⟩
  have hB : Below w.heap.size w A := by rw [← hA]; exact below_al _ _
  have hbk : Blk A w.heap.size 38 q0 := by rw [← hA]; exact Blk.new w _ _
  have hz38 := zero38
  have H := h.below hB
  have HM := isMade_is (H.blk.cell rfl : A.cell? ⟨b, 0, none⟩ = some (.bool true))
  have hq := nil_eq
  have HB : Hid (Below w.heap.size w A ∧ Blk A w.heap.size 38 q0) := ⟨hB, hbk⟩
  clear h H hB hbk
  go_enter Try.func15, Try.ntmps15
  go_wp2_with fail
  refine HM.mono ?_
  rintro e w1 ⟨rfl, rfl⟩
  clear HM
  go_wp2_with (with_reducible change wpList _ _ _ ({ dst := none, op := Op.store 38 _ _, type := _, pos := _, after := _, guard := _ } :: _) _ _; refine Hid.out ?_)
  show wpList _ _ _ _ _ _
  refine wpList_store_blk rfl 38 (.tmp 4) _ rfl w.heap.size 0 38 q0 q0 rfl rfl HB.out.2 (by simp [q0]) size38 (by intro u hu; simp [q0] at hu; subst hu; rfl) ?_
  intro V hb5 hg5
  have HV : Hid (Blk V w.heap.size 38 q0 ∧ Below w.heap.size w V) := ⟨hb5.out, HB.out.1.grown hg5.out HB.out.1.size (fun j hj => by cases hj; omega)⟩
  clear hb5 hg5
  go_wp2_with fail
  refine ret38 rfl rfl rfl rfl HV.out.1 ?_
  exact ⟨rfl, HV.out.2⟩
#print axioms step_nil
set_option maxRecDepth 100000 in
set_option maxHeartbeats 1000000 in
theorem step_over {w : World} {b K : Nat} {M : Qu} {F F2 : Nat} {cs cs2 : Array Value} (h : QAt w b M (fnV F cs) K) :
    Calls Try.prog 15 #[.pointer (some ⟨b, 0, none⟩), fnV F2 cs2] w fun e w' => e = .returned (.tuple #[.agg q0.toArray, iv 82]) ∧ Below w.heap.size w w' := by
  obtain ⟨A, hA⟩ : ∃ A, w.alloc (.cells #[iv 0, iv 0, iv 0] 38) = A := ⟨_, rfl⟩
  have hB : Below w.heap.size w A := by rw [← hA]; exact below_al _ _
  have hbk : Blk A w.heap.size 38 q0 := by rw [← hA]; exact Blk.new w _ _
  have hz38 := zero38
  have H := h.below hB
  have HM := isMade_is (H.blk.cell rfl : A.cell? ⟨b, 0, none⟩ = some (.bool true))
  have hq := fn_eq F2 cs2
  have HT := trying_yes (H.blk.cell rfl : A.cell? ⟨b, 3, none⟩ = some (fnV F cs))
  have HB : Hid (Below w.heap.size w A ∧ Blk A w.heap.size 38 q0) := ⟨hB, hbk⟩
  clear h H hB hbk
  go_enter Try.func15, Try.ntmps15
  go_wp2_with fail
  refine HM.mono ?_
  rintro e w1 ⟨rfl, rfl⟩
  clear HM
  go_wp2_with fail
  refine HT.mono ?_
  rintro e w1 ⟨rfl, rfl⟩
  clear HT
  go_wp2_with (with_reducible change wpList _ _ _ ({ dst := none, op := Op.store 38 _ _, type := _, pos := _, after := _, guard := _ } :: _) _ _; refine Hid.out ?_)
  show wpList _ _ _ _ _ _
  refine wpList_store_blk rfl 38 (.tmp 4) _ rfl w.heap.size 0 38 q0 q0 rfl rfl HB.out.2 (by simp [q0]) size38 (by intro u hu; simp [q0] at hu; subst hu; rfl) ?_
  intro V hb5 hg5
  have HV : Hid (Blk V w.heap.size 38 q0 ∧ Below w.heap.size w V) := ⟨hb5.out, HB.out.1.grown hg5.out HB.out.1.size (fun j hj => by cases hj; omega)⟩
  clear hb5 hg5
  go_wp2_with fail
  refine ret38 rfl rfl rfl rfl HV.out.1 ?_
  exact ⟨rfl, HV.out.2⟩
#print axioms step_over
set_option maxRecDepth 100000 in
set_option maxHeartbeats 1000000 in
theorem step_none {w : World} {b K : Nat} {M : Qu} {F : Nat} {cs : Array Value} (h : QAt w b M .nilFunc K) (h0 : M.W = []) :
    Calls Try.prog 15 #[.pointer (some ⟨b, 0, none⟩), fnV F cs] w fun e w' => e = .returned (.tuple #[.agg q0.toArray, iv 111]) ∧ Below w.heap.size w w' := by
  obtain ⟨A, hA⟩ : ∃ A, w.alloc (.cells #[iv 0, iv 0, iv 0] 38) = A := ⟨_, rfl⟩
  have hB : Below w.heap.size w A := by rw [← hA]; exact below_al _ _
  have hbk : Blk A w.heap.size 38 q0 := by rw [← hA]; exact Blk.new w _ _
  have hz38 := zero38
  have H := h.below hB
  have HM := isMade_is (H.blk.cell rfl : A.cell? ⟨b, 0, none⟩ = some (.bool true))
  have hq := fn_eq F cs
  have HT := trying_no (H.blk.cell rfl : A.cell? ⟨b, 3, none⟩ = some .nilFunc)
  obtain ⟨a, cap, hv, _⟩ := H.wrow.read
  have c1 : A.cell? ⟨b, 1, none⟩ = some (.slice a 0 cap) := by rw [h0] at hv; rw [show (0 : Nat) = ([] : List Int).length from rfl, ← hv]; exact H.blk.cell rfl
  clear hv
  have HB : Hid (Below w.heap.size w A ∧ Blk A w.heap.size 38 q0) := ⟨hB, hbk⟩
  clear h H hB hbk
  go_enter Try.func15, Try.ntmps15
  go_wp2_with fail
  refine HM.mono ?_
  rintro e w1 ⟨rfl, rfl⟩
  clear HM
  go_wp2_with fail
  refine HT.mono ?_
  rintro e w1 ⟨rfl, rfl⟩
  clear HT
  go_wp2_with (with_reducible change wpList _ _ _ ({ dst := none, op := Op.store 38 _ _, type := _, pos := _, after := _, guard := _ } :: _) _ _; refine Hid.out ?_)
  show wpList _ _ _ _ _ _
  refine wpList_store_blk rfl 38 (.tmp 4) _ rfl w.heap.size 0 38 q0 q0 rfl rfl HB.out.2 (by simp [q0]) size38 (by intro u hu; simp [q0] at hu; subst hu; rfl) ?_
  intro V hb5 hg5
  have HV : Hid (Blk V w.heap.size 38 q0 ∧ Below w.heap.size w V) := ⟨hb5.out, HB.out.1.grown hg5.out HB.out.1.size (fun j hj => by cases hj; omega)⟩
  clear hb5 hg5
  go_wp2_with fail
  refine ret38 rfl rfl rfl rfl HV.out.1 ?_
  exact ⟨rfl, HV.out.2⟩
#print axioms step_none
end Go.Proofs.Ytipipckbcelphaa.Oct
