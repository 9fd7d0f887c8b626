/-
  Layer 11 (lines): a graph that no call made.
-/
import Derived.Test.YtjcihaohpbmogaaNw
namespace Go.Proofs.Ytjcihaohpbmogaa.Oct
open Go.RowKit
set_option maxRecDepth 100000
set_option linter.unusedSimpArgs false
set_option linter.unusedVariables false
set_option linter.unusedSectionVars false

theorem shown_un {w : World} {g : Value} (h : Un w g) : Calls Try.prog 17 #[g] w fun e w' => e = .returned (.slice none 0 0) ∧ w = w' := by
  have HU := hid_of h
  clear h
  go_enter Try.func17, Try.ntmps17
  go_wp2_with fail
  refine (un_made HU.out).mono ?_
  rintro e V ⟨rfl, rfl⟩
  go_wp2
  go_ret
  trivial
theorem conflicts_un {w : World} {g : Value} (h : Un w g) : Calls Try.prog 25 #[g] w fun e w' => e = .returned (iv 0) ∧ w = w' := by
  have HU := hid_of h
  clear h
  go_enter Try.func25, Try.ntmps25
  go_wp2_with fail
  refine (un_made HU.out).mono ?_
  rintro e V ⟨rfl, rfl⟩
  go_wp2
  go_ret
  trivial
theorem clone_un {w : World} {g : Value} (h : Un w g) : Calls Try.prog 12 #[g] w fun e w' => e = .returned (.pointer none) ∧ w = w' := by
  have HU := hid_of h
  clear h
  go_enter Try.func12, Try.ntmps12
  go_wp2_with fail
  refine (un_made HU.out).mono ?_
  rintro e V ⟨rfl, rfl⟩
  go_wp2
  go_ret
  trivial
theorem len_un {w : World} {g : Value} (h : Un w g) : Calls Try.prog 18 #[g] w fun e w' => e = .returned (iv 0) ∧ w = w' := len_unmade (un_made h)
theorem text_un {w : World} {g : Value} (h : Un w g) : Calls Try.prog 24 #[g] w fun e w' => e = .returned (.slice none 0 0) ∧ w = w' := by
  have HU := hid_of h
  clear h
  go_enter Try.func24, Try.ntmps24
  go_wp2_with fail
  refine (shown_un HU.out).mono ?_
  rintro e V ⟨rfl, rfl⟩
  go_wp2
  go_loopw [9, 3] (fun u v wr => u = iv 0 ∧ v = .slice none 0 0 ∧ w = wr) (fun u _ _ => 0)
  case atStart => exact ⟨rfl, rfl, rfl⟩
  case round =>
    obtain ⟨rfl, rfl, rfl⟩ := hrel
    go_wp2
    go_ret
    trivial
theorem has_un {w : World} {g : Value} (h : Un w g) (v : Vx) (hv : Vk v) (X : List Value) (hX : v.cells = X) : Calls Try.prog 19 #[g, .agg X.toArray] w fun e w' => e = .returned (.bool false) ∧ Below w.heap.size w w' := by
  subst hX
  obtain ⟨d, hdd⟩ : ∃ d, w.heap.size = d := ⟨_, rfl⟩
  obtain ⟨W, hWd⟩ : ∃ W, w.alloc (.cells v.cells.toArray 34) = W := ⟨_, rfl⟩
  have S0 : Hid (Below w.heap.size w W ∧ Un W g) := by
    have hb : Below w.heap.size w W := by rw [← hWd]; exact below_al _ _
    exact ⟨hb, h.below hb⟩
  have h1 := Vx.one v
  have h2 := Try.underlying34
  have h3 := info34 hv.1
  have h4 := Vx.len hv.1
  clear h hv
  go_enter Try.func19, Try.ntmps19
  go_wp2_with fail
  refine (un_made S0.out.2).mono ?_
  rintro e V ⟨rfl, rfl⟩
  clear hWd hdd
  go_wp2
  go_ret
  exact ⟨rfl, S0.out.1⟩
theorem add_un {w : World} {g : Value} (h : Un w g) (up dn : Vx) (hu : Vk up) (hd : Vk dn) (a : Option Addr) (n c : Nat) (ids : List Vx) (hr : VsR w a n ids) (hn : n ≤ 140737488355328) (t : Value) (XA XB : List Value) (hXA : up.cells = XA) (hXB : dn.cells = XB) :
    Calls Try.prog 22 #[g, .agg XA.toArray, .agg XB.toArray, .slice a n c, t] w fun e w' => e = .returned (iv 1) ∧ Below w.heap.size w w' := by
  subst hXA
  subst hXB
  obtain ⟨d6, hdd6⟩ : ∃ d, w.heap.size = d := ⟨_, rfl⟩
  obtain ⟨W1, hWd6⟩ : ∃ W, w.alloc (.cells up.cells.toArray 34) = W := ⟨_, rfl⟩
  have bd6 : Below w.heap.size w W1 := by rw [← hWd6]; exact below_al _ _
  have kd6 : Blk W1 d6 34 up.cells := by rw [← hWd6, ← hdd6]; exact Blk.new w _ _
  obtain ⟨d7, hdd7⟩ : ∃ d, W1.heap.size = d := ⟨_, rfl⟩
  obtain ⟨W2, hWd7⟩ : ∃ W, W1.alloc (.cells dn.cells.toArray 34) = W := ⟨_, rfl⟩
  have bd7 : Below W1.heap.size W1 W2 := by rw [← hWd7]; exact below_al _ _
  have kd7 : Blk W2 d7 34 dn.cells := by rw [← hWd7, ← hdd7]; exact Blk.new W1 _ _
  have h1 := Vx.one up
  have h1b := Vx.one dn
  have h2 := Try.underlying34
  have h3 := info34 hu.1
  have h3b := info34 hd.1
  have h4 := Vx.len hu.1
  have h4b := Vx.len hd.1
  have S0 : Hid (Below w.heap.size w W2 ∧ Blk W2 d6 34 up.cells ∧ Blk W2 d7 34 dn.cells ∧ Un W2 g ∧ VsR W2 a n ids) := ⟨below_tr bd6 bd7, kd6.below bd7 kd6.lt, kd7, h.below (below_tr bd6 bd7), hr.below (below_tr bd6 bd7)⟩
  have HT : Hid (Vk up ∧ Vk dn ∧ n ≤ 140737488355328) := ⟨hu, hd, hn⟩
  clear bd6 bd7 kd6 kd7 h hu hd hr hn
  go_enter Try.func22, Try.ntmps22
  go_wp2_with (first
    | (with_reducible change wpList _ _ _ ({ dst := some 18, op := _, type := _, pos := _, after := _, guard := _ } :: _) _ _
       refine wpList_load_want rfl 34 (.tmp 6) rfl d6 0 rfl up.cells _ S0.out.2.1.range0 Try.underlying34 rfl (info34 HT.out.1.1) ?_)
    | (with_reducible change wpList _ _ _ ({ dst := some 19, op := _, type := _, pos := _, after := _, guard := _ } :: _) _ _
       refine wpList_load_want rfl 34 (.tmp 7) rfl d7 0 rfl dn.cells _ S0.out.2.2.1.range0 Try.underlying34 rfl (info34 HT.out.2.1.1) ?_)
    | fail)
  clear hWd6 hWd7 hdd6 hdd7 h1 h1b h3 h3b h4 h4b
  refine (checkAdd_un S0.out.2.2.2.1 up dn HT.out.1 HT.out.2.1 a n c ids S0.out.2.2.2.2 HT.out.2.2 t up.cells dn.cells rfl rfl).mono ?_
  rintro e V ⟨rfl, hb⟩
  have S1 : Hid (Below w.heap.size w V) := below_tr S0.out.1 hb
  clear hb
  go_wp2
  go_ret
  exact ⟨rfl, S1.out⟩
theorem ahead_un {w : World} {g : Value} (h : Un w g) (up dn : Vx) (hu : Vk up) (hd : Vk dn) (XA XB : List Value) (hXA : up.cells = XA) (hXB : dn.cells = XB) :
    Calls Try.prog 20 #[g, .agg XA.toArray, .agg XB.toArray] w fun e w' => e = .returned (.bool false) ∧ Below w.heap.size w w' := by
  subst hXA
  subst hXB
  obtain ⟨d6, hdd6⟩ : ∃ d, w.heap.size = d := ⟨_, rfl⟩
  obtain ⟨W1, hWd6⟩ : ∃ W, w.alloc (.cells up.cells.toArray 34) = W := ⟨_, rfl⟩
  have bd6 : Below w.heap.size w W1 := by rw [← hWd6]; exact below_al _ _
  have kd6 : Blk W1 d6 34 up.cells := by rw [← hWd6, ← hdd6]; exact Blk.new w _ _
  obtain ⟨d7, hdd7⟩ : ∃ d, W1.heap.size = d := ⟨_, rfl⟩
  obtain ⟨W2, hWd7⟩ : ∃ W, W1.alloc (.cells dn.cells.toArray 34) = W := ⟨_, rfl⟩
  have bd7 : Below W1.heap.size W1 W2 := by rw [← hWd7]; exact below_al _ _
  have kd7 : Blk W2 d7 34 dn.cells := by rw [← hWd7, ← hdd7]; exact Blk.new W1 _ _
  have h1 := Vx.one up
  have h1b := Vx.one dn
  have h2 := Try.underlying34
  have h3 := info34 hu.1
  have h3b := info34 hd.1
  have h4 := Vx.len hu.1
  have h4b := Vx.len hd.1
  have S0 : Hid (Below w.heap.size w W2 ∧ Blk W2 d6 34 up.cells ∧ Un W2 g) := ⟨below_tr bd6 bd7, kd6.below bd7 kd6.lt, h.below (below_tr bd6 bd7)⟩
  have HT : Hid (Vk up ∧ Vk dn) := ⟨hu, hd⟩
  clear bd6 bd7 kd6 kd7 h hu hd
  go_enter Try.func20, Try.ntmps20
  go_wp2_with (first
    | (with_reducible change wpList _ _ _ ({ dst := some 9, op := _, type := _, pos := _, after := _, guard := _ } :: _) _ _
       refine wpList_load_want rfl 34 (.tmp 4) rfl d6 0 rfl up.cells _ S0.out.2.1.range0 Try.underlying34 rfl (info34 HT.out.1.1) ?_)
    | fail)
  clear hWd6 hWd7 hdd6 hdd7 h1 h1b h3 h3b h4 h4b
  refine (has_un S0.out.2.2 up HT.out.1 up.cells rfl).mono ?_
  rintro e V ⟨rfl, hb⟩
  have S1 : Hid (Below w.heap.size w V) := below_tr S0.out.1 hb
  clear hb
  go_wp2
  go_ret
  exact ⟨rfl, S1.out⟩
theorem drop_un {w : World} {g : Value} (h : Un w g) (a : Option Addr) (n c : Nat) (ids : List Vx) (hr : VsR w a n ids) (hn : n ≤ 140737488355328) : Calls Try.prog 27 #[g, .slice a n c] w fun e w' => e = .returned (iv 1) ∧ Below w.heap.size w w' := by
  have HU : Hid (Un w g ∧ VsR w a n ids ∧ n ≤ 140737488355328) := ⟨h, hr, hn⟩
  clear h hr hn
  go_enter Try.func27, Try.ntmps27
  go_wp2_with fail
  refine (setOf_is w a n c ids HU.out.2.1 HU.out.2.2 _ rfl).mono ?_
  rintro e V ⟨m, rfl, _, _, hb⟩
  have S1 : Hid (Below w.heap.size w V ∧ Un V g) := ⟨hb, HU.out.1.below hb⟩
  clear hb
  generalize mayBe ids = B
  go_wp2_with fail
  refine (un_made S1.out.2).mono ?_
  rintro e V2 ⟨rfl, rfl⟩
  go_wp2
  go_ret
  exact ⟨rfl, S1.out.1⟩
theorem kill_un {w : World} {g : Value} (h : Un w g) (v : Vx) (hv : Vk v) (y : Hs) (hy : y.length = 32) (X : List Value) (hX : v.cells = X) (Y : List Value) (hY : U y = Y) : Calls Try.prog 21 #[g, .agg X.toArray, .agg Y.toArray] w fun e w' => e = .returned (iv 1) ∧ Below w.heap.size w w' := by
  subst hX
  obtain ⟨d, hdd⟩ : ∃ d, w.heap.size = d := ⟨_, rfl⟩
  obtain ⟨W1, hWd⟩ : ∃ W, w.alloc (.cells v.cells.toArray 34) = W := ⟨_, rfl⟩
  have bd : Below w.heap.size w W1 := by rw [← hWd]; exact below_al _ _
  have kd : Blk W1 d 34 v.cells := by rw [← hWd, ← hdd]; exact Blk.new w _ _
  obtain ⟨d5, hdd5⟩ : ∃ d, W1.heap.size = d := ⟨_, rfl⟩
  obtain ⟨W2, hWd5⟩ : ∃ W, W1.alloc (.cells Y.toArray 32) = W := ⟨_, rfl⟩
  have bd5 : Below W1.heap.size W1 W2 := by rw [← hWd5]; exact below_al _ _
  have S0 : Hid (Below w.heap.size w W2 ∧ Blk W2 d 34 v.cells ∧ Un W2 g) := ⟨below_tr bd bd5, kd.below bd5 kd.lt, h.below (below_tr bd bd5)⟩
  have h1 := Vx.one v
  have h2 := Try.underlying34
  have h3 := info34 hv.1
  have h4 := Vx.len hv.1
  have HV : Hid (Vk v) := hv
  have h5 : ∀ x ∈ Y, x.oneCell' = true := by rw [← hY]; exact U_one y
  have h6 := Try.underlying32
  have h7 : (Try.prog.info? 32).map (·.size) = some Y.length := by rw [← hY]; exact info32 y hy
  have h8 : Y.length = 32 := by rw [← hY, U_length, hy]
  clear h hv hY hy bd bd5 kd
  go_enter Try.func21, Try.ntmps21
  go_wp2_with (first
    | (with_reducible change wpList _ _ _ ({ dst := some 13, op := _, type := _, pos := _, after := _, guard := _ } :: _) _ _
       refine wpList_load_want rfl 34 (.tmp 4) rfl d 0 rfl v.cells _ S0.out.2.1.range0 Try.underlying34 rfl (info34 HV.out.1) ?_)
    | fail)
  clear hWd hWd5 hdd hdd5 h1 h3 h4 h5 h7 h8
  refine (find_un S0.out.2.2 v HV.out v.cells rfl).mono ?_
  rintro e V ⟨rfl, hb⟩
  have S1 : Hid (Below w.heap.size w V) := below_tr S0.out.1 hb
  clear hb
  go_wp2
  go_ret
  exact ⟨rfl, S1.out⟩
theorem unkill_un {w : World} {g : Value} (h : Un w g) (v : Vx) (hv : Vk v) (y : Hs) (hy : y.length = 32) (X : List Value) (hX : v.cells = X) (Y : List Value) (hY : U y = Y) : Calls Try.prog 28 #[g, .agg X.toArray, .agg Y.toArray] w fun e w' => e = .returned (iv 1) ∧ Below w.heap.size w w' := by
  subst hX
  obtain ⟨d, hdd⟩ : ∃ d, w.heap.size = d := ⟨_, rfl⟩
  obtain ⟨W1, hWd⟩ : ∃ W, w.alloc (.cells v.cells.toArray 34) = W := ⟨_, rfl⟩
  have bd : Below w.heap.size w W1 := by rw [← hWd]; exact below_al _ _
  have kd : Blk W1 d 34 v.cells := by rw [← hWd, ← hdd]; exact Blk.new w _ _
  obtain ⟨d5, hdd5⟩ : ∃ d, W1.heap.size = d := ⟨_, rfl⟩
  obtain ⟨W2, hWd5⟩ : ∃ W, W1.alloc (.cells Y.toArray 32) = W := ⟨_, rfl⟩
  have bd5 : Below W1.heap.size W1 W2 := by rw [← hWd5]; exact below_al _ _
  have S0 : Hid (Below w.heap.size w W2 ∧ Blk W2 d 34 v.cells ∧ Un W2 g) := ⟨below_tr bd bd5, kd.below bd5 kd.lt, h.below (below_tr bd bd5)⟩
  have h1 := Vx.one v
  have h2 := Try.underlying34
  have h3 := info34 hv.1
  have h4 := Vx.len hv.1
  have HV : Hid (Vk v) := hv
  have h5 : ∀ x ∈ Y, x.oneCell' = true := by rw [← hY]; exact U_one y
  have h6 := Try.underlying32
  have h7 : (Try.prog.info? 32).map (·.size) = some Y.length := by rw [← hY]; exact info32 y hy
  have h8 : Y.length = 32 := by rw [← hY, U_length, hy]
  clear h hv hY hy bd bd5 kd
  go_enter Try.func28, Try.ntmps28
  go_wp2_with (first
    | (with_reducible change wpList _ _ _ ({ dst := some 13, op := _, type := _, pos := _, after := _, guard := _ } :: _) _ _
       refine wpList_load_want rfl 34 (.tmp 4) rfl d 0 rfl v.cells _ S0.out.2.1.range0 Try.underlying34 rfl (info34 HV.out.1) ?_)
    | fail)
  clear hWd hWd5 hdd hdd5 h1 h3 h4 h5 h7 h8
  refine (find_un S0.out.2.2 v HV.out v.cells rfl).mono ?_
  rintro e V ⟨rfl, hb⟩
  have S1 : Hid (Below w.heap.size w V) := below_tr S0.out.1 hb
  clear hb
  go_wp2
  go_ret
  exact ⟨rfl, S1.out⟩
end Go.Proofs.Ytjcihaohpbmogaa.Oct
