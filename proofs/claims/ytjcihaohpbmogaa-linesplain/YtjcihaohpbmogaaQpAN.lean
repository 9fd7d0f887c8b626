/-
  Layer 11 (lines): New; id; Texts.
  Layer 11 (lines): a graph that no call made.
  Layer 11 (lines): Texts.
  Layer 11 (lines): a graph's lines alone.
-/
import Derived.Test.YtjcihaohpbmogaaQpAM
/- Layer 11 (lines): New; id; Texts. -/
namespace Go.Proofs.Ytjcihaohpbmogaa.Oct
open Go.RowKit
set_option maxRecDepth 100000
set_option linter.unusedSimpArgs false
set_option linter.unusedVariables false
set_option linter.unusedSectionVars false

theorem info67 : ∃ i, Try.prog.info? 67 = some i ∧ i.size = 1 := by
  obtain ⟨i, hi, hs⟩ := Option.map_eq_some_iff.1 (show (Try.prog.info? 67).map (·.size) = some 1 by kernel_rfl)
  exact ⟨i, hi, hs⟩
theorem new_is (w : World) : Calls Try.prog 11 #[] w fun e w' => ∃ p G, e = .returned (.pointer (some ⟨p, 0, none⟩)) ∧ Hid (GAt w' p G ∧ G.ps = [] ∧ ∀ k ∈ G.bl p, w.heap.size ≤ k) ∧ Hid (Below w.heap.size w w') := by
  have HQ : Hid (∀ V, Below (w.alloc (.map #[] 0)).heap.size (w.alloc (.map #[] 0)) V → V.heap[w.heap.size + 1]? = some (.cells #[.map (some w.heap.size)] 67 (0, 0)) → GAt V (w.heap.size + 1) ⟨w.heap.size, []⟩) := by
    intro V hb hc
    refine ⟨⟨?_, ?_⟩, by simp, by show 0 ≤ 512; omega⟩
    · intro x hx
      simp only [Gm.hp, List.flatMap_nil, List.mem_cons, List.not_mem_nil, or_false] at hx
      rcases hx with rfl | rfl
      · exact hc
      · show MP V w.heap.size (linesKv [])
        exact (MP.made (K := Vx) w).same (hb.block _ (MP.made (K := Vx) w).lt)
    · show [w.heap.size + 1, w.heap.size].Nodup
      simp
  go_enter Try.func11, Try.ntmps11
  go_wp2_with (first
    | (with_reducible change wpList _ _ _ ({ dst := some 1, op := _, type := _, pos := _, after := _, guard := _ } :: _) _ _
       refine wpList_makeMap rfl 65 rfl ?_)
    | fail)
  go_ret
  refine ⟨w.heap.size + 1, ⟨w.heap.size, []⟩, rfl, ?_, ?_⟩
  · refine ⟨HQ.out _ (below_al _ _) ?_, rfl, ?_⟩
    · have := Blk.new (w.alloc (.map #[] 0)) #[Value.map (some w.heap.size)] 67
      simpa [Blk] using this
    · intro k hk
      simp only [Gm.bl, Gm.hp, List.flatMap_nil, List.map_cons, List.map_nil, List.mem_cons, List.not_mem_nil, or_false] at hk
      omega
  · exact below_tr (below_al _ _) (below_al _ _)
def idv (n : Int) : Vx := ⟨1 :: List.replicate 31 0, n⟩
theorem idv_k (n : Int) (h : (Lit.int .i64 n).wf = true) : Vk (idv n) := ⟨by rfl, h⟩
theorem built32 : Try.prog.built 32 [(0, .int .u8 1)] = some (U (idv 0).h).toArray := by kernel_rfl
theorem built34i (n : Int) : Try.prog.built 34 [(0, .agg (U (idv 0).h).toArray), (1, iv n)] = some (idv n).cells.toArray := by kernel_rfl
theorem id_gen (w : World) (n : Int) (H : Array Value) (C : List Value) (hb1 : Try.prog.built 32 [(0, .int .u8 1)] = some H) (hb2 : Try.prog.built 34 [(0, .agg H), (1, iv n)] = some C.toArray) (hl : C.length = 33) (ho : ∀ v ∈ C, v.oneCell' = true) (hi' : (Try.prog.info? 34).map (·.size) = some C.length) : Calls Try.prog 29 #[iv n] w fun e w' => e = .returned (.agg C.toArray) ∧ Below w.heap.size w w' := by
  obtain ⟨Z, hZ, HZ⟩ := zval34
  go_enter Try.func29, Try.ntmps29
  go_wp2_with (first
    | (with_reducible change wpList _ _ _ ({ dst := some 3, op := _, type := _, pos := _, after := _, guard := _ } :: _) _ _
       refine wpList_built rfl 32 _ rfl H (by rw [← hb1]; first | (simp; done) | (simp; rfl)) ?_)
    | (with_reducible change wpList _ _ _ ({ dst := some 5, op := _, type := _, pos := _, after := _, guard := _ } :: _) _ _
       refine wpList_built rfl 34 _ rfl C.toArray (by rw [← hb2]; first | (simp; done) | (simp; rfl)) ?_)
    | (with_reducible change wpList _ _ _ ({ dst := none, op := Op.store 34 _ _, type := _, pos := _, after := _, guard := _ } :: _) _ _
       refine Hid.out ?_)
    | fail)
  show wpList _ _ _ _ _ _
  refine wpList_store_fresh rfl 34 (.tmp 2) (.tmp 5) rfl Z C 34 rfl rfl (by rw [hl, HZ.out]) hi' ho ?_
  go_wp2_with fail
  exact ret_c rfl rfl rfl (Blk.new w C.toArray 34) Try.underlying34 rfl hi' ⟨rfl, below_al _ _⟩
theorem id_is (w : World) (n : Int) (X : List Value) (hX : (idv n).cells = X) : Calls Try.prog 29 #[iv n] w fun e w' => e = .returned (.agg X.toArray) ∧ Below w.heap.size w w' := by
  have hv : (idv n).ok := by unfold Vx.ok idv; rfl
  exact id_gen w n _ X built32 (by rw [← hX]; exact built34i n) (by rw [← hX]; exact Vx.len hv) (by rw [← hX]; exact Vx.one _) (by rw [← hX]; exact info34 hv)
theorem neq9 (s t : BA) (W : World) : (binOp .neq 9 (.string s) (.string t)).run Try.prog W = .ok (.bool (!decide (s = t))) W := by
  have h : (ByteArray.toList s == ByteArray.toList t) = decide (s = t) := by
    rw [Bool.eq_iff_iff, beq_iff_eq, decide_eq_true_eq]
    exact ⟨fun e => ba_ext (by rw [← toList_d, ← toList_d, e]), fun e => by rw [e]⟩
  simp [go_sem, h]
end Go.Proofs.Ytjcihaohpbmogaa.Oct

/- Layer 11 (lines): a graph that no call made. -/
namespace Go.Proofs.Ytjcihaohpbmogaa.Oct
open Go.RowKit
set_option maxRecDepth 100000
set_option linter.unusedSimpArgs false
set_option linter.unusedVariables false
set_option linter.unusedSectionVars false

theorem shown_un {w : World} {g : Value} (h : Un w g) : Calls Try.prog 17 #[g] w fun e w' => e = .returned (.slice none 0 0) ∧ w = w' := by
  have HU := hid_of h
  clear h
  go_enter Try.func17, Try.ntmps17
  go_wp2_with fail
  refine (un_made HU.out).mono ?_
  rintro e V ⟨rfl, rfl⟩
  go_wp2
  go_ret
  trivial
theorem conflicts_un {w : World} {g : Value} (h : Un w g) : Calls Try.prog 25 #[g] w fun e w' => e = .returned (iv 0) ∧ w = w' := by
  have HU := hid_of h
  clear h
  go_enter Try.func25, Try.ntmps25
  go_wp2_with fail
  refine (un_made HU.out).mono ?_
  rintro e V ⟨rfl, rfl⟩
  go_wp2
  go_ret
  trivial
theorem clone_un {w : World} {g : Value} (h : Un w g) : Calls Try.prog 12 #[g] w fun e w' => e = .returned (.pointer none) ∧ w = w' := by
  have HU := hid_of h
  clear h
  go_enter Try.func12, Try.ntmps12
  go_wp2_with fail
  refine (un_made HU.out).mono ?_
  rintro e V ⟨rfl, rfl⟩
  go_wp2
  go_ret
  trivial
theorem len_un {w : World} {g : Value} (h : Un w g) : Calls Try.prog 18 #[g] w fun e w' => e = .returned (iv 0) ∧ w = w' := len_unmade (un_made h)
theorem text_un {w : World} {g : Value} (h : Un w g) : Calls Try.prog 24 #[g] w fun e w' => e = .returned (.slice none 0 0) ∧ w = w' := by
  have HU := hid_of h
  clear h
  go_enter Try.func24, Try.ntmps24
  go_wp2_with fail
  refine (shown_un HU.out).mono ?_
  rintro e V ⟨rfl, rfl⟩
  go_wp2
  go_loopw [9, 3] (fun u v wr => u = iv 0 ∧ v = .slice none 0 0 ∧ w = wr) (fun u _ _ => 0)
  case atStart => exact ⟨rfl, rfl, rfl⟩
  case round =>
    obtain ⟨rfl, rfl, rfl⟩ := hrel
    go_wp2
    go_ret
    trivial
theorem has_un {w : World} {g : Value} (h : Un w g) (v : Vx) (hv : Vk v) (X : List Value) (hX : v.cells = X) : Calls Try.prog 19 #[g, .agg X.toArray] w fun e w' => e = .returned (.bool false) ∧ Below w.heap.size w w' := by
  subst hX
  obtain ⟨d, hdd⟩ : ∃ d, w.heap.size = d := ⟨_, rfl⟩
  obtain ⟨W, hWd⟩ : ∃ W, w.alloc (.cells v.cells.toArray 34) = W := ⟨_, rfl⟩
  have S0 : Hid (Below w.heap.size w W ∧ Un W g) := by
    have hb : Below w.heap.size w W := by rw [← hWd]; exact below_al _ _
    exact ⟨hb, h.below hb⟩
  have h1 := Vx.one v
  have h2 := Try.underlying34
  have h3 := info34 hv.1
  have h4 := Vx.len hv.1
  clear h hv
  go_enter Try.func19, Try.ntmps19
  go_wp2_with fail
  refine (un_made S0.out.2).mono ?_
  rintro e V ⟨rfl, rfl⟩
  clear hWd hdd
  go_wp2
  go_ret
  exact ⟨rfl, S0.out.1⟩
theorem add_un {w : World} {g : Value} (h : Un w g) (up dn : Vx) (hu : Vk up) (hd : Vk dn) (a : Option Addr) (n c : Nat) (ids : List Vx) (hr : VsR w a n ids) (hn : n ≤ 140737488355328) (t : Value) (XA XB : List Value) (hXA : up.cells = XA) (hXB : dn.cells = XB) :
    Calls Try.prog 22 #[g, .agg XA.toArray, .agg XB.toArray, .slice a n c, t] w fun e w' => e = .returned (iv 1) ∧ Below w.heap.size w w' := by
  subst hXA
  subst hXB
  obtain ⟨d6, hdd6⟩ : ∃ d, w.heap.size = d := ⟨_, rfl⟩
  obtain ⟨W1, hWd6⟩ : ∃ W, w.alloc (.cells up.cells.toArray 34) = W := ⟨_, rfl⟩
  have bd6 : Below w.heap.size w W1 := by rw [← hWd6]; exact below_al _ _
  have kd6 : Blk W1 d6 34 up.cells := by rw [← hWd6, ← hdd6]; exact Blk.new w _ _
  obtain ⟨d7, hdd7⟩ : ∃ d, W1.heap.size = d := ⟨_, rfl⟩
  obtain ⟨W2, hWd7⟩ : ∃ W, W1.alloc (.cells dn.cells.toArray 34) = W := ⟨_, rfl⟩
  have bd7 : Below W1.heap.size W1 W2 := by rw [← hWd7]; exact below_al _ _
  have kd7 : Blk W2 d7 34 dn.cells := by rw [← hWd7, ← hdd7]; exact Blk.new W1 _ _
  have h1 := Vx.one up
  have h1b := Vx.one dn
  have h2 := Try.underlying34
  have h3 := info34 hu.1
  have h3b := info34 hd.1
  have h4 := Vx.len hu.1
  have h4b := Vx.len hd.1
  have S0 : Hid (Below w.heap.size w W2 ∧ Blk W2 d6 34 up.cells ∧ Blk W2 d7 34 dn.cells ∧ Un W2 g ∧ VsR W2 a n ids) := ⟨below_tr bd6 bd7, kd6.below bd7 kd6.lt, kd7, h.below (below_tr bd6 bd7), hr.below (below_tr bd6 bd7)⟩
  have HT : Hid (Vk up ∧ Vk dn ∧ n ≤ 140737488355328) := ⟨hu, hd, hn⟩
  clear bd6 bd7 kd6 kd7 h hu hd hr hn
  go_enter Try.func22, Try.ntmps22
  go_wp2_with (first
    | (with_reducible change wpList _ _ _ ({ dst := some 18, op := _, type := _, pos := _, after := _, guard := _ } :: _) _ _
       refine wpList_load_want rfl 34 (.tmp 6) rfl d6 0 rfl up.cells _ S0.out.2.1.range0 Try.underlying34 rfl (info34 HT.out.1.1) ?_)
    | (with_reducible change wpList _ _ _ ({ dst := some 19, op := _, type := _, pos := _, after := _, guard := _ } :: _) _ _
       refine wpList_load_want rfl 34 (.tmp 7) rfl d7 0 rfl dn.cells _ S0.out.2.2.1.range0 Try.underlying34 rfl (info34 HT.out.2.1.1) ?_)
    | fail)
  clear hWd6 hWd7 hdd6 hdd7 h1 h1b h3 h3b h4 h4b
  refine (checkAdd_un S0.out.2.2.2.1 up dn HT.out.1 HT.out.2.1 a n c ids S0.out.2.2.2.2 HT.out.2.2 t up.cells dn.cells rfl rfl).mono ?_
  rintro e V ⟨rfl, hb⟩
  have S1 : Hid (Below w.heap.size w V) := below_tr S0.out.1 hb
  clear hb
  go_wp2
  go_ret
  exact ⟨rfl, S1.out⟩
theorem ahead_un {w : World} {g : Value} (h : Un w g) (up dn : Vx) (hu : Vk up) (hd : Vk dn) (XA XB : List Value) (hXA : up.cells = XA) (hXB : dn.cells = XB) :
    Calls Try.prog 20 #[g, .agg XA.toArray, .agg XB.toArray] w fun e w' => e = .returned (.bool false) ∧ Below w.heap.size w w' := by
  subst hXA
  subst hXB
  obtain ⟨d6, hdd6⟩ : ∃ d, w.heap.size = d := ⟨_, rfl⟩
  obtain ⟨W1, hWd6⟩ : ∃ W, w.alloc (.cells up.cells.toArray 34) = W := ⟨_, rfl⟩
  have bd6 : Below w.heap.size w W1 := by rw [← hWd6]; exact below_al _ _
  have kd6 : Blk W1 d6 34 up.cells := by rw [← hWd6, ← hdd6]; exact Blk.new w _ _
  obtain ⟨d7, hdd7⟩ : ∃ d, W1.heap.size = d := ⟨_, rfl⟩
  obtain ⟨W2, hWd7⟩ : ∃ W, W1.alloc (.cells dn.cells.toArray 34) = W := ⟨_, rfl⟩
  have bd7 : Below W1.heap.size W1 W2 := by rw [← hWd7]; exact below_al _ _
  have kd7 : Blk W2 d7 34 dn.cells := by rw [← hWd7, ← hdd7]; exact Blk.new W1 _ _
  have h1 := Vx.one up
  have h1b := Vx.one dn
  have h2 := Try.underlying34
  have h3 := info34 hu.1
  have h3b := info34 hd.1
  have h4 := Vx.len hu.1
  have h4b := Vx.len hd.1
  have S0 : Hid (Below w.heap.size w W2 ∧ Blk W2 d6 34 up.cells ∧ Un W2 g) := ⟨below_tr bd6 bd7, kd6.below bd7 kd6.lt, h.below (below_tr bd6 bd7)⟩
  have HT : Hid (Vk up ∧ Vk dn) := ⟨hu, hd⟩
  clear bd6 bd7 kd6 kd7 h hu hd
  go_enter Try.func20, Try.ntmps20
  go_wp2_with (first
    | (with_reducible change wpList _ _ _ ({ dst := some 9, op := _, type := _, pos := _, after := _, guard := _ } :: _) _ _
       refine wpList_load_want rfl 34 (.tmp 4) rfl d6 0 rfl up.cells _ S0.out.2.1.range0 Try.underlying34 rfl (info34 HT.out.1.1) ?_)
    | fail)
  clear hWd6 hWd7 hdd6 hdd7 h1 h1b h3 h3b h4 h4b
  refine (has_un S0.out.2.2 up HT.out.1 up.cells rfl).mono ?_
  rintro e V ⟨rfl, hb⟩
  have S1 : Hid (Below w.heap.size w V) := below_tr S0.out.1 hb
  clear hb
  go_wp2
  go_ret
  exact ⟨rfl, S1.out⟩
theorem drop_un {w : World} {g : Value} (h : Un w g) (a : Option Addr) (n c : Nat) (ids : List Vx) (hr : VsR w a n ids) (hn : n ≤ 140737488355328) : Calls Try.prog 27 #[g, .slice a n c] w fun e w' => e = .returned (iv 1) ∧ Below w.heap.size w w' := by
  have HU : Hid (Un w g ∧ VsR w a n ids ∧ n ≤ 140737488355328) := ⟨h, hr, hn⟩
  clear h hr hn
  go_enter Try.func27, Try.ntmps27
  go_wp2_with fail
  refine (setOf_is w a n c ids HU.out.2.1 HU.out.2.2 _ rfl).mono ?_
  rintro e V ⟨m, rfl, _, _, hb⟩
  have S1 : Hid (Below w.heap.size w V ∧ Un V g) := ⟨hb, HU.out.1.below hb⟩
  clear hb
  generalize mayBe ids = B
  go_wp2_with fail
  refine (un_made S1.out.2).mono ?_
  rintro e V2 ⟨rfl, rfl⟩
  go_wp2
  go_ret
  exact ⟨rfl, S1.out.1⟩
theorem kill_un {w : World} {g : Value} (h : Un w g) (v : Vx) (hv : Vk v) (y : Hs) (hy : y.length = 32) (X : List Value) (hX : v.cells = X) (Y : List Value) (hY : U y = Y) : Calls Try.prog 21 #[g, .agg X.toArray, .agg Y.toArray] w fun e w' => e = .returned (iv 1) ∧ Below w.heap.size w w' := by
  subst hX
  obtain ⟨d, hdd⟩ : ∃ d, w.heap.size = d := ⟨_, rfl⟩
  obtain ⟨W1, hWd⟩ : ∃ W, w.alloc (.cells v.cells.toArray 34) = W := ⟨_, rfl⟩
  have bd : Below w.heap.size w W1 := by rw [← hWd]; exact below_al _ _
  have kd : Blk W1 d 34 v.cells := by rw [← hWd, ← hdd]; exact Blk.new w _ _
  obtain ⟨d5, hdd5⟩ : ∃ d, W1.heap.size = d := ⟨_, rfl⟩
  obtain ⟨W2, hWd5⟩ : ∃ W, W1.alloc (.cells Y.toArray 32) = W := ⟨_, rfl⟩
  have bd5 : Below W1.heap.size W1 W2 := by rw [← hWd5]; exact below_al _ _
  have S0 : Hid (Below w.heap.size w W2 ∧ Blk W2 d 34 v.cells ∧ Un W2 g) := ⟨below_tr bd bd5, kd.below bd5 kd.lt, h.below (below_tr bd bd5)⟩
  have h1 := Vx.one v
  have h2 := Try.underlying34
  have h3 := info34 hv.1
  have h4 := Vx.len hv.1
  have HV : Hid (Vk v) := hv
  have h5 : ∀ x ∈ Y, x.oneCell' = true := by rw [← hY]; exact U_one y
  have h6 := Try.underlying32
  have h7 : (Try.prog.info? 32).map (·.size) = some Y.length := by rw [← hY]; exact info32 y hy
  have h8 : Y.length = 32 := by rw [← hY, U_length, hy]
  clear h hv hY hy bd bd5 kd
  go_enter Try.func21, Try.ntmps21
  go_wp2_with (first
    | (with_reducible change wpList _ _ _ ({ dst := some 13, op := _, type := _, pos := _, after := _, guard := _ } :: _) _ _
       refine wpList_load_want rfl 34 (.tmp 4) rfl d 0 rfl v.cells _ S0.out.2.1.range0 Try.underlying34 rfl (info34 HV.out.1) ?_)
    | fail)
  clear hWd hWd5 hdd hdd5 h1 h3 h4 h5 h7 h8
  refine (find_un S0.out.2.2 v HV.out v.cells rfl).mono ?_
  rintro e V ⟨rfl, hb⟩
  have S1 : Hid (Below w.heap.size w V) := below_tr S0.out.1 hb
  clear hb
  go_wp2
  go_ret
  exact ⟨rfl, S1.out⟩
theorem unkill_un {w : World} {g : Value} (h : Un w g) (v : Vx) (hv : Vk v) (y : Hs) (hy : y.length = 32) (X : List Value) (hX : v.cells = X) (Y : List Value) (hY : U y = Y) : Calls Try.prog 28 #[g, .agg X.toArray, .agg Y.toArray] w fun e w' => e = .returned (iv 1) ∧ Below w.heap.size w w' := by
  subst hX
  obtain ⟨d, hdd⟩ : ∃ d, w.heap.size = d := ⟨_, rfl⟩
  obtain ⟨W1, hWd⟩ : ∃ W, w.alloc (.cells v.cells.toArray 34) = W := ⟨_, rfl⟩
  have bd : Below w.heap.size w W1 := by rw [← hWd]; exact below_al _ _
  have kd : Blk W1 d 34 v.cells := by rw [← hWd, ← hdd]; exact Blk.new w _ _
  obtain ⟨d5, hdd5⟩ : ∃ d, W1.heap.size = d := ⟨_, rfl⟩
  obtain ⟨W2, hWd5⟩ : ∃ W, W1.alloc (.cells Y.toArray 32) = W := ⟨_, rfl⟩
  have bd5 : Below W1.heap.size W1 W2 := by rw [← hWd5]; exact below_al _ _
  have S0 : Hid (Below w.heap.size w W2 ∧ Blk W2 d 34 v.cells ∧ Un W2 g) := ⟨below_tr bd bd5, kd.below bd5 kd.lt, h.below (below_tr bd bd5)⟩
  have h1 := Vx.one v
  have h2 := Try.underlying34
  have h3 := info34 hv.1
  have h4 := Vx.len hv.1
  have HV : Hid (Vk v) := hv
  have h5 : ∀ x ∈ Y, x.oneCell' = true := by rw [← hY]; exact U_one y
  have h6 := Try.underlying32
  have h7 : (Try.prog.info? 32).map (·.size) = some Y.length := by rw [← hY]; exact info32 y hy
  have h8 : Y.length = 32 := by rw [← hY, U_length, hy]
  clear h hv hY hy bd bd5 kd
  go_enter Try.func28, Try.ntmps28
  go_wp2_with (first
    | (with_reducible change wpList _ _ _ ({ dst := some 13, op := _, type := _, pos := _, after := _, guard := _ } :: _) _ _
       refine wpList_load_want rfl 34 (.tmp 4) rfl d 0 rfl v.cells _ S0.out.2.1.range0 Try.underlying34 rfl (info34 HV.out.1) ?_)
    | fail)
  clear hWd hWd5 hdd hdd5 h1 h3 h4 h5 h7 h8
  refine (find_un S0.out.2.2 v HV.out v.cells rfl).mono ?_
  rintro e V ⟨rfl, hb⟩
  have S1 : Hid (Below w.heap.size w V) := below_tr S0.out.1 hb
  clear hb
  go_wp2
  go_ret
  exact ⟨rfl, S1.out⟩
end Go.Proofs.Ytjcihaohpbmogaa.Oct

/- Layer 11 (lines): Texts. -/
namespace Go.Proofs.Ytjcihaohpbmogaa.Oct
open Go.RowKit
set_option maxRecDepth 100000
set_option linter.unusedSimpArgs false
set_option linter.unusedVariables false
set_option linter.unusedSectionVars false

set_option maxRecDepth 100000 in
set_option maxHeartbeats 4000000 in
theorem tx6 {Q : Exit → Act → World → Prop} {x2 x3 x4 x6 x7 x8 x9 x10 x11 x12 x13 x14 x15 x16 x17 x18 x19 x20 x21 x22 x23 x24 x25 : Value} {ds : List Deferred} {A : World} {g1 o1 k1 g2 o2 k2 n i : Nat} {s t : BA}
    (HL : Hid (g1 < A.heap.size ∧ g2 < A.heap.size)) (c1 : A.cell? ⟨g1, o1 + i, none⟩ = some (.string s)) (c2 : A.cell? ⟨g2, o2 + i, none⟩ = some (.string t)) (q1 : (i : Int) < (n : Int)) (q2 : i < n)
    (hQ : ∀ V1, Below A.heap.size A V1 → Q .normal { tmps := #[.slice (some ⟨g1, o1, none⟩) n k1, .slice (some ⟨g2, o2, none⟩) n k2, x2, x3, x4, iv (i : Int), x6, x7, x8, x9, x10, x11, x12, x13, x14, x15, x16, .slice (some ⟨g1, o1, none⟩) n k1, iv (i : Int), .pointer (some ⟨g1, o1 + i, none⟩), .string s, .slice (some ⟨g2, o2, none⟩) n k2, iv (i : Int), .pointer (some ⟨g2, o2 + i, none⟩), .string t, .bool (!decide (s = t))], defers := ds } V1) :
    (Code.region 6 #[{ dst := some 17, op := Op.move (Operand.tmp 0), type := 36, pos := "ref.go:273", after := #[], guard := none }, { dst := some 18, op := Op.move (Operand.tmp 5), type := 3, pos := "ref.go:273", after := #[], guard := none }, { dst := some 19, op := Op.indexAddr 36 (Operand.tmp 17) (Operand.tmp 18), type := 0, pos := "ref.go:273", after := #[{ on := 0, ground := Ground.data }, { on := 1, ground := Ground.data }], guard := none }, { dst := some 20, op := Op.load 9 (Operand.tmp 19), type := 9, pos := "ref.go:273", after := #[{ on := 2, ground := Ground.data }], guard := none }, { dst := some 21, op := Op.move (Operand.tmp 1), type := 36, pos := "ref.go:273", after := #[], guard := none }, { dst := some 22, op := Op.move (Operand.tmp 5), type := 3, pos := "ref.go:273", after := #[], guard := none }, { dst := some 23, op := Op.indexAddr 36 (Operand.tmp 21) (Operand.tmp 22), type := 0, pos := "ref.go:273", after := #[{ on := 4, ground := Ground.data }, { on := 5, ground := Ground.data }], guard := none }, { dst := some 24, op := Op.load 9 (Operand.tmp 23), type := 9, pos := "ref.go:273", after := #[{ on := 6, ground := Ground.data }], guard := none }, { dst := some 25, op := Op.binOp BinOp.neq 9 (Operand.tmp 20) (Operand.tmp 24) 9, type := 4, pos := "ref.go:273", after := #[{ on := 3, ground := Ground.data }, { on := 7, ground := Ground.data }], guard := none }] true).wp Try.prog Q { tmps := #[.slice (some ⟨g1, o1, none⟩) n k1, .slice (some ⟨g2, o2, none⟩) n k2, x2, x3, x4, iv (i : Int), x6, x7, x8, x9, x10, x11, x12, x13, x14, x15, x16, x17, x18, x19, x20, x21, x22, x23, x24, x25], defers := ds } A := by
  refine Code.wp_mono (Q := fun x a' w' => match x with | .normal => Q .normal a' w' | _ => False) (by intro x a' w' h; cases x <;> first | exact h | exact h.elim) ?_
  refine wp_region_held (S := fun V => Below A.heap.size A V) (by kernel_rfl) ?_
  have hS0 : Hid (Below A.heap.size A A.drew) := below_drew0 A
  change wpAnyH Try.prog .any _ _ (fun V => Below A.heap.size A V) 9 (Array.replicate 9 false) _ A.drew
  obtain ⟨V0, hV0⟩ : ∃ V0, A.drew = V0 := ⟨_, rfl⟩
  rw [hV0]
  rw [hV0] at hS0
  clear hV0
  refine wpAnyH_take (i := 0) (oi := { dst := some 17, op := Op.move (Operand.tmp 0), type := 36, pos := "ref.go:273", after := #[], guard := none }) (v := .slice (some ⟨g1, o1, none⟩) n k1) rfl (by kernel_rfl) (by kernel_rfl) (by kernel_rfl) (fun _ _ _ h => h.elim) (Or.inl ⟨by rfl, ?y1⟩) hS0.out ?_
  case y1 =>
    intro V hV
    go_simp
  simp only [Act.put, List.setIfInBounds_toArray, List.set_cons_zero, List.set_cons_succ]
  refine wpAnyH_take (i := 1) (oi := { dst := some 18, op := Op.move (Operand.tmp 5), type := 3, pos := "ref.go:273", after := #[], guard := none }) (v := iv (i : Int)) rfl (by kernel_rfl) (by kernel_rfl) (by kernel_rfl) (fun _ _ _ h => h.elim) (Or.inl ⟨by rfl, ?y2⟩) hS0.out ?_
  case y2 =>
    intro V hV
    go_simp
  simp only [Act.put, List.setIfInBounds_toArray, List.set_cons_zero, List.set_cons_succ]
  refine wpAnyH_take (i := 2) (oi := { dst := some 19, op := Op.indexAddr 36 (Operand.tmp 17) (Operand.tmp 18), type := 0, pos := "ref.go:273", after := #[{ on := 0, ground := Ground.data }, { on := 1, ground := Ground.data }], guard := none }) (v := .pointer (some ⟨g1, o1 + i, none⟩)) rfl (by kernel_rfl) (by kernel_rfl) (by kernel_rfl) (fun _ _ _ h => h.elim) (Or.inl ⟨by rfl, ?y3⟩) hS0.out ?_
  case y3 =>
    intro V hV
    have hcmp := q1
    have hcmp2 := q2
    go_simp
  simp only [Act.put, List.setIfInBounds_toArray, List.set_cons_zero, List.set_cons_succ]
  refine wpAnyH_take (i := 3) (oi := { dst := some 20, op := Op.load 9 (Operand.tmp 19), type := 9, pos := "ref.go:273", after := #[{ on := 2, ground := Ground.data }], guard := none }) (v := .string s) rfl (by kernel_rfl) (by kernel_rfl) (by kernel_rfl) (fun _ _ _ h => h.elim) (Or.inl ⟨by rfl, ?y4⟩) hS0.out ?_
  case y4 =>
    intro V hV
    have hc : V.cell? ⟨g1, o1 + i, none⟩ = some (.string s) := (hV.cell (p := ⟨g1, o1 + i, none⟩) HL.out.1).trans c1
    go_simp
  simp only [Act.put, List.setIfInBounds_toArray, List.set_cons_zero, List.set_cons_succ]
  refine wpAnyH_take (i := 4) (oi := { dst := some 21, op := Op.move (Operand.tmp 1), type := 36, pos := "ref.go:273", after := #[], guard := none }) (v := .slice (some ⟨g2, o2, none⟩) n k2) rfl (by kernel_rfl) (by kernel_rfl) (by kernel_rfl) (fun _ _ _ h => h.elim) (Or.inl ⟨by rfl, ?y5⟩) hS0.out ?_
  case y5 =>
    intro V hV
    go_simp
  simp only [Act.put, List.setIfInBounds_toArray, List.set_cons_zero, List.set_cons_succ]
  refine wpAnyH_take (i := 5) (oi := { dst := some 22, op := Op.move (Operand.tmp 5), type := 3, pos := "ref.go:273", after := #[], guard := none }) (v := iv (i : Int)) rfl (by kernel_rfl) (by kernel_rfl) (by kernel_rfl) (fun _ _ _ h => h.elim) (Or.inl ⟨by rfl, ?y6⟩) hS0.out ?_
  case y6 =>
    intro V hV
    go_simp
  simp only [Act.put, List.setIfInBounds_toArray, List.set_cons_zero, List.set_cons_succ]
  refine wpAnyH_take (i := 6) (oi := { dst := some 23, op := Op.indexAddr 36 (Operand.tmp 21) (Operand.tmp 22), type := 0, pos := "ref.go:273", after := #[{ on := 4, ground := Ground.data }, { on := 5, ground := Ground.data }], guard := none }) (v := .pointer (some ⟨g2, o2 + i, none⟩)) rfl (by kernel_rfl) (by kernel_rfl) (by kernel_rfl) (fun _ _ _ h => h.elim) (Or.inl ⟨by rfl, ?y7⟩) hS0.out ?_
  case y7 =>
    intro V hV
    have hcmp := q1
    have hcmp2 := q2
    go_simp
  simp only [Act.put, List.setIfInBounds_toArray, List.set_cons_zero, List.set_cons_succ]
  refine wpAnyH_take (i := 7) (oi := { dst := some 24, op := Op.load 9 (Operand.tmp 23), type := 9, pos := "ref.go:273", after := #[{ on := 6, ground := Ground.data }], guard := none }) (v := .string t) rfl (by kernel_rfl) (by kernel_rfl) (by kernel_rfl) (fun _ _ _ h => h.elim) (Or.inl ⟨by rfl, ?y8⟩) hS0.out ?_
  case y8 =>
    intro V hV
    have hc : V.cell? ⟨g2, o2 + i, none⟩ = some (.string t) := (hV.cell (p := ⟨g2, o2 + i, none⟩) HL.out.2).trans c2
    go_simp
  simp only [Act.put, List.setIfInBounds_toArray, List.set_cons_zero, List.set_cons_succ]
  refine wpAnyH_take (i := 8) (oi := { dst := some 25, op := Op.binOp BinOp.neq 9 (Operand.tmp 20) (Operand.tmp 24) 9, type := 4, pos := "ref.go:273", after := #[{ on := 3, ground := Ground.data }, { on := 7, ground := Ground.data }], guard := none }) (v := .bool (!decide (s = t))) rfl (by kernel_rfl) (by kernel_rfl) (by kernel_rfl) (fun _ _ _ h => h.elim) (Or.inl ⟨by rfl, ?y9⟩) hS0.out ?_
  case y9 =>
    intro V hV
    exact yl_bin V .neq 9 9 _ _ (.string s) (.string t) _ rfl rfl rfl rfl (neq9 s t V)
  simp only [Act.put, List.setIfInBounds_toArray, List.set_cons_zero, List.set_cons_succ]
  refine wpAnyH_done (by kernel_rfl) ?_ _
  exact hQ V0 hS0.out
theorem CR.len {w : World} {t : TypeId} {a : Option Addr} {n : Nat} {cs : List Value} (h : CR w t a n cs) : cs.length = n := h.1
set_option maxHeartbeats 1000000 in
theorem texts_is (w : World) (a b : Option Addr) (n m ca cb : Nat) (xs ys : List BA) (hx : CR w 9 a n (strs xs)) (hy : CR w 9 b m (strs ys)) (hn : n ≤ 1000000) (hm : m ≤ 1000000) (B : Bool) (hB : decide (xs = ys) = B) : Calls Try.prog 23 #[.slice a n ca, .slice b m cb] w fun e w' => e = .returned (.bool B) ∧ Below w.heap.size w w' := by
  have hxl : xs.length = n := by have := hx.1; simpa [strs] using this
  have hyl : ys.length = m := by have := hy.1; simpa [strs] using this
  have HS : Hid (CR w 9 a n (strs xs) ∧ CR w 9 b m (strs ys) ∧ xs.length = n ∧ ys.length = m) := ⟨hx, hy, hxl, hyl⟩
  have q0 : (n : Int) ≤ 1000000 := by omega
  have HB : Hid (decide (xs = ys) = B) := hB
  clear hx hy hB
  go_enter Try.func23, Try.ntmps23
  by_cases hnm : n = m
  · subst hnm
    clear hn hm hxl hyl
    go_wp2
    go_loopw [5] (fun u wr => ∃ i : Nat, u = iv (i : Int) ∧ Hid (i ≤ n ∧ Below w.heap.size w wr ∧ xs.take i = ys.take i)) (fun u _ => n - (intOf u).toNat)
    case atStart => exact ⟨0, rfl, Nat.zero_le _, Below.refl _ _, rfl⟩
    case round =>
      obtain ⟨X, hX⟩ : ∃ X, X = wr := ⟨_, rfl⟩
      subst hX
      obtain ⟨i, rfl, HI⟩ := hrel
      by_cases hi : i < n
      · obtain ⟨s, hs⟩ : ∃ s, xs[i]? = some s := ⟨_, List.getElem?_eq_getElem (by rw [HS.out.2.2.1]; exact hi)⟩
        obtain ⟨t, ht⟩ : ∃ t, ys[i]? = some t := ⟨_, List.getElem?_eq_getElem (by rw [HS.out.2.2.2]; exact hi)⟩
        have HX : Hid (i < n ∧ xs[i]? = some s ∧ ys[i]? = some t) := ⟨hi, hs, ht⟩
        obtain ⟨g1, o1, rfl, hg1, hel1⟩ := (HS.out.1.below HI.out.2.1).2 (by omega)
        obtain ⟨g2, o2, rfl, hg2, hel2⟩ := (HS.out.2.1.below HI.out.2.1).2 (by omega)
        have c1 : X.cell? ⟨g1, o1 + i, none⟩ = some (.string s) := hel1 i _ (by unfold strs; rw [List.getElem?_map, hs]; rfl)
        have c2 : X.cell? ⟨g2, o2 + i, none⟩ = some (.string t) := hel2 i _ (by unfold strs; rw [List.getElem?_map, ht]; rfl)
        have HL : Hid (g1 < X.heap.size ∧ g2 < X.heap.size) := by
          obtain ⟨C, f, h1⟩ := hg1
          obtain ⟨C2, f2, h2⟩ := hg2
          exact ⟨(Array.getElem?_eq_some_iff.1 h1).1, (Array.getElem?_eq_some_iff.1 h2).1⟩
        have q1 : (i : Int) < (n : Int) := by omega
        clear hel1 hel2 hg1 hg2 hi hs ht
        go_wp2_with fail
        refine tx6 HL c1 c2 q1 HX.out.1 ?_
        intro V hb
        have HV : Hid (Below w.heap.size w V) := HI.out.2.1.trans (hb.mono HI.out.2.1.size)
        clear hb c1 c2
        by_cases hst : s = t
        · have HE : Hid (xs.take (i + 1) = ys.take (i + 1)) := by
            show _ = _
            rw [List.take_add_one, List.take_add_one, HX.out.2.1, HX.out.2.2, HI.out.2.2, hst]
          have hd : (!decide (s = t)) = false := by simp [hst]
          rw [hd]
          clear hd hst
          go_wp2
          refine ⟨⟨i + 1, by simp, HX.out.1, HV.out, HE.out⟩, ?_⟩
          have := HX.out.1; simp [intOf]; omega
        · have hd : (!decide (s = t)) = true := by simp [hst]
          rw [hd]
          have HE : Hid (B = false) := by
            show _ = _
            rw [← HB.out]
            have : xs ≠ ys := fun e => by
              have h1 := HX.out.2.1
              rw [e, HX.out.2.2] at h1
              exact hst (Option.some.inj h1).symm
            simp [this]
          clear hd hst
          go_wp2
          go_ret
          exact ⟨by rw [HE.out]; rfl, HV.out⟩
      · have q1 : ¬ (i : Int) < (n : Int) := by omega
        obtain rfl : i = n := by have := HI.out.1; omega
        have HE : Hid (B = true ∧ Below w.heap.size w X) := by
          refine ⟨?_, HI.out.2.1⟩
          have h1 := HI.out.2.2
          rw [List.take_of_length_le (Nat.le_of_eq HS.out.2.2.1), List.take_of_length_le (Nat.le_of_eq HS.out.2.2.2)] at h1
          rw [← HB.out]
          simp [h1]
        clear HI hi
        go_wp2
        go_ret
        exact ⟨by rw [HE.out.1]; rfl, HE.out.2⟩
  · have q1 : ¬ (n : Int) = (m : Int) := by omega
    have HE : Hid (B = false) := by
      show _ = _
      rw [← HB.out]
      have : xs ≠ ys := fun e => hnm (by rw [← hxl, ← hyl, e])
      simp [this]
    clear hnm hxl hyl hn hm
    go_wp2
    go_ret
    exact ⟨by rw [HE.out]; rfl, Below.refl _ _⟩
end Go.Proofs.Ytjcihaohpbmogaa.Oct

/- Layer 11 (lines): a graph's lines alone. -/
namespace Go.Proofs.Ytjcihaohpbmogaa.Oct
open Go.RowKit
set_option maxRecDepth 100000
set_option linter.unusedSimpArgs false
set_option linter.unusedVariables false
set_option linter.unusedSectionVars false

/-- what hangs on a graph's lines alone -/
def keysP (ps : List PL) : List Vx := ps.map (·.v)
def getP (ps : List PL) (v : Vx) : Option PL := ps.find? fun q => q.v == v
def frsP (ps : List PL) (v : Vx) : List Vx := match getP ps v with
  | some q => q.fr
  | none => []
def flvP (ps : List PL) (vs : List Vx) (k : Nat) : List Nat := fln vs (frsP ps (vs.getD k vTop))
def riseP (ps : List PL) (vs : List Vx) : Prop := vs.Perm (keysP ps) ∧ vs.Pairwise LtV
def sxP (ps : List PL) (vs : List Vx) (n : Nat) : Sx := ⟨vs.getD n vTop, ((getP ps (vs.getD n vTop)).map (·.t)).getD e0, ((getP ps (vs.getD n vTop)).map (·.kills.length)).getD 0⟩
def shownP (ps : List PL) (vs : List Vx) : List Sx := (Gr.ordr (flvP ps vs) (List.range vs.length)).map (sxP ps vs)
def aliveP (ps : List PL) (vs : List Vx) (n : Nat) : Bool := match getP ps (vs.getD n vTop) with
  | some q => decide (q.kills = [])
  | none => true
def confP (ps : List PL) (vs : List Vx) : Int := (confR (flvP ps vs) (aliveP ps vs) vs.length (Gr.ordr (flvP ps vs) (List.range vs.length))).pairs
def acyP (ps : List PL) (F : Vx → Nat) : Prop := ∀ q ∈ ps, ∀ u ∈ q.fr, u ∈ keysP ps → F u < F q.v
def tiedP (ps : List PL) : Prop := vTop ∉ keysP ps ∧ ∀ q ∈ ps, ∀ u ∈ q.fr, u = vTop ∨ u ∈ keysP ps
def lenP (ps : List PL) : Prop := ∀ q ∈ ps, q.fr.length < 100000
theorem keys_ps (G : Gm) : G.keys = keysP G.ps := by unfold Gm.keys keysP Gm.ps; rw [List.map_map]; rfl
theorem get_ps (G : Gm) (v : Vx) : (G.get v).map (·.p) = getP G.ps v := by
  unfold Gm.get getP Gm.ps
  rw [List.find?_map]
  rfl
theorem frs_ps (G : Gm) : G.frs = frsP G.ps := by
  funext v
  unfold Gm.frs frsP
  rw [← get_ps]
  cases G.get v <;> rfl
theorem flv_ps (G : Gm) (vs : List Vx) : flv G vs = flvP G.ps vs := by
  funext k
  unfold flv flvP
  rw [frs_ps]
theorem rise_ps (G : Gm) (vs : List Vx) : G.rise vs ↔ riseP G.ps vs := by unfold Gm.rise riseP; rw [keys_ps]
theorem sx_ps (G : Gm) (vs : List Vx) : sxAt G vs = sxP G.ps vs := by
  funext n
  unfold sxAt sxP
  rw [← get_ps, Option.map_map, Option.map_map]
  rfl
theorem shown_ps (G : Gm) (vs : List Vx) : G.shown vs = shownP G.ps vs := by unfold Gm.shown shownP; rw [flv_ps, sx_ps]
theorem alive_ps (G : Gm) (vs : List Vx) : G.alive vs = aliveP G.ps vs := by
  funext n
  unfold Gm.alive aliveP
  rw [← get_ps]
  cases G.get (vs.getD n vTop) <;> rfl
theorem conf_ps (G : Gm) (vs : List Vx) : G.conf vs = confP G.ps vs := by unfold Gm.conf confP; rw [flv_ps, alive_ps]
theorem acy_ps {G : Gm} {F : Vx → Nat} (h : acyP G.ps F) : G.acy F := by
  intro l hl u hu hk
  rw [keys_ps] at hk
  exact h l.p (List.mem_map.2 ⟨l, hl, rfl⟩) u hu hk
theorem tied_ps {G : Gm} (h : tiedP G.ps) : G.tied := by
  refine ⟨by rw [keys_ps]; exact h.1, fun l hl u hu => ?_⟩
  rw [keys_ps]
  exact h.2 l.p (List.mem_map.2 ⟨l, hl, rfl⟩) u hu
theorem len_ps {G : Gm} (h : lenP G.ps) : ∀ l ∈ G.ls, l.p.fr.length < 100000 := fun l hl => h l.p (List.mem_map.2 ⟨l, hl, rfl⟩)
theorem ls_ps (G : Gm) : G.ls.length = G.ps.length := by unfold Gm.ps; rw [List.length_map]
/-- a rising list is one -/
theorem rise_one : ∀ (l l' : List Vx), l.Perm l' → l.Pairwise LtV → l'.Pairwise LtV → l = l'
  | [], l', h, _, _ => by rw [List.nil_perm.1 h]
  | x :: l, [], h, _, _ => by have := h.length_eq; simp at this
  | x :: l, y :: l', h, h1, h2 => by
    have hx : x = y := by
      rcases List.mem_cons.1 (h.mem_iff.1 (List.mem_cons_self)) with e | e
      · exact e
      rcases List.mem_cons.1 (h.mem_iff.2 (List.mem_cons_self)) with e' | e'
      · exact e'.symm
      · have a1 := (List.pairwise_cons.1 h1).1 y e'
        have a2 := (List.pairwise_cons.1 h2).1 x e
        exact absurd (a1.tr a2) (LtV.irr x)
    subst hx
    rw [rise_one l l' (List.perm_cons x |>.1 h) (List.pairwise_cons.1 h1).2 (List.pairwise_cons.1 h2).2]
theorem riseP_one {ps : List PL} {vs vs' : List Vx} (h : riseP ps vs) (h' : riseP ps vs') : vs = vs' := rise_one vs vs' (h.1.trans h'.1.symm) h.2 h'.2
/-- the example -/
def sa : BA := ⟨#[97]⟩
def sb : BA := ⟨#[98]⟩
def sc : BA := ⟨#[99]⟩
def sd : BA := ⟨#[100]⟩
def q1p : List PL := addP [] vTop vBot [idv 5] [sa]
def q2p : List PL := addP q1p vTop (idv 5) [idv 6] [sb]
def q3p : List PL := addP q2p (idv 5) vBot [idv 7] [sc]
def q4p : List PL := addP q3p (idv 5) vBot [idv 8] [sd]
def vs4 : List Vx := [idv 5, idv 6, idv 7, idv 8]
theorem keys4 : keysP q4p = [idv 5, idv 6, idv 7, idv 8] := by decide +kernel
theorem rise4 : riseP q4p vs4 := by
  refine ⟨by rw [keys4]; exact List.Perm.refl _, ?_⟩
  unfold vs4
  simp only [List.pairwise_cons, List.mem_cons, List.not_mem_nil, or_false, forall_eq_or_imp, forall_eq, List.Pairwise.nil, and_true, false_imp_iff, implies_true]
  have h : ∀ a b : Int, a < b → LtV (idv a) (idv b) := fun a b h => .inr ⟨rfl, h⟩
  exact ⟨⟨h _ _ (by omega), h _ _ (by omega), h _ _ (by omega)⟩, ⟨h _ _ (by omega), h _ _ (by omega)⟩, h _ _ (by omega)⟩
theorem txs4 : txs (shownP q4p vs4) = [sb, sa, sc, sd] := by kernel_rfl
theorem conf4 : confP q4p vs4 = 1 := by kernel_rfl
theorem len4 : q4p.length = 4 := by kernel_rfl
def F4 (v : Vx) : Nat := if v = idv 6 then 0 else if v = idv 5 then 1 else 2
theorem acy4 : acyP q4p F4 := by unfold acyP; decide +kernel
theorem tied1 : tiedP q1p := by unfold tiedP; decide +kernel
theorem tied2 : tiedP q2p := by unfold tiedP; decide +kernel
theorem tied3 : tiedP q3p := by unfold tiedP; decide +kernel
theorem tied4 : tiedP q4p := by unfold tiedP; decide +kernel
theorem lens : lenP q1p ∧ lenP q2p ∧ lenP q3p ∧ lenP q4p := by unfold lenP; decide +kernel
end Go.Proofs.Ytjcihaohpbmogaa.Oct
