/-
  Layer 11 (lines): IndexFunc and ContainsFunc at vertices; the set of ids.
  Layer 11 (lines): the set of ids (setOf), areLines, find.
  Layer 11 (lines): find, areLines; graphs that no call made.
-/
import Derived.Test.YtjcihaohpbmogaaQpBB
import Derived.Shelf.Abstract
/- Layer 11 (lines): IndexFunc and ContainsFunc at vertices; the set of ids. -/
namespace Go.Proofs.Ytjcihaohpbmogaa.Oct
open Go.RowKit
set_option maxRecDepth 100000
set_option linter.unusedSimpArgs false
set_option linter.unusedVariables false
set_option linter.unusedSectionVars false

/-- the first place at which a predicate holds, or -1 -/
def fstAt (p : Vx → Bool) (vs : List Vx) : Int := match vs.findIdx? p with | some i => i | none => -1
theorem fstAt_at {p : Vx → Bool} {vs : List Vx} {i : Nat} {x : Vx} (hi : vs[i]? = some x) (hp : p x = true) (hn : ∀ j y, j < i → vs[j]? = some y → p y = false) : fstAt p vs = i := by
  unfold fstAt
  obtain ⟨hlt, hx⟩ := List.getElem?_eq_some_iff.1 hi
  have : vs.findIdx? p = some i := by
    rw [List.findIdx?_eq_some_iff_getElem]
    refine ⟨hlt, by rw [hx]; exact hp, fun j hj => ?_⟩
    rw [hn j vs[j] hj (List.getElem?_eq_getElem (by omega))]
    decide
  rw [this]
theorem fstAt_no {p : Vx → Bool} {vs : List Vx} (hn : ∀ x ∈ vs, p x = false) : fstAt p vs = -1 := by
  unfold fstAt
  have : vs.findIdx? p = none := by
    rw [List.findIdx?_eq_none_iff]
    exact fun x hx => by rw [hn x hx]
  rw [this]
theorem fstAt_any (p : Vx → Bool) (vs : List Vx) : decide (0 ≤ fstAt p vs) = vs.any p := by
  rw [Bool.eq_iff_iff, decide_eq_true_eq]
  constructor
  · intro h
    cases ha : vs.any p with
    | true => rfl
    | false =>
      rw [List.any_eq_false] at ha
      rw [fstAt_no (fun x hx => by simpa using ha x hx)] at h
      omega
  · intro h
    obtain ⟨x, hx, hp⟩ := List.any_eq_true.1 h
    unfold fstAt
    cases hf : vs.findIdx? p with
    | none =>
      rw [List.findIdx?_eq_none_iff] at hf
      rw [hf x hx] at hp; cases hp
    | some i => simp
/-- what a predicate that is handed in does -/
def PredV (w : World) (g : FuncId) (R C : Array Value) (p : Vx → Bool) (vs : List Vx) : Prop :=
  (∀ args W, (callFunc g args).run Try.prog W = .ok (.enter g args) W) ∧ ∀ V x, Below w.heap.size w V → x ∈ vs → Calls Try.prog g (R ++ #[.agg x.cells.toArray] ++ C) V fun e V' => e = .returned (.bool (p x)) ∧ Below V.heap.size V V'
set_option maxHeartbeats 1000000 in
theorem indexF_is (w : World) (a : Option Addr) (n c : Nat) (vs : List Vx) (hr : VsR w a n vs) (g : FuncId) (R C : Array Value) (p : Vx → Bool) (hp : PredV w g R C p vs) (hn : n ≤ 140737488355328) (P : Int) (hP : fstAt p vs = P) :
    Calls Try.prog 86 #[.slice a n c, .func (.func g) R C] w fun e w' => e = .returned (iv P) ∧ Below w.heap.size w w' := by
  have HS : Hid (VsR w a n vs ∧ PredV w g R C p vs ∧ fstAt p vs = P) := ⟨hr, hp, hP⟩
  have q0 : (n : Int) ≤ 140737488355328 := by omega
  have hent := hp.1
  clear hr hn hp hP
  go_enter Try.func86, Try.ntmps86
  go_wp2
  go_loopw [8] (fun u wr => ∃ i : Nat, u = iv (i : Int) ∧ Hid (i ≤ n ∧ Below w.heap.size w wr ∧ ∀ j y, j < i → vs[j]? = some y → p y = false)) (fun u _ => n - (intOf u).toNat)
  case atStart => exact ⟨0, rfl, Nat.zero_le _, Below.refl _ _, fun j y hj => absurd hj (Nat.not_lt_zero _)⟩
  case round =>
    obtain ⟨V, hV⟩ : ∃ V, V = wr := ⟨_, rfl⟩
    subst hV
    obtain ⟨i, rfl, HI⟩ := hrel
    by_cases hi : i < n
    · obtain ⟨y, hy⟩ : ∃ y, vs[i]? = some y := ⟨_, List.getElem?_eq_getElem (by rw [HS.out.1.1]; exact hi)⟩
      have HY : Hid (i < n ∧ vs[i]? = some y ∧ y.ok ∧ y ∈ vs) := ⟨hi, hy, (HS.out.1.2.1 y (List.mem_of_getElem? hy)).1, List.mem_of_getElem? hy⟩
      obtain ⟨gb, off, rfl, hg, hel⟩ := HS.out.1.2.2 (by omega)
      have HR : Hid (V.rangeAt gb (off + i * 33) y.cells) := rangeAt_same (hel i y hy) (HI.out.2.1.block gb hg)
      have q1 : (i : Int) < (n : Int) := by omega
      clear hel hy hi hg
      obtain ⟨B, hB⟩ : ∃ B, p y = B := ⟨_, rfl⟩
      have HB : Hid (p y = B) := hB
      clear hB
      go_wp2_with (first
        | (with_reducible change wpList _ _ _ ({ dst := some 15, op := _, type := _, pos := _, after := _, guard := _ } :: _) _ _
           refine wpList_load_want rfl 34 (.tmp 14) rfl gb (off + i * 33) rfl y.cells _ HR.out Try.underlying34 rfl (info34 HY.out.2.2.1) ?_)
        | fail)
      refine (HS.out.2.1.2 V y HI.out.2.1 HY.out.2.2.2).mono ?_
      rintro e V2 ⟨he, hb⟩
      rw [HB.out] at he
      subst he
      have HF : Hid (Below w.heap.size w V2) := below_tr HI.out.2.1 hb
      clear hb HR
      cases B with
      | true =>
        have HP : Hid (P = (i : Int)) := by
          rw [← HS.out.2.2]
          exact fstAt_at HY.out.2.1 HB.out HI.out.2.2
        go_wp2
        go_ret
        rw [HP.out]
        exact ⟨rfl, HF.out⟩
      | false =>
        go_wp2
        refine ⟨⟨i + 1, by simp, ⟨HY.out.1, HF.out, fun j z hj hz => ?_⟩⟩, ?_⟩
        · by_cases hji : j = i
          · subst hji
            rw [HY.out.2.1] at hz
            cases hz
            exact HB.out
          · exact HI.out.2.2 j z (by omega) hz
        · have := HY.out.1; simp [intOf]; omega
    · have q1 : ¬ (i : Int) < (n : Int) := by omega
      have HP : Hid (P = -1) := by
        rw [← HS.out.2.2]
        refine fstAt_no fun x hx => ?_
        obtain ⟨j, hj⟩ := List.getElem?_of_mem hx
        have h1 := (List.getElem?_eq_some_iff.1 hj).1
        rw [HS.out.1.1] at h1
        exact HI.out.2.2 j x (by omega) hj
      go_wp2
      go_ret
      rw [HP.out]
      exact ⟨rfl, HI.out.2.1⟩
set_option maxHeartbeats 1000000 in
theorem containsF_is (w : World) (a : Option Addr) (n c : Nat) (vs : List Vx) (hr : VsR w a n vs) (g : FuncId) (R C : Array Value) (p : Vx → Bool) (hp : PredV w g R C p vs) (hn : n ≤ 140737488355328) (B : Bool) (hB : vs.any p = B) :
    Calls Try.prog 72 #[.slice a n c, .func (.func g) R C] w fun e w' => e = .returned (.bool B) ∧ Below w.heap.size w w' := by
  obtain ⟨P, hP⟩ : ∃ P, fstAt p vs = P := ⟨_, rfl⟩
  have HC : Hid (Calls Try.prog 86 #[.slice a n c, .func (.func g) R C] w fun e w' => e = .returned (iv P) ∧ Below w.heap.size w w') := indexF_is w a n c vs hr g R C p hp hn P hP
  have hd : decide (0 ≤ P) = B := by rw [← hP, ← hB]; exact fstAt_any p vs
  clear hr hp hn hP hB
  go_enter Try.func72, Try.ntmps72
  go_wp2_with fail
  refine HC.out.mono ?_
  rintro e w2 ⟨rfl, hb⟩
  have HF : Hid (Below w.heap.size w w2) := hb
  clear hb
  cases B with
  | true =>
    have q : 0 ≤ P := by simpa using hd
    go_wp2
    go_ret
    exact ⟨rfl, HF.out⟩
  | false =>
    have q : ¬ 0 ≤ P := by simpa using hd
    go_wp2
    go_ret
    exact ⟨rfl, HF.out⟩
theorem pred_end (w : World) (vs : List Vx) (hv : ∀ v ∈ vs, Vk v) : PredV w 43 #[] #[] isE vs := ⟨fun args W => by first | exact Go.Proofs.enters_of Try.func43 (by kernel_rfl) rfl args W, fun V x _ hx => by
  have := isEnd_is V x (hv x hx).1 x.cells rfl (isE x) rfl
  simpa using this⟩
theorem pred_line {w : World} {p : Nat} {G : Gm} (h : GAt w p G) (vs : List Vx) (hv : ∀ v ∈ vs, Vk v) : PredV w 44 #[.pointer (some ⟨p, 0, none⟩)] #[] (fun v => decide (v ∈ G.keys)) vs := ⟨fun args W => Go.Proofs.enters_of Try.func44 (by kernel_rfl) rfl args W, fun V x hb hx => by
  have := isLine_is (h.below hb) x (hv x hx) x.cells rfl _ rfl
  simpa using this⟩
end Go.Proofs.Ytjcihaohpbmogaa.Oct

/- Layer 11 (lines): the set of ids (setOf), areLines, find. -/
namespace Go.Proofs.Ytjcihaohpbmogaa.Oct
open Go.RowKit
set_option maxRecDepth 100000
set_option linter.unusedSimpArgs false
set_option linter.unusedVariables false
set_option linter.unusedSectionVars false

theorem wpList_makeMapN {ops : Array Oper} {rest : List Oper} {o : Oper} {a : Act} {w : World} {Q : Exit → Act → World → Prop} (hg : o.guard = none) (t : TypeId) (x : Operand) (hop : o.op = Op.makeMap t (some x)) {k e : TypeId} (ht : Try.prog.underlying t = some (.map k e)) (n : Nat) (hx : a.eval x = iv (n : Int))
    (hK : wpList Try.prog ops Q rest (a.put o.dst (.map (some w.heap.size))) (w.alloc (.map #[] 0))) : wpList Try.prog ops Q (o :: rest) a w := by
  refine wpList_plain hg fun K' hK' => ?_
  unfold Oper.wp execOp
  simp [hop, hx, Instr.makeMap, run_underlying ht, asInt, asIntOf, Result.andThen]
  exact hK' _ _ hK
/-- ids as a set -/
def idSet (ids : List Vx) : List Vx := Gr.join [] ids
theorem idSet_take (ids : List Vx) (i : Nat) (y : Vx) (h : ids[i]? = some y) : idSet (ids.take (i + 1)) = if y ∈ idSet (ids.take i) then idSet (ids.take i) else idSet (ids.take i) ++ [y] := by
  have app : ∀ (l out : List Vx), Gr.join out (l ++ [y]) = if y ∈ Gr.join out l then Gr.join out l else Gr.join out l ++ [y] := fun l => by
    induction l with
    | nil =>
      intro out
      rw [List.nil_append]
      unfold Gr.join
      unfold Gr.join
      split <;> rfl
    | cons c l ih => intro out; rw [List.cons_append]; unfold Gr.join; rw [ih]
  unfold idSet
  rw [List.take_add_one, h]
  exact app _ _
theorem idSet_mem (ids : List Vx) (x : Vx) : x ∈ idSet ids ↔ x ∈ ids := ⟨fun h => (Gr.join_mem ids [] x h).resolve_left (by simp), Gr.join_new ids [] x⟩
theorem idSet_nodup (ids : List Vx) : (idSet ids).Nodup := Gr.join_nodup ids [] (by simp)
theorem idSet_len (ids : List Vx) : (idSet ids).length ≤ ids.length := Gr.nodup_len _ _ (idSet_nodup ids) (fun x hx => (idSet_mem ids x).1 hx)
theorem join_len : ∀ (l out : List Vx), (Gr.join out l).length = out.length + l.length → l.Nodup ∧ ∀ x ∈ l, x ∉ out
  | [], out, _ => by simp
  | c :: l, out, h => by
    unfold Gr.join at h
    have hle : ∀ (l out : List Vx), (Gr.join out l).length ≤ out.length + l.length := fun l => by
      induction l with
      | nil => intro out; simp [Gr.join]
      | cons c l ih => intro out; unfold Gr.join; refine Nat.le_trans (ih _) ?_; split <;> simp <;> omega
    by_cases hc : c ∈ out
    · rw [if_pos hc] at h
      have := hle l out
      rw [List.length_cons] at h
      omega
    · rw [if_neg hc] at h
      obtain ⟨h1, h2⟩ := join_len l _ (by rw [h]; simp; omega)
      refine ⟨List.nodup_cons.2 ⟨fun hm => h2 c hm (by simp), h1⟩, fun x hx => ?_⟩
      rcases List.mem_cons.1 hx with rfl | hx
      · exact hc
      · exact fun ho => h2 x hx (by simp [ho])
theorem idSet_full (ids : List Vx) : (idSet ids).length = ids.length ↔ ids.Nodup := by
  constructor
  · exact fun h => (join_len ids [] (by simpa [idSet] using h)).1
  · intro h
    have h1 := Gr.nodup_len _ _ h (fun x hx => (idSet_mem ids x).2 hx)
    have h2 := idSet_len ids
    omega
/-- may ids be lines? -/
def mayBe (ids : List Vx) : Bool := decide (0 < ids.length) && decide ((idSet ids).length = ids.length) && !ids.any isE
set_option maxHeartbeats 2000000 in
theorem setOf_is (w : World) (a : Option Addr) (n c : Nat) (ids : List Vx) (hr : VsR w a n ids) (hn : n ≤ 140737488355328) (B : Bool) (hB : mayBe ids = B) :
    Calls Try.prog 54 #[.slice a n c] w fun e w' => ∃ m, e = .returned (.tuple #[.map (some m), .bool B]) ∧ w.heap.size ≤ m ∧ MP w' m (unitK (idSet ids)) ∧ Below w.heap.size w w' := by
  have HS : Hid (VsR w a n ids ∧ mayBe ids = B ∧ n ≤ 140737488355328) := ⟨hr, hB, hn⟩
  have q0 : (n : Int) ≤ 140737488355328 := by omega
  have hz90 := zero90
  clear hr hn hB
  go_enter Try.func54, Try.ntmps54
  go_wp2_with (with_reducible change wpList _ _ _ ({ dst := some 9, op := _, type := _, pos := _, after := _, guard := _ } :: _) _ _; refine Hid.out ?_)
  show wpList _ _ _ _ _ _
  refine wpList_makeMapN rfl 99 (.tmp 8) rfl Try.underlying99 n rfl ?_
  obtain ⟨W, hW⟩ : ∃ W, w.alloc (.map #[] 0) = W := ⟨_, rfl⟩
  obtain ⟨m, hm⟩ : ∃ m, w.heap.size = m := ⟨_, rfl⟩
  have H1 : Hid (Below w.heap.size w W ∧ MP W m (unitK ([] : List Vx)) ∧ w.heap.size = m) := ⟨by rw [← hW]; exact below_al _ _, by rw [← hW, ← hm]; exact MP.made w, hm⟩
  rw [hW, hm]
  clear hW hm
  go_wp2
  go_loopw [12] (fun u wr => ∃ i : Nat, u = iv (i : Int) ∧ Hid (i ≤ n ∧ Below w.heap.size w wr ∧ MP wr m (unitK (idSet (ids.take i))))) (fun u _ => n - (intOf u).toNat)
  case atStart => exact ⟨0, rfl, Nat.zero_le _, H1.out.1, H1.out.2.1⟩
  case round =>
    obtain ⟨V, hV⟩ : ∃ V, V = wr := ⟨_, rfl⟩
    subst hV
    obtain ⟨i, rfl, HI⟩ := hrel
    by_cases hi : i < n
    · obtain ⟨y, hy⟩ : ∃ y, ids[i]? = some y := ⟨_, List.getElem?_eq_getElem (by rw [HS.out.1.1]; exact hi)⟩
      have HY : Hid (i < n ∧ ids[i]? = some y ∧ y.ok ∧ Vk y) := ⟨hi, hy, (HS.out.1.2.1 y (List.mem_of_getElem? hy)).1, HS.out.1.2.1 y (List.mem_of_getElem? hy)⟩
      obtain ⟨gb, off, rfl, hg, hel⟩ := HS.out.1.2.2 (by omega)
      have HR : Hid (V.rangeAt gb (off + i * 33) y.cells) := rangeAt_same (hel i y hy) (HI.out.2.1.block gb hg)
      have q1 : (i : Int) < (n : Int) := by omega
      clear hel hy hi hg
      obtain ⟨Z, hZ, HZ⟩ := zval34
      go_wp2_with (first
        | (with_reducible change wpList _ _ _ ({ dst := some 15, op := _, type := _, pos := _, after := _, guard := _ } :: _) _ _
           refine wpList_load_want rfl 34 (.tmp 14) rfl gb (off + i * 33) rfl y.cells _ HR.out Try.underlying34 rfl (info34 HY.out.2.2.1) ?_)
        | (with_reducible change wpList _ _ _ ({ dst := none, op := Op.store 34 _ _, type := _, pos := _, after := _, guard := _ } :: _) _ _
           refine Hid.out ?_)
        | fail)
      show wpList _ _ _ _ _ _
      refine wpList_store_fresh rfl 34 (.tmp 6) (.tmp 15) rfl Z y.cells 34 rfl rfl (by rw [Vx.len HY.out.2.2.1, HZ.out]) (info34 HY.out.2.2.1) (Vx.one y) ?_
      obtain ⟨V3, hV3⟩ : ∃ W, V.alloc (.cells y.cells.toArray 34) = W := ⟨_, rfl⟩
      obtain ⟨dy, hdy⟩ : ∃ g, V.heap.size = g := ⟨_, rfl⟩
      have H3 : Hid (Below w.heap.size w V3 ∧ MP V3 m (unitK (idSet (ids.take i))) ∧ Blk V3 dy 34 y.cells) := by
        have hbl : Below V.heap.size V V3 := by rw [← hV3]; exact below_al _ _
        exact ⟨below_tr HI.out.2.1 hbl, HI.out.2.2.same (hbl.block m HI.out.2.2.lt), by rw [← hV3, ← hdy]; exact Blk.new V _ _⟩
      rw [hV3, hdy]
      clear hV3 hdy hZ HZ HR
      go_wp2_with (first
        | (with_reducible change wpList _ _ _ ({ dst := some 17, op := _, type := _, pos := _, after := _, guard := _ } :: _) _ _
           refine wpList_load_want rfl 34 (.tmp 6) rfl dy 0 rfl y.cells _ H3.out.2.2.range0 Try.underlying34 rfl (info34 HY.out.2.2.1) ?_)
        | (with_reducible change wpList _ _ _ ({ dst := none, op := Op.mapUpdate 99 _ _ _, type := _, pos := _, after := _, guard := _ } :: _) _ _
           refine Hid.out ?_)
        | fail)
      show wpList _ _ _ _ _ _
      refine wpList_mapUp rfl 99 (.tmp 16) (.tmp 17) (.tmp 18) (.inl rfl) _ _ _ rfl rfl rfl (fun w' => MP w' m (unitK (idSet (ids.take (i + 1)))) ∧ V3.grownBy w' (some m)) (by
        obtain ⟨w', r1, r2, r3, r4⟩ := H3.out.2.1.put (t := 99) (E := 90) (h := y) Try.underlying99 HY.out.2.2.2 (.agg #[])
        exact ⟨w', r1, by have := r2; rw [kput_unit] at this; rw [idSet_take ids i y HY.out.2.1]; exact this, r3⟩) ?_
      intro V6 ⟨r1, r2⟩
      have H6 : Hid (Below w.heap.size w V6 ∧ MP V6 m (unitK (idSet (ids.take (i + 1))))) := ⟨H3.out.1.grown r2 H3.out.1.size (fun k hk => by cases hk; exact Nat.le_of_eq H1.out.2.2), r1⟩
      clear r1 r2
      go_wp2
      refine ⟨⟨i + 1, by simp, ⟨HY.out.1, H6.out.1, H6.out.2⟩⟩, ?_⟩
      have := HY.out.1; simp [intOf]; omega
    · have q1 : ¬ (i : Int) < (n : Int) := by omega
      have HE : Hid (Below w.heap.size w V ∧ MP V m (unitK (idSet ids)) ∧ VsR V a n ids ∧ ids.length = n) := by
        have h0 := HI.out.2.2
        rw [List.take_of_length_le (by rw [HS.out.1.1]; omega)] at h0
        refine ⟨HI.out.2.1, h0, HS.out.1.below HI.out.2.1, HS.out.1.1⟩
      obtain ⟨k, hk⟩ : ∃ k, (idSet ids).length = k := ⟨_, rfl⟩
      have hl : ∀ W : World, W.heap[m]? = V.heap[m]? → (Builtin.len_ #[99] 3 #[.map (some m)]).run Try.prog W = .ok (.int .i64 k) W := fun W hW => by
        have := (HE.out.2.1.same hW).len (t := 99) (E := 90) Try.underlying99 3
        rw [unitK_len, hk] at this
        exact this
      have hl0 := hl V rfl
      have hkn : k ≤ n := by have := idSet_len ids; rw [hk, HE.out.2.2.2] at this; exact this
      have HMB : Hid ((decide (0 < n) && decide (k = n) && !ids.any isE) = B) := by
        have := HS.out.2.1
        unfold mayBe at this
        rw [HE.out.2.2.2, hk] at this
        exact this
      clear hl hk HI
      by_cases hn0 : 0 < n
      · have q2 : 0 < (n : Int) := by omega
        by_cases hkn2 : k = n
        · subst hkn2
          obtain ⟨E, hE⟩ : ∃ E, ids.any isE = E := ⟨_, rfl⟩
          have HE2 : Hid (ids.any isE = E ∧ (!E) = B) := ⟨hE, by have := HMB.out; rw [hE] at this; simpa [hn0] using this⟩
          clear hE
          go_wp2_with fail
          refine (containsF_is V a k c ids HE.out.2.2.1 43 #[] #[] isE (pred_end V ids HE.out.2.2.1.2.1) (by omega) E HE2.out.1).mono ?_
          rintro e V2 ⟨rfl, hb⟩
          have HF : Hid (w.heap.size ≤ m ∧ MP V2 m (unitK (idSet ids)) ∧ Below w.heap.size w V2) := ⟨Nat.le_of_eq H1.out.2.2, HE.out.2.1.same (hb.block m HE.out.2.1.lt), below_tr HE.out.1 hb⟩
          clear hb
          cases E with
          | true =>
            have hB : B = false := HE2.out.2.symm
            subst hB
            go_wp2
            go_ret2
            exact ⟨m, rfl, HF.out⟩
          | false =>
            have hB : B = true := HE2.out.2.symm
            subst hB
            go_wp2
            go_ret2
            exact ⟨m, rfl, HF.out⟩
        · have q3 : ¬ (k : Int) = (n : Int) := by omega
          have hB : B = false := by have := HMB.out; rw [decide_eq_false hkn2] at this; simpa using this.symm
          subst hB
          go_wp2
          go_ret2
          exact ⟨m, rfl, Nat.le_of_eq H1.out.2.2, HE.out.2.1, HE.out.1⟩
      · have q2 : ¬ 0 < (n : Int) := by omega
        have hB : B = false := by have := HMB.out; rw [decide_eq_false hn0] at this; simpa using this.symm
        subst hB
        go_wp2
        go_ret2
        exact ⟨m, rfl, Nat.le_of_eq H1.out.2.2, HE.out.2.1, HE.out.1⟩
end Go.Proofs.Ytjcihaohpbmogaa.Oct

/- Layer 11 (lines): find, areLines; graphs that no call made. -/
namespace Go.Proofs.Ytjcihaohpbmogaa.Oct
open Go.RowKit
set_option maxRecDepth 100000
set_option linter.unusedSimpArgs false
set_option linter.unusedVariables false
set_option linter.unusedSectionVars false

/-- a graph that no call made -/
def Un (w : World) (v : Value) : Prop := v = .pointer none ∨ ∃ p, v = .pointer (some ⟨p, 0, none⟩) ∧ Blk w p 67 [.map none]
theorem Un.below {w w' : World} {v : Value} (h : Un w v) (hb : Below w.heap.size w w') : Un w' v := by
  rcases h with h | ⟨p, h1, h2⟩
  · exact .inl h
  · exact .inr ⟨p, h1, h2.below hb h2.lt⟩
theorem un_made {w : World} {v : Value} (h : Un w v) : Calls Try.prog 30 #[v] w fun e w' => e = .returned (.bool false) ∧ w = w' := by
  rcases h with rfl | ⟨p, rfl, h2⟩
  · exact made_nil w
  · exact made_zero h2
def Gm.fnd (G : Gm) (v : Vx) : Int := if isE v then 2 else if v ∈ G.keys then 0 else 111
set_option maxRecDepth 100000 in
set_option maxHeartbeats 4000000 in
theorem fd7 {Q : Exit → Act → World → Prop} {x1 x2 x4 x5 x6 x7 x8 x9 x10 x11 x12 x13 x14 x15 x16 x17 x18 x19 x20 x21 x22 x23 : Value} {ds : List Deferred} {A : World} {d p m : Nat} {y : Vx} {q : Value}
    (HL : Hid (d < A.heap.size)) (HP : Hid (p < A.heap.size)) (HR : Hid (A.rangeAt d 0 y.cells)) (HV : Hid y.ok) (c0 : A.cell? ⟨p, 0, none⟩ = some (.map (some m))) (HK : Hid (∀ V, Below A.heap.size A V → (Instr.lookup 65 (.map (some m)) (.agg y.cells.toArray) false).run Try.prog V = .ok q V))
    (hQ : ∀ V1, Below A.heap.size A V1 → Q .normal { tmps := #[.pointer (some ⟨p, 0, none⟩), x1, x2, .pointer (some ⟨d, 0, none⟩), q, iv 0, x6, x7, x8, x9, x10, x11, x12, x13, x14, x15, x16, x17, .pointer (some ⟨p, 0, none⟩), .pointer (some ⟨p, 0, none⟩), .pointer (some ⟨p, 0, none⟩), .map (some m), .agg y.cells.toArray, q], defers := ds } V1) :
    (Code.region 7 #[{ dst := some 18, op := Op.move (Operand.tmp 0), type := 25, pos := "change.go:147", after := #[], guard := none }, { dst := some 19, op := Op.nilCheck (Operand.tmp 18), type := 0, pos := "change.go:147", after := #[{ on := 0, ground := Ground.data }], guard := none }, { dst := some 20, op := Op.fieldAddr 67 (Operand.tmp 19) 0, type := 0, pos := "change.go:147", after := #[{ on := 1, ground := Ground.data }], guard := none }, { dst := some 21, op := Op.load 65 (Operand.tmp 20), type := 65, pos := "change.go:147", after := #[{ on := 2, ground := Ground.data }], guard := none }, { dst := some 22, op := Op.load 34 (Operand.tmp 3), type := 34, pos := "change.go:147", after := #[], guard := none }, { dst := some 23, op := Op.lookup 65 (Operand.tmp 21) (Operand.tmp 22) false, type := 71, pos := "change.go:147", after := #[{ on := 3, ground := Ground.data }, { on := 4, ground := Ground.data }], guard := none }, { dst := some 4, op := Op.assign (Operand.tmp 23), type := 71, pos := "change.go:147", after := #[{ on := 5, ground := Ground.data }, { on := 0, ground := Ground.phase }, { on := 1, ground := Ground.phase }, { on := 2, ground := Ground.phase }, { on := 3, ground := Ground.phase }, { on := 4, ground := Ground.phase }, { on := 5, ground := Ground.phase }], guard := none }, { dst := some 5, op := Op.assign (Operand.const (Value.int IntKind.i64 0)), type := 40, pos := "change.go:147", after := #[{ on := 6, ground := Ground.chain }, { on := 0, ground := Ground.phase }, { on := 1, ground := Ground.phase }, { on := 2, ground := Ground.phase }, { on := 3, ground := Ground.phase }, { on := 4, ground := Ground.phase }, { on := 5, ground := Ground.phase }, { on := 6, ground := Ground.phase }], guard := none }] true).wp Try.prog Q { tmps := #[.pointer (some ⟨p, 0, none⟩), x1, x2, .pointer (some ⟨d, 0, none⟩), x4, x5, x6, x7, x8, x9, x10, x11, x12, x13, x14, x15, x16, x17, x18, x19, x20, x21, x22, x23], defers := ds } A := by
  refine Code.wp_mono (Q := fun x a' w' => match x with | .normal => Q .normal a' w' | _ => False) (by intro x a' w' h; cases x <;> first | exact h | exact h.elim) ?_
  refine wp_region_held (S := fun V => Below A.heap.size A V) (by kernel_rfl) ?_
  have hS0 : Hid (Below A.heap.size A A.drew) := below_drew0 A
  change wpAnyH Try.prog .any _ _ (fun V => Below A.heap.size A V) 8 (Array.replicate 8 false) _ A.drew
  obtain ⟨V0, hV0⟩ : ∃ V0, A.drew = V0 := ⟨_, rfl⟩
  rw [hV0]
  rw [hV0] at hS0
  clear hV0
  refine wpAnyH_take (i := 0) (oi := { dst := some 18, op := Op.move (Operand.tmp 0), type := 25, pos := "change.go:147", after := #[], guard := none }) (v := .pointer (some ⟨p, 0, none⟩)) rfl (by kernel_rfl) (by kernel_rfl) (by kernel_rfl) (fun _ _ _ h => h.elim) (Or.inl ⟨by rfl, ?y1⟩) hS0.out ?_
  case y1 =>
    intro V hV
    go_simp
  simp only [Act.put, List.setIfInBounds_toArray, List.set_cons_zero, List.set_cons_succ]
  refine wpAnyH_take (i := 1) (oi := { dst := some 19, op := Op.nilCheck (Operand.tmp 18), type := 0, pos := "change.go:147", after := #[{ on := 0, ground := Ground.data }], guard := none }) (v := .pointer (some ⟨p, 0, none⟩)) rfl (by kernel_rfl) (by kernel_rfl) (by kernel_rfl) (fun _ _ _ h => h.elim) (Or.inl ⟨by rfl, ?y2⟩) hS0.out ?_
  case y2 =>
    intro V hV
    go_simp
  simp only [Act.put, List.setIfInBounds_toArray, List.set_cons_zero, List.set_cons_succ]
  refine wpAnyH_take (i := 2) (oi := { dst := some 20, op := Op.fieldAddr 67 (Operand.tmp 19) 0, type := 0, pos := "change.go:147", after := #[{ on := 1, ground := Ground.data }], guard := none }) (v := .pointer (some ⟨p, 0, none⟩)) rfl (by kernel_rfl) (by kernel_rfl) (by kernel_rfl) (fun _ _ _ h => h.elim) (Or.inl ⟨by rfl, ?y3⟩) hS0.out ?_
  case y3 =>
    intro V hV
    go_simp
  simp only [Act.put, List.setIfInBounds_toArray, List.set_cons_zero, List.set_cons_succ]
  refine wpAnyH_take (i := 3) (oi := { dst := some 21, op := Op.load 65 (Operand.tmp 20), type := 65, pos := "change.go:147", after := #[{ on := 2, ground := Ground.data }], guard := none }) (v := .map (some m)) rfl (by kernel_rfl) (by kernel_rfl) (by kernel_rfl) (fun _ _ _ h => h.elim) (Or.inl ⟨by rfl, ?y4⟩) hS0.out ?_
  case y4 =>
    intro V hV
    have hc : V.cell? ⟨p, 0, none⟩ = some (.map (some m)) := (hV.cell (p := ⟨p, 0, none⟩) HP.out).trans c0
    go_simp
  simp only [Act.put, List.setIfInBounds_toArray, List.set_cons_zero, List.set_cons_succ]
  refine wpAnyH_take (i := 4) (oi := { dst := some 22, op := Op.load 34 (Operand.tmp 3), type := 34, pos := "change.go:147", after := #[], guard := none }) (v := .agg y.cells.toArray) rfl (by kernel_rfl) (by kernel_rfl) (by kernel_rfl) (fun _ _ _ h => h.elim) (yieldsIf_load_mid (by rfl) _ _ rfl _ _ rfl (y.cells) _ (fun V hV => rangeAt_same (HR.out) ((show Below A.heap.size A V from hV).block _ (HL.out))) Try.underlying34 rfl (info34 HV.out)) hS0.out ?_
  simp only [Act.put, List.setIfInBounds_toArray, List.set_cons_zero, List.set_cons_succ]
  refine wpAnyH_take (i := 5) (oi := { dst := some 23, op := Op.lookup 65 (Operand.tmp 21) (Operand.tmp 22) false, type := 71, pos := "change.go:147", after := #[{ on := 3, ground := Ground.data }, { on := 4, ground := Ground.data }], guard := none }) (v := q) rfl (by kernel_rfl) (by kernel_rfl) (by kernel_rfl) (fun _ _ _ h => h.elim) (Or.inl ⟨by rfl, ?y5⟩) hS0.out ?_
  case y5 =>
    intro V hV
    exact yl_lookup V 65 _ _ false _ _ _ rfl rfl rfl (HK.out V hV)
  simp only [Act.put, List.setIfInBounds_toArray, List.set_cons_zero, List.set_cons_succ]
  refine wpAnyH_take (i := 6) (oi := { dst := some 4, op := Op.assign (Operand.tmp 23), type := 71, pos := "change.go:147", after := #[{ on := 5, ground := Ground.data }, { on := 0, ground := Ground.phase }, { on := 1, ground := Ground.phase }, { on := 2, ground := Ground.phase }, { on := 3, ground := Ground.phase }, { on := 4, ground := Ground.phase }, { on := 5, ground := Ground.phase }], guard := none }) (v := q) rfl (by kernel_rfl) (by kernel_rfl) (by kernel_rfl) (fun _ _ _ h => h.elim) (Or.inl ⟨by rfl, ?y6⟩) hS0.out ?_
  case y6 =>
    intro V hV
    go_simp
  simp only [Act.put, List.setIfInBounds_toArray, List.set_cons_zero, List.set_cons_succ]
  refine wpAnyH_take (i := 7) (oi := { dst := some 5, op := Op.assign (Operand.const (Value.int IntKind.i64 0)), type := 40, pos := "change.go:147", after := #[{ on := 6, ground := Ground.chain }, { on := 0, ground := Ground.phase }, { on := 1, ground := Ground.phase }, { on := 2, ground := Ground.phase }, { on := 3, ground := Ground.phase }, { on := 4, ground := Ground.phase }, { on := 5, ground := Ground.phase }, { on := 6, ground := Ground.phase }], guard := none }) (v := iv 0) rfl (by kernel_rfl) (by kernel_rfl) (by kernel_rfl) (fun _ _ _ h => h.elim) (Or.inl ⟨by rfl, ?y7⟩) hS0.out ?_
  case y7 =>
    intro V hV
    go_simp
  simp only [Act.put, List.setIfInBounds_toArray, List.set_cons_zero, List.set_cons_succ]
  refine wpAnyH_done (by kernel_rfl) ?_ _
  exact hQ V0 hS0.out
set_option maxHeartbeats 2000000 in
theorem find_is {w : World} {p : Nat} {G : Gm} (h : GAt w p G) (v : Vx) (hv : Vk v) (X : List Value) (hX : v.cells = X) (E : Int) (hE : G.fnd v = E) (q : Value) (hq : (if E = 0 then ptrOf (G.get v) else .pointer none) = q) : Calls Try.prog 48 #[.pointer (some ⟨p, 0, none⟩), .agg X.toArray] w fun e w' => e = .returned (.tuple #[q, iv E]) ∧ Below w.heap.size w w' := by
  subst hX
  obtain ⟨d, hdd⟩ : ∃ d, w.heap.size = d := ⟨_, rfl⟩
  obtain ⟨W, hWd⟩ : ∃ W, w.alloc (.cells v.cells.toArray 34) = W := ⟨_, rfl⟩
  have bd : Below w.heap.size w W := by rw [← hWd]; exact below_al _ _
  have kd : Blk W d 34 v.cells := by rw [← hWd, ← hdd]; exact Blk.new w _ _
  have S0 : Hid (Below w.heap.size w W ∧ Blk W d 34 v.cells ∧ GAt W p G) := ⟨bd, kd, h.below bd⟩
  have HV : Hid (Vk v) := hv
  have h1 := Vx.one v
  have h2 := Try.underlying34
  have h3 := info34 hv.1
  have h4 := Vx.len hv.1
  clear bd kd hv h
  unfold Gm.fnd at hE
  cases hI : isE v with
  | true =>
    rw [if_pos hI] at hE
    subst hE
    rw [if_neg (by decide)] at hq
    subst hq
    go_enter Try.func48, Try.ntmps48
    go_wp2_with fail
    refine (made_is S0.out.2.2).mono ?_
    rintro e w2 ⟨rfl, rfl⟩
    clear hWd hdd
    go_wp2_with (first
      | (with_reducible change wpList _ _ _ ({ dst := some 11, op := _, type := _, pos := _, after := _, guard := _ } :: _) _ _
         refine wpList_load_want rfl 34 (.tmp 3) rfl d 0 rfl v.cells _ S0.out.2.1.range0 Try.underlying34 rfl (info34 HV.out.1) ?_)
      | fail)
    refine (isEnd_is W v HV.out.1 v.cells rfl true hI).mono ?_
    rintro e V ⟨rfl, hb⟩
    have S1 : Hid (Below w.heap.size w V ∧ Blk V d 34 v.cells ∧ GAt V p G) := ⟨below_tr S0.out.1 hb, S0.out.2.1.below hb S0.out.2.1.lt, S0.out.2.2.below hb⟩
    clear hb
    go_wp2
    go_ret2
    exact ⟨rfl, S1.out.1⟩
  | false =>
    rw [if_neg (by rw [hI]; decide)] at hE
    obtain ⟨B, hB⟩ : ∃ B, decide (v ∈ G.keys) = B := ⟨_, rfl⟩
    have HI : Hid (isE v = false ∧ decide (v ∈ G.keys) = B) := ⟨hI, hB⟩
    clear hI
    go_enter Try.func48, Try.ntmps48
    go_wp2_with fail
    refine (made_is S0.out.2.2).mono ?_
    rintro e w2 ⟨rfl, rfl⟩
    clear hWd hdd
    go_wp2_with (first
      | (with_reducible change wpList _ _ _ ({ dst := some 11, op := _, type := _, pos := _, after := _, guard := _ } :: _) _ _
         refine wpList_load_want rfl 34 (.tmp 3) rfl d 0 rfl v.cells _ S0.out.2.1.range0 Try.underlying34 rfl (info34 HV.out.1) ?_)
      | fail)
    refine (isEnd_is W v HV.out.1 v.cells rfl false HI.out.1).mono ?_
    rintro e V ⟨rfl, hb⟩
    have S1 : Hid (Below w.heap.size w V ∧ Blk V d 34 v.cells ∧ GAt V p G) := ⟨below_tr S0.out.1 hb, S0.out.2.1.below hb S0.out.2.1.lt, S0.out.2.2.below hb⟩
    clear hb
    go_wp2_with (first
      | (with_reducible change wpList _ _ _ ({ dst := some 15, op := _, type := _, pos := _, after := _, guard := _ } :: _) _ _
         refine wpList_load_want rfl 34 (.tmp 3) rfl d 0 rfl v.cells _ S1.out.2.1.range0 Try.underlying34 rfl (info34 HV.out.1) ?_)
      | fail)
    refine (isLine_is S1.out.2.2 v HV.out v.cells rfl B HI.out.2).mono ?_
    rintro e V2 ⟨rfl, hb⟩
    have S2 : Hid (Below w.heap.size w V2 ∧ Blk V2 d 34 v.cells ∧ GAt V2 p G) := ⟨below_tr S1.out.1 hb, S1.out.2.1.below hb S1.out.2.1.lt, S1.out.2.2.below hb⟩
    clear hb
    cases B with
    | false =>
      rw [if_neg (by simpa using hB)] at hE
      subst hE
      rw [if_neg (by decide)] at hq
      subst hq
      clear hB
      go_wp2
      go_ret2
      exact ⟨rfl, S2.out.1⟩
    | true =>
      rw [if_pos (by simpa using hB)] at hE
      subst hE
      clear hB
      rw [if_pos rfl] at hq
      have H := S2.out.2.2
      have c0 : V2.cell? ⟨p, 0, none⟩ = some (.map (some G.mb)) := H.blk.cell rfl
      have HK : Hid (∀ V3, Below V2.heap.size V2 V3 → (Instr.lookup 65 (.map (some G.mb)) (.agg v.cells.toArray) false).run Try.prog V3 = .ok q V3) := fun V3 hV => by rw [← hq]; exact H.look2 HV.out V3 (hV.block _ H.mp.lt)
      have HP : Hid (p < V2.heap.size) := H.blk.lt
      clear H hq
      generalize G.mb = m at HK c0
      go_wp2_with fail
      refine fd7 S2.out.2.1.lt HP S2.out.2.1.range0 HV.out.1 c0 HK ?_
      intro V4 hb
      have HF : Hid (Below w.heap.size w V4) := below_tr S2.out.1 hb
      clear hb c0 HK
      go_wp2
      go_ret2
      exact ⟨rfl, HF.out⟩
set_option maxHeartbeats 1000000 in
theorem find_un {w : World} {g : Value} (h : Un w g) (v : Vx) (hv : Vk v) (X : List Value) (hX : v.cells = X) : Calls Try.prog 48 #[g, .agg X.toArray] w fun e w' => e = .returned (.tuple #[.pointer none, iv 1]) ∧ Below w.heap.size w w' := by
  subst hX
  obtain ⟨d, hdd⟩ : ∃ d, w.heap.size = d := ⟨_, rfl⟩
  obtain ⟨W, hWd⟩ : ∃ W, w.alloc (.cells v.cells.toArray 34) = W := ⟨_, rfl⟩
  have bd : Below w.heap.size w W := by rw [← hWd]; exact below_al _ _
  have kd : Blk W d 34 v.cells := by rw [← hWd, ← hdd]; exact Blk.new w _ _
  have HM : Hid (Calls Try.prog 30 #[g] W fun e w' => e = .returned (.bool false) ∧ W = w') := un_made (h.below bd)
  have HB : Hid (Below w.heap.size w W) := bd
  have h1 := Vx.one v
  have h2 := Try.underlying34
  have h3 := info34 hv.1
  have h4 := Vx.len hv.1
  clear bd kd hv h
  go_enter Try.func48, Try.ntmps48
  go_wp2_with fail
  refine HM.out.mono ?_
  rintro e w2 ⟨rfl, rfl⟩
  clear hWd hdd
  go_wp2
  go_ret2
  exact ⟨rfl, HB.out⟩
set_option maxHeartbeats 2000000 in
theorem areLines_is {w : World} {p : Nat} {G : Gm} (h : GAt w p G) (a : Option Addr) (n c : Nat) (ids : List Vx) (hr : VsR w a n ids) (hn : n ≤ 140737488355328) (B : Bool) (hB : (ids.all fun v => decide (v ∈ G.keys)) = B) :
    Calls Try.prog 55 #[.pointer (some ⟨p, 0, none⟩), .slice a n c] w fun e w' => e = .returned (.bool B) ∧ Below w.heap.size w w' := by
  have HS : Hid (VsR w a n ids ∧ GAt w p G ∧ (ids.all fun v => decide (v ∈ G.keys)) = B) := ⟨hr, h, hB⟩
  have q0 : (n : Int) ≤ 140737488355328 := by omega
  clear hr hn hB h
  go_enter Try.func55, Try.ntmps55
  go_wp2
  go_loopw [9] (fun u wr => ∃ i : Nat, u = iv (i : Int) ∧ Hid (i ≤ n ∧ Below w.heap.size w wr ∧ ∀ j y, j < i → ids[j]? = some y → y ∈ G.keys)) (fun u _ => n - (intOf u).toNat)
  case atStart => exact ⟨0, rfl, Nat.zero_le _, Below.refl _ _, fun j y hj => absurd hj (Nat.not_lt_zero _)⟩
  case round =>
    obtain ⟨V, hV⟩ : ∃ V, V = wr := ⟨_, rfl⟩
    subst hV
    obtain ⟨i, rfl, HI⟩ := hrel
    by_cases hi : i < n
    · obtain ⟨y, hy⟩ : ∃ y, ids[i]? = some y := ⟨_, List.getElem?_eq_getElem (by rw [HS.out.1.1]; exact hi)⟩
      have HY : Hid (i < n ∧ ids[i]? = some y ∧ y.ok ∧ Vk y) := ⟨hi, hy, (HS.out.1.2.1 y (List.mem_of_getElem? hy)).1, HS.out.1.2.1 y (List.mem_of_getElem? hy)⟩
      obtain ⟨gb, off, rfl, hg, hel⟩ := HS.out.1.2.2 (by omega)
      have HR : Hid (V.rangeAt gb (off + i * 33) y.cells) := rangeAt_same (hel i y hy) (HI.out.2.1.block gb hg)
      have q1 : (i : Int) < (n : Int) := by omega
      clear hel hy hi hg
      obtain ⟨Z, hZ, HZ⟩ := zval34
      go_wp2_with (first
        | (with_reducible change wpList _ _ _ ({ dst := some 12, op := _, type := _, pos := _, after := _, guard := _ } :: _) _ _
           refine wpList_load_want rfl 34 (.tmp 11) rfl gb (off + i * 33) rfl y.cells _ HR.out Try.underlying34 rfl (info34 HY.out.2.2.1) ?_)
        | (with_reducible change wpList _ _ _ ({ dst := none, op := Op.store 34 _ _, type := _, pos := _, after := _, guard := _ } :: _) _ _
           refine Hid.out ?_)
        | fail)
      show wpList _ _ _ _ _ _
      refine wpList_store_fresh rfl 34 (.tmp 6) (.tmp 12) rfl Z y.cells 34 rfl rfl (by rw [Vx.len HY.out.2.2.1, HZ.out]) (info34 HY.out.2.2.1) (Vx.one y) ?_
      obtain ⟨V3, hV3⟩ : ∃ W, V.alloc (.cells y.cells.toArray 34) = W := ⟨_, rfl⟩
      obtain ⟨dy, hdy⟩ : ∃ g, V.heap.size = g := ⟨_, rfl⟩
      have H3 : Hid (Below w.heap.size w V3 ∧ Blk V3 dy 34 y.cells) := by
        have hbl : Below V.heap.size V V3 := by rw [← hV3]; exact below_al _ _
        exact ⟨below_tr HI.out.2.1 hbl, by rw [← hV3, ← hdy]; exact Blk.new V _ _⟩
      rw [hV3, hdy]
      clear hV3 hdy hZ HZ HR
      obtain ⟨M, hM⟩ : ∃ M, decide (y ∈ G.keys) = M := ⟨_, rfl⟩
      have HM : Hid (decide (y ∈ G.keys) = M) := hM
      clear hM
      go_wp2_with (first
        | (with_reducible change wpList _ _ _ ({ dst := some 14, op := _, type := _, pos := _, after := _, guard := _ } :: _) _ _
           refine wpList_load_want rfl 34 (.tmp 6) rfl dy 0 rfl y.cells _ H3.out.2.range0 Try.underlying34 rfl (info34 HY.out.2.2.1) ?_)
        | fail)
      refine (isLine_is (HS.out.2.1.below H3.out.1) y HY.out.2.2.2 y.cells rfl M HM.out).mono ?_
      rintro e V4 ⟨rfl, hb⟩
      have HF : Hid (Below w.heap.size w V4) := below_tr H3.out.1 hb
      clear hb
      cases M with
      | false =>
        have hBf : B = false := by
          rw [← HS.out.2.2, List.all_eq_false]
          exact ⟨y, List.mem_of_getElem? HY.out.2.1, by rw [HM.out]; decide⟩
        subst hBf
        go_wp2
        go_ret
        exact ⟨rfl, HF.out⟩
      | true =>
        go_wp2
        refine ⟨⟨i + 1, by simp, ⟨HY.out.1, HF.out, fun j z hj hz => ?_⟩⟩, ?_⟩
        · by_cases hji : j = i
          · subst hji
            rw [HY.out.2.1] at hz
            cases hz
            simpa using HM.out
          · exact HI.out.2.2 j z (by omega) hz
        · have := HY.out.1; simp [intOf]; omega
    · have q1 : ¬ (i : Int) < (n : Int) := by omega
      have hBt : B = true := by
        rw [← HS.out.2.2, List.all_eq_true]
        intro x hx
        obtain ⟨j, hj⟩ := List.getElem?_of_mem hx
        have h1 := (List.getElem?_eq_some_iff.1 hj).1
        rw [HS.out.1.1] at h1
        exact decide_eq_true (HI.out.2.2 j x (by omega) hj)
      subst hBt
      go_wp2
      go_ret
      exact ⟨rfl, HI.out.2.1⟩
end Go.Proofs.Ytjcihaohpbmogaa.Oct
