/-
  Layer 11 (lines): IndexFunc and ContainsFunc at vertices; the set of ids.
-/
import Derived.Test.YtjcihaohpbmogaaAhd
import Derived.Shelf.Abstract
namespace Go.Proofs.Ytjcihaohpbmogaa.Oct
open Go.RowKit
set_option maxRecDepth 100000
set_option linter.unusedSimpArgs false
set_option linter.unusedVariables false
set_option linter.unusedSectionVars false

/-- the first place at which a predicate holds, or -1 -/
def fstAt (p : Vx → Bool) (vs : List Vx) : Int := match vs.findIdx? p with | some i => i | none => -1
theorem fstAt_at {p : Vx → Bool} {vs : List Vx} {i : Nat} {x : Vx} (hi : vs[i]? = some x) (hp : p x = true) (hn : ∀ j y, j < i → vs[j]? = some y → p y = false) : fstAt p vs = i := by
  unfold fstAt
  obtain ⟨hlt, hx⟩ := List.getElem?_eq_some_iff.1 hi
  have : vs.findIdx? p = some i := by
    rw [List.findIdx?_eq_some_iff_getElem]
    refine ⟨hlt, by rw [hx]; exact hp, fun j hj => ?_⟩
    rw [hn j vs[j] hj (List.getElem?_eq_getElem (by omega))]
    decide
  rw [this]
theorem fstAt_no {p : Vx → Bool} {vs : List Vx} (hn : ∀ x ∈ vs, p x = false) : fstAt p vs = -1 := by
  unfold fstAt
  have : vs.findIdx? p = none := by
    rw [List.findIdx?_eq_none_iff]
    exact fun x hx => by rw [hn x hx]
  rw [this]
theorem fstAt_any (p : Vx → Bool) (vs : List Vx) : decide (0 ≤ fstAt p vs) = vs.any p := by
  rw [Bool.eq_iff_iff, decide_eq_true_eq]
  constructor
  · intro h
    cases ha : vs.any p with
    | true => rfl
    | false =>
      rw [List.any_eq_false] at ha
      rw [fstAt_no (fun x hx => by simpa using ha x hx)] at h
      omega
  · intro h
    obtain ⟨x, hx, hp⟩ := List.any_eq_true.1 h
    unfold fstAt
    cases hf : vs.findIdx? p with
    | none =>
      rw [List.findIdx?_eq_none_iff] at hf
      rw [hf x hx] at hp; cases hp
    | some i => simp
/-- what a predicate that is handed in does -/
def PredV (w : World) (g : FuncId) (R C : Array Value) (p : Vx → Bool) (vs : List Vx) : Prop :=
  (∀ args W, (callFunc g args).run Try.prog W = .ok (.enter g args) W) ∧ ∀ V x, Below w.heap.size w V → x ∈ vs → Calls Try.prog g (R ++ #[.agg x.cells.toArray] ++ C) V fun e V' => e = .returned (.bool (p x)) ∧ Below V.heap.size V V'
set_option maxHeartbeats 1000000 in
theorem indexF_is (w : World) (a : Option Addr) (n c : Nat) (vs : List Vx) (hr : VsR w a n vs) (g : FuncId) (R C : Array Value) (p : Vx → Bool) (hp : PredV w g R C p vs) (hn : n ≤ 140737488355328) (P : Int) (hP : fstAt p vs = P) :
    Calls Try.prog 86 #[.slice a n c, .func (.func g) R C] w fun e w' => e = .returned (iv P) ∧ Below w.heap.size w w' := by
  have HS : Hid (VsR w a n vs ∧ PredV w g R C p vs ∧ fstAt p vs = P) := ⟨hr, hp, hP⟩
  have q0 : (n : Int) ≤ 140737488355328 := by omega
  have hent := hp.1
  clear hr hn hp hP
  go_enter Try.func86, Try.ntmps86
  go_wp2
  go_loopw [8] (fun u wr => ∃ i : Nat, u = iv (i : Int) ∧ Hid (i ≤ n ∧ Below w.heap.size w wr ∧ ∀ j y, j < i → vs[j]? = some y → p y = false)) (fun u _ => n - (intOf u).toNat)
  case atStart => exact ⟨0, rfl, Nat.zero_le _, Below.refl _ _, fun j y hj => absurd hj (Nat.not_lt_zero _)⟩
  case round =>
    obtain ⟨V, hV⟩ : ∃ V, V = wr := ⟨_, rfl⟩
    subst hV
    obtain ⟨i, rfl, HI⟩ := hrel
    by_cases hi : i < n
    · obtain ⟨y, hy⟩ : ∃ y, vs[i]? = some y := ⟨_, List.getElem?_eq_getElem (by rw [HS.out.1.1]; exact hi)⟩
      have HY : Hid (i < n ∧ vs[i]? = some y ∧ y.ok ∧ y ∈ vs) := ⟨hi, hy, (HS.out.1.2.1 y (List.mem_of_getElem? hy)).1, List.mem_of_getElem? hy⟩
      obtain ⟨gb, off, rfl, hg, hel⟩ := HS.out.1.2.2 (by omega)
      have HR : Hid (V.rangeAt gb (off + i * 33) y.cells) := rangeAt_same (hel i y hy) (HI.out.2.1.block gb hg)
      have q1 : (i : Int) < (n : Int) := by omega
      clear hel hy hi hg
      obtain ⟨B, hB⟩ : ∃ B, p y = B := ⟨_, rfl⟩
      have HB : Hid (p y = B) := hB
      clear hB
      go_wp2_with (first
        | (with_reducible change wpList _ _ _ ({ dst := some 15, op := _, type := _, pos := _, after := _, guard := _ } :: _) _ _
           refine wpList_load_want rfl 34 (.tmp 14) rfl gb (off + i * 33) rfl y.cells _ HR.out Try.underlying34 rfl (info34 HY.out.2.2.1) ?_)
        | fail)
      refine (HS.out.2.1.2 V y HI.out.2.1 HY.out.2.2.2).mono ?_
      rintro e V2 ⟨he, hb⟩
      rw [HB.out] at he
      subst he
      have HF : Hid (Below w.heap.size w V2) := below_tr HI.out.2.1 hb
      clear hb HR
      cases B with
      | true =>
        have HP : Hid (P = (i : Int)) := by
          rw [← HS.out.2.2]
          exact fstAt_at HY.out.2.1 HB.out HI.out.2.2
        go_wp2
        go_ret
        rw [HP.out]
        exact ⟨rfl, HF.out⟩
      | false =>
        go_wp2
        refine ⟨⟨i + 1, by simp, ⟨HY.out.1, HF.out, fun j z hj hz => ?_⟩⟩, ?_⟩
        · by_cases hji : j = i
          · subst hji
            rw [HY.out.2.1] at hz
            cases hz
            exact HB.out
          · exact HI.out.2.2 j z (by omega) hz
        · have := HY.out.1; simp [intOf]; omega
    · have q1 : ¬ (i : Int) < (n : Int) := by omega
      have HP : Hid (P = -1) := by
        rw [← HS.out.2.2]
        refine fstAt_no fun x hx => ?_
        obtain ⟨j, hj⟩ := List.getElem?_of_mem hx
        have h1 := (List.getElem?_eq_some_iff.1 hj).1
        rw [HS.out.1.1] at h1
        exact HI.out.2.2 j x (by omega) hj
      go_wp2
      go_ret
      rw [HP.out]
      exact ⟨rfl, HI.out.2.1⟩
#print axioms indexF_is
set_option maxHeartbeats 1000000 in
theorem containsF_is (w : World) (a : Option Addr) (n c : Nat) (vs : List Vx) (hr : VsR w a n vs) (g : FuncId) (R C : Array Value) (p : Vx → Bool) (hp : PredV w g R C p vs) (hn : n ≤ 140737488355328) (B : Bool) (hB : vs.any p = B) :
    Calls Try.prog 72 #[.slice a n c, .func (.func g) R C] w fun e w' => e = .returned (.bool B) ∧ Below w.heap.size w w' := by
  obtain ⟨P, hP⟩ : ∃ P, fstAt p vs = P := ⟨_, rfl⟩
  have HC : Hid (Calls Try.prog 86 #[.slice a n c, .func (.func g) R C] w fun e w' => e = .returned (iv P) ∧ Below w.heap.size w w') := indexF_is w a n c vs hr g R C p hp hn P hP
  have hd : decide (0 ≤ P) = B := by rw [← hP, ← hB]; exact fstAt_any p vs
  clear hr hp hn hP hB
  go_enter Try.func72, Try.ntmps72
  go_wp2_with fail
  refine HC.out.mono ?_
  rintro e w2 ⟨rfl, hb⟩
  have HF : Hid (Below w.heap.size w w2) := hb
  clear hb
  cases B with
  | true =>
    have q : 0 ≤ P := by simpa using hd
    go_wp2
    go_ret
    exact ⟨rfl, HF.out⟩
  | false =>
    have q : ¬ 0 ≤ P := by simpa using hd
    go_wp2
    go_ret
    exact ⟨rfl, HF.out⟩
#print axioms containsF_is
theorem pred_end (w : World) (vs : List Vx) (hv : ∀ v ∈ vs, Vk v) : PredV w 43 #[] #[] isE vs := ⟨fun args W => by first | exact Go.Proofs.enters_of Try.func43 (by kernel_rfl) rfl args W, fun V x _ hx => by
  have := isEnd_is V x (hv x hx).1 x.cells rfl (isE x) rfl
  simpa using this⟩
theorem pred_line {w : World} {p : Nat} {G : Gm} (h : GAt w p G) (vs : List Vx) (hv : ∀ v ∈ vs, Vk v) : PredV w 44 #[.pointer (some ⟨p, 0, none⟩)] #[] (fun v => decide (v ∈ G.keys)) vs := ⟨fun args W => Go.Proofs.enters_of Try.func44 (by kernel_rfl) rfl args W, fun V x hb hx => by
  have := isLine_is (h.below hb) x (hv x hx) x.cells rfl _ rfl
  simpa using this⟩
#print axioms pred_line
end Go.Proofs.Ytjcihaohpbmogaa.Oct
