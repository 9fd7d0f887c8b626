/-
  PROVED: for any two secrets, every user and every number, the law TokenNone answers true: nothing but what was given out is ever taken, not a token of another book, nor one of which a byte is another one; and the chapter's example holds. Conditions: the package variables hash.start, hash.k, internal/strconv.uint64pow10, math/bits.deBruijn32tab and math/bits.deBruijn64tab hold what the program's text lays (the card ties them, over the pruned copy of the project).
-/
import Derived.Test.YtjeahlfmapacfaaDoorCards
import Derived.Test.YtjeahlfmapacfaaDoorTie
import Derived.WalkKit
import Derived.ProofKit
import Derived.OpenShut
import Derived.ShutString
import Derived.ChangeOld
import Derived.Below
import Derived.SizedLaws
import Derived.Deep.DeepHandedRow
import Derived.Test.YtjeahlfmapacfaaDoorVew
import Derived.Test.YtjeahlfmapacfaaDoorNon
namespace Go.Proofs.YtjeahlfmapacfaaDoor.tokenNone
open Go.ChangeShapes Go.WideShapes Go.ChangeAt Go.RowKit
open Go.ChangeMaps (open_string shut_string)
set_option linter.unusedVariables false

set_option maxRecDepth 100000 in
theorem contract (H : Type) (enc : TypeId × Value → H) (W : World) (base : Nat) (args : Array Value) (ds gs : List (DataW H)) (before : List MemPlace)
    (hval : ∀ (j : Nat) t v, Tryd.f5.params[j]? = some t → args[j]? = some v → Value.okWide Tryd.prog W .any base t v)
    (hW : DataW.Whole enc Tryd.prog Tryd.f5.params.toList Rows.tokenNoneSpec.vars false W args.toList ds gs before)
    (hsz : (DataW.weightsEach Tryd.prog (Tryd.f5.params.toList ++ Rows.tokenNoneSpec.plain.varTypes Tryd.prog) (ds ++ gs)).all (· ≤ reachBytes) = true)
    (hL : laidMetH Tryd.prog Rows.tokenNoneRow.laid W) (hSh : W.ShapedOpen Tryd.prog) :
    Calls Tryd.prog 5 args W fun e W' => ∃ v, e = .returned v ∧ Rows.tokenNoneSpec.post enc Tryd.prog Tryd.f5 false true false false W args v W' := by
  have hV : Oct.VT W := Oct.vt_of_laid hL
  have hW' := hW
  obtain ⟨p, q, hA0, hVs, rfl, hfz, hnd⟩ := hW
  have hA : DataW.TrodAll enc Tryd.prog W 0 (fun _ => true) true Tryd.f5.params.toList args.toList ds p := hA0
  rw [Tryd.params5] at hA hval hsz
  obtain ⟨v0, vs0, d0, ds0, p0, q0, hargs, rfl, rfl, h0, r0⟩ := trodAll_cons hA
  obtain ⟨v1, vs1, d1, ds1, p1, q1, rfl, rfl, rfl, h1, r1⟩ := trodAll_cons r0
  obtain ⟨v2, vs2, d2, ds2, p2, q2, rfl, rfl, rfl, h2, r2⟩ := trodAll_cons r1
  obtain ⟨rfl, rfl, rfl⟩ := trodAll_nil r2
  obtain rfl : args = #[v0, v1, v2] := by cases args; simp_all
  obtain ⟨rfl, rfl⟩ := trodVars_none hVs
  obtain ⟨xs0, rfl, hxs0⟩ := okWide_struct Tryd.underlying51 (hval 0 51 v0 rfl rfl)
  have k0 := h0
  have lt0 : ∀ x ∈ p0, x.block < W.heap.size := by obtain ⟨m, hm⟩ := k0; exact DataW.trod_lt m _ _ _ hm
  obtain ⟨x0, e0, n0⟩ : ∃ q : Oct.BooksV, xs0 = q.cells.toArray ∧ q.at W := by
    obtain ⟨fuel, hf⟩ := h0
    exact Oct.view_books hf (fun n hn => by
      have := List.all_eq_true.1 hsz n (DataW.weights_mem_each (j := 0) (t := 51) rfl rfl n hn)
      simpa using this)
  subst e0
  obtain ⟨a1, rfl, rfl, rfl, w1⟩ := open_string Tryd.underlying9 (hval 1 9 v1 rfl rfl) h1
  have n1 : a1.size ≤ 140737488355328 := by
    have := sized_string hsz (j := 1) (t := 9) rfl rfl
    simp only [reachBytes, Array.length_toList] at this
    have e : a1.data.size = a1.size := rfl
    omega
  obtain ⟨a2, rfl, rfl, rfl, w2⟩ := open_int Tryd.underlying3 (hval 2 3 v2 rfl rfl) h2
  clear hA0
  refine (Oct.none_law x0 n0 a1 n1 a2 ⟨(bounds_i64 w2).1, (bounds_i64 w2).2⟩ hV).mono fun e W' ⟨he, bel⟩ => ?_
  subst he
  exact ⟨_, rfl, _, _, _, [], _, [], hW', trodAll_mk1 (shut_bool Tryd.underlying4 _), (trodAll_cons_mk (Below.trod Oct.laidOut (by kernel_rfl) (of_decide_eq_true (by kernel_rfl)) k0 bel lt0) (trodAll_cons_mk (shut_string Tryd.underlying9 w1) (trodAll_cons_mk (shut_int Tryd.underlying3 w2) trodAll_mk0))), rfl, bel.frame _, fun h => by cases h⟩

theorem laid_met (os : Os) : laidMet Tryd.prog Rows.tokenNoneRow.laid (World.forCall ({ (World.holding Tryd.prog os ⟨#[], #[], []⟩) with heap := ((((((World.holding Tryd.prog os ⟨#[], #[], []⟩).heap.modify 3 (fun | .cells _ t frozen => .cells (Lib.pow10Tab.map (Value.int .u64)).toArray t frozen | o => o)).modify 4 (fun | .cells _ t frozen => .cells (Oct.z32.map (Value.int .u8)).toArray t frozen | o => o)).modify 5 (fun | .cells _ t frozen => .cells (Oct.z64.map (Value.int .u8)).toArray t frozen | o => o)).modify 1 (fun | .cells _ t frozen => .cells (Oct.zS.map (Value.int .u32)).toArray t frozen | o => o)).modify 2 (fun | .cells _ t frozen => .cells (Oct.zK.map (Value.int .u32)).toArray t frozen | o => o)) } : World) (fun _ _ => 0) ⟨#[], #[.agg #[.slice none 0 0, .slice none 0 0], .string ⟨#[]⟩, .int .i64 0], []⟩).memory :=
  laidMet_of_run' 8 (by kernel_rfl) (by kernel_rfl)
theorem reads (os : Os) {H : Type} (enc : TypeId × Value → H) : (DataW.whole enc Tryd.prog (World.forCall ({ (World.holding Tryd.prog os ⟨#[], #[], []⟩) with heap := ((((((World.holding Tryd.prog os ⟨#[], #[], []⟩).heap.modify 3 (fun | .cells _ t frozen => .cells (Lib.pow10Tab.map (Value.int .u64)).toArray t frozen | o => o)).modify 4 (fun | .cells _ t frozen => .cells (Oct.z32.map (Value.int .u8)).toArray t frozen | o => o)).modify 5 (fun | .cells _ t frozen => .cells (Oct.z64.map (Value.int .u8)).toArray t frozen | o => o)).modify 1 (fun | .cells _ t frozen => .cells (Oct.zS.map (Value.int .u32)).toArray t frozen | o => o)).modify 2 (fun | .cells _ t frozen => .cells (Oct.zK.map (Value.int .u32)).toArray t frozen | o => o)) } : World) (fun _ _ => 0) ⟨#[], #[.agg #[.slice none 0 0, .slice none 0 0], .string ⟨#[]⟩, .int .i64 0], []⟩).memory Tryd.f5.params.toList Rows.tokenNoneSpec.vars false (#[.agg #[.slice none 0 0, .slice none 0 0], .string ⟨#[]⟩, .int .i64 0] : Array Value).toList 8).map (fun x => (x.1, x.2.1)) = some ([.agg [.nil, .nil], .lit (.string []), .lit (.int .i64 0)], []) := by kernel_rfl

set_option maxRecDepth 100000 in
theorem lifted (os : Os) (started : os.Started) (H : Type) (enc : TypeId × Value → H) (F : Stop.Interp) :
    ReturnsInHanded {} Tryd.checked os 5 .any ((OpenSpec.ofChange Rows.tokenNoneSpec).preRow enc Tryd.prog Tryd.f5 Rows.tokenNoneRow.domain false Rows.tokenNoneRow.laid) (((OpenSpec.ofChange Rows.tokenNoneSpec).at F).post enc Tryd.prog Tryd.f5 false true false false) := by
  obtain ⟨⟨x1, x2, places⟩, hx, hxy⟩ := Option.map_eq_some_iff.1 (reads os enc)
  obtain ⟨rfl, rfl⟩ := Prod.mk.inj hxy
  refine returnsInHanded_of_row (C := Tryd.checked) (s := (OpenSpec.ofChange Rows.tokenNoneSpec)) Oct.own started (by kernel_rfl) Tryd.func5
    (witness_row_at (enc := enc) (C := Tryd.checked) false ({ (World.holding Tryd.prog os ⟨#[], #[], []⟩) with heap := ((((((World.holding Tryd.prog os ⟨#[], #[], []⟩).heap.modify 3 (fun | .cells _ t frozen => .cells (Lib.pow10Tab.map (Value.int .u64)).toArray t frozen | o => o)).modify 4 (fun | .cells _ t frozen => .cells (Oct.z32.map (Value.int .u8)).toArray t frozen | o => o)).modify 5 (fun | .cells _ t frozen => .cells (Oct.z64.map (Value.int .u8)).toArray t frozen | o => o)).modify 1 (fun | .cells _ t frozen => .cells (Oct.zS.map (Value.int .u32)).toArray t frozen | o => o)).modify 2 (fun | .cells _ t frozen => .cells (Oct.zK.map (Value.int .u32)).toArray t frozen | o => o)) } : World) #[.agg #[.slice none 0 0, .slice none 0 0], .string ⟨#[]⟩, .int .i64 0] rfl (by kernel_rfl) (by kernel_rfl) (by kernel_rfl)
      (OpenSpec.preRow_of_cond 8 hx (by kernel_rfl) (fun k hk => by cases hk) (by kernel_rfl) (laid_met os))) ?_
  intro W base args ds gs before hval hW _ _ hsz hL hSh _
  exact contract H enc W base args ds gs before hval hW hsz hL hSh

theorem said : Rows.TokenNoneSaid :=
  OpenClaim.holds_of_cond 5 Tryd.f5 rfl rfl rfl rfl rfl rfl rfl ⟨rfl, rfl, rfl, rfl, rfl⟩ rfl rfl rfl rfl rfl (by kernel_rfl) Tryd.func5 (by kernel_rfl)
    (of_decide_eq_true (by kernel_rfl)) (by unfold Func.isWrapper; first | (rw [if_pos (by decide +kernel)]; kernel_rfl) | (rw [if_neg (by decide +kernel)]; exact ⟨rfl, rfl⟩))
    (fun os started H enc _ F => by rw [OpenClaim.pre_eq_preRow]; exact lifted os started H enc F)

theorem plain (f : FuncId) (fn : Func) (hf : Tryd.pinned.checked.prog.funcNamed "ingot/ingotlaw16.TokenNone" = some f) (hfn : Tryd.pinned.checked.prog.funcs[f]? = some fn) :
    false = Tryd.pinned.checked.prog.looks [] ∧ ∀ (j : Nat) t, fn.params[j]? = some t → Tryd.pinned.checked.prog.wantsStandIn t = false := by
  obtain rfl : f = 5 := Option.some.inj ((show Tryd.prog.funcNamed "ingot/ingotlaw16.TokenNone" = some 5 by kernel_rfl).symm.trans hf) |>.symm
  obtain rfl : fn = Tryd.f5 := (Option.some.inj (Tryd.func5.symm.trans hfn)).symm
  refine ⟨by kernel_rfl, fun j t ht => ?_⟩
  rw [Tryd.params5] at ht
  have hm := Array.mem_of_getElem? ht
  simp only [List.mem_toArray, List.mem_cons, List.not_mem_nil, or_false] at hm
  rcases hm with rfl | rfl | rfl
  · exact (show Tryd.prog.wantsStandIn 51 = false by kernel_rfl)
  · exact (show Tryd.prog.wantsStandIn 9 = false by kernel_rfl)
  · exact (show Tryd.prog.wantsStandIn 3 = false by kernel_rfl)

theorem card : Rows.TokenNoneCardSaid :=
  Claim7.holds_tied_plain_at .later [] _ _ _ _ said (fun _ h => by cases h) (by kernel_rfl) (fun _ h => by cases h) tokenNone_row_tie rfl ⟨rfl, rfl⟩ (by kernel_rfl) rfl plain (by kernel_rfl)
#print axioms card
end Go.Proofs.YtjeahlfmapacfaaDoor.tokenNone
