/-
  Layer 16 (token): TokenTaken.
-/
import Derived.Test.YtjeahlfmapacfaaDoorNob
namespace Go.Proofs.YtjeahlfmapacfaaDoor.Oct
open Go.RowKit Sha
set_option linter.unusedSimpArgs false
set_option linter.unusedVariables false

theorem u9 : Tryd.prog.underlying 9 = some .string := Tryd.underlying9
theorem run_idx (s : BA) (i : Nat) (c : UInt8) (h : s.data.toList[i]? = some c) (W : World) : (Instr.index 9 (.string s) (iv (i : Int))).run Tryd.prog W = .ok (bv (c.toNat : Int)) W := by
  have hs : s[i]? = some c := by
    have hi := (List.getElem?_eq_some_iff.1 h).1
    have hi' : i < s.size := hi
    rw [getElem?_pos s i hi']
    have := (List.getElem?_eq_some_iff.1 h).2
    rw [← this]
    rfl
  simp [Instr.index, run_underlying u9, asIntOf, hs, go_sem]
theorem wpList_idx {ops : Array Oper} {rest : List Oper} {o : Oper} {a : Act} {w : World} {Q : Exit → Act → World → Prop} (hgd : o.guard = none) (x y : Operand) (hop : o.op = .index 9 x y) (s : BA) (i : Nat) (c : UInt8) (hx : a.eval x = .string s) (hy : a.eval y = iv (i : Int)) (h : s.data.toList[i]? = some c)
    (hk : wpList Tryd.prog ops Q rest (a.put o.dst (bv (c.toNat : Int))) w) : wpList Tryd.prog ops Q (o :: rest) a w := by
  refine wpList_plain hgd fun K hK => ?_
  have h1 := run_idx s i c h w
  unfold Oper.wp execOp
  simp only [hop, Sem.run_bind, Sem.run_pure, Result.andThen_ok, hx, hy, h1]
  exact hK _ _ hk
theorem key_len {S : List UInt8} {k : Nat} {g : Gr} (hk : k ≤ 900) (ht : g.t ≤ 1099511627776) : (keyG S k g).length ≤ g.u.size + 200 := by
  have z1 := dec_len (k + 1) (by omega)
  have z2 := dec_len g.t ht
  have z3 : g.u.data.toList.length = g.u.size := rfl
  have z5 := hexOf_length (tagOf S (bodyT (k + 1) g.u.data.toList g.t))
  rw [tagOf_len] at z5
  unfold keyG txtT sealT
  rw [List.length_append, List.length_cons, z5]
  unfold bodyT
  simp only [List.length_append, List.length_cons]
  omega
theorem at_rev {S : List UInt8} {h : List UInt8} {g : Gr} : ∀ (k : Nat) (G : List Gr), atF S k G h = some g → atF S k (revF S k G h) h = some { g with bk := true }
  | _, [], e => by simp [atF] at e
  | k, x :: r, e => by
    unfold atF at e
    unfold revF
    by_cases hx : keyG S k x = h
    · rw [if_pos hx] at e
      cases e
      rw [if_pos hx]
      unfold atF
      rw [if_pos (show keyG S k { g with bk := true } = h from hx)]
    · rw [if_neg hx] at e
      rw [if_neg hx]
      unfold atF
      rw [if_neg hx]
      exact at_rev (k + 1) r e
theorem at_last {S : List UInt8} {G : List Gr} {g : Gr} {h : List UInt8} (hG : G.length ≤ 256) (hh : h = keyG S G.length g) : atF S 0 (G ++ [g]) h = some g := by
  rw [at_app, hh, at_none (by omega) 0 G (by omega), Nat.zero_add]
  show (none : Option Gr).or (if keyG S G.length g = keyG S G.length g then some g else none) = some g
  rw [if_pos rfl]
  rfl
/-- what any Issue leaves -/
theorem IsP.any {w w' : World} {b m : Nat} {S : List UInt8} {G : List Gr} {u : BA} {now til : Int} {e : Ending} (hB : BkAt w b m S G) (h : IsP w b m S G u now til e w') : ∃ X E, e = .returned (.tuple #[.string X, iv E]) ∧ w.grownBy w' (some m) ∧ ∃ G', BkAt w' b m S G' ∧ G'.length ≤ G.length + 1 := by
  rcases h with ⟨_, h1, h2⟩ | ⟨_, X, _, h1, h2, h3⟩
  · exact ⟨_, _, h1, gr_of h2, G, hB.below h2, by omega⟩
  · exact ⟨_, _, h1, h3, _, h2, by simp⟩
set_option maxRecDepth 100000 in
set_option maxHeartbeats 1000000 in
theorem point_is (s : BA) (hs : s.size ≤ 20000000) (w : World) (B : Bool) (hB : decide ((46 : UInt8) ∈ s.data.toList) = B) : Calls Tryd.prog 19 #[.string s] w fun e w' => e = .returned (.bool B) ∧ w = w' := by
  obtain ⟨n, hn⟩ : ∃ n, s.size = n := ⟨_, rfl⟩
  have qn : (s.size : Int) = (n : Int) := by omega
  have qn2 : (n : Int) ≤ 20000000 := by omega
  obtain ⟨L, hL⟩ : ∃ L, s.data.toList = L := ⟨_, rfl⟩
  have HL : Hid (s.data.toList = L ∧ L.length = n) := ⟨hL, by rw [← hL, ← hn]; rfl⟩
  rw [hL] at hB
  have HB : Hid (decide ((46 : UInt8) ∈ L) = B) := hB
  clear hs hL hn hB
  go_enter Tryd.func19, Tryd.ntmps19
  go_wp2_with fail
  go_loopw [6] (fun u wr => ∃ i : Nat, u = iv (i : Int) ∧ (i : Int) ≤ (n : Int) ∧ Hid ((46 : UInt8) ∉ L.take i ∧ w = wr)) (fun u _ => n - (intOf u).toNat)
  case atStart => exact ⟨0, rfl, by omega, by simp, rfl⟩
  case round =>
    obtain ⟨i, rfl, q1, HI⟩ := hrel
    obtain ⟨hI, hw⟩ := HI.out
    subst hw
    clear HI
    by_cases hi : i = n
    · subst hi
      have HF : Hid (B = false) := by
        rw [List.take_of_length_le (by rw [HL.out.2]; exact Nat.le_refl _)] at hI
        show B = false
        rw [← HB.out]
        simpa using hI
      obtain rfl := HF.out
      clear hI HF
      go_wp2
      go_ret
      exact ⟨rfl, rfl⟩
    · have q2 : (i : Int) < (n : Int) := by omega
      obtain ⟨x, hx⟩ : ∃ x, L[i]? = some x := ⟨_, List.getElem?_eq_getElem (by rw [HL.out.2]; omega)⟩
      have HX : Hid (s.data.toList[i]? = some x) := by rw [HL.out.1]; exact hx
      by_cases hxc : x = 46
      · subst hxc
        have HF : Hid (B = true) := by
          show B = true
          rw [← HB.out]
          simpa using List.mem_of_getElem? hx
        obtain rfl := HF.out
        clear hx hI hi HF
        go_wp2_with (with_reducible change wpList _ _ _ ({ dst := some 11, op := _, type := _, pos := _, after := _, guard := _ } :: _) _ _; refine Hid.out ?_)
        show wpList _ _ _ _ _ _
        refine wpList_idx rfl (.tmp 9) (.tmp 10) rfl s i 46 rfl rfl HX.out ?_
        go_wp2
        go_ret
        exact ⟨rfl, rfl⟩
      · have hne : ((x.toNat : Int) == 46) = false := by rw [beq_eq_false_iff_ne]; exact fun h => hxc (UInt8.toNat_inj.1 (by show x.toNat = 46; omega))
        have HF : Hid ((46 : UInt8) ∉ L.take (i + 1) ∧ i < n) := ⟨by
          rw [List.take_add_one, hx]
          simp only [Option.toList_some, List.mem_append, List.mem_singleton, not_or]
          exact ⟨hI, fun h => hxc h.symm⟩, by omega⟩
        clear hx hI hi hxc
        go_wp2_with (with_reducible change wpList _ _ _ ({ dst := some 11, op := _, type := _, pos := _, after := _, guard := _ } :: _) _ _; refine Hid.out ?_)
        show wpList _ _ _ _ _ _
        refine wpList_idx rfl (.tmp 9) (.tmp 10) rfl s i x rfl rfl HX.out ?_
        go_wp2
        go_roundw
        case rel => exact ⟨i + 1, by simp, by have := HF.out.2; omega, HF.out.1, by first | exact rfl | exact trivial⟩
        case measure => have := HF.out.2; simp only [intOf]; omega
#print axioms point_is
end Go.Proofs.YtjeahlfmapacfaaDoor.Oct
