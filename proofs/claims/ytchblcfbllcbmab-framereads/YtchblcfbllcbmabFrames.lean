/-
  Layer 4 (frame): the closure of 'frames': it hands out each frame that the bytes begin with.
-/
import Derived.Test.YtchblcfbllcbmabOpenIs
import Derived.RangeFuncNested
import Derived.RangeFuncBound
import Derived.RangeFuncCalls
import Derived.RangeFuncLeaves
import Derived.Shelf.Abstract
import Derived.Shelf.RegionOpen
import Derived.WalkKit
import Derived.OwnWalkIn
import Derived.TacticsInMore
import Derived.LoopNIn
import Derived.LoopIn
namespace Go.Proofs.Ytchblcfbllcbmab.Oct
open Go.RowKit Go.Shelf
attribute [local go_sem] Oper.semAt_some

theorem elem22 : Try.prog.underlying 22 = some (.slice (Try.prog.elem 22)) := by kernel_rfl
theorem size22 : (Try.prog.info? (Try.prog.elem 22)).map (·.size) = some 1 := by kernel_rfl

/-- 'b[s:]' of bytes that came in -/
theorem slice_from {w : World} {a : Option Addr} {m cp : Nat} {l : List UInt8} (hin : In w a m cp l) (s : Nat) (hs : s ≤ m) :
    ∃ a', (∀ W, (Instr.slice 22 (.slice a m cp) (some (.int .i64 (s : Int))) none none).run Try.prog W = .ok (.slice a' (m - s) (cp - s)) W) ∧ In w a' (m - s) (cp - s) (l.drop s) ∧ (s < m → ∀ b off, a = some ⟨b, off, none⟩ → a' = some ⟨b, off + s, none⟩) := by
  obtain ⟨i, hi, hsz⟩ := Option.map_eq_some_iff.1 size22
  refine ⟨if cp = s then a else a.map (·.add s), fun W => ?_, ?_, ?_⟩
  · simp [Instr.slice, run_underlying elem22, Instr.sliceBounds, Instr.sliceBound, asIntOf, sizeOf, typeInfo, hi, hsz, hs]
  · have h1 := hin.1
    have h2 := hin.2.1
    refine ⟨by simp; omega, by omega, by have := hin.2.2.1; omega, ?_, fun hp => ?_⟩
    · intro e
      cases a with
      | none => have := hin.2.2.2.1 rfl; omega
      | some x => split at e <;> simp at e
    · obtain ⟨b, off, rfl, e2, e3⟩ := hin.2.2.2.2 (by omega)
      rw [if_neg (by omega)]
      refine ⟨b, off + s, by simp [Addr.add_lit], e2, fun i c hc => ?_⟩
      rw [List.getElem?_drop] at hc
      rw [Nat.add_assoc]
      exact e3 _ c hc
  · intro hlt b off e
    have h2 := hin.2.1
    subst e
    rw [if_neg (by omega)]
    simp [Addr.add_lit]

theorem wpListIn_slice_from {F : Fence} {n : Nat} {ops : Array Oper} {rest : List Oper} {o : Oper} {a : Act} {Q : Exit → Act → World → Prop} {w : World} (hgd : o.guard = none) (x lo : Operand) (hop : o.op = Op.slice 22 x (some lo) none none)
    (v v' : Value) (s : Nat) (hx : a.eval x = v) (hlo : a.eval lo = .int .i64 (s : Int)) (hrun : ∀ W, (Instr.slice 22 v (some (.int .i64 (s : Int))) none none).run Try.prog W = .ok v' W)
    (h : wpListIn F n Try.prog ops Q rest (a.put o.dst v') w) : wpListIn F n Try.prog ops Q (o :: rest) a w := by
  refine wpListIn_plain hgd fun K hK => ?_
  unfold Oper.wpIn
  refine ⟨?_, ?_⟩
  · simp [Oper.about, hop]
  · rw [Oper.semAt_plain F _ _ (by rw [hop]; intro c hc'; cases hc')]
    have hv := hrun w
    cases v with
    | slice a1 n1 c1 =>
      simp [execOp, hop, hx, hlo, run_sliceAt_slice _ 22 _ _ _ _ elem22, hrun, Result.andThen]
      exact hK _ _ h
    | _ => simp [Instr.slice, run_underlying elem22] at hv

/-- what 'open' tells of the bytes from s on -/
def Told (L : List UInt8) (a : Option Addr) (cp s : Nat) (v1 v2 v3 : Value) : Prop :=
  (∃ m b off, a = some ⟨b, off, none⟩ ∧ errOf (L.drop s) = 0 ∧ num4 (L.drop s) = m ∧ v1 = .slice (some ⟨b, off + s + 8, none⟩) m (cp - s - 8) ∧ v2 = .int .i64 ((m : Int) + 12) ∧ v3 = .int .i64 0) ∨
  (errOf (L.drop s) ≠ 0 ∧ v1 = .slice none 0 0 ∧ v2 = .int .i64 0 ∧ v3 = .int .i64 (errOf (L.drop s) : Int))

theorem open_told (L : List UInt8) (a a' : Option Addr) (n cp s : Nat) (w : World) (ha : In w a n cp L) (hs : s ≤ n) (hin : In w a' (n - s) (cp - s) (L.drop s)) (hat : s < n → ∀ b off, a = some ⟨b, off, none⟩ → a' = some ⟨b, off + s, none⟩) :
    Calls Try.prog 13 #[.slice a' (n - s) (cp - s)] w fun e w' => ∃ v1 v2 v3, e = .returned (.tuple #[v1, v2, v3]) ∧ Hid (Told L a cp s v1 v2 v3) ∧ ∃ k, w' = w.drewN k := by
  by_cases h : errOf (L.drop s) = 0
  · have hg := good_of h
    have hl := ha.1
    have hlt : s < n := by have := hg.1; rw [List.length_drop] at this; omega
    obtain ⟨b, off, rfl, -, -⟩ := ha.2.2.2.2 (by omega)
    obtain rfl := hat hlt b off rfl
    refine (open_ok (L.drop s) b (off + s) (n - s) (cp - s) _ w hin h rfl).mono ?_
    rintro e w' ⟨rfl, k, rfl⟩
    exact ⟨_, _, _, rfl, .inl ⟨_, b, off, rfl, h, rfl, rfl, rfl, rfl⟩, k, rfl⟩
  · refine (open_none (L.drop s) a' (n - s) (cp - s) w hin h).mono ?_
    rintro e w' ⟨rfl, k, rfl⟩
    exact ⟨_, _, _, rfl, .inr ⟨h, rfl, rfl, rfl⟩, k, rfl⟩

set_option maxRecDepth 100000 in
set_option maxHeartbeats 2000000 in
theorem frames1_in (d l2 Bs : Nat) (a : Option Addr) (n cp : Nat) (L : List UInt8) (hn : n ≤ 1000000) (J : Nat → World → Prop)
    (hJd : ∀ s A k, J s A → J s (A.drewN k)) (hJ : ∀ s A, J s A → A.cell? ⟨Bs, 0, none⟩ = some (.slice a n cp) ∧ In A a n cp L)
    (hY : ∀ s m b off A, J s A → a = some ⟨b, off, none⟩ → errOf (L.drop s) = 0 → num4 (L.drop s) = m → s + m + 12 ≤ n → YieldAt Fence.wide (d - 1) Try.prog l2 #[.int .i64 (s : Int), .slice (some ⟨b, off + s + 8, none⟩) m (cp - s - 8)] A fun e B => e = .returned (.bool true) ∧ J (s + m + 12) B)
    (W : World) (h0 : J 0 W) :
    CallsIn Fence.wide d Try.prog 22 #[.func (.yield l2) #[] #[], .pointer (some ⟨Bs, 0, none⟩)] W fun e B => (∃ v, e = .returned v) ∧ ∃ s, J s B ∧ s ≤ n ∧ errOf (L.drop s) ≠ 0 := by
  refine callsIn_of_wp Try.func22 rfl trivial ?_ rfl
  simp only [Try.ntmps22, List.size_toArray, List.length_cons, List.length_nil, Nat.reduceAdd, Nat.reduceSub, Array.replicate_succ, Array.replicate_zero, List.push_toArray, List.append_toArray, List.nil_append, List.cons_append]
  have hc0 := (hJ 0 W h0).1
  have HI0 : Hid (In W a n cp L) := (hJ 0 W h0).2
  gi_wp2_with (refine ⟨trivial, (fun h => by cases h), ?_⟩; gi_at_call 13; refine (callsIn_wide.2 (open_told L a a n cp 0 W HI0.out (Nat.zero_le _) HI0.out (fun _ b off h => by rw [h]; rfl))).mono ?_; rintro e w1 ⟨v1, v2, v3, rfl, HT, k, rfl⟩)
  gi_loopw [3, 4, 5, 6] (fun at_ u1 u2 u3 wr => ∃ s : Nat, s ≤ n ∧ at_ = .int .i64 s ∧ Hid (J s wr) ∧ Hid (Told L a cp s u1 u2 u3)) (fun at_ _ _ _ _ => n - (intOf at_).toNat)
  case atStart => exact ⟨0, Nat.zero_le _, rfl, hJd 0 W k h0, HT⟩
  case round =>
    obtain ⟨s, hs, rfl, HJ, HTs⟩ := hrel
    clear hc0 HI0 HT
    rcases HTs.out with ⟨m, b, off, rfl, he, hm, rfl, rfl, rfl⟩ | ⟨he, rfl, rfl, rfl⟩
    · have hin := (hJ s wr HJ.out).2
      have hle : s + m + 12 ≤ n := by
        have hg := good_of he
        have h1 := hg.2.2.2.1
        have h2 := hin.1
        rw [List.length_drop, hm] at h1
        omega
      obtain ⟨fn, tmps, assign, body, hy, hR⟩ := hY s m b off wr HJ.out rfl he hm hle
      obtain ⟨s', hs'⟩ : ∃ s' : Nat, s' = s + m + 12 := ⟨_, rfl⟩
      have HS' : Hid (s' = s + m + 12) := hs'
      have HLE : Hid (s' ≤ n) := by show s' ≤ n; omega
      have HSL : Hid (s < s') := by show s < s'; omega
      have hadd : (s : Int) + ((m : Int) + 12) = (s' : Int) := by omega
      have b1 : (s : Int) ≤ 1000000 := by omega
      have b2 : (m : Int) ≤ 1000000 := by omega
      clear hin he hm hle HTs hs'
      gi_wp2
      refine ⟨(fun h => by cases h), hR.mono ?_⟩
      rintro e W3 ⟨rfl, hJ3⟩
      rw [← HS'.out] at hJ3
      have HJ3 : Hid (J s' W3) := hJ3
      have hc3 := (hJ s' W3 hJ3).1
      have HI3 : Hid (In W3 (some ⟨b, off, none⟩) n cp L) := (hJ s' W3 hJ3).2
      obtain ⟨a4, hsl, hin4, hat4⟩ := slice_from HI3.out s' HLE.out
      have HSLC : Hid (∀ W, (Instr.slice 22 (.slice (some ⟨b, off, none⟩) n cp) (some (.int .i64 (s' : Int))) none none).run Try.prog W = .ok (.slice a4 (n - s') (cp - s')) W) := hsl
      have HI4 : Hid (In W3 a4 (n - s') (cp - s') (L.drop s')) := hin4
      have HAT : Hid (s' < n → ∀ b' off', some (⟨b, off, none⟩ : Addr) = some ⟨b', off', none⟩ → a4 = some ⟨b', off' + s', none⟩) := hat4
      clear hy hR hsl hin4 hat4 hJ3
      gi_wp2_with (first
        | (with_reducible change wpListIn _ _ _ _ _ ({ dst := some 27, op := _, type := _, pos := _, after := _, guard := _ } :: _) _ _
           refine wpListIn_slice_from rfl (.tmp 25) (.tmp 26) rfl _ _ s' rfl rfl HSLC.out ?_)
        | (refine ⟨trivial, (fun h => by cases h), ?_⟩; gi_at_call 13; refine (callsIn_wide.2 (open_told L _ a4 n cp s' W3 HI3.out HLE.out HI4.out HAT.out)).mono ?_; rintro e w4 ⟨v1, v2, v3, rfl, HT4, k4, rfl⟩))
      go_roundw
      case rel => exact ⟨s', HLE.out, rfl, hJd _ _ _ HJ3.out, HT4⟩
      case measure => have h1 := HSL.out; have h2 := HLE.out; simp [intOf]; omega
    · obtain ⟨E, hE⟩ : ∃ E, E = errOf (L.drop s) := ⟨_, rfl⟩
      have HE : Hid (errOf (L.drop s) ≠ 0) := he
      rw [← hE] at he ⊢
      have hE0 : ((E : Int) == 0) = false := by simpa using he
      clear hE HTs
      gi_wp2
      refine ⟨fun _ h => (by cases h), ?_⟩
      gi_wp2
      go_end0
      exact ⟨⟨_, rfl⟩, s, HJ.out, hs, HE.out⟩
#print axioms frames1_in
end Go.Proofs.Ytchblcfbllcbmab.Oct
