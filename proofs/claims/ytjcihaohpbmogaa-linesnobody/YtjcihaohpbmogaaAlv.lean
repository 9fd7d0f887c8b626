/-
  Layer 11 (lines): isAlive; ones.
-/
import Derived.Test.YtjcihaohpbmogaaTxt
namespace Go.Proofs.Ytjcihaohpbmogaa.Oct
open Go.RowKit
set_option maxRecDepth 100000
set_option linter.unusedSimpArgs false
set_option linter.unusedVariables false
set_option linter.unusedSectionVars false

theorem alive_is {w : World} {p : Nat} {G : Gm} (h : GAt w p G) {l : Ln} (hl : l ∈ G.ls) : Calls Try.prog 52 #[.pointer (some ⟨l.blk, 0, none⟩)] w fun e w' => e = .returned (.bool (decide (l.p.kills = []))) ∧ w = w' := by
  have hd := ((h.ok l hl).down).1
  have ck : w.cell? ⟨l.blk, 35, none⟩ = some (.map l.kb) := by
    refine (h.ln hl).cell ?_
    unfold Ln.cells
    rw [List.getElem?_cons_succ, List.getElem?_cons_succ, List.getElem?_append_right (by rw [Vx.len hd]; exact Nat.le_refl 33), Vx.len hd]
    rfl
  have hn := h.kills hl w (fun _ _ => rfl)
  generalize l.kb = kb at ck hn
  generalize l.blk = b at ck ⊢
  obtain ⟨B, hB⟩ : ∃ B, decide (l.p.kills = []) = B := ⟨_, rfl⟩
  rw [hB]
  obtain ⟨n, hk⟩ : ∃ n, l.p.kills.length = n := ⟨_, rfl⟩
  rw [hk] at hn
  have HB : Hid (decide (n = 0) = B) := by
    show decide (n = 0) = B
    rw [← hB, ← hk]
    simp [List.length_eq_zero_iff]
  clear hB hk h hl hd
  go_enter Try.func52, Try.ntmps52
  by_cases h0 : n = 0
  · have q1 : (n : Int) = 0 := by omega
    rw [q1] at hn
    obtain rfl : B = true := by rw [← HB.out]; simp [h0]
    go_wp2
    go_ret
    trivial
  · have q1 : ¬ (n : Int) = 0 := by omega
    obtain rfl : B = false := by rw [← HB.out]; simp [h0]
    go_wp2
    go_ret
    exact ⟨by simp [h0], rfl⟩
/-- OnesCount64, as it reckons -/
def o1 (x : Int) : Int := IntKind.u64.wrap (bits .and .u64 (x / 2) 6148914691236517205 + bits .and .u64 x 6148914691236517205)
def o2 (x : Int) : Int := IntKind.u64.wrap (bits .and .u64 (x / 4) 3689348814741910323 + bits .and .u64 x 3689348814741910323)
def o3 (x : Int) : Int := bits .and .u64 (IntKind.u64.wrap (x / 16 + x)) 1085102592571150095
def oh (x : Int) (k : Int) : Int := IntKind.u64.wrap (x + x / k)
def ones (x : Int) : Int := bits .and .i64 (wrap64 (oh (oh (oh (o3 (o2 (o1 x))) 256) 65536) 4294967296)) 127
theorem ones_is (w : World) (x r : Int) (hr : ones x = r) : Calls Try.prog 73 #[.int .u64 x] w fun e w' => e = .returned (iv r) ∧ w = w' := by
  subst hr
  go_enter Try.func73, Try.ntmps73
  go_wp2
  go_ret
  refine ⟨?_, rfl⟩
  unfold ones oh o3 o2 o1
  rfl
#print axioms ones_is
end Go.Proofs.Ytjcihaohpbmogaa.Oct
