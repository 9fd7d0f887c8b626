/-
  Layer 10 (patch): the law Decodes.
-/
import Derived.Test.YtgdecjacbkicmaaGreatDoorQkCtl
import Derived.Test.YtgdecjacbkicmaaGreatDoorQkInj
import Derived.Test.YtgdecjacbkicmaaGreatDoorQkRsm
import Derived.Deep.MidRow
/- Layer 10 (patch): the law Decodes. -/
namespace Go.Proofs.YtgdecjacbkicmaaGreatDoor.Oct
open Go.RowKit
set_option maxRecDepth 100000
set_option linter.unusedSimpArgs false
set_option linter.unusedVariables false

def plP (q : PV) : PV := mkP q.au q.tm.toNat q.nt q.D (q.O.map OpV.pl)
theorem pP_encP {A P T : Nat} (hA : 16 ≤ A) (hP : 64 ≤ P) (hT : 200 ≤ T) {w : World} {q : PV} (hq : PR w q) (hc : chk q = 0) (r : List UInt8) : pP A P T (ptB q ++ r) = some (plP q, r) := by
  obtain ⟨hh, hdd, hoo⟩ := chk_of hc
  obtain ⟨s1, s2, s3, s4, _⟩ := head_of hh
  obtain ⟨s5, _⟩ := deps_of hdd
  obtain ⟨s6, s7, s8, s9⟩ := ops_of hoo
  have dl := hq.deps.1
  have ol := hq.ops.1
  obtain ⟨t, ht⟩ : ∃ t : Nat, q.tm = (t : Int) := ⟨q.tm.toNat, by omega⟩
  unfold ptB plP
  rw [ht, Int.toNat_natCast]
  simp only [List.cons_append, List.append_assoc]
  unfold pP
  simp only
  rw [if_pos (by trivial), tT_enc _ _ (by omega) (by omega)]
  simp only [Option.bind_some]
  rw [nN_enc _ (by omega) (by omega)]
  simp only [Option.bind_some]
  rw [tT_enc _ _ (by omega) (by omega)]
  simp only [Option.bind_some]
  rw [nN_enc _ (by omega) (by omega)]
  simp only [Option.bind_some]
  rw [← dl, rep_enc id id q.D _ (fun x hx r => hH_enc r (hq.deps.2.1 x hx))]
  simp only [Option.bind_some, List.map_id]
  rw [nN_enc _ (by omega) (by omega)]
  simp only [Option.bind_some]
  rw [← ol, rep_enc (encO q.D) OpV.pl q.O r (fun x hx r => oO_enc hP hT (by omega) (s9 x hx) (hq.ops.2.1 x hx).1.2.2.1 (by have := many_mem hx; omega) r)]
  simp only [Option.bind_some]
theorem pl_strip : ∀ {O : List OpV}, (∀ o ∈ O, o.ts.length = o.ln) → (O.map OpV.pl).map OpV.strip = O.map OpV.strip
  | [], _ => rfl
  | o :: O, h => by
    have ih := pl_strip (O := O) (fun x hx => h x (by simp [hx]))
    simp only [List.map_cons, ih, List.cons.injEq, and_true]
    unfold OpV.pl OpV.strip
    simp only [h o (by simp)]
theorem plP_tw {w : World} {q : PV} (hq : PR w q) (hc : chk q = 0) : Tw (plP q) q := by
  obtain ⟨hh, _, _⟩ := chk_of hc
  obtain ⟨_, s2, _, _, _⟩ := head_of hh
  refine ⟨rfl, ?_, rfl, rfl, hq.deps.1.symm, ?_, ?_⟩
  · show q.tm = ((q.tm.toNat : Nat) : Int)
    omega
  · show q.on = (q.O.map OpV.pl).length
    rw [List.length_map, hq.ops.1]
  · show Alike (q.O.map OpV.pl) q.O
    exact pl_strip fun o ho => (hq.ops.2.1 o ho).1.2.2.1
theorem agree {A P T A' P' T' : Nat} (hA : 16 ≤ A) (hP : 64 ≤ P) (hT : 200 ≤ T) {w : World} {l : List UInt8} {p q : PV} (h : pP A' P' T' l = some (p, [])) (hc : chk p = 0) (hq : PR w q) (ht : Tw p q) (hn : ∀ p, pP A P T l = some (p, []) → chk p ≠ 0) : False := by
  have hcq : chk q = 0 := ht.chk.trans hc
  have e := pP_some h hc
  rw [List.append_nil, ← ht.bytes] at e
  have h2 := pP_encP hA hP hT hq hcq []
  rw [List.append_nil, ← e] at h2
  exact hn _ h2 ((plP_tw hq hcq).chk.symm.trans hcq)
theorem both_same {w w' : World} {l : List UInt8} {A P T A' P' T' : Nat} {p q p2 q2 : PV} (h : pP A P T l = some (p, [])) (hc : chk p = 0) (hq : PR w q) (ht : Tw p q) (h2 : pP A' P' T' l = some (p2, [])) (hc2 : chk p2 = 0) (hq2 : PR w' q2) (ht2 : Tw p2 q2) : sameP q q2 = true := by
  have e := pP_some h hc
  have e2 := pP_some h2 hc2
  rw [List.append_nil] at e e2
  exact (unlike hq hq2 (ht.chk.trans hc) (ht2.chk.trans hc2)).1 (by rw [ht.bytes, ht2.bytes, ← e, ← e2])
theorem xor85 : ∀ x : Fin 256, bits BinOp.xor IntKind.u8 ((x.val : Nat) : Int) 85 = ((x.val ^^^ 85 : Nat) : Int) := by decide +kernel
theorem xor_u8 (c : UInt8) : ∃ m : UInt8, bits BinOp.xor IntKind.u8 (c.toNat : Int) 85 = (m.toNat : Int) := by
  have h := xor85 ⟨c.toNat, c.toNat_lt⟩
  refine ⟨c ^^^ 85, ?_⟩
  rw [UInt8.toNat_xor]
  exact h
theorem PR.p00 (w : World) : PR w p00 := ⟨HsR.nil _ _, ⟨rfl, (by intro o ho; cases ho), fun hp => absurd hp (by show ¬ 0 < 0; omega)⟩, ⟨Nat.le_refl _, by show 0 ≤ maxLen; omega⟩, ⟨Nat.le_refl _, by show 0 ≤ maxLen; omega⟩, by show 0 ≤ _; omega, by show 0 ≤ _; omega, by show 0 ≤ _; omega, by show 0 ≤ _; omega⟩
/-- what was decoded, of the program: its answer, and where it lies -/
def DA (w : World) (l : List UInt8) (q : PV) (E : Int) : Prop := (E = 103 ∧ q = p00 ∧ ∀ p, pP 16 64 200 l = some (p, []) → chk p ≠ 0) ∨ (E = 0 ∧ PT w q ∧ ∃ p, pP 16 64 200 l = some (p, []) ∧ chk p = 0 ∧ Tw p q)
def DB (w : World) (l : List UInt8) (q : PV) (E : Int) : Prop := (E = 103 ∧ q = p00 ∧ ∀ p, pP 1000 1000 1000 l = some (p, []) → chk p ≠ 0) ∨ (E = 0 ∧ PT w q ∧ ∃ p, pP 1000 1000 1000 l = some (p, []) ∧ chk p = 0 ∧ Tw p q)
theorem DP.da {w w' : World} {l : List UInt8} {e : Ending} (h : DP w l e w') : Below w.heap.size w w' ∧ ∃ q E, e = .returned (.tuple #[.agg q.cells.toArray, iv E]) ∧ DA w' l q E := by
  refine ⟨h.1, ?_⟩
  rcases h.2 with ⟨h1, h2⟩ | ⟨p, q, h1, h2, h3, h4, h5⟩
  · exact ⟨p00, 103, h1, .inl ⟨rfl, rfl, h2⟩⟩
  · exact ⟨q, 0, h3, .inr ⟨rfl, h4, p, h1, h2, h5⟩⟩
theorem DA.fk {S : List TypeId} {B : Nat} {w w' : World} {l : List UInt8} {q : PV} {E : Int} (h : DA w l q E) (k : Fk S B w w') (h1 : 37 ∉ S) (h2 : 46 ∉ S) (h3 : 9 ∉ S) : DA w' l q E := by
  rcases h with h | ⟨a, b, c⟩
  · exact .inl h
  · exact .inr ⟨a, b.fk k h1 h2 h3, c⟩
theorem DB.fk {S : List TypeId} {B : Nat} {w w' : World} {l : List UInt8} {q : PV} {E : Int} (h : DB w l q E) (k : Fk S B w w') (h1 : 37 ∉ S) (h2 : 46 ∉ S) (h3 : 9 ∉ S) : DB w' l q E := by
  rcases h with h | ⟨a, b, c⟩
  · exact .inl h
  · exact .inr ⟨a, b.fk k h1 h2 h3, c⟩
/-- both answer the same -/
theorem da_db {w : World} {l : List UInt8} {q q2 : PV} {E F : Int} (h : DA w l q E) (k : DB w l q2 F) : E = F ∧ PR w q ∧ PR w q2 ∧ q.dn ≤ 1000 ∧ q2.dn ≤ 1000 ∧ sameP q q2 = true := by
  rcases h with ⟨rfl, rfl, hn⟩ | ⟨rfl, hp, p, h1, h2, h3⟩
  · rcases k with ⟨rfl, rfl, _⟩ | ⟨rfl, hp2, p2, k1, k2, k3⟩
    · exact ⟨rfl, PR.p00 w, PR.p00 w, by show 0 ≤ _; omega, by show 0 ≤ _; omega, by decide +kernel⟩
    · exact (agree (by omega) (by omega) (by omega) k1 k2 hp2.pr k3 hn).elim
  · rcases k with ⟨rfl, rfl, hn⟩ | ⟨rfl, hp2, p2, k1, k2, k3⟩
    · exact (agree (by omega) (by omega) (by omega) h1 h2 hp.pr h3 hn).elim
    · exact ⟨rfl, hp.pr, hp2.pr, hp.zd, hp2.zd, both_same h1 h2 hp.pr h3 k1 k2 hp2.pr k3⟩
end Go.Proofs.YtgdecjacbkicmaaGreatDoor.Oct
