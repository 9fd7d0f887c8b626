/-
  Layer 19 (audit): the law AuditPlays: what its loop keeps.
-/
import Derived.Test.YtmmpafaegmejlaaDoorRap
namespace Go.Proofs.YtmmpafaegmejlaaDoor.Oct
open Go.RowKit Sha
set_option linter.unusedSimpArgs false
set_option linter.unusedVariables false

theorem Lg.mono {w : World} {B B' L c : Nat} {v : Value} {l : List En} (h : Lg w B L c v l) (hB : B' ≤ B) : Lg w B' L c v l :=
  ⟨h.lg, h.ch, h.row.mono hB, h.sz, Nat.le_trans hB h.bl, Nat.le_trans hB h.bc, h.ne, h.nl, h.nc, h.len⟩
theorem rz_of_ok {l : List En} (h : ∀ i, i < l.length → okAt l i) : ∀ e ∈ l, e.rz := by
  intro e he
  obtain ⟨i, hi, he2⟩ := List.mem_iff_getElem.1 he
  have hg : l[i]? = some e := by rw [List.getElem?_eq_getElem hi, he2]
  have := (okAt_prev (h i hi) hg).2
  show e.who.size + e.what.size ≤ 200000
  omega
theorem tick_take {l : List En} (h : ∀ i, i < l.length → okAt l i) : ∀ k, k ≤ l.length → 0 ≤ (lastE (l.take k)).tick
  | 0, _ => by rw [List.take_zero]; exact Int.le_refl 0
  | k + 1, hk => by
    have ih := tick_take h k (by omega)
    obtain ⟨e, he⟩ : ∃ e, l[k]? = some e := ⟨_, List.getElem?_eq_getElem (by omega)⟩
    have h1 := h k (by omega) e he
    have hl : lastE (l.take (k + 1)) = e := by
      unfold lastE
      rw [List.take_add_one, he]
      simp
    rw [hl]
    unfold nxE at h1
    split at h1
    · have := congrArg Prod.snd h1
      cases this
    · rename_i h2
      omega
theorem tick_ok {l : List En} (h : ∀ i, i < l.length → okAt l i) : 0 ≤ (lastE l).tick := by
  have := tick_take h l.length (Nat.le_refl _)
  rwa [List.take_of_length_le (Nat.le_refl _)] at this
/-- what an Append leaves, and the reference's row apart from it -/
def CK (w : World) (B L c i : Nat) (es fs : List En) (vl : Value) (a4 : Option Addr) (c4 : Nat) (wr : World) : Prop :=
  CJ w B L c i es fs vl a4 c4 wr ∧ ∀ g, (Value.slice a4 es.length c4).ownBlock = some g → g ≠ c ∧ vl.ownBlock ≠ some g
theorem CK.below {w wr wr' : World} {B L c i : Nat} {es fs : List En} {vl : Value} {a4 : Option Addr} {c4 : Nat} (h : CK w B L c i es fs vl a4 c4 wr) (hb : Below wr.heap.size wr wr') : CK w B L c i es fs vl a4 c4 wr' := ⟨h.1.below hb, h.2⟩
theorem CI.app2 {w wr wr' : World} {B L c i : Nat} {es : List En} {vl : Value} {a4 : Option Addr} {c4 : Nat} {tick : Int} {who what : BA} {e : Ending} (h : CI w B L c i es vl a4 c4 wr) (hp : ApP wr B L c vl es (nxE es tick who what) e wr') : ∃ vl', CK w B L c i es (lA es (nxE es tick who what)) vl' a4 c4 wr' := by
  have hp' := hp
  obtain ⟨_, v', h1, h2, h3⟩ := hp
  have hS : ∀ k, SC c vl k → B ≤ k := fun k hk => by
    rcases hk with rfl | hk
    · exact h.1.bc
    · exact (h.1.row.lt hk).1
  refine ⟨v', ⟨h1, h.2.1.same fun g hg => h3.block g (h.2.1.lt hg).2 fun hk => ?_, lA_take _ _, (lA_len _ _).2, by have := (lA_len es (nxE es tick who what)).1; have := h.2.2.2.1; omega, ok_step h.2.2.2.2.1, h.2.2.2.2.2.1.trans (h3.toBelow (Nat.le_trans h.2.2.2.2.2.2.1 h.2.2.2.2.2.2.2) fun k hk => Nat.le_trans h.2.2.2.2.2.2.1 (hS k hk)), h.2.2.2.2.2.2.1, Nat.le_trans h.2.2.2.2.2.2.2 h3.size⟩, fun g hg => ⟨(h.2.2.1 g hg).1, fun hv => ?_⟩⟩
  · have := h.2.2.1 g hg
    rcases hk with hk | hk
    · exact this.1 hk
    · exact this.2 hk
  · rcases h2 with h2 | ⟨g2, h2, h4⟩
    · exact (h.2.2.1 g hg).2 (h2.symm.trans hv)
    · rw [hv] at h2
      cases h2
      have := (h.2.1.lt hg).2
      omega
theorem CK.ref {w W W' : World} {B L c i : Nat} {es fs : List En} {vl v' : Value} {a4 : Option Addr} {c4 : Nat} {q : En × Int} (h : CK w B L c i es fs vl a4 c4 W) (hfs : lA es q = fs) (hb : Below W.heap.size W W') (hv : (v' = .slice a4 es.length c4 ∧ lA es q = es) ∨ OwE W' W.heap.size v' (lA es q)) : ∃ a' c', v' = .slice a' fs.length c' ∧ CI w B L c (i + 1) fs vl a' c' W' := by
  have hh := (h.below hb).1
  rw [hfs] at hv
  rcases hv with ⟨rfl, rfl⟩ | ho
  · exact ⟨a4, c4, rfl, hh.1, hh.2.1, h.2, hh.2.2.2.2.1, hh.2.2.2.2.2.1, hh.2.2.2.2.2.2.1, hh.2.2.2.2.2.2.2.1, hh.2.2.2.2.2.2.2.2⟩
  · obtain ⟨a', c', rfl⟩ := ow_slice ho
    refine ⟨a', c', rfl, hh.1, ho.mono h.1.2.2.2.2.2.2.2.2, fun g hg => ?_, hh.2.2.2.2.1, hh.2.2.2.2.2.1, hh.2.2.2.2.2.2.1, hh.2.2.2.2.2.2.2.1, hh.2.2.2.2.2.2.2.2⟩
    have hl := (ho.lt hg).1
    refine ⟨fun e => ?_, fun e => ?_⟩
    · have := h.1.1.ch.lt; omega
    · have := (h.1.1.row.lt e).2; omega
/-- the log loaded anew -/
theorem CI.load {w W W' : World} {B L c L' c' i : Nat} {es : List En} {vl v' : Value} {a4 : Option Addr} {c4 : Nat} (h : CI w B L c i es vl a4 c4 W) (hb : Below W.heap.size W W') (hl : Lg W' W.heap.size L' c' v' es) : CI w B L' c' i es v' a4 c4 W' := by
  have hh := h.below hb
  refine ⟨hl.mono h.2.2.2.2.2.2.2, hh.2.1, fun g hg => ?_, hh.2.2.2.1, hh.2.2.2.2.1, hh.2.2.2.2.2.1, hh.2.2.2.2.2.2.1, hh.2.2.2.2.2.2.2⟩
  have hlt := (h.2.1.lt hg).2
  refine ⟨fun e => ?_, fun e => ?_⟩
  · have := hl.bc; omega
  · have := (hl.row.lt e).1; omega
#print axioms tick_ok
#print axioms CK.ref
#print axioms CI.load
end Go.Proofs.YtmmpafaegmejlaaDoor.Oct
