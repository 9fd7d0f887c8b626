/-
  Layer 19 (audit): Append.
-/
import Derived.Test.YtmmpafaegmejlaaDoorApr
namespace Go.Proofs.YtmmpafaegmejlaaDoor.Oct
open Go.RowKit Sha
set_option linter.unusedSimpArgs false
set_option linter.unusedVariables false

def lA (l : List En) (q : En × Int) : List En := if q.2 = 0 then l ++ [q.1] else l
/-- what Append answers, and what it leaves -/
def ApP (w : World) (B L c : Nat) (v : Value) (l : List En) (q : En × Int) (e : Ending) (w' : World) : Prop :=
  e = .returned (.tuple #[.agg q.1.cells.toArray, iv q.2]) ∧ ∃ v', Lg w' B L c v' (lA l q) ∧ (v'.ownBlock = v.ownBlock ∨ ∃ g, v'.ownBlock = some g ∧ w.heap.size ≤ g) ∧ Keep (SC c v) w w'
theorem nxE_bad {l : List En} {tick : Int} {who what : BA} (h : (nxE l tick who what).2 ≠ 0) : (nxE l tick who what).1 = zE := by
  unfold nxE at h ⊢
  split
  · rfl
  · split
    · rfl
    · exfalso; apply h; rw [if_neg (by assumption), if_neg (by assumption)]
theorem nxE_good {l : List En} {tick : Int} {who what : BA} (h : (nxE l tick who what).2 = 0) : (nxE l tick who what).1.sz ∧ l.length < 4096 ∧ (nxE l tick who what).1 = ⟨(l.length : Int) + 1, tick, who, what, hdE l⟩ := by
  unfold nxE at h ⊢
  split at h
  · cases h
  · split at h
    · cases h
    · rename_i h1 h2
      rw [if_neg h1, if_neg h2]
      refine ⟨?_, by omega, rfl⟩
      show who.size + what.size ≤ _
      omega
theorem Keep.toGr {S : Nat → Prop} {w w' : World} {b : Nat} (h : w.grownBy w' (some b)) (hb : w.heap.size ≤ b) : Keep S w w' := ⟨h.os, h.tape, h.output, h.size, fun k hk _ => h.block k hk (by simp; omega)⟩
set_option maxRecDepth 100000 in
set_option maxHeartbeats 2000000 in
theorem append_is {w : World} {B L c : Nat} {v : Value} {l : List En} (h : Lg w B L c v l) (hk : KT w) (hs : ST w) (hB : B ≤ w.heap.size) (tick : Int) (who what : BA) (hw : who.size ≤ 140737488355328) (hwt : what.size ≤ 140737488355328) (ht : tick ≤ 9223372036854775807) : Calls Tryd.prog 14 #[.pointer (some ⟨L, 0, none⟩), iv tick, .string who, .string what] w (ApP w B L c v l (nxE l tick who what)) := by
  obtain ⟨Z, hZ, HZ⟩ := zero37
  have HBL := built37
  obtain ⟨r, hr0⟩ : ∃ b, w.heap.size = b := ⟨_, rfl⟩
  obtain ⟨A, hA⟩ : ∃ A, w.alloc (.cells Z.toArray 37) = A := ⟨_, rfl⟩
  have hb1 : Below w.heap.size w A := by rw [← hA]; exact below_al _ _
  have hrb : Blk A r 37 Z := by rw [← hA, ← hr0]; exact Blk.new w _ _
  have H : Hid (Lg A B L c v l ∧ Below w.heap.size w A ∧ Blk A r 37 Z ∧ KT A ∧ ST A ∧ w.heap.size ≤ r ∧ Z.length = 36 ∧ Lg w B L c v l ∧ B ≤ w.heap.size) := ⟨h.below hb1, hb1, hrb, hk.below hb1, hs.below hb1, by omega, by rw [HZ.out]; exact En.len zE_ok, h, hB⟩
  have HQ : Hid ((nxE l tick who what).1.ok) := nxE_ok h.row.2 hw hwt ht (by have := h.len; omega)
  have HNB : Hid ((nxE l tick who what).2 ≠ 0 → (nxE l tick who what).1 = zE) := nxE_bad
  have HNG : Hid ((nxE l tick who what).2 = 0 → (nxE l tick who what).1.sz ∧ l.length < 4096) := fun h => ⟨(nxE_good h).1, (nxE_good h).2.1⟩
  obtain ⟨q, hq⟩ : ∃ q, nxE l tick who what = q := ⟨_, rfl⟩
  rw [hq] at HQ HNB HNG ⊢
  obtain ⟨x, k⟩ := q
  have HQE : Hid (nxE l tick who what = (x, k)) := hq
  dsimp only at HQ HNB HNG
  clear hq
  have HT : Hid (who.size ≤ 140737488355328 ∧ what.size ≤ 140737488355328 ∧ tick ≤ 9223372036854775807) := ⟨hw, hwt, ht⟩
  have c0 := H.out.1.lg.cell (i := 0) rfl
  clear h hk hs hb1 hrb hw hwt ht HZ hB
  go_enter Tryd.func14, Tryd.ntmps14
  go_wp2_with fail
  refine (made_is H.out.1).mono ?_
  rintro e X ⟨rfl, rfl⟩
  go_wp2_with fail
  refine (next_is H.out.1.chain H.out.2.2.2.1 H.out.2.2.2.2.1 tick who what HT.out.1 HT.out.2.1 HT.out.2.2).mono ?_
  rintro e W1 ⟨rfl, hb⟩
  have H1 : Hid (Lg W1 B L c v l ∧ Below w.heap.size w W1 ∧ Blk W1 r 37 Z) := ⟨H.out.1.below hb, below_tr H.out.2.1 hb, H.out.2.2.1.below hb H.out.2.2.1.lt⟩
  rw [HQE.out]
  obtain ⟨g, hg⟩ : ∃ g, W1.heap.size = g := ⟨_, rfl⟩
  have HG : Hid (W1.heap.size = g ∧ w.heap.size ≤ g ∧ r < g) := ⟨hg, by have := H1.out.2.1.size; omega, by have := H1.out.2.2.lt; omega⟩
  dsimp only
  clear hb hA hr0 c0
  go_wp2_with (with_reducible change wpList _ _ _ ({ dst := none, op := Op.store 37 _ _, type := _, pos := _, after := _, guard := _ } :: _) _ _; refine Hid.out ?_)
  show wpList _ _ _ _ _ _
  refine wpList_store_blk rfl 37 (.tmp 10) (.tmp 25) rfl g 0 37 Z x.cells rfl rfl (by rw [← HG.out.1]; exact Blk.new W1 _ _) (by rw [H.out.2.2.2.2.2.2.1, En.len HQ.out]; exact Nat.le_refl _) (info37 HQ.out) (En.one _) ?_
  intro W2 hx2 hg2
  have H2 : Hid (Lg W2 B L c v l ∧ Below w.heap.size w W2 ∧ Blk W2 r 37 Z ∧ Blk W2 g 37 x.cells) := by
    have e := below_al W1 (.cells Z.toArray 37)
    have l1 := H1.out.1.below e
    have hgr := hg2.out
    have sz1 : W1.heap.size = g := HG.out.1
    refine ⟨l1.same (hgr.block L l1.lg.lt ?_) (hgr.block c l1.ch.lt ?_) (fun j hj => hgr.block j (l1.row.lt hj).2 ?_), below_gr (below_tr H1.out.2.1 e) hgr HG.out.2.1, (H1.out.2.2.below e H1.out.2.2.lt).kept hgr ?_, blk_all hx2.out (by rw [H.out.2.2.2.2.2.2.1, En.len HQ.out])⟩
    · have := H1.out.1.lg.lt; simp; omega
    · have := H1.out.1.ch.lt; simp; omega
    · have := (H1.out.1.row.lt hj).2; simp; omega
    · have := HG.out.2.2; simp; omega
  clear hx2 hg2 hg
  by_cases hk0 : k = 0
  · subst hk0
    have hng := HNG.out rfl
    have HNS : Hid (x.sz ∧ l.length < 4096) := hng
    clear hng
    go_wp2_with fail
    refine ap6 (L := L) (c := c) (q := g) (B := B) (v := v) (l := l) (x := x) ⟨H2.out.1.lg.lt, fun k => k.elim H2.out.1.ne H2.out.1.nl, H2.out.2.2.2.lt, fun k => k.elim (fun e => ?_) (fun e => ?_)⟩ (H2.out.1.lg.cell rfl) H2.out.2.2.2.range0 HQ.out H2.out.1.ch H2.out.1.row H2.out.1.len (Nat.le_trans H.out.2.2.2.2.2.2.2.2 H2.out.2.1.size) H2.out.1.nc H2.out.1.ch.lt ?_
    · have := H.out.2.2.2.2.2.2.2.1.ch.lt; have := HG.out.2.1; omega
    · have := (H.out.2.2.2.2.2.2.2.1.row.lt e).2; have := HG.out.2.1; omega
    intro W3 v2 nb hc3 ho3 hp3 hk3
    have LW := H.out.2.2.2.2.2.2.2.1
    have nr : ¬ SC c v r := fun k => k.elim (fun e => by have := LW.ch.lt; have := H.out.2.2.2.2.2.1; omega) (fun e => by have := (LW.row.lt e).2; have := H.out.2.2.2.2.2.1; omega)
    have ng : ¬ SC c v g := fun k => k.elim (fun e => by have := LW.ch.lt; have := HG.out.2.1; omega) (fun e => by have := (LW.row.lt e).2; have := HG.out.2.1; omega)
    have nL : ¬ SC c v L := fun k => k.elim H2.out.1.ne H2.out.1.nl
    have H3 : Hid (Lg W3 B L c v2 (l ++ [x]) ∧ Blk W3 r 37 Z ∧ Blk W3 g 37 x.cells ∧ Keep (SC c v) w W3 ∧ (v2.ownBlock = v.ownBlock ∨ ∃ g, v2.ownBlock = some g ∧ w.heap.size ≤ g) ∧ v2.ownBlock ≠ some r) := by
      have sz2 := H2.out.2.1.size
      refine ⟨⟨hk3.blk H2.out.1.lg nL, hc3, ho3, fun e he => ?_, H2.out.1.bl, H2.out.1.bc, H2.out.1.ne, fun e => ?_, fun e => ?_, ?_⟩, hk3.blk H2.out.2.2.1 nr, hk3.blk H2.out.2.2.2 ng, (Keep.below (S := SC c v) H2.out.2.1).trans hk3 (fun _ hj _ => hj), hp3.imp id (fun ⟨g, h1, h2⟩ => ⟨g, h1, Nat.le_trans sz2 h2⟩), fun e => ?_⟩
      · rcases List.mem_append.1 he with he | he
        · exact H2.out.1.sz e he
        · rw [List.mem_singleton.1 he]; exact HNS.out.1
      · rcases hp3 with h | ⟨g2, h, h2⟩
        · exact H2.out.1.nl (h.symm.trans e)
        · rw [e] at h; cases h; have := H2.out.1.lg.lt; omega
      · rcases hp3 with h | ⟨g2, h, h2⟩
        · exact H2.out.1.nc (h.symm.trans e)
        · rw [e] at h; cases h; have := H2.out.1.ch.lt; omega
      · have := HNS.out.2; simp; omega
      · rcases hp3 with h | ⟨g2, h, h2⟩
        · exact nr (.inr (h.symm.trans e))
        · rw [e] at h; cases h; have := H2.out.2.2.1.lt; omega
    clear hc3 ho3 hp3 hk3 LW nr ng nL
    go_wp2_with (with_reducible change wpList _ _ _ ({ dst := some 47, op := _, type := _, pos := _, after := _, guard := _ } :: _) _ _; refine Hid.out ?_)
    show wpList _ _ _ _ _ _
    refine wpList_load_mid rfl 37 (.tmp 10) rfl g 0 rfl x.cells _ H3.out.2.2.1.range0 Tryd.underlying37 rfl (info37 HQ.out) ?_
    go_wp2_with (with_reducible change wpList _ _ _ ({ dst := none, op := Op.store 37 _ _, type := _, pos := _, after := _, guard := _ } :: _) _ _; refine Hid.out ?_)
    show wpList _ _ _ _ _ _
    refine wpList_store_blk rfl 37 (.tmp 8) (.tmp 47) rfl r 0 37 Z x.cells rfl rfl H3.out.2.1 (by rw [H.out.2.2.2.2.2.2.1, En.len HQ.out]; exact Nat.le_refl _) (info37 HQ.out) (En.one _) ?_
    intro W4 hx4 hg4
    have H4 : Hid (Blk W4 r 37 x.cells ∧ Lg W4 B L c v2 (l ++ [x]) ∧ Keep (SC c v) w W4 ∧ (v2.ownBlock = v.ownBlock ∨ ∃ g, v2.ownBlock = some g ∧ w.heap.size ≤ g)) := by
      have hgr := hg4.out
      have LW := H.out.2.2.2.2.2.2.2.1
      have hr := H.out.2.2.2.2.2.1
      have hrl := H2.out.2.2.1.lt
      refine ⟨blk_all hx4.out (by rw [H.out.2.2.2.2.2.2.1, En.len HQ.out]), H3.out.1.same (hgr.block L H3.out.1.lg.lt ?_) (hgr.block c H3.out.1.ch.lt ?_) (fun j hj => hgr.block j (H3.out.1.row.lt hj).2 ?_), H3.out.2.2.2.1.trans (Keep.grown (S := fun k => w.heap.size ≤ k) hgr hr) (fun j hj hl => by omega), H3.out.2.2.2.2.1⟩
      · have := LW.lg.lt; simp; omega
      · have := LW.ch.lt; simp; omega
      · intro e; cases e; exact H3.out.2.2.2.2.2 hj
    clear hx4 hg4
    go_wp2
    refine ret_cu rfl rfl rfl H4.out.1 Tryd.underlying37 rfl (info37 HQ.out) ⟨rfl, v2, ?_, H4.out.2.2.2, H4.out.2.2.1⟩
    show Lg W4 B L c v2 (lA l (x, 0))
    unfold lA
    rw [if_pos rfl]
    exact H4.out.2.1
  · have q3 : (k != 0) = true := by simpa using hk0
    have HK0 : Hid (k ≠ 0 ∧ x = zE) := ⟨hk0, HNB.out hk0⟩
    clear hk0
    go_wp2_with (with_reducible change wpList _ _ _ ({ dst := some 29, op := _, type := _, pos := _, after := _, guard := _ } :: _) _ _; refine Hid.out ?_)
    show wpList _ _ _ _ _ _
    refine wpList_built rfl 37 _ rfl zE.cells.toArray (by rw [← HBL]; simp) ?_
    go_wp2_with (with_reducible change wpList _ _ _ ({ dst := none, op := Op.store 37 _ _, type := _, pos := _, after := _, guard := _ } :: _) _ _; refine Hid.out ?_)
    show wpList _ _ _ _ _ _
    refine wpList_store_blk rfl 37 (.tmp 8) (.tmp 29) rfl r 0 37 Z zE.cells rfl rfl H2.out.2.2.1 (by rw [H.out.2.2.2.2.2.2.1, En.len zE_ok]; exact Nat.le_refl _) (info37 zE_ok) (En.one _) ?_
    intro W4 hx4 hg4
    have H4 : Hid (Blk W4 r 37 zE.cells ∧ Lg W4 B L c v l ∧ Below w.heap.size w W4) := by
      have hb4 := below_gr H2.out.2.1 hg4.out H.out.2.2.2.2.2.1
      exact ⟨blk_all hx4.out (by rw [H.out.2.2.2.2.2.2.1, En.len zE_ok]), H.out.2.2.2.2.2.2.2.1.below hb4, hb4⟩
    clear hx4 hg4
    go_wp2
    refine ret_cu rfl rfl rfl H4.out.1 Tryd.underlying37 rfl (info37 zE_ok) ⟨?_, v, ?_, .inl rfl, Keep.below H4.out.2.2⟩
    · rw [HK0.out.2]; rfl
    · show Lg W4 B L c v (lA l (x, k))
      unfold lA
      rw [if_neg HK0.out.1]
      exact H4.out.2.1
#print axioms append_is
end Go.Proofs.YtmmpafaegmejlaaDoor.Oct
