/-
  Layer 7 (tree): 'part' and 'spliced' of pairs.
-/
import Derived.Test.YtnagknlfboadkaaLeaf
import Derived.Deep.DeepAppendWide
import Derived.Deep.RegionHeldLaw
import Derived.Laws.AppendOwn
import Derived.Laws.AppendOwnNone
import Derived.ProofKit
namespace Go.Proofs.Ytnagknlfboadkaa.Oct
open Go.RowKit

theorem flat_get : ∀ (ps : List Pr) (j : Nat), (ps.flatMap pc)[j]? = (ps[j / 2]?).map (fun x => if j % 2 = 0 then Value.string x.1 else Value.string x.2)
  | [], j => by simp
  | x :: r, 0 => by simp [pc]
  | x :: r, 1 => by simp [pc]
  | x :: r, j + 2 => by
    have ih := flat_get r j
    have e : (List.flatMap pc (x :: r))[j + 2]? = (r.flatMap pc)[j]? := by simp [pc]
    rw [e, ih, show (j + 2) / 2 = j / 2 + 1 by omega, List.getElem?_cons_succ, show (j + 2) % 2 = j % 2 by omega]
theorem flat_len (ps : List Pr) : (ps.flatMap pc).length = ps.length * 2 := by
  induction ps with
  | nil => rfl
  | cons x r ih => rw [List.flatMap_cons, List.length_append, ih, List.length_cons]; simp [pc]; omega
theorem flat_one (ps : List Pr) : ∀ u ∈ ps.flatMap pc, u.oneCell' = true := by
  intro u hu
  obtain ⟨x, _, hx⟩ := List.mem_flatMap.1 hu
  simp only [pc, List.mem_cons, List.not_mem_nil, or_false] at hx
  rcases hx with rfl | rfl <;> rfl
theorem RdP.cells {w : World} {g off n : Nat} {ps : List Pr} (h : RdP w (some ⟨g, off, none⟩) n ps) : ∀ j u, (ps.flatMap pc)[j]? = some u → w.cell? ⟨g, off + j, none⟩ = some u := by
  intro j u hu
  rw [flat_get] at hu
  obtain ⟨x, hx, rfl⟩ := Option.map_eq_some_iff.1 hu
  have hlt := (List.getElem?_eq_some_iff.1 hx).1
  obtain ⟨g', off', e, _, hc⟩ := h.2 (by rw [← h.1]; omega)
  cases e
  have := hc _ x hx
  split
  · rw [show off + j = off + j / 2 * 2 by omega]; exact this.1
  · rw [show off + j = off + j / 2 * 2 + 1 by omega]; exact this.2
theorem rd_of_cells {w : World} {g off : Nat} {ps : List Pr} (hg : 0 < ps.length → RowT w 40 g) (h : ∀ j u, (ps.flatMap pc)[j]? = some u → w.cell? ⟨g, off + j, none⟩ = some u) : RdP w (some ⟨g, off, none⟩) ps.length ps := by
  refine ⟨rfl, fun hp => ⟨g, off, rfl, hg hp, fun k x hk => ⟨?_, ?_⟩⟩⟩
  · exact h (k * 2) _ (by rw [flat_get, show k * 2 / 2 = k by omega, hk]; simp)
  · have := h (k * 2 + 1) (.string x.2) (by rw [flat_get, show (k * 2 + 1) / 2 = k by omega, hk]; simp)
    exact this
theorem RdP.take {w : World} {g off n : Nat} {ps : List Pr} (h : RdP w (some ⟨g, off, none⟩) n ps) {i : Nat} (hi : i ≤ n) : RdP w (some ⟨g, off, none⟩) i (ps.take i) := by
  refine ⟨by rw [List.length_take, h.1]; omega, fun hp => ?_⟩
  obtain ⟨g', off', e, h1, hc⟩ := h.2 (by omega)
  cases e
  refine ⟨g, off, rfl, h1, fun k x hk => hc k x ?_⟩
  rw [List.getElem?_take] at hk
  split at hk
  · exact hk
  · cases hk
theorem RdP.drop {w : World} {g off n : Nat} {ps : List Pr} (h : RdP w (some ⟨g, off, none⟩) n ps) {j : Nat} (hj : j ≤ n) : RdP w (some ⟨g, off + j * 2, none⟩) (n - j) (ps.drop j) := by
  refine ⟨by rw [List.length_drop, h.1], fun hp => ?_⟩
  obtain ⟨g', off', e, h1, hc⟩ := h.2 (by omega)
  cases e
  refine ⟨g, _, rfl, h1, fun k x hk => ?_⟩
  rw [List.getElem?_drop] at hk
  have := hc _ x hk
  rw [show off + (j + k) * 2 = off + j * 2 + k * 2 by omega] at this
  exact this
theorem own_rd {w : World} {B : Nat} {v : Value} {ps : List Pr} (h : w.ownsRow B 40 2 v ps.length (ps.flatMap pc)) (hp : 0 < ps.length) : ∃ g cap, v = .slice (some ⟨g, 0, none⟩) ps.length cap ∧ RdP w (some ⟨g, 0, none⟩) ps.length ps ∧ B ≤ g ∧ ps.length ≤ cap := by
  rcases h.2 with ⟨_, e⟩ | ⟨g, cap, cur, rfl, hB, hb, hn, _, _, ht⟩
  · omega
  · refine ⟨g, cap, rfl, rd_of_cells (fun _ => ⟨_, _, hb⟩) fun j u hu => ?_, hB, hn⟩
    rw [Nat.zero_add, cell_of_row w g j _ 40 (0, 0) hb]
    rw [← ht, List.getElem?_take] at hu
    split at hu
    · simpa using hu
    · cases hu
theorem info40 : (Try.prog.info? 40).map (fun i => (i.zero, i.size, i.bytes)) = some (some (.agg #[.string ⟨#[]⟩, .string ⟨#[]⟩]), 2, 32) := by kernel_rfl

/-- 'append' where there is no room: in new memory -/
theorem run_append_full (w : World) (g off i : Nat) (ps qs : List Pr) (o : Addr) (q c : Nat) (ty : TypeId) (h : RdP w (some ⟨g, off, none⟩) i ps) (ho : RdP w (some o) q qs) (hq : 0 < q) (hi : i + q ≤ 1000000000000) :
    ∃ v' w', (Builtin.append_ #[27, 27] ty #[.slice (some ⟨g, off, none⟩) i i, .slice (some o) q c]).run Try.prog w = .ok v' w' ∧ w'.ownsRow w.heap.size 40 2 v' (i + q) ((ps ++ qs).flatMap pc) ∧ Below w.heap.size w w' := by
  obtain ⟨i0, hi0, hii⟩ := Option.map_eq_some_iff.1 info40
  simp only [Prod.mk.injEq] at hii
  obtain ⟨b', o', e, _⟩ := ho.2 hq
  cases e
  have hl1 : (ps.flatMap pc).length = i * i0.size := by rw [flat_len, h.1, hii.2.1]
  have hl2 : (qs.flatMap pc).length = q * i0.size := by rw [flat_len, ho.1, hii.2.1]
  have hr := run_append_grow (P := Try.prog) w 27 ty 40 i0 _ Try.underlying27 hi0 hii.1 ⟨g, off, none⟩ i i (ps.flatMap pc) hl1 (by intro j u hu; rw [Addr.add_lit]; exact h.cells j u hu)
    ⟨b', o', none⟩ q c (qs.flatMap pc) hl2 (by intro j u hu; rw [Addr.add_lit]; exact ho.cells j u hu) (by omega) (by omega) (growslice_fits_wide (by omega) (by rw [hii.2.2]; omega))
  refine ⟨_, _, hr, ?_, (Below.refl w.heap.size w).drew.alloc (Nat.le_refl _) _⟩
  have hge := grownCap_ge w (i + q) i 40
  have hcm : grownCap w (i + q) i 40 ≤ maxLen := grownCap_le_maxLen w (i + q) i 40 (by unfold maxLen; omega)
  have hlen : ((ps ++ qs).flatMap pc).length = (i + q) * 2 := by rw [flat_len, List.length_append, h.1, ho.1]
  refine ⟨hlen, .inr ⟨w.heap.size, _, _, rfl, Nat.le_refl _, heap_alloc_new w.drew _, hge, hcm, ?_, ?_⟩⟩
  · have hz2 : (Value.agg #[.string ⟨#[]⟩, .string ⟨#[]⟩]).cells.size = 2 := rfl
    simp only [Array.size_append, List.size_toArray, size_zeroCells, hl1, hl2, hii.2.1, hz2, ← Nat.add_mul]
    congr 1
    omega
  · simp only [Array.toList_append, List.append_assoc, List.flatMap_append]
    rw [← List.append_assoc, ← hlen, List.flatMap_append]
    exact List.take_left
#print axioms run_append_full
theorem step_append_full {ops : Array Oper} {o : Oper} {a : Act} {K : Act → World → Prop} {Q : Exit → Act → World → Prop} {E : Prop} (hw : Region.wanted o (yielded ops a.tmps) = true) (dd : Tmp) (hdd : o.dst = some dd) (s x : Operand)
    (ho : o.op = .call { callee := .builtin .append, args := #[s, x], argTypes := #[27, 27] }) (w : World)
    (g off i : Nat) (ps qs : List Pr) (d : Addr) (q c : Nat) (hs : a.eval s = .slice (some ⟨g, off, none⟩) i i) (hx : a.eval x = .slice (some d) q c) (h : RdP w (some ⟨g, off, none⟩) i ps) (hd : RdP w (some d) q qs) (hq : 0 < q) (hi : i + q ≤ 1000000000000)
    (hk : ∀ v' w', Hid (w'.ownsRow w.heap.size 40 2 v' (i + q) ((ps ++ qs).flatMap pc)) → Hid (Below w.heap.size w w') → K (a.put (some dd) v') w') : if Region.wanted o (yielded ops a.tmps) = true then Oper.wp Try.prog o a w K Q else E := by
  rw [if_pos hw]
  obtain ⟨v', w', hr, h2, h3⟩ := run_append_full w g off i ps qs d q c o.type h hd hq hi
  unfold Oper.wp execOp
  simp only [ho, resolve, invoke, builtin, Sem.run_bind, Sem.run_pure, Result.andThen_ok, List.map_toArray, List.map_cons, List.map_nil, hs, hx, hr]
  rw [← hdd] at hk
  exact hk v' w' h2 h3
theorem step_append_own {ops : Array Oper} {o : Oper} {a : Act} {K : Act → World → Prop} {Q : Exit → Act → World → Prop} {E : Prop} (hw : Region.wanted o (yielded ops a.tmps) = true) (dd : Tmp) (hdd : o.dst = some dd) (s x : Operand)
    (ho : o.op = .call { callee := .builtin .append, args := #[s, x], argTypes := #[27, 27] }) (w : World) (B : Nat) (hB : B ≤ w.heap.size)
    (v : Value) (n : Nat) (ps qs : List Pr) (g off q c : Nat) (hs : a.eval s = v) (hx : a.eval x = .slice (some ⟨g, off, none⟩) q c) (h : w.ownsRow B 40 2 v n (ps.flatMap pc)) (hd : RdP w (some ⟨g, off, none⟩) q qs) (hi : n + q ≤ 1000000000000)
    (hk : ∀ v' w', Hid (w'.ownsRow B 40 2 v' (n + q) ((ps ++ qs).flatMap pc)) → Hid (w.grownBy w' v.ownBlock) → K (a.put (some dd) v') w') : if Region.wanted o (yielded ops a.tmps) = true then Oper.wp Try.prog o a w K Q else E := by
  rw [if_pos hw]
  obtain ⟨i0, hi0, hii⟩ := Option.map_eq_some_iff.1 info40
  simp only [Prod.mk.injEq] at hii
  obtain ⟨v', w', hr, h2, h3, _⟩ := run_append_own_wide (P := Try.prog) w B 27 o.type 40 i0 _ 2 32 Try.underlying27 hi0 hii.1 hii.2.1 hii.2.2 rfl (by omega) v n (ps.flatMap pc) h ⟨g, off, none⟩ q c (qs.flatMap pc) (by rw [flat_len, hd.1]) (by intro j u hu; rw [Addr.add_lit]; exact hd.cells j u hu) (flat_one qs) (by unfold maxLen; omega) (by omega) hB
  unfold Oper.wp execOp
  simp only [ho, resolve, invoke, builtin, Sem.run_bind, Sem.run_pure, Result.andThen_ok, List.map_toArray, List.map_cons, List.map_nil, hs, hx, hr]
  rw [← hdd] at hk
  exact hk v' w' (by rw [List.flatMap_append]; exact h2) h3
#print axioms step_append_own

theorem part_zero (w : World) (g off n cap j : Nat) (h2 : j ≤ cap) : Calls Try.prog 48 #[.slice (some ⟨g, off, none⟩) n cap, .int .i64 0, .int .i64 (j : Int)] w fun e w' => e = .returned (.slice (some ⟨g, off, none⟩) j j) ∧ w = w' := by
  have q3 : (j : Int) ≤ (cap : Int) := by omega
  go_enter Try.func48, Try.ntmps48
  go_wp2
  go_ret
  exact ⟨rfl, rfl⟩

theorem spl_below {w w3 w4 : World} {v3 : Value} {n : Nat} {xs : List Value} (h : Below w.drew.heap.size w.drew w3) (ho : w3.ownsRow w.drew.heap.size 40 2 v3 n xs) (hg : w3.grownBy w4 v3.ownBlock) : Below w.heap.size w w4 := by
  refine ⟨hg.os.trans h.os, hg.tape.trans h.tape, hg.output.trans h.output, Nat.le_trans h.size hg.size, fun b hb => ?_⟩
  refine (hg.block b (Nat.lt_of_lt_of_le hb h.size) fun e => ?_).trans (h.block b hb)
  have := (ho.lt b e.symm).1
  have hb' : b < w.drew.heap.size := hb
  omega

set_option maxRecDepth 100000 in
theorem spliced_is (w : World) (g off n cap i j : Nat) (ps qs : List Pr) (o : Addr) (q c : Nat) (h : RdP w (some ⟨g, off, none⟩) n ps) (hnc : n ≤ cap) (hij : i ≤ j) (hjn : j ≤ n) (ho : RdP w (some o) q qs) (hq : 0 < q) (hb : n + q ≤ 100000000000) :
    Calls Try.prog 40 #[.slice (some ⟨g, off, none⟩) n cap, .int .i64 (i : Int), .int .i64 (j : Int), .slice (some o) q c] w fun e w' => ∃ v', e = .returned v' ∧ Hid (w'.ownsRow w.heap.size 40 2 v' (i + q + (n - j)) ((ps.take i ++ qs ++ ps.drop j).flatMap pc)) ∧ Hid (Below w.heap.size w w') := by
  have HR : Hid (RdP w.drew (some ⟨g, off, none⟩) i (ps.take i)) := (h.below (Below.refl _ w).drew (Nat.le_refl _)).take (by omega)
  have HO : Hid (RdP w.drew (some o) q qs) := ho.below (Below.refl _ w).drew (Nat.le_refl _)
  have HQ : Hid (0 < q) := hq
  have HNN : Hid (n + q ≤ 100000000000 ∧ i ≤ j ∧ j ≤ n ∧ n ≤ cap) := ⟨hb, hij, hjn, hnc⟩
  have q1 : (0 : Int) ≤ (j : Int) := by omega
  have q2 : (j : Int) ≤ (n : Int) := by omega
  have q3 : (n : Int) ≤ (cap : Int) := by omega
  by_cases hcj : cap = j
  · have hjn' : j = n := by omega
    subst hcj
    subst hjn'
    have HP : Hid (ps.drop cap = []) := List.drop_eq_nil_of_le (by rw [h.1]; exact Nat.le_refl _)
    have HD : Hid (∀ W, Below w.heap.size w W → RdP W (some ⟨g, off, none⟩) 0 (ps.drop cap)) := fun W hW => by rw [HP.out]; exact ⟨rfl, fun h => absurd h (by omega)⟩
    have q5 : i ≤ cap := by omega
    clear h hnc hij hjn ho hq hb
    go_enter Try.func40, Try.ntmps40
    go_wp2
    go_region_held_law (fun _ => True) (trivial) (first
      | (go_at_call 48; refine (part_zero w.drew g off cap cap i q5).mono ?_; rintro e w2 ⟨rfl, rfl⟩)
      | (refine step_append_full (by rfl) 13 rfl _ _ rfl w.drew g off i (ps.take i) qs o q c rfl rfl HR.out HO.out HQ.out (by have := HNN.out; omega) ?_; intro v3 w3 HO3 HB3)
      | (refine step_append_own (by rfl) 17 rfl _ _ rfl w3 w.heap.size HB3.out.size v3 (i + q) (ps.take i ++ qs) (ps.drop cap) g off 0 0 rfl rfl HO3.out (HD.out w3 ((Below.refl _ w).drew.trans HB3.out)) (by have := HNN.out; omega) ?_; intro v4 w4 HO4 HG4))
    go_wp2
    go_ret
    exact ⟨v4, rfl, by rw [Nat.sub_self]; exact HO4, spl_below HB3.out HO3.out HG4.out⟩
  · have HD : Hid (∀ W, Below w.heap.size w W → RdP W (some ⟨g, off + j * 2, none⟩) (n - j) (ps.drop j)) := fun W hW => (h.below hW (Nat.le_refl _)).drop hjn
    have HC : Hid (¬ cap = j) := hcj
    have q4 : ¬ cap - j = 0 := by omega
    have q5 : i ≤ cap := by omega
    clear h hnc hij hjn ho hq hb hcj
    go_enter Try.func40, Try.ntmps40
    go_wp2
    go_region_held_law (fun _ => True) (trivial) (first
      | (go_at_call 48; refine (part_zero w.drew g off n cap i q5).mono ?_; rintro e w2 ⟨rfl, rfl⟩)
      | (refine step_append_full (by rfl) 13 rfl _ _ rfl w.drew g off i (ps.take i) qs o q c rfl rfl HR.out HO.out HQ.out (by have := HNN.out; omega) ?_; intro v3 w3 HO3 HB3)
      | (refine step_append_own (by rfl) 17 rfl _ _ rfl w3 w.heap.size HB3.out.size v3 (i + q) (ps.take i ++ qs) (ps.drop j) g (off + j * 2) (n - j) (cap - j) rfl rfl HO3.out (HD.out w3 ((Below.refl _ w).drew.trans HB3.out)) (by have := HNN.out; omega) ?_; intro v4 w4 HO4 HG4))
    go_wp2
    go_ret
    exact ⟨v4, rfl, by first | exact HO4 | (have e := HO4.out; simp only [List.flatMap_append, List.append_assoc] at e; exact e), spl_below HB3.out HO3.out HG4.out⟩
#print axioms spliced_is
end Go.Proofs.Ytnagknlfboadkaa.Oct
