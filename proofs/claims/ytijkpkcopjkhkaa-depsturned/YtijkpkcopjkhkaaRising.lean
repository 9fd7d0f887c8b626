/-
  Layer 12 (deps): a set's hashes in order.
-/
import Derived.Test.YtijkpkcopjkhkaaSort
import Derived.Maps.Range
namespace Go.Proofs.Ytijkpkcopjkhkaa.Oct
open Go.RowKit

section
variable {ops : Array Oper} {rest : List Oper} {o : Oper} {a : Act} {w : World} {Q : Exit → Act → World → Prop}
theorem wpList_slen (hg : o.guard = none) (m : Operand) (hop : o.op = Op.call { callee := Callee.builtin Builtin.len, args := #[m], argTypes := #[43] }) (b : Nat) (ks : List Hs) (hm : a.eval m = .map (some b)) (hs : SM w b ks)
    (hK : wpList Try.prog ops Q rest (a.put o.dst (.int .i64 (ks.length : Int))) w) : wpList Try.prog ops Q (o :: rest) a w := by
  refine wpList_plain hg fun K' hK' => ?_
  unfold Oper.wp execOp
  simp only [hop, resolve, invoke, builtin, Sem.run_bind, Sem.run_pure, Result.andThen_ok, List.map_toArray, List.map_cons, List.map_nil, hm, hs.len]
  exact hK' _ _ hK
theorem wpList_mk (hg : o.guard = none) (l c : Operand) (hop : o.op = Op.makeSlice 26 l c) (B n : Nat) (hl : a.eval l = .int .i64 0) (hc : a.eval c = .int .i64 (n : Int)) (hn : n ≤ 1000000) (hB : B ≤ w.heap.size)
    (hK : ∀ w', w'.ownsRow B 34 32 (.slice (some ⟨w.heap.size, 0, none⟩) 0 n) 0 (UU []) → Below w.heap.size w w' → wpList Try.prog ops Q rest (a.put o.dst (.slice (some ⟨w.heap.size, 0, none⟩) 0 n)) w') : wpList Try.prog ops Q (o :: rest) a w := by
  refine wpList_plain hg fun K' hK' => ?_
  obtain ⟨i, hi, hs1, hby, z, hz, hzs⟩ := info34'
  obtain ⟨w', hrun, h1, h2⟩ := run_make_own (P := Try.prog) w B 26 34 i z 32 Try.underlying26 hi hz hs1 .i64 .i64 n (by rw [hby]; omega) (by unfold maxLen; omega) hB
  unfold Oper.wp execOp
  simp [hop, hl, hc, hrun, Result.andThen]
  exact hK' _ _ (hK w' h1 ⟨h2.os, h2.tape, h2.output, h2.size, fun k hk => h2.block k hk (by simp)⟩)
theorem wpList_srange (hg : o.guard = none) (m : Operand) (hop : o.op = Op.range 43 m) (b : Nat) (es : List Ent) (hm : a.eval m = .map (some b)) (hs : HM w b es)
    (hK : ∀ w', HMR w' b w.heap.size es es → Below w.heap.size w w' → w'.heap.size = w.heap.size + 1 → wpList Try.prog ops Q rest (a.put o.dst (.pointer (some ⟨w.heap.size, 0, none⟩))) w') : wpList Try.prog ops Q (o :: rest) a w := by
  refine wpList_plain hg fun K' hK' => ?_
  obtain ⟨w', hrun, h1, h2, h3⟩ := hs.range (t := 43) (E := 52) Try.underlying43
  unfold Oper.wp execOp
  simp [hop, hm, hrun, Result.andThen]
  exact hK' _ _ (hK w' h1 h2 h3)
end

theorem HMR.left {w : World} {b r : Nat} {es left : List Ent} (h : HMR w b r es left) : w.rangeLeft b r = left.length := by
  obtain ⟨clock, seen, h1, h2, h3, _⟩ := h
  unfold World.rangeLeft
  rw [h1, h2]
  have := congrArg List.length (filter_seen es seen)
  simp only [List.length_map, ← h3] at this
  simpa using this
theorem HMR.row_ne {w : World} {b r B n : Nat} {es left : List Ent} {v : Value} {xs : List Value} (h : HMR w b r es left) (ho : w.ownsRow B 34 32 v n xs) : some b ≠ v.ownBlock ∧ some r ≠ v.ownBlock := by
  obtain ⟨clock, seen, h1, h2, _⟩ := h
  rcases ho.2 with ⟨rfl, _⟩ | ⟨g, cap, cur, rfl, _, hg, _⟩
  · simp [Value.ownBlock]
  · constructor
    · intro e
      have : b = g := by simpa [Value.ownBlock] using e
      subst this
      rw [h1] at hg; cases hg
    · intro e
      have : r = g := by simpa [Value.ownBlock] using e
      subst this
      rw [h2] at hg; cases hg
theorem HMR.kept {w w' : World} {b r : Nat} {es left : List Ent} {row : Option Nat} (h : HMR w b r es left) (hg : w.grownBy w' row) (h1 : some b ≠ row) (h2 : some r ≠ row) : HMR w' b r es left :=
  h.same (hg.block b h.lt.1 h1) (hg.block r h.lt.2.1 h2)
theorem HMR.below {w w' : World} {b r : Nat} {es left : List Ent} (h : HMR w b r es left) (hb : Below w.heap.size w w') : HMR w' b r es left :=
  h.same (hb.block b h.lt.1) (hb.block r h.lt.2.1)
theorem own_below {w w' : World} {B n : Nat} {v : Value} {xs : List Value} (h : w.ownsRow B 34 32 v n xs) (hb : Below w.heap.size w w') : w'.ownsRow B 34 32 v n xs := by
  refine h.kept (row := none) ⟨hb.os, hb.tape, hb.output, hb.size, fun k hk _ => hb.block k hk⟩ ?_
  cases v.ownBlock with
  | none => exact .inl rfl
  | some g => exact .inr (by simp)
/-- what 'rising' answers -/
def RiseP (w : World) (ks : List Hs) (e : Ending) (w' : World) : Prop := ∃ a n c rs, e = .returned (.slice a n c) ∧ Hid (HsR w' a n rs ∧ n ≤ c ∧ rs.Pairwise LtH ∧ ∀ x, x ∈ rs ↔ x ∈ ks) ∧ Hid (Below w.heap.size w w')

set_option maxRecDepth 100000 in
set_option maxHeartbeats 2000000 in
theorem sorted_is (w : World) (b : Nat) (ks : List Hs) (hs : SM w b ks) (hn : ks.length ≤ 100000) : Calls Try.prog 39 #[.map (some b), .func (.func 40) #[] #[]] w (RiseP w ks) := by
  obtain ⟨es, hm, hke, hve⟩ := hs
  have HS : Hid (SM w b ks ∧ ks.length ≤ 100000 ∧ es.map (·.k) = ks) := ⟨⟨es, hm, hke, hve⟩, hn, hke⟩
  have HM0 : Hid (HM w b es) := hm
  have q0 : (ks.length : Int) ≤ 100000 := by omega
  obtain ⟨Y, hYl, hY⟩ := zero34
  have HZ : Hid (Y.length = 32) := hYl
  clear hm hke hve hn hYl
  go_enter Try.func39, Try.ntmps39
  go_wp2_with (first
    | (with_reducible change wpList _ _ _ ({ dst := some 8, op := _, type := _, pos := _, after := _, guard := _ } :: _) _ _
       refine wpList_slen rfl (.tmp 7) rfl b ks rfl HS.out.1 ?_)
    | (with_reducible change wpList _ _ _ ({ dst := some 9, op := _, type := _, pos := _, after := _, guard := _ } :: _) _ _
       refine wpList_mk rfl (.const (.int .i64 0)) (.tmp 8) rfl w.heap.size ks.length rfl rfl (by have := HS.out.2.1; omega) (Nat.le_refl _) ?_
       intro w1 r1 r2
       have H1 : Hid (w1.ownsRow w.heap.size 34 32 (.slice (some ⟨w.heap.size, 0, none⟩) 0 ks.length) 0 (UU []) ∧ Below w.heap.size w w1 ∧ HM w1 b es) := ⟨r1, r2, HM0.out.below r2 HM0.out.lt⟩
       clear r1 r2)
    | (with_reducible change wpList _ _ _ ({ dst := some 11, op := _, type := _, pos := _, after := _, guard := _ } :: _) _ _
       refine wpList_srange rfl (.tmp 10) rfl b es rfl H1.out.2.2 ?_
       intro w2 r1 r2 r3
       have H2 : Hid (HMR w2 b w1.heap.size es es ∧ Below w1.heap.size w1 w2) := ⟨r1, r2⟩
       clear r1 r2 r3)
    | fail)
  simp only [Act.put, List.setIfInBounds_toArray, List.set_cons_zero, List.set_cons_succ]
  obtain ⟨r, hr⟩ : ∃ r, w1.heap.size = r := ⟨_, rfl⟩
  have HRW : Hid (w.heap.size < r) := by
    show _ < _
    have h1 := H1.out.1.lt w.heap.size rfl
    omega
  have H3 : Hid (HMR w2 b r es es ∧ w2.ownsRow w.heap.size 34 32 (.slice (some ⟨w.heap.size, 0, none⟩) 0 ks.length) 0 (UU []) ∧ Below w.heap.size w w2) := ⟨by rw [← hr]; exact H2.out.1, own_below H1.out.1 H2.out.2, H1.out.2.1.trans (H2.out.2.mono H1.out.2.1.size)⟩
  rw [hr]
  clear H1 H2 hr
  go_loopw [5] (fun u wr => ∃ (v : Value) (os : List Hs) (left : List Ent), u = v ∧ Hid (HMR wr b r es left ∧ wr.ownsRow w.heap.size 34 32 v os.length (UU os) ∧ v.ownBlock ≠ none ∧ (os ++ left.map (·.k)).Perm ks ∧ Below w.heap.size w wr)) (fun _ wr => wr.rangeLeft b r)
  case atStart => exact ⟨_, [], es, rfl, ⟨H3.out.1, H3.out.2.1, by simp [Value.ownBlock], by rw [← HS.out.2.2]; exact List.Perm.refl _, H3.out.2.2⟩⟩
  case round =>
    obtain ⟨v, os, left, rfl, HB⟩ := hrel
    have HLL : Hid (wr.rangeLeft b r = left.length) := HB.out.1.left
    rcases HB.out.1.next 0 with ⟨h0, hrun⟩ | ⟨e, left', w3, he, hp, hrun, h3, hg3, hz3, hen⟩
    · have HE : Hid (left = []) := h0
      clear h0
      go_wp2_with fail
      clear hrun
      have HP : Hid (os.Perm ks) := by
        show os.Perm ks
        have := HB.out.2.2.2.1
        rw [HE.out] at this
        simpa using this
      have hk32 : ∀ h ∈ os, h.length = 32 := fun h hm => HS.out.1.nodup.2 h (HP.out.mem_iff.1 hm)
      obtain ⟨g, cap, hv⟩ : ∃ g cap, u5 = .slice (some ⟨g, 0, none⟩) os.length cap ∧ w.heap.size ≤ g ∧ os.length ≤ cap := by
        rcases HB.out.2.1.2 with ⟨h1, _⟩ | ⟨g, cap, cur, h1, h2, _, h3, _⟩
        · exact absurd (by rw [h1]; rfl) HB.out.2.2.1
        · exact ⟨g, cap, h1, h2, h3⟩
      obtain ⟨rfl, hgw, hcap⟩ := hv
      have H46 := sort46 wr w.heap.size g os.length cap os hk32 (HP.out.nodup_iff.2 HS.out.1.nodup.1) HB.out.2.1 (by have := HS.out.2.1; have := HP.out.length_eq; omega)
      have H46' : Hid (Calls Try.prog 46 #[.slice (some ⟨g, 0, none⟩) os.length cap, .func (.func 40) #[] #[]] wr fun e w' => e = .returned (.tuple #[]) ∧ ∃ hs', Hid (hs'.Perm os ∧ hs'.Pairwise LtH ∧ HsR w' (some ⟨g, 0, none⟩) os.length hs') ∧ Hid (wr.grownBy w' (some g))) := H46
      clear H46
      refine H46'.out.mono ?_
      rintro e w4 ⟨rfl, hs', H4, HG4⟩
      go_wp2
      go_ret
      refine ⟨some ⟨g, 0, none⟩, os.length, cap, hs', rfl, ⟨H4.out.2.2, hcap, H4.out.2.1, fun x => ?_⟩, below_grownBy HB.out.2.2.2.2 HG4.out hgw (Nat.le_refl _)⟩
      rw [H4.out.1.mem_iff, HP.out.mem_iff]
    · have hrun' : (Instr.next (.pointer (some ⟨r, 0, none⟩)) false 0).run Try.prog wr = .ok (.tuple #[.bool true, .agg (U e.k).toArray, e.v]) w3 := hrun
      have hen' : (Instr.entry (.pointer (some ⟨r, 0, none⟩))).run Try.prog w3 = .ok (.tuple #[.agg (U e.k).toArray, e.v]) w3 := hen
      have HE : Hid (left.Perm (e :: left') ∧ HMR w3 b r es left' ∧ wr.grownBy w3 (some r) ∧ e.k.length = 32 ∧ w3.ownsRow w.heap.size 34 32 u5 os.length (UU os) ∧ Below w.heap.size w w3) := by
        refine ⟨hp, h3, hg3, ?_, HB.out.2.1.kept hg3 (.inr (fun h => (HB.out.1.row_ne HB.out.2.1).2 h.symm)), below_grownBy HB.out.2.2.2.2 hg3 (Nat.le_of_lt HRW.out) (Nat.le_refl _)⟩
        have := HB.out.2.2.2.1
        refine HS.out.1.nodup.2 e.k (this.mem_iff.1 ?_)
        exact List.mem_append.2 (.inr (List.mem_map.2 ⟨e, he, rfl⟩))
      clear hrun hen he hp h3 hg3 hz3
      go_wp2_with (first
        | (with_reducible change wpList _ _ _ ({ dst := none, op := Op.store 34 _ _, type := _, pos := _, after := _, guard := _ } :: _) _ _
           refine wpList_store_fresh rfl 34 (.tmp 6) (.tmp 15) rfl Y (U e.k) 34 rfl rfl (by rw [U_length, HE.out.2.2.2.1, HZ.out]) (info34 e.k HE.out.2.2.2.1) (U_one e.k) ?_)
        | (with_reducible change wpList _ _ _ ({ dst := some 17, op := _, type := _, pos := _, after := _, guard := _ } :: _) _ _
           refine wpList_load_mid rfl 34 (.tmp 6) rfl w3.heap.size 0 rfl (U e.k) _ (new34 w3 e.k) Try.underlying34 rfl (info34 e.k HE.out.2.2.2.1) ?_)
        | (with_reducible change wpList _ _ _ ({ dst := some 18, op := _, type := _, pos := _, after := _, guard := _ } :: _) _ _
           refine wpList_bslice1 rfl (.tmp 17) rfl e.k HE.out.2.2.2.1 rfl ?_)
        | (with_reducible change wpList _ _ _ ({ dst := some 19, op := _, type := _, pos := _, after := _, guard := _ } :: _) _ _
           refine Hid.out ?_))
      have HB5 : Hid (Below w3.heap.size w3 ((w3.alloc (.cells (U e.k).toArray 34)).alloc (.cells (U e.k).toArray 34))) := ((Below.refl _ w3).alloc (Nat.le_refl _) _).alloc (by simp) _
      have HO5 : Hid (HsR ((w3.alloc (.cells (U e.k).toArray 34)).alloc (.cells (U e.k).toArray 34)) (some ⟨w3.heap.size + 1, 0, none⟩) 1 [e.k]) := (by have := HsR.one (w3.alloc (.cells (U e.k).toArray 34)) e.k HE.out.2.2.2.1; rw [World.size_alloc] at this; exact this)
      show wpList _ _ _ _ _ _
      refine wpList_app rfl (.tmp 16) (.tmp 18) rfl w.heap.size u5 os.length os (some ⟨w3.heap.size + 1, 0, none⟩) 1 1 [e.k] rfl rfl (own_below HE.out.2.2.2.2.1 HB5.out) HO5.out (by have h1 := HB.out.2.2.2.1.length_eq; have h2 := HS.out.2.1; simp at h1; omega) (Nat.le_trans HE.out.2.2.2.2.2.size HB5.out.size) ?_
      intro v' w4 r1 r2 r3
      go_wp2
      go_roundw
      case rel =>
        have hM5 := HE.out.2.1.below HB5.out
        have hO5 := own_below HE.out.2.2.2.2.1 HB5.out
        have hne := hM5.row_ne hO5
        refine ⟨v', os ++ [e.k], left', rfl, ⟨hM5.kept r2 hne.1 hne.2, by simpa using r1, ?_, ?_, below_row (HE.out.2.2.2.2.2.trans (HB5.out.mono HE.out.2.2.2.2.2.size)) r2 hO5⟩⟩
        · rcases r3 with h | h
          · rw [h]; exact HB.out.2.2.1
          · rw [h]; simp
        · refine List.Perm.trans ?_ HB.out.2.2.2.1
          rw [List.append_assoc]
          have hmp : ((e :: left').map (fun x : Ent => x.k)).Perm (left.map (fun x : Ent => x.k)) := (HE.out.1.map (fun x : Ent => x.k)).symm
          exact List.Perm.append_left os hmp
      case measure =>
        have hM5 := HE.out.2.1.below HB5.out
        have hO5 := own_below HE.out.2.2.2.2.1 HB5.out
        have hne := hM5.row_ne hO5
        rw [(hM5.kept r2 hne.1 hne.2).left, HLL.out, HE.out.1.length_eq]
        simp
#print axioms sorted_is
theorem rising_is (w : World) (b : Nat) (ks : List Hs) (hs : SM w b ks) (hn : ks.length ≤ 100000) : Calls Try.prog 33 #[.map (some b)] w (RiseP w ks) := by
  have H39 : Hid (Calls Try.prog 39 #[.map (some b), .func (.func 40) #[] #[]] w (RiseP w ks)) := sorted_is w b ks hs hn
  clear hs hn
  go_enter Try.func33, Try.ntmps33
  go_wp2_with (go_at_call 39; (with_reducible refine Calls.mono H39.out ?_); rintro e w1 ⟨a, n, c, rs, rfl, H1, H2⟩)
  go_ret
  exact ⟨a, n, c, rs, rfl, H1, H2⟩
#print axioms rising_is
end Go.Proofs.Ytijkpkcopjkhkaa.Oct
