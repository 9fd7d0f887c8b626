/-
  Layer 12 (deps): orderOf.
-/
import Derived.Test.YtijkpkcopjkhkaaOrdPure
namespace Go.Proofs.Ytijkpkcopjkhkaa.Oct
open Go.RowKit

section
variable {ops : Array Oper} {rest : List Oper} {o : Oper} {a : Act} {w : World} {Q : Exit → Act → World → Prop}
theorem wpList_bs56 (hg : o.guard = none) (x : Operand) (hop : o.op = Op.buildSlice 56 1 #[(0, x)]) (m : Nat) (hx : a.eval x = .int .i64 (m : Int))
    (hK : wpList Try.prog ops Q rest (a.put o.dst (.slice (some ⟨w.heap.size, 0, none⟩) 1 1)) (w.alloc (.cells #[.int .i64 (m : Int)] 3))) : wpList Try.prog ops Q (o :: rest) a w :=
  wpList_plain hg fun _ hK' => wp_bs56 x hop m hx (hK' _ _ hK)
theorem wpList_appI (hg : o.guard = none) (s x : Operand) (hop : o.op = Op.call { callee := Callee.builtin Builtin.append, args := #[s, x], argTypes := #[56, 56] }) (B : Nat) (v : Value) (xs : List Nat) (g y : Nat) (hv : a.eval s = v) (hx : a.eval x = .slice (some ⟨g, 0, none⟩) 1 1)
    (hown : w.ownsRow B 3 1 v xs.length (IV xs)) (hc : w.cell? ⟨g, 0, none⟩ = some (.int .i64 (y : Int))) (hn : xs.length ≤ 1000000) (hB : B ≤ w.heap.size)
    (hK : ∀ v' w', w'.ownsRow B 3 1 v' (xs.length + 1) (IV (xs ++ [y])) → w.grownBy w' v.ownBlock → (v'.ownBlock = v.ownBlock ∨ v'.ownBlock = some w.heap.size) → wpList Try.prog ops Q rest (a.put o.dst v') w') : wpList Try.prog ops Q (o :: rest) a w :=
  wpList_plain hg fun _ hK' => wp_appI s x hop B v xs g y hv hx hown hc hn hB (fun v' w' r1 r2 r3 => hK' _ _ (hK v' w' r1 r2 r3))
end
theorem own_keep {w w' : World} {B e sz n : Nat} {v : Value} {xs : List Value} (h : w.ownsRow B e sz v n xs) (hb : Below w.heap.size w w') : w'.ownsRow B e sz v n xs := by
  refine h.kept (row := none) ⟨hb.os, hb.tape, hb.output, hb.size, fun k hk _ => hb.block k hk⟩ ?_
  cases v.ownBlock with
  | none => exact .inl rfl
  | some g => exact .inr (by simp)
/-- rows of unlike cells lie apart -/
theorem own_apart {w : World} {B B' e e' sz sz' n n' : Nat} {v v' : Value} {xs xs' : List Value} (h : w.ownsRow B e sz v n xs) (h' : w.ownsRow B' e' sz' v' n' xs') (hne : e ≠ e') : v.ownBlock = none ∨ v.ownBlock ≠ v'.ownBlock := by
  rcases h.2 with ⟨rfl, _⟩ | ⟨g, cap, cur, rfl, _, h2, _⟩
  · exact .inl rfl
  · rcases h'.2 with ⟨rfl, _⟩ | ⟨g', cap', cur', rfl, _, h2', _⟩
    · exact .inr (by simp [Value.ownBlock])
    · refine .inr ?_
      intro e1
      have : g = g' := by simpa [Value.ownBlock] using e1
      subst this
      rw [h2] at h2'
      simp only [Option.some.injEq, Obj.cells.injEq] at h2'
      exact hne h2'.2.1
theorem own_wrote {w w' : World} {B e sz n g : Nat} {v : Value} {xs : List Value} (h : w.ownsRow B e sz v n xs) (hg : w.grownBy w' (some g)) (hB : g < B) : w'.ownsRow B e sz v n xs := by
  refine h.kept hg ?_
  cases e : v.ownBlock with
  | none => exact .inl rfl
  | some k =>
    refine .inr ?_
    have := (h.lt k e).1
    simp only [ne_eq, Option.some.injEq]; omega
def nmOf (ns : List Hs) (T : List Nat) : List Hs := T.map (fun n => ns.getD n [])
/-- what stands in every round -/
def OInv (w W wr : World) (gw nn : Nat) (ns : List Hs) (ab : List (List Nat)) (wt0 told rest wt ready : List Nat) (v5 v4 : Value) : Prop :=
  Below w.heap.size w wr ∧ Fr W.heap.size W wr gw gw ∧ Blk wr gw 3 (IV wt) ∧ wr.ownsRow W.heap.size 3 1 v5 ready.length (IV ready) ∧ wr.ownsRow W.heap.size 34 32 v4 told.length (UU (nmOf ns told)) ∧ OI nn ab wt0 told rest wt ready ∧ Gr nn ab wt0 told
/-- what 'orderOf' answers -/
def OrdP (w : World) (l : List It) (nn : Nat) (e : Ending) (w' : World) : Prop :=
  ∃ p c ns T, e = .returned (.slice p T.length c) ∧ Hid (HsR w' p T.length (nmOf ns T)) ∧ Hid (ns.Pairwise LtH ∧ (∀ x, x ∈ ns ↔ x ∈ namesK l) ∧ ns.length = nn) ∧ Hid (Gr nn (webA ns l) (webW ns l) T ∧ ∀ n, n < nn → n ∉ T → ¬ Free (webA ns l) (webW ns l) T n) ∧ Hid (Below w.heap.size w w')

set_option maxRecDepth 100000 in
set_option maxHeartbeats 4000000 in
theorem orderOf_is (w : World) (a : Option Addr) (len cap : Nat) (l : List It) (hi : Its w a len l) (hn : len ≤ 100000) (hm : many l ≤ 90000) (hnm : (namesK l).length = len) (hc : ∀ x ∈ l, ∀ d ∈ x.deps, d ∈ namesK l)
    (hcap : ∀ ns, ns.Pairwise LtH → (∀ x, x ∈ ns ↔ x ∈ namesK l) → (∀ told, told.Nodup → (∀ n ∈ told, n < len) → ∀ n, n < len → sumOf (webA ns l) told n ≤ (webW ns l).getD n 0) ∧ (∀ x ∈ webA ns l, ∀ n ∈ x, n < len) ∧ ∀ n ∈ webW ns l, n ≤ 100000) :
    Calls Try.prog 25 #[.slice a len cap] w (OrdP w l len) := by
  have HA : Hid (Its w a len l ∧ len ≤ 100000 ∧ many l ≤ 90000) := ⟨hi, hn, hm⟩
  have HC : Hid ((namesK l).length = len ∧ ∀ x ∈ l, ∀ d ∈ x.deps, d ∈ namesK l) := ⟨hnm, hc⟩
  have HCAP : Hid _ := hcap
  have q5 : (len : Int) ≤ 100000 := by omega
  clear hi hn hm hnm hc hcap
  obtain ⟨Y, hYl, hY⟩ := zero34
  have HZ : Hid (Y.length = 32) := hYl
  clear hYl
  have hz58 := zero58
  go_enter Try.func25, Try.ntmps25
  go_wp2_with (first
    | (go_at_call 35; refine (webOf_is w a len cap l HA.out.1 HA.out.2.1 HA.out.2.2 HC.out.1 HC.out.2).mono ?_; rintro e w1 ⟨an, cc, ga, gw, ns, L, B, rfl, H1, H2, H3⟩)
    | (with_reducible change wpList _ _ _ ({ dst := none, op := Op.store 58 _ _, type := _, pos := _, after := _, guard := _ } :: _) _ _
       refine Hid.out ?_)
    | fail)
  show wpList _ _ _ _ _ _
  refine wpList_store_fresh rfl 58 (.tmp 3) (.tmp 14) rfl [.slice none 0 0, .slice none 0 0, .slice none 0 0] [.slice an len cc, .slice (some ⟨ga, 0, none⟩) len len, .slice (some ⟨gw, 0, none⟩) len len] 58 rfl rfl rfl (by kernel_rfl) (by simp [Value.oneCell']) ?_
  clear hz58
  obtain ⟨gs, hgs⟩ : ∃ gs, w1.heap.size = gs := ⟨_, rfl⟩
  obtain ⟨W, hW⟩ : ∃ W, w1.alloc (.cells [.slice an len cc, .slice (some ⟨ga, 0, none⟩) len len, .slice (some ⟨gw, 0, none⟩) len len].toArray 58) = W := ⟨_, rfl⟩
  have hbW : Below w1.heap.size w1 W := by rw [← hW]; exact below_new w1 _
  obtain ⟨ab, hab⟩ : ∃ ab, webA ns l = ab := ⟨_, rfl⟩
  obtain ⟨wt0, hwt0⟩ : ∃ wt0, webW ns l = wt0 := ⟨_, rfl⟩
  have HW : Hid (Below w.heap.size w W ∧ Blk W gs 58 [.slice an len cc, .slice (some ⟨ga, 0, none⟩) len len, .slice (some ⟨gw, 0, none⟩) len len] ∧ HsR W an len ns ∧ Blk W gw 3 (IV wt0) ∧ AbM W B ga L ab ∧ w.heap.size ≤ gw ∧ gw < B ∧ ga < B ∧ B ≤ W.heap.size ∧ gs < W.heap.size) := by
    refine ⟨H3.out.trans (hbW.mono H3.out.size), by rw [← hW, ← hgs]; simpa using Blk.new w1 [.slice an len cc, .slice (some ⟨ga, 0, none⟩) len len, .slice (some ⟨gw, 0, none⟩) len len].toArray 58, H1.out.1.below hbW, by rw [← hwt0]; exact H2.out.1.below hbW H2.out.1.lt, by rw [← hab]; exact H2.out.2.1.below hbW, H2.out.2.2.2.1, H2.out.2.2.2.2.1, H2.out.2.2.2.2.2.1, Nat.le_trans H2.out.2.2.2.2.2.2 hbW.size, by rw [← hW, ← hgs]; simp⟩
  have HNS : Hid (ns.length = len ∧ ns.Pairwise LtH ∧ (∀ x, x ∈ ns ↔ x ∈ namesK l) ∧ (∀ h ∈ ns, h.length = 32) ∧ ab.length = len ∧ wt0.length = len) := ⟨H1.out.1.1, H1.out.2.1, H1.out.2.2.1, H1.out.1.2.1, by rw [← hab, webA_length]; exact H1.out.1.1, by rw [← hwt0, webW_length]; exact H1.out.1.1⟩
  have HCP : Hid ((∀ told, told.Nodup → (∀ n ∈ told, n < len) → ∀ n, n < len → sumOf ab told n ≤ wt0.getD n 0) ∧ (∀ x ∈ ab, ∀ n ∈ x, n < len) ∧ ∀ n ∈ wt0, n ≤ 100000) := by
    have := HCAP.out ns H1.out.2.1 H1.out.2.2.1
    rw [hab, hwt0] at this
    exact this
  have HEQ : Hid (webA ns l = ab ∧ webW ns l = wt0) := ⟨hab, hwt0⟩
  have HNE : Hid (gs ≠ gw ∧ ga ≠ gw) := ⟨blk_ne HW.out.2.1 HW.out.2.2.2.1 (by decide), blk_ne HW.out.2.2.2.2.1.blk HW.out.2.2.2.1 (by decide)⟩
  have hcs2 : W.cell? ⟨gs, 2, none⟩ = some (.slice (some ⟨gw, 0, none⟩) len len) := HW.out.2.1.cell rfl
  rw [hW, hgs]
  clear hW hgs hbW hab hwt0 H1 H2 H3 HCAP
  go_wp2
  clear hcs2
  go_loopw [18, 5] (fun u v wr => ∃ i : Nat, u = .int .i64 (i : Int) ∧ Hid (i ≤ len ∧ Below w.heap.size w wr ∧ Fr W.heap.size W wr gw gw ∧ Blk wr gw 3 (IV wt0) ∧ wr.ownsRow W.heap.size 3 1 v (firstR wt0 i).length (IV (firstR wt0 i)))) (fun u _ _ => len - (intOf u).toNat)
  case atStart => exact ⟨0, rfl, ⟨Nat.zero_le _, HW.out.1, ⟨Nat.le_refl _, fun _ _ _ _ => rfl⟩, HW.out.2.2.2.1, World.ownsRow_nil _ _ _ _⟩⟩
  case round =>
    obtain ⟨i, rfl, HB⟩ := hrel
    by_cases hi : i < len
    · obtain ⟨x, hx⟩ : ∃ x, wt0[i]? = some x := ⟨_, List.getElem?_eq_getElem (by rw [HNS.out.2.2.2.2.2]; exact hi)⟩
      have HI : Hid (i < len ∧ wt0[i]? = some x ∧ wt0.getD i 0 = x) := ⟨hi, hx, by rw [List.getD_eq_getElem?_getD, hx]; rfl⟩
      have hcx := HB.out.2.2.2.1.cell (IV_get wt0 i x hx)
      have q1 : (i : Int) < (len : Int) := by omega
      clear hx hi
      by_cases hx0 : x = 0
      · subst hx0
        simp only [Int.ofNat_zero] at hcx
        go_wp2_with (first
          | (with_reducible change wpList _ _ _ ({ dst := some 27, op := _, type := _, pos := _, after := _, guard := _ } :: _) _ _
             refine wpList_bs56 rfl (.tmp 26) rfl i rfl ?_)
          | (with_reducible change wpList _ _ _ ({ dst := some 28, op := _, type := _, pos := _, after := _, guard := _ } :: _) _ _
             refine Hid.out ?_)
          | fail)
        show wpList _ _ _ _ _ _
        refine wpList_appI rfl (.tmp 25) (.tmp 27) rfl W.heap.size u5 (firstR wt0 i) wr.heap.size i rfl rfl (HB.out.2.2.2.2.alloc _) ((Blk.new wr #[.int .i64 (i : Int)] 3).cell (i := 0) rfl) (by have := firstR_length wt0 i; have := HI.out.1; have := HA.out.2.1; omega) (by have := HB.out.2.2.1.1; simp; omega) ?_
        intro v' w2 r1 r2 r3
        have hlt := HB.out.2.2.2.2.lt
        have H9 : Hid (Below w.heap.size w w2 ∧ Fr W.heap.size W w2 gw gw ∧ Blk w2 gw 3 (IV wt0) ∧ w2.ownsRow W.heap.size 3 1 v' ((firstR wt0 i).length + 1) (IV (firstR wt0 i ++ [i]))) := by
          have hb1 := below_new wr (.cells #[.int .i64 (i : Int)] 3)
          refine ⟨below_grown' (HB.out.2.1.trans (hb1.mono HB.out.2.1.size)) r2 (fun g e => by have := (hlt g e).1; have := HW.out.1.size; omega) (Nat.le_refl _), (HB.out.2.2.1.below hb1).grown r2 (fun g e => .inr (.inr (hlt g e).1)), (HB.out.2.2.2.1.below hb1 HB.out.2.2.2.1.lt).kept r2 (fun e => ?_), r1⟩
          have := (hlt gw e.symm).1
          have := HW.out.2.2.2.2.2.2.1
          have := HW.out.2.2.2.2.2.2.2.2.1
          omega
        clear r1 r2 r3 hlt hcx
        go_wp2
        refine ⟨⟨i + 1, by simp, ⟨HI.out.1, H9.out.1, H9.out.2.1, H9.out.2.2.1, ?_⟩⟩, ?_⟩
        · rw [firstR_succ, if_pos HI.out.2.2, List.length_append]; exact H9.out.2.2.2
        · have := HI.out.1; simp [intOf]; omega
      · have q2 : ¬ (x : Int) = 0 := by omega
        go_wp2
        refine ⟨⟨i + 1, by simp, ⟨HI.out.1, HB.out.2.1, HB.out.2.2.1, HB.out.2.2.2.1, ?_⟩⟩, ?_⟩
        · rw [firstR_succ, if_neg (by rw [HI.out.2.2]; exact hx0)]; exact HB.out.2.2.2.2
        · have := HI.out.1; simp [intOf]; omega
    · have q1 : ¬ (i : Int) < (len : Int) := by omega
      obtain ⟨W0, hW0⟩ : ∃ W0, W0 = wr := ⟨_, rfl⟩
      subst hW0
      have H0 : Hid (OInv w W W0 gw len ns ab wt0 [] [] wt0 (firstR wt0 len) u5 (.slice none 0 0)) := by
        obtain ⟨c1, c2, c3, c4, c5⟩ := HB.out
        have e : i = len := by omega
        subst e
        refine ⟨c2, c3, c4, c5, World.ownsRow_nil _ _ _ _, ?_, fun i t h => by simp at h⟩
        have := OI.start ab wt0
        rw [HNS.out.2.2.2.2.2] at this
        exact this
      obtain ⟨p0, c0, rfl⟩ := own_slice H0.out.2.2.2.1
      clear HB hi
      go_wp2
      go_loopw [5, 4] (fun u v wr => ∃ (told wt ready : List Nat) (p5 : Option Addr) (n5 c5 : Nat) (p4 : Option Addr) (n4 c4 : Nat), u = .slice p5 n5 c5 ∧ v = .slice p4 n4 c4 ∧ Hid (OInv w W wr gw len ns ab wt0 told [] wt ready (.slice p5 n5 c5) (.slice p4 n4 c4) ∧ ready.length = n5 ∧ told.length = n4)) (fun _ v _ => len - lenOf v)
      case atStart => exact ⟨[], wt0, firstR wt0 len, p0, _, c0, none, 0, 0, rfl, rfl, ⟨H0.out, rfl, rfl⟩⟩
      case round =>
        obtain ⟨told, wt, ready, p5, n5, c5, p4, n4, c4, rfl, rfl, HI⟩ := hrel
        cases ready with
        | nil =>
          obtain rfl : n5 = 0 := HI.out.2.1.symm
          go_wp2
          go_ret
          obtain rfl : n4 = told.length := HI.out.2.2.symm
          obtain ⟨c1, c2, c3, c4', c5', c6, c7⟩ := HI.out.1
          have hl : ∀ x ∈ nmOf ns told, x.length = 32 := by
            intro x hx
            obtain ⟨n, hn, rfl⟩ := List.mem_map.1 hx
            have := (c6.zero n hn).1
            refine HNS.out.2.2.2.1 _ ?_
            rw [List.getD_eq_getElem?_getD, List.getElem?_eq_getElem (by rw [HNS.out.1]; exact this)]
            exact List.getElem_mem _
          obtain ⟨a', c', he, hr, _⟩ := own_read c5' hl
          simp only [Value.slice.injEq, true_and] at he
          obtain ⟨rfl, rfl⟩ := he
          refine ⟨p4, c4, ns, told, rfl, hr, ⟨HNS.out.2.1, HNS.out.2.2.1, HNS.out.1⟩, ?_, c1⟩
          rw [HEQ.out.1, HEQ.out.2]
          refine ⟨c7, fun n hn hnt hf => ?_⟩
          have := (c6.mem n).2 ⟨hn, hnt, (c6.free hn).2 hf⟩
          simp at this
        | cons y ys =>
          obtain rfl : n5 = ys.length + 1 := HI.out.2.1.symm
          obtain rfl : n4 = told.length := HI.out.2.2.symm
          obtain ⟨g, hg5⟩ : ∃ g, p5 = some ⟨g, 0, none⟩ := by
            rcases own_out HI.out.1.2.2.2.1 with ⟨h, _⟩ | ⟨g, cap5, Lr, h, _⟩
            · simp at h
            · simp only [Value.slice.injEq] at h
              exact ⟨g, h.1⟩
          subst hg5
          have HO5 : Hid (wr.ownsRow W.heap.size 3 1 (.slice (some ⟨g, 0, none⟩) (y :: ys).length c5) (y :: ys).length (IV (y :: ys))) := HI.out.1.2.2.2.1
          have hcy : wr.cell? ⟨g, 0, none⟩ = some (.int .i64 (y : Int)) := by
            have := HO5.out.cells (g := g) rfl 0 (.int .i64 (y : Int)) rfl
            rw [Addr.add_lit] at this
            exact this
          have HY : Hid (y < len ∧ y ∉ told ∧ OI len ab wt0 (told ++ [y]) (ab.getD y []) wt ys ∧ Gr len ab wt0 (told ++ [y])) := by
            have h := HI.out.1.2.2.2.2.2.1
            have hm := (h.mem y).1 (by simp)
            exact ⟨hm.1, hm.2.1, h.take, HI.out.1.2.2.2.2.2.2.snoc h⟩
          go_wp2_with fail
          refine (del_is wr W.heap.size g c5 y ys HO5.out).mono ?_
          rintro e w2 ⟨rfl, R1, R2⟩
          dsimp only
          have H2 : Hid (Below w.heap.size w w2 ∧ Fr W.heap.size W w2 gw gw ∧ Blk w2 gw 3 (IV wt) ∧ w2.ownsRow W.heap.size 3 1 (.slice (some ⟨g, 0, none⟩) ys.length c5) ys.length (IV ys) ∧ w2.ownsRow W.heap.size 34 32 (.slice p4 told.length c4) told.length (UU (nmOf ns told))) := by
            obtain ⟨c1, c2, c3, c4', c5', c6, c7⟩ := HI.out.1
            have hgl := (HO5.out.lt g rfl).1
            have hsz := HW.out.1.size
            have hgw := HW.out.2.2.2.2.2.2.1
            have hBW := HW.out.2.2.2.2.2.2.2.2.1
            refine ⟨below_grownBy c1 R2.out (by omega) (Nat.le_refl _), c2.grown R2.out (fun k e => by simp only [Option.some.injEq] at e; exact .inr (.inr (by omega))), c3.kept R2.out (by simp only [ne_eq, Option.some.injEq]; omega), R1.out, c5'.kept R2.out ?_⟩
            exact own_apart c5' HO5.out (by decide)
          obtain ⟨h, hh⟩ : ∃ h, ns[y]? = some h := ⟨_, List.getElem?_eq_getElem (by rw [HNS.out.1]; exact HY.out.1)⟩
          obtain ⟨gn, offn, hna, hgn, heln⟩ := HW.out.2.2.1.2.2 (by have := HY.out.1; omega)
          have hgnw := (row_apart HW.out.2.2.1 HW.out.2.2.2.1 (fun v hv k => by obtain ⟨z, _, rfl⟩ := List.mem_map.1 hv; simp) gn offn (by have := HY.out.1; omega) hna).1
          have HH : Hid (ns[y]? = some h ∧ h.length = 32 ∧ w2.rangeAt gn (offn + y * 32) (U h)) := ⟨hh, HNS.out.2.2.2.1 h (List.mem_of_getElem? hh), rangeAt_same (heln y h hh) (H2.out.2.1.2 gn hgn hgnw hgnw)⟩
          have hgs0 : w2.cell? ⟨gs, 0, none⟩ = some (.slice an len cc) := Blk.cell (w := w2) ((H2.out.2.1.2 gs HW.out.2.2.2.2.2.2.2.2.2 HNE.out.1 HNE.out.1).trans HW.out.2.1) rfl
          have q2 : (y : Int) < (len : Int) := by have := HY.out.1; omega
          clear hh heln hgnw hgn hcy R1 R2
          rw [hna] at hgs0
          have HTL : Hid (told.length + 1 ≤ len) := by
            have := HY.out.2.2.1.told_len
            simp at this
            exact this
          go_wp2_with (first
            | (with_reducible change wpList _ _ _ ({ dst := some 43, op := _, type := _, pos := _, after := _, guard := _ } :: _) _ _
               refine wpList_load_mid rfl 34 (.tmp 42) rfl gn (offn + y * 32) rfl (U h) _ HH.out.2.2 Try.underlying34 rfl (info34 h HH.out.2.1) ?_)
            | (with_reducible change wpList _ _ _ ({ dst := some 44, op := _, type := _, pos := _, after := _, guard := _ } :: _) _ _
               refine wpList_bslice1 rfl (.tmp 43) rfl h HH.out.2.1 rfl ?_)
            | (with_reducible change wpList _ _ _ ({ dst := some 45, op := _, type := _, pos := _, after := _, guard := _ } :: _) _ _
               refine Hid.out ?_)
            | fail)
          show wpList _ _ _ _ _ _
          refine wpList_app rfl (.tmp 38) (.tmp 44) rfl W.heap.size (.slice p4 told.length c4) told.length (nmOf ns told) (some ⟨w2.heap.size, 0, none⟩) 1 1 [h] rfl rfl (H2.out.2.2.2.2.alloc _) (HsR.one w2 h HH.out.2.1) (by have := HTL.out; have := HA.out.2.1; omega) (by have := H2.out.2.1.1; simp; omega) ?_
          intro v4 w3 r1 r2 r3
          have hlt4 := H2.out.2.2.2.2.lt
          have H3 : Hid (OInv w W w3 gw len ns ab wt0 (told ++ [y]) (ab.getD y []) wt ys (.slice (some ⟨g, 0, none⟩) ys.length c5) v4) := by
            obtain ⟨c1, c2, c3, c4', c5'⟩ := H2.out
            have hb1 := below_new w2 (.cells (U h).toArray 34)
            have hsz := HW.out.1.size
            have hgw := HW.out.2.2.2.2.2.2.1
            have hBW := HW.out.2.2.2.2.2.2.2.2.1
            have hnm : nmOf ns (told ++ [y]) = nmOf ns told ++ [h] := by
              simp only [nmOf, List.map_append, List.map_cons, List.map_nil, List.getD_eq_getElem?_getD, HH.out.1, Option.getD_some]
            refine ⟨below_grown' (c1.trans (hb1.mono c1.size)) r2 (fun k e => by have := (hlt4 k e).1; omega) (Nat.le_refl _), (c2.below hb1).grown r2 (fun k e => .inr (.inr (hlt4 k e).1)), (c3.below hb1 c3.lt).kept r2 (fun e => by have := (hlt4 gw e.symm).1; omega), (own_keep c4' hb1).kept r2 (own_apart c4' c5' (by decide)), ?_, HY.out.2.2.1, HY.out.2.2.2⟩
            rw [hnm, List.length_append]
            exact r1
          obtain ⟨p6, c6, rfl⟩ := own_slice r1
          clear r1 r2 r3 hlt4 hgs0 H2
          obtain ⟨row, hrow⟩ : ∃ row, ab[y]? = some row := ⟨_, List.getElem?_eq_getElem (by rw [HNS.out.2.2.2.2.1]; exact HY.out.1)⟩
          obtain ⟨vy, hvy⟩ : ∃ vy, L[y]? = some vy := ⟨_, List.getElem?_eq_getElem (by rw [HW.out.2.2.2.2.1.len, HNS.out.2.2.2.2.1]; exact HY.out.1)⟩
          have hrw := HW.out.2.2.2.2.1.rows y vy row hvy hrow
          obtain ⟨pr, cr, rfl⟩ := own_slice hrw
          have HRW : Hid (ab.getD y [] = row ∧ W.ownsRow B 3 1 (.slice pr row.length cr) row.length (IV row) ∧ (∀ n ∈ row, n < len) ∧ row.length ≤ 1000000) := by
            refine ⟨getD_at hrow, hrw, HCP.out.2.1 row (List.mem_of_getElem? hrow), ?_⟩
            have := webA_bound ns l row (by rw [HEQ.out.1]; exact List.mem_of_getElem? hrow)
            have := HA.out.2.2
            omega
          have hgs1 : w3.cell? ⟨gs, 1, none⟩ = some (.slice (some ⟨ga, 0, none⟩) len len) := Blk.cell (w := w3) ((H3.out.2.1.2 gs HW.out.2.2.2.2.2.2.2.2.2 HNE.out.1 HNE.out.1).trans HW.out.2.1) rfl
          have hgay : w3.cell? ⟨ga, y, none⟩ = some (.slice pr row.length cr) := Blk.cell (w := w3) ((H3.out.2.1.2 ga (by have := HW.out.2.2.2.2.2.2.2.1; have := HW.out.2.2.2.2.2.2.2.2.1; omega) HNE.out.2 HNE.out.2).trans HW.out.2.2.2.2.1.blk) hvy
          have q3 : (row.length : Int) ≤ 1000000 := by have := HRW.out.2.2.2; omega
          clear hrow hvy hrw
          go_wp2
          clear hgs1 hgay
          obtain ⟨W1, hW1⟩ : ∃ W1, W1 = wr := ⟨_, rfl⟩
          subst hW1
          go_loopw [52, 5] (fun u v wr => ∃ (j : Nat) (wt ready : List Nat) (p5 : Option Addr) (n5 c5 : Nat), u = .int .i64 (j : Int) ∧ v = .slice p5 n5 c5 ∧ Hid (j ≤ row.length ∧ OInv w W wr gw len ns ab wt0 (told ++ [y]) (row.drop j) wt ready (.slice p5 n5 c5) (.slice p6 (told.length + 1) c6) ∧ ready.length = n5)) (fun u _ _ => row.length - (intOf u).toNat)
          case atStart => exact ⟨0, wt, ys, some ⟨g, 0, none⟩, ys.length, c5, rfl, rfl, ⟨Nat.zero_le _, by have := H3.out; rw [HRW.out.1] at this; exact this, rfl⟩⟩
          case round =>
            obtain ⟨j, wt2, ready2, p5, n5, c5', rfl, rfl, HJ⟩ := hrel
            by_cases hj : j < row.length
            · obtain ⟨m, hm⟩ : ∃ m, row[j]? = some m := ⟨_, List.getElem?_eq_getElem hj⟩
              obtain rfl : n5 = ready2.length := HJ.out.2.2.symm
              obtain ⟨c1, c2, c3, c4', c5'', c6', c7⟩ := HJ.out.2.1
              have hdr : row.drop j = m :: row.drop (j + 1) := by
                rw [List.drop_eq_getElem_cons hj]
                have := (List.getElem?_eq_some_iff.1 hm).2
                rw [this]
              rw [hdr] at c6'
              have hml : m < len := HRW.out.2.2.1 m (List.mem_of_getElem? hm)
              obtain ⟨q, hq⟩ : ∃ q, wt2.getD m 0 = q + 1 := by
                have := c6'.pos hml (HCP.out.1 (told ++ [y]) c6'.nd (fun n hn => (c6'.zero n hn).1) m hml)
                exact ⟨wt2.getD m 0 - 1, by omega⟩
              have hwl : m < wt2.length := by rw [c6'.len]; exact hml
              have hwm : wt2[m]? = some (q + 1) := by
                rw [List.getD_eq_getElem?_getD, List.getElem?_eq_getElem hwl] at hq
                rw [List.getElem?_eq_getElem hwl]
                simp at hq
                rw [hq]
              obtain ⟨gr, hgr⟩ : ∃ gr, pr = some ⟨gr, 0, none⟩ := by
                rcases own_out HRW.out.2.1 with ⟨h, h0⟩ | ⟨gr, cap5, Lr, h, _⟩
                · rw [h0] at hj; simp at hj
                · simp only [Value.slice.injEq] at h
                  exact ⟨gr, h.1⟩
              subst hgr
              have hgrl := HRW.out.2.1.lt gr rfl
              have hcr : wr.cell? ⟨gr, j, none⟩ = some (.int .i64 (m : Int)) := by
                have h1 := HRW.out.2.1.cells (g := gr) rfl j (.int .i64 (m : Int)) (IV_get row j m hm)
                rw [Addr.add_lit] at h1
                rw [← Nat.zero_add j, ← h1]
                have hne : gr ≠ gw := by have := hgrl.1; have := HW.out.2.2.2.2.2.2.1; omega
                exact cell_same (c2.2 gr hgrl.2 hne hne) _
              have hgs2 : wr.cell? ⟨gs, 2, none⟩ = some (.slice (some ⟨gw, 0, none⟩) len len) := Blk.cell (w := wr) ((c2.2 gs HW.out.2.2.2.2.2.2.2.2.2 HNE.out.1 HNE.out.1).trans HW.out.2.1) rfl
              have hcw : wr.cell? ⟨gw, m, none⟩ = some (.int .i64 ((q : Int) + 1)) := by
                have := c3.cell (IV_get wt2 m (q + 1) hwm)
                simpa using this
              have HQ : Hid (q + 1 ≤ 2000000) := by
                show _ ≤ _
                have h1 := c6'.eq m hml
                have h2 : wt0.getD m 0 ≤ 100000 := by
                  rw [List.getD_eq_getElem?_getD, List.getElem?_eq_getElem (by rw [HNS.out.2.2.2.2.2]; exact hml)]
                  exact HCP.out.2.2 _ (List.getElem_mem _)
                have h3 : (m :: row.drop (j + 1)).count m ≤ row.length := by
                  rw [← hdr]
                  have := List.count_le_length (a := m) (l := row.drop j)
                  rw [List.length_drop] at this
                  omega
                have := HRW.out.2.2.2
                omega
              have HM : Hid (j < row.length ∧ row[j]? = some m ∧ m < len ∧ wt2.getD m 0 = q + 1 ∧ OI len ab wt0 (told ++ [y]) (m :: row.drop (j + 1)) wt2 ready2 ∧ m < wt2.length) := ⟨hj, hm, hml, hq, c6', hwl⟩
              have q4 : (j : Int) < (row.length : Int) := by omega
              have q6 : (m : Int) < (len : Int) := by omega
              have q7 : (q : Int) + 1 ≤ 2000000 := by have := HQ.out; omega
              have HX : Hid (Below w.heap.size w wr ∧ Fr W.heap.size W wr gw gw ∧ Blk wr gw 3 (IV wt2) ∧ wr.ownsRow W.heap.size 3 1 (.slice p5 ready2.length c5') ready2.length (IV ready2) ∧ wr.ownsRow W.heap.size 34 32 (.slice p6 (told.length + 1) c6) (told ++ [y]).length (UU (nmOf ns (told ++ [y])))) := ⟨c1, c2, c3, c4', c5''⟩
              clear hj hm hdr hml hq hwl hwm hgrl c1 c2 c3 c4' c5'' c6'
              go_wp2_with (first
                | (with_reducible change wpList _ _ _ ({ dst := none, op := Op.store 3 _ _, type := _, pos := _, after := _, guard := _ } :: _) _ _
                   refine Hid.out ?_)
                | fail)
              show wpList _ _ _ _ _ _
              refine wpList_storeI rfl (.tmp 62) (.tmp 61) rfl gw m q wt2 rfl (by first | rfl | (show Value.int .i64 _ = _; congr 1; omega)) HX.out.2.2.1 HM.out.2.2.2.2.2 ?_
              intro w4 s1 s2
              have hgwW : gw < W.heap.size := by have := HW.out.2.2.2.2.2.2.1; have := HW.out.2.2.2.2.2.2.2.2.1; omega
              have HX4 : Hid (Below w.heap.size w w4 ∧ Fr W.heap.size W w4 gw gw ∧ Blk w4 gw 3 (IV (wt2.set m q)) ∧ w4.ownsRow W.heap.size 3 1 (.slice p5 ready2.length c5') ready2.length (IV ready2) ∧ w4.ownsRow W.heap.size 34 32 (.slice p6 (told.length + 1) c6) (told ++ [y]).length (UU (nmOf ns (told ++ [y])))) := by
                obtain ⟨d1, d2, d3, d4, d5⟩ := HX.out
                exact ⟨below_grownBy d1 s2 HW.out.2.2.2.2.2.1 (Nat.le_refl _), d2.grown s2 (fun k e => by simp only [Option.some.injEq] at e; exact .inl e.symm), s1, own_wrote d4 s2 hgwW, own_wrote d5 s2 hgwW⟩
              have hgs4 : w4.cell? ⟨gs, 2, none⟩ = some (.slice (some ⟨gw, 0, none⟩) len len) := Blk.cell (w := w4) ((HX4.out.2.1.2 gs HW.out.2.2.2.2.2.2.2.2.2 HNE.out.1 HNE.out.1).trans HW.out.2.1) rfl
              have hcw4 : w4.cell? ⟨gw, m, none⟩ = some (.int .i64 (q : Int)) := s1.cell (IV_get _ m q (by rw [List.getElem?_set_self HM.out.2.2.2.2.2]))
              clear s1 s2 hgwW HX HJ hgs2 hcw hcr
              by_cases hq0 : q = 0
              · subst hq0
                simp only [Int.ofNat_zero] at hcw4
                obtain ⟨k, hk⟩ : ∃ k, ready2.countP (fun y => decide (y < m)) = k := ⟨_, rfl⟩
                have hkl : k ≤ ready2.length := by rw [← hk]; exact List.countP_le_length
                have hrl := HM.out.2.2.2.2.1.ready_len
                have hsea := sea_is w4 W.heap.size (.slice p5 ready2.length c5') ready2 m HX4.out.2.2.2.1 HM.out.2.2.2.2.1.rise (by have := HA.out.2.1; omega)
                rw [hk] at hsea
                have HKK : Hid (ready2.countP (fun y => decide (y < m)) = k ∧ k ≤ ready2.length ∧ ready2.length ≤ 100000) := ⟨hk, hkl, by have := HA.out.2.1; omega⟩
                have HSEA : Hid (Calls Try.prog 37 #[.slice p5 ready2.length c5', .int .i64 (m : Int)] w4 fun e w' => (∃ b : Bool, e = .returned (.tuple #[.int .i64 (k : Int), .bool b])) ∧ ∃ q, w' = w4.drewN q) := hsea
                clear hsea hk hkl hrl
                go_wp2_with fail
                refine HSEA.out.mono ?_
                rintro e w5 ⟨⟨b, rfl⟩, qq, rfl⟩
                dsimp only
                obtain ⟨W5, hW5⟩ : ∃ W5, w4.drewN qq = W5 := ⟨_, rfl⟩
                have HX5 : Hid (Below w.heap.size w W5 ∧ Fr W.heap.size W W5 gw gw ∧ Blk W5 gw 3 (IV (wt2.set m 0)) ∧ W5.ownsRow W.heap.size 3 1 (.slice p5 ready2.length c5') ready2.length (IV ready2) ∧ W5.ownsRow W.heap.size 34 32 (.slice p6 (told.length + 1) c6) (told ++ [y]).length (UU (nmOf ns (told ++ [y])))) := by
                  rw [← hW5]
                  obtain ⟨d1, d2, d3, d4, d5⟩ := HX4.out
                  exact ⟨⟨d1.os, d1.tape, d1.output, d1.size, d1.block⟩, d2, d3, d4, d5⟩
                rw [hW5]
                clear hW5 hgs4 hcw4 HX4 HSEA
                go_wp2_with (first
                  | (with_reducible change wpList _ _ _ ({ dst := some 78, op := _, type := _, pos := _, after := _, guard := _ } :: _) _ _
                     refine wpList_bs56 rfl (.tmp 77) rfl m rfl ?_)
                  | fail)
                have hvbn : (Value.slice p5 ready2.length c5').ownBlock ≠ some W5.heap.size := fun e => by have := (HX5.out.2.2.2.1.lt _ e).2; omega
                refine (ins_is (W5.alloc (.cells #[.int .i64 (m : Int)] 3)) W.heap.size (.slice p5 ready2.length c5') ready2 k m W5.heap.size (HX5.out.2.2.2.1.alloc _) HKK.out.2.1 (by have := HKK.out.2.2; omega) (by simpa using Blk.new W5 #[.int .i64 (m : Int)] 3) hvbn (by have := HX5.out.2.1.1; simp; omega)).mono ?_
                rintro e w6 ⟨v6, rfl, R1, R2, R3⟩
                dsimp only
                have hlt5 := HX5.out.2.2.2.1.lt
                have H9 : Hid (OInv w W w6 gw len ns ab wt0 (told ++ [y]) (row.drop (j + 1)) (wt2.set m 0) (insAt k m ready2) v6 (.slice p6 (told.length + 1) c6)) := by
                  obtain ⟨d1, d2, d3, d4, d5⟩ := HX5.out
                  have hb1 := below_new W5 (.cells #[.int .i64 (m : Int)] 3)
                  have hsz := HW.out.1.size
                  have hgw := HW.out.2.2.2.2.2.2.1
                  have hBW := HW.out.2.2.2.2.2.2.2.2.1
                  refine ⟨below_grown' (d1.trans (hb1.mono d1.size)) R2.out (fun g e => by have := (hlt5 g e).1; omega) (Nat.le_refl _), (d2.below hb1).grown R2.out (fun g e => .inr (.inr (hlt5 g e).1)), (d3.below hb1 d3.lt).kept R2.out (fun e => by have := (hlt5 gw e.symm).1; omega), by rw [insAt_length]; exact R1.out, (own_keep d5 hb1).kept R2.out (own_apart d5 d4 (by decide)), ?_, c7⟩
                  have := HM.out.2.2.2.2.1.step1 HM.out.2.2.1 HM.out.2.2.2.1
                  rw [HKK.out.1] at this
                  exact this
                obtain ⟨p9, c9, rfl⟩ := own_slice R1.out
                clear R1 R2 R3 hlt5 hvbn
                go_wp2
                refine ⟨⟨j + 1, wt2.set m 0, insAt k m ready2, p9, ready2.length + 1, c9, by simp, rfl, ⟨HM.out.1, H9.out, insAt_length⟩⟩, ?_⟩
                have := HM.out.1; simp [intOf]; omega
              · have q8 : ¬ (q : Int) = 0 := by omega
                have H9 : Hid (OInv w W w4 gw len ns ab wt0 (told ++ [y]) (row.drop (j + 1)) (wt2.set m q) ready2 (.slice p5 ready2.length c5') (.slice p6 (told.length + 1) c6)) := by
                  obtain ⟨d1, d2, d3, d4, d5⟩ := HX4.out
                  exact ⟨d1, d2, d3, d4, d5, HM.out.2.2.2.2.1.step0 HM.out.2.2.1 HM.out.2.2.2.1 hq0, c7⟩
                clear c7 HX4 HQ q7
                go_wp2
                refine ⟨⟨j + 1, wt2.set m q, ready2, p5, ready2.length, c5', by simp, rfl, ⟨HM.out.1, H9.out, rfl⟩⟩, ?_⟩
                have := HM.out.1; simp [intOf]; omega
            · have q4 : ¬ (j : Int) < (row.length : Int) := by omega
              go_wp2
              refine ⟨⟨told ++ [y], wt2, ready2, p5, n5, c5', ⟨rfl, rfl, rfl⟩, p6, told.length + 1, c6, ⟨rfl, rfl, rfl⟩, ⟨?_, HJ.out.2.2, by simp⟩⟩, ?_⟩
              · have := HJ.out.2.1
                rw [List.drop_of_length_le (by omega)] at this
                exact this
              · have := HTL.out; simp [lenOf]; omega
#print axioms orderOf_is
end Go.Proofs.Ytijkpkcopjkhkaa.Oct
