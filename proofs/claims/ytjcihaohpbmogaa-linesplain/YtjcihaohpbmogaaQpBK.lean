/-
  Layer 11 (lines): Kill.
-/
import Derived.Test.YtjcihaohpbmogaaQpBJ
/- Layer 11 (lines): Kill. -/
namespace Go.Proofs.Ytjcihaohpbmogaa.Oct
open Go.RowKit
set_option maxRecDepth 100000
set_option linter.unusedSimpArgs false
set_option linter.unusedVariables false
set_option linter.unusedSectionVars false

/-- the kills turned -/
def turnP (f : List Hs → List Hs) (ps : List PL) (v : Vx) : List PL := ps.map fun q => if q.v = v then { q with kills := f q.kills } else q
theorem turn_ls {A B : List Ln} {l : Ln} (f : List Hs → List Hs) (hnd : ((A ++ l :: B).map (·.p.v)).Nodup) (l' : Ln) (hl : l'.p = { l.p with kills := f l.p.kills }) : (A ++ l' :: B).map (·.p) = turnP f ((A ++ l :: B).map (·.p)) l.p.v := by
  unfold turnP
  rw [List.map_append, List.map_cons, List.map_append, List.map_cons, List.map_append, List.map_cons, if_pos rfl, hl]
  rw [List.map_append, List.map_cons, List.nodup_append] at hnd
  have hA : ∀ x ∈ A, x.p.v ≠ l.p.v := fun x hx e => hnd.2.2 x.p.v (List.mem_map.2 ⟨x, hx, rfl⟩) l.p.v (List.mem_cons_self) e
  have hB : ∀ x ∈ B, x.p.v ≠ l.p.v := fun x hx e => (List.nodup_cons.1 hnd.2.1).1 (e ▸ List.mem_map.2 ⟨x, hx, rfl⟩)
  congr 1
  · rw [List.map_map]
    exact List.map_congr_left fun x hx => by simp [hA x hx]
  · congr 1
    rw [List.map_map]
    exact List.map_congr_left fun x hx => by simp [hB x hx]
theorem split_at {G : Gm} {l : Ln} (h : l ∈ G.ls) : ∃ A B, G.ls = A ++ l :: B := List.append_of_mem h
theorem nodup_hid {L : List Nat} (h : L.Nodup) : Hid (L.Nodup) := h
theorem Ln.bl_eq (l : Ln) : l.bl = l.blk :: l.rb :: l.kb.toList := by
  unfold Ln.bl
  cases l.kb <;> rfl
theorem eq84 (m : Nat) (W : World) : (binOp BinOp.eql 84 (.map (some m)) (.map none)).run Try.prog W = .ok (.bool false) W := by kernel_rfl
theorem eq84n (W : World) : (binOp BinOp.eql 84 (.map none) (.map none)).run Try.prog W = .ok (.bool true) W := by kernel_rfl
theorem cells_set {l : Ln} (hd : l.p.down.ok) (m : Option Nat) (f : List Hs) : ({ l with p := { l.p with kills := f }, kb := m } : Ln).cells = l.cells.set 35 (.map m) := by
  unfold Ln.cells
  simp only [List.set_cons_succ]
  rw [List.set_append_right _ _ (by rw [Vx.len hd]; omega), Vx.len hd]
  rfl
def killE (ps : List PL) (v : Vx) (y : Hs) : Int := if isE v then 2 else match getP ps v with
  | none => 111
  | some q => if y ∈ q.kills then 110 else 0
def unkillE (ps : List PL) (v : Vx) (y : Hs) : Int := if isE v then 2 else match getP ps v with
  | none => 111
  | some q => if y ∉ q.kills then 111 else 0
set_option maxHeartbeats 8000000 in
theorem kill_is {w : World} {p : Nat} {G : Gm} (h : GAt w p G) (v : Vx) (hv : Vk v) (y : Hs) (hy : MK.ok y) (X : List Value) (hX : v.cells = X) (Y : List Value) (hY : U y = Y) (E : Int) (hE : killE G.ps v y = E) (PS : List PL) (hPS : (if E = 0 then turnP ((· ++ [y])) G.ps v else G.ps) = PS) :
    Calls Try.prog 21 #[.pointer (some ⟨p, 0, none⟩), .agg X.toArray, .agg Y.toArray] w fun e w' => e = .returned (iv E) ∧ ∃ G', GAfter w p G G' w' ∧ G'.ps = PS := by
  subst hX
  obtain ⟨d4, hd4⟩ : ∃ d, w.heap.size = d := ⟨_, rfl⟩
  obtain ⟨W1, hW4⟩ : ∃ W, w.alloc (.cells v.cells.toArray 34) = W := ⟨_, rfl⟩
  have bd4 : Below w.heap.size w W1 := by rw [← hW4]; exact below_al _ _
  have kd4 : Blk W1 d4 34 v.cells := by rw [← hW4, ← hd4]; exact Blk.new w _ _
  obtain ⟨d5, hd5⟩ : ∃ d, W1.heap.size = d := ⟨_, rfl⟩
  obtain ⟨W2, hW5⟩ : ∃ W, W1.alloc (.cells Y.toArray 32) = W := ⟨_, rfl⟩
  have bd5 : Below W1.heap.size W1 W2 := by rw [← hW5]; exact below_al _ _
  have kd5 : Blk W2 d5 32 Y := by rw [← hW5, ← hd5]; exact Blk.new W1 _ _
  have S0 : Hid (Below w.heap.size w W2 ∧ Blk W2 d4 34 v.cells ∧ Blk W2 d5 32 Y ∧ GAt W2 p G ∧ w.heap.size ≤ d5) := by
    refine ⟨below_tr bd4 bd5, kd4.below bd5 kd4.lt, kd5, h.below (below_tr bd4 bd5), ?_⟩
    rw [← hd5]
    exact bd4.size
  have h1 := Vx.one v
  have h2 := Try.underlying34
  have h3 := info34 hv.1
  have h4 := Vx.len hv.1
  have HV : Hid (Vk v) := hv
  have HYY : Hid (MK.ok y ∧ U y = Y) := ⟨hy, hY⟩
  have HG0 : Hid (GAt w p G) := h
  have h5 : ∀ x ∈ Y, x.oneCell' = true := by rw [← hY]; exact U_one y
  have h6 := Try.underlying32
  have h7 : (Try.prog.info? 32).map (·.size) = some Y.length := by rw [← hY]; exact info32 y hy
  have h8 : Y.length = 32 := by rw [← hY, U_length]; exact hy
  have HI7 : Hid ((Try.prog.info? 32).map (·.size) = some Y.length) := h7
  have HE : Hid (killE G.ps v y = E) := hE
  have HPS : Hid ((if E = 0 then turnP (· ++ [y]) G.ps v else G.ps) = PS) := hPS
  clear h hv hY hy bd4 bd5 kd4 kd5 hE hPS
  go_enter Try.func21, Try.ntmps21
  go_wp2_with (first
    | (with_reducible change wpList _ _ _ ({ dst := some 13, op := _, type := _, pos := _, after := _, guard := _ } :: _) _ _
       refine wpList_load_want rfl 34 (.tmp 4) rfl d4 0 rfl v.cells _ S0.out.2.1.range0 Try.underlying34 rfl (info34 HV.out.1) ?_)
    | fail)
  clear hW4 hW5 hd4 hd5 h1 h3 h4 h5 h7 h8
  obtain ⟨E0, hE0⟩ : ∃ E, G.fnd v = E := ⟨_, rfl⟩
  refine (find_is S0.out.2.2.2.1 v HV.out v.cells rfl E0 hE0 _ rfl).mono ?_
  rintro e V ⟨rfl, hb⟩
  have S1 : Hid (Below w.heap.size w V ∧ Blk V d5 32 Y ∧ GAt V p G ∧ w.heap.size ≤ d5) := ⟨below_tr S0.out.1 hb, S0.out.2.2.1.below hb S0.out.2.2.1.lt, S0.out.2.2.2.1.below hb, S0.out.2.2.2.2⟩
  clear hb S0
  by_cases hE : E0 = 0
  · subst hE
    have hgk : isE v = false ∧ v ∈ G.keys := by
      unfold Gm.fnd at hE0
      split at hE0
      · cases hE0
      · rename_i h1
        split at hE0
        · exact ⟨by simpa using h1, by assumption⟩
        · cases hE0
    obtain ⟨l, hl⟩ := Option.isSome_iff_exists.1 (get_some.trans (decide_eq_true hgk.2))
    have hl1 := get_mem hl
    have hEE : E = if y ∈ l.p.kills then 110 else 0 := by
      rw [← HE.out]
      show killE G.ps v y = _
      unfold killE
      rw [← get_ps, hl, hgk.1]
      rfl
    have HL : Hid (l ∈ G.ls ∧ l.p.v = v) := hl1
    have HEE := hid_of hEE
    rw [if_pos rfl, hl]
    clear hl hl1 hgk hE0 hEE
    obtain ⟨kb, hkb⟩ : ∃ kb, l.kb = kb := ⟨_, rfl⟩
    have HKB := hid_of hkb
    have ck : V.cell? ⟨l.blk, 35, none⟩ = some (.map kb) := by
      rw [← hkb]
      refine (S1.out.2.2.1.ln HL.out.1).cell ?_
      have hd := ((S1.out.2.2.1.ok l HL.out.1).down).1
      unfold Ln.cells
      rw [List.getElem?_cons_succ, List.getElem?_cons_succ, List.getElem?_append_right (by rw [Vx.len hd]; exact Nat.le_refl 33), Vx.len hd]
      rfl
    obtain ⟨B, hB⟩ : ∃ B, decide (y ∈ l.p.kills) = B := ⟨_, rfl⟩
    have HBB := hid_of hB
    have HK : Hid (∀ U1, Below V.heap.size V U1 → (Instr.lookup 84 (.map kb) (.agg Y.toArray) true).run Try.prog U1 = .ok (.tuple #[.agg #[], .bool B]) U1) := by
      intro U1 hb1
      rw [← HYY.out.2]
      cases hk : kb with
      | none =>
        have hno := (S1.out.2.2.1.ok l HL.out.1).no (by rw [HKB.out, hk])
        have : B = false := by rw [← hB, hno]; rfl
        rw [this]
        exact lookn HYY.out.1 U1
      | some k =>
        have hm := (S1.out.2.2.1.kl HL.out.1 (k := k) (by rw [HKB.out, hk])).same (hb1.block k (S1.out.2.2.1.kl HL.out.1 (k := k) (by rw [HKB.out, hk])).lt)
        have h9 := hm.look2 (t := 84) (E := 90) (h := y) Try.underlying84 HYY.out.1 (zero90 U1)
        rw [unitH_eq, khas_unit, kget_unit] at h9
        by_cases hm2 : y ∈ l.p.kills
        · simp only [hm2, decide_true] at h9 hB
          subst hB
          exact h9
        · simp only [hm2, decide_false] at h9 hB
          subst hB
          exact h9
    clear hkb hB
    obtain ⟨lb, hlb⟩ : ∃ b, l.blk = b := ⟨_, rfl⟩
    have HLB := hid_of hlb
    rw [hlb] at ck
    rw [show ptrOf (some l) = .pointer (some ⟨lb, 0, none⟩) by rw [← hlb]; rfl]
    clear hlb
    have HBL : Hid (lb < V.heap.size ∧ d5 < V.heap.size) := ⟨by rw [← HLB.out]; exact (S1.out.2.2.1.ln HL.out.1).lt, S1.out.2.1.lt⟩
    go_wp2_with fail
    refine kl21_4 HBL ck S1.out.2.1.range0 HI7 HK ?_
    intro V2 q hb
    have S2 : Hid (Below w.heap.size w V2 ∧ Blk V2 d5 32 Y ∧ GAt V2 p G ∧ w.heap.size ≤ d5) := ⟨below_tr S1.out.1 hb, S1.out.2.1.below hb S1.out.2.1.lt, S1.out.2.2.1.below hb, S1.out.2.2.2⟩
    have ck2 : V2.cell? ⟨lb, 35, none⟩ = some (.map kb) := (hb.cell (p := ⟨lb, 35, none⟩) HBL.out.1).trans ck
    clear ck hb HK
    cases B with
    | true =>
      have hm : y ∈ l.p.kills := of_decide_eq_true HBB.out
      have HE1 : Hid (E = 110) := by rw [HEE.out, if_pos hm]; rfl
      clear hm
      go_wp2
      go_ret
      refine ⟨by rw [HE1.out]; rfl, G, .same HG0.out S2.out.1, ?_⟩
      rw [← HPS.out, if_neg (by rw [HE1.out]; decide)]
    | false =>
      have hm : y ∉ l.p.kills := of_decide_eq_false HBB.out
      have HE1 : Hid (E = 0 ∧ y ∉ l.p.kills) := ⟨by rw [HEE.out, if_neg hm], hm⟩
      clear hm
      cases kb with
      | some m =>
        have HM0 : Hid (MP V2 m (unitK l.p.kills)) := S2.out.2.2.1.kl HL.out.1 HKB.out
        have hnd := S2.out.2.2.1.ln_nd HL.out.1
        rw [Ln.bl_eq, HKB.out] at hnd
        have HND : Hid (lb ≠ m ∧ l.rb ≠ m) := by
          rw [HLB.out] at hnd
          simp only [Option.toList, List.nodup_cons, List.mem_cons, List.not_mem_nil, or_false, not_or] at hnd
          exact ⟨hnd.1.2, hnd.2.1⟩
        clear hnd
        have h84 := eq84 m
        go_wp2_with fail
        clear h84
        have HD5 : Hid (d5 ≠ m) := by
          show d5 ≠ m
          intro e
          obtain ⟨es, ⟨clock, hb, _⟩, _⟩ := HM0.out
          have h9 := S2.out.2.1
          unfold Blk at h9
          rw [e, hb] at h9
          cases h9
        refine kl21_9 (y := y) (m := m) ⟨by rw [← HLB.out]; exact (S2.out.2.2.1.ln HL.out.1).lt, S2.out.2.1.lt⟩ ⟨HND.out.1, HD5.out⟩ ck2 S2.out.2.1.range0 HI7 HYY HM0 ?_
        intro V4 hk hm
        have HF : Hid (∃ G', GAfter w p G G' V4 ∧ G'.ps = turnP (· ++ [y]) G.ps v) := by
          obtain ⟨C, D, hs⟩ := split_at HL.out.1
          refine ⟨_, (S2.out.2.2.1.turn (l' := { l with p := { l.p with kills := l.p.kills ++ [y] } }) hs (hk.mono (fun j _ e => ?_)) rfl rfl (fun k hk => .inl hk) (show l.bl.Nodup from S2.out.2.2.1.ln_nd HL.out.1) ?_ ?_).first S2.out.1, ?_⟩
          · rw [e, Ln.bl_eq, HKB.out]
            simp
          · intro x hx
            unfold Ln.hp at hx
            rcases List.mem_cons.1 hx with rfl | hx
            · exact (hk.block _ (S2.out.2.2.1.ln HL.out.1).lt (by show ¬ l.blk = m; rw [HLB.out]; exact HND.out.1)).trans (S2.out.2.2.1.ln HL.out.1)
            rcases List.mem_cons.1 hx with rfl | hx
            · exact (hk.block _ (S2.out.2.2.1.row HL.out.1).lt HND.out.2).trans (S2.out.2.2.1.row HL.out.1)
            · simp only [HKB.out, killHp, List.mem_singleton] at hx
              subst hx
              rw [kput_unit, if_neg HE1.out.2] at hm
              exact hm
          · have ho := S2.out.2.2.1.ok l HL.out.1
            exact ⟨ho.v, ho.fr, ho.down, ho.ne, ho.row, ho.cap, ho.big, ho.len, fun h => by rw [show _ = l.kb from rfl, HKB.out] at h; cases h⟩
          · have hnd := S2.out.2.2.1.nodup
            unfold Gm.keys at hnd
            rw [hs] at hnd
            have := turn_ls (A := C) (B := D) (l := l) (· ++ [y]) hnd { l with p := { l.p with kills := l.p.kills ++ [y] } } rfl
            unfold Gm.ps
            rw [hs, ← HL.out.2]
            exact this
        clear hk hm
        go_wp2
        go_ret
        refine ⟨by rw [HE1.out.1]; rfl, ?_⟩
        obtain ⟨G', h1, h2⟩ := HF.out
        exact ⟨G', h1, by rw [h2, ← HPS.out, if_pos HE1.out.1]⟩
      | none =>
        have h84 := eq84n
        go_wp2_with (first
          | (with_reducible change wpList _ _ _ ({ dst := some 36, op := _, type := _, pos := _, after := _, guard := _ } :: _) _ _
             refine wpList_makeMap rfl 84 rfl ?_)
          | (with_reducible change wpList _ _ _ ({ dst := none, op := Op.store 84 _ _, type := _, pos := _, after := _, guard := _ } :: _) _ _
             refine Hid.out ?_)
          | fail)
        show wpList _ _ _ _ _ _
        clear h84
        obtain ⟨m, hme⟩ : ∃ m, V2.heap.size = m := ⟨_, rfl⟩
        obtain ⟨V3, hV3⟩ : ∃ U, V2.alloc (.map #[] 0) = U := ⟨_, rfl⟩
        have S3 : Hid (Below V2.heap.size V2 V3 ∧ GAt V3 p G ∧ MP V3 m ([] : Kv Hs) ∧ V2.heap.size = m ∧ Blk V3 d5 32 Y) := by
          have hb : Below V2.heap.size V2 V3 := by rw [← hV3]; exact below_al _ _
          refine ⟨hb, S2.out.2.2.1.below hb, ?_, hme, S2.out.2.1.below hb S2.out.2.1.lt⟩
          rw [← hV3, ← hme]
          exact MP.made V2
        rw [hV3, hme]
        clear hV3 hme ck2
        have hcl : l.cells[35]? = some (.map l.kb) := by
          have hd := ((S2.out.2.2.1.ok l HL.out.1).down).1
          unfold Ln.cells
          rw [List.getElem?_cons_succ, List.getElem?_cons_succ, List.getElem?_append_right (by rw [Vx.len hd]; exact Nat.le_refl 33), Vx.len hd]
          rfl
        have HBB3 : Hid (Blk V3 lb 86 l.cells) := by rw [← HLB.out]; exact S3.out.2.1.ln HL.out.1
        refine wpList_stc rfl 84 (.tmp 38) (.tmp 36) rfl (by kernel_rfl) (v := .map (some m)) rfl rfl rfl rfl HBB3.out (i := 35) hcl ?_
        intro V5 b1 b2
        have HLT : Hid (lb < V2.heap.size ∧ l.rb < V2.heap.size ∧ lb ≠ l.rb ∧ d5 < V2.heap.size ∧ d5 ≠ lb) := by
          have hnd := S2.out.2.2.1.ln_nd HL.out.1
          rw [Ln.bl_eq, HLB.out] at hnd
          simp only [List.nodup_cons, List.mem_cons, not_or] at hnd
          refine ⟨by rw [← HLB.out]; exact (S2.out.2.2.1.ln HL.out.1).lt, (S2.out.2.2.1.row HL.out.1).lt, hnd.1.1, S2.out.2.1.lt, ?_⟩
          intro e
          have h9 := S2.out.2.1
          have h8 := S2.out.2.2.1.ln HL.out.1
          rw [HLB.out] at h8
          unfold Blk at h9 h8
          rw [e, h8] at h9
          cases h9
        have S5 : Hid (Blk V5 lb 86 (l.cells.set 35 (.map (some m))) ∧ MP V5 m ([] : Kv Hs) ∧ Blk V5 d5 32 Y ∧ Keep (fun k => k = lb) V2 V5 ∧ Blk V5 l.rb 34 (FV l.p.fr ++ l.rest)) := by
          have hl := HLT.out
          have hm := S3.out.2.2.2.1
          refine ⟨b1, S3.out.2.2.1.same (b2.block m S3.out.2.2.1.lt (fun e => by have e := Option.some.inj e; omega)), (b2.block d5 S3.out.2.2.2.2.lt (fun e => by have e := Option.some.inj e; omega)).trans S3.out.2.2.2.2, (Keep.below (S := fun k => k = lb) S3.out.1).trans (Keep.grown (S := fun k => k = lb) b2 rfl) (fun _ h _ => h), (b2.block _ (S3.out.2.1.row HL.out.1).lt (fun e => by have e := Option.some.inj e; omega)).trans (S3.out.2.1.row HL.out.1)⟩
        have ck5 : V5.cell? ⟨lb, 35, none⟩ = some (.map (some m)) := S5.out.1.cell (by rw [List.getElem?_set_self (List.getElem?_eq_some_iff.1 hcl).1])
        clear b1 b2 hcl HBB3
        go_wp2_with fail
        refine kl21_9 (y := y) (m := m) (M := []) ⟨S5.out.1.lt, S5.out.2.2.1.lt⟩ ⟨by have := HLT.out.1; have := S3.out.2.2.2.1; omega, by have := HLT.out.2.2.2.1; have := S3.out.2.2.2.1; omega⟩ ck5 S5.out.2.2.1.range0 HI7 HYY S5.out.2.1 ?_
        intro V4 hk hm
        have HF : Hid (∃ G', GAfter w p G G' V4 ∧ G'.ps = turnP (· ++ [y]) G.ps v) := by
          obtain ⟨C, D, hs⟩ := split_at HL.out.1
          have hmm := S3.out.2.2.2.1
          have hl := HLT.out
          have hko := (S2.out.2.2.1.ok l HL.out.1).no HKB.out
          have hkk : Keep (fun k => k ∈ l.bl) V2 V4 := (S5.out.2.2.2.1.mono (T := fun k => k ∈ l.bl) (fun j _ e => by rw [e, Ln.bl_eq, HLB.out]; simp)).trans hk (fun j e hj => by omega)
          refine ⟨_, (S2.out.2.2.1.turn (l' := { l with p := { l.p with kills := l.p.kills ++ [y] }, kb := some m }) hs hkk rfl rfl (fun k hk => ?_) ?_ ?_ ?_).first S2.out.1, ?_⟩
          · rw [Ln.bl_eq] at hk ⊢
            simp only [Option.toList, List.mem_cons, List.not_mem_nil, or_false] at hk ⊢
            rcases hk with h | h | h
            · exact .inl (.inl h)
            · exact .inl (.inr (.inl h))
            · exact .inr (by omega)
          · rw [Ln.bl_eq]
            simp only [Option.toList, List.nodup_cons, List.mem_cons, List.not_mem_nil, or_false, not_or, not_false_eq_true, List.nodup_nil, and_true]
            rw [HLB.out]
            exact ⟨⟨hl.2.2.1, by omega⟩, by omega⟩
          · intro x hx
            unfold Ln.hp at hx
            rcases List.mem_cons.1 hx with rfl | hx
            · show Blk V4 l.blk 86 _
              rw [cells_set ((S2.out.2.2.1.ok l HL.out.1).down).1, HLB.out]
              exact hk.blk S5.out.1 (by omega)
            rcases List.mem_cons.1 hx with rfl | hx
            · exact hk.blk S5.out.2.2.2.2 (by show ¬ l.rb = m; omega)
            · simp only [killHp, List.mem_singleton] at hx
              subst hx
              show MP V4 m (unitH (l.p.kills ++ [y]))
              rw [hko]
              exact hm
          · have ho := S2.out.2.2.1.ok l HL.out.1
            exact ⟨ho.v, ho.fr, ho.down, ho.ne, ho.row, ho.cap, ho.big, ho.len, fun h => by cases h⟩
          · have hnd := S2.out.2.2.1.nodup
            unfold Gm.keys at hnd
            rw [hs] at hnd
            have := turn_ls (A := C) (B := D) (l := l) (· ++ [y]) hnd { l with p := { l.p with kills := l.p.kills ++ [y] }, kb := some m } rfl
            unfold Gm.ps
            rw [hs, ← HL.out.2]
            exact this
        clear hk hm
        go_wp2
        go_ret
        refine ⟨by rw [HE1.out.1]; rfl, ?_⟩
        obtain ⟨G', h1, h2⟩ := HF.out
        exact ⟨G', h1, by rw [h2, ← HPS.out, if_pos HE1.out.1]⟩
  · have HEN : Hid (E = E0 ∧ E0 ≠ 0) := by
      refine ⟨?_, hE⟩
      rw [← HE.out, ← hE0]
      unfold Gm.fnd killE
      rw [← get_ps]
      unfold Gm.fnd at hE0
      by_cases h1 : isE v = true
      · simp [h1]
      · have h1' : isE v = false := by simpa using h1
        rw [h1'] at hE0 ⊢
        by_cases h2 : v ∈ G.keys
        · exact absurd (by rw [← hE0]; simp [h2]) hE
        · have h3 : G.get v = none := by
            have h4 := get_some (G := G) (v := v)
            rw [decide_eq_false h2] at h4
            cases hg : G.get v with
            | none => rfl
            | some l => rw [hg] at h4; cases h4
          simp [h2, h3]
    have q1 : ¬ E0 = 0 := hE
    rw [if_neg hE]
    clear hE hE0
    go_wp2
    go_ret
    refine ⟨by rw [HEN.out.1]; rfl, G, .same HG0.out S1.out.1, ?_⟩
    rw [← HPS.out, if_neg (by rw [HEN.out.1]; exact HEN.out.2)]
end Go.Proofs.Ytjcihaohpbmogaa.Oct
