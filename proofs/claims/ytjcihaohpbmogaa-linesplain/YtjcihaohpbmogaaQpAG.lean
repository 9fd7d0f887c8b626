/-
  Layer 11 (lines): checkAdd.
  Layer 11 (lines): what changes of a graph leave of it in memory.
-/
import Derived.Test.YtjcihaohpbmogaaQpAF
/- Layer 11 (lines): checkAdd. -/
namespace Go.Proofs.Ytjcihaohpbmogaa.Oct
open Go.RowKit
set_option maxRecDepth 100000
set_option linter.unusedSimpArgs false
set_option linter.unusedVariables false
set_option linter.unusedSectionVars false

/-- what an addition would be answered; AH: is up ahead of down? -/
def Gm.addE (G : Gm) (AH : Bool) (up dn : Vx) (ids : List Vx) (tn : Nat) : Int :=
  if mayBe ids = false ∨ tn ≠ ids.length then 2 else if (ids.any fun v => decide (v ∈ G.keys)) = true then 110 else if G.has up = false ∨ G.has dn = false then 111 else if AH = false then 112 else if 512 < ids.length + G.ls.length then 3 else 0
set_option maxHeartbeats 4000000 in
theorem checkAdd_is {w : World} {p : Nat} {G : Gm} (h : GAt w p G) (hT : G.tied) (up dn : Vx) (hu : Vk up) (hd : Vk dn) (a : Option Addr) (n c : Nat) (ids : List Vx) (hr : VsR w a n ids) (hn : n ≤ 140737488355328) (ta : Option Addr) (tn tc : Nat) (AH : Bool) (hAH : AH = true ↔ G.ahd up dn) (E : Int) (hE : G.addE AH up dn ids tn = E) (XA XB : List Value) (hXA : up.cells = XA) (hXB : dn.cells = XB) :
    Calls Try.prog 49 #[.pointer (some ⟨p, 0, none⟩), .agg XA.toArray, .agg XB.toArray, .slice a n c, .slice ta tn tc] w fun e w' => e = .returned (iv E) ∧ Below w.heap.size w w' := by
  subst hXA
  subst hXB
  obtain ⟨d6, hdd6⟩ : ∃ d, w.heap.size = d := ⟨_, rfl⟩
  obtain ⟨W1, hWd6⟩ : ∃ W, w.alloc (.cells up.cells.toArray 34) = W := ⟨_, rfl⟩
  have bd6 : Below w.heap.size w W1 := by rw [← hWd6]; exact below_al _ _
  have kd6 : Blk W1 d6 34 up.cells := by rw [← hWd6, ← hdd6]; exact Blk.new w _ _
  obtain ⟨d7, hdd7⟩ : ∃ d, W1.heap.size = d := ⟨_, rfl⟩
  obtain ⟨W2, hWd7⟩ : ∃ W, W1.alloc (.cells dn.cells.toArray 34) = W := ⟨_, rfl⟩
  have bd7 : Below W1.heap.size W1 W2 := by rw [← hWd7]; exact below_al _ _
  have kd7 : Blk W2 d7 34 dn.cells := by rw [← hWd7, ← hdd7]; exact Blk.new W1 _ _
  have HT : Hid (G.tied ∧ Vk up ∧ Vk dn ∧ n ≤ 140737488355328 ∧ (AH = true ↔ G.ahd up dn)) := ⟨hT, hu, hd, hn, hAH⟩
  have HE : Hid (G.addE AH up dn ids tn = E) := hE
  have S0 : Hid (Below w.heap.size w W2 ∧ Blk W2 d6 34 up.cells ∧ Blk W2 d7 34 dn.cells ∧ GAt W2 p G ∧ VsR W2 a n ids) := ⟨below_tr bd6 bd7, kd6.below bd7 kd6.lt, kd7, h.below (below_tr bd6 bd7), hr.below (below_tr bd6 bd7)⟩
  have q0 : (n : Int) ≤ 140737488355328 := by omega
  have h1 := Vx.one up
  have h1b := Vx.one dn
  have h2 := Try.underlying34
  have h3 := info34 hu.1
  have h3b := info34 hd.1
  have h4 := Vx.len hu.1
  have h4b := Vx.len hd.1
  have hlen := hr.1
  obtain ⟨M, hM⟩ : ∃ M, mayBe ids = M := ⟨_, rfl⟩
  have HM : Hid (mayBe ids = M ∧ ids.length = n) := ⟨hM, hlen⟩
  clear bd6 bd7 kd6 kd7 h hT hu hd hr hn hAH hE hM hlen
  go_enter Try.func49, Try.ntmps49
  go_wp2_with fail
  clear hWd6 hWd7 hdd6 hdd7 h1 h1b h3 h3b h4 h4b
  refine (setOf_is W2 a n c ids S0.out.2.2.2.2 HT.out.2.2.2.1 M HM.out.1).mono ?_
  rintro e V ⟨m, rfl, _, _, hb⟩
  have S1 : Hid (Below w.heap.size w V ∧ Blk V d6 34 up.cells ∧ Blk V d7 34 dn.cells ∧ GAt V p G ∧ VsR V a n ids) := ⟨below_tr S0.out.1 hb, S0.out.2.1.below hb S0.out.2.1.lt, S0.out.2.2.1.below hb S0.out.2.2.1.lt, S0.out.2.2.2.1.below hb, S0.out.2.2.2.2.below hb⟩
  clear hb
  go_wp2_with fail
  refine (made_is S1.out.2.2.2.1).mono ?_
  rintro e w2 ⟨rfl, rfl⟩
  cases M with
  | false =>
    have HE2 : Hid (E = 2) := by
      show E = _
      rw [← HE.out]
      unfold Gm.addE
      rw [if_pos (.inl HM.out.1)]
    go_wp2
    go_ret
    rw [HE2.out]
    exact ⟨rfl, S1.out.1⟩
  | true =>
    by_cases hnn : tn = n
    · obtain rfl : n = tn := hnn.symm
      obtain ⟨C, hC⟩ : ∃ C, (ids.any fun v => decide (v ∈ G.keys)) = C := ⟨_, rfl⟩
      have HC : Hid (¬ (mayBe ids = false ∨ n ≠ ids.length) ∧ (ids.any fun v => decide (v ∈ G.keys)) = C) := ⟨by rw [HM.out.1, HM.out.2]; simp, hC⟩
      clear hC
      go_wp2_with fail
      refine (containsF_is V a n c ids S1.out.2.2.2.2 44 #[.pointer (some ⟨p, 0, none⟩)] #[] (fun v => decide (v ∈ G.keys)) (pred_line S1.out.2.2.2.1 ids S1.out.2.2.2.2.2.1) HT.out.2.2.2.1 C HC.out.2).mono ?_
      rintro e V2 ⟨rfl, hb⟩
      have S2 : Hid (Below w.heap.size w V2 ∧ Blk V2 d6 34 up.cells ∧ Blk V2 d7 34 dn.cells ∧ GAt V2 p G ∧ VsR V2 a n ids) := ⟨below_tr S1.out.1 hb, S1.out.2.1.below hb S1.out.2.1.lt, S1.out.2.2.1.below hb S1.out.2.2.1.lt, S1.out.2.2.2.1.below hb, S1.out.2.2.2.2.below hb⟩
      clear hb
      cases C with
      | true =>
        have HE2 : Hid (E = 110) := by
          show E = _
          rw [← HE.out]
          unfold Gm.addE
          rw [if_neg HC.out.1, if_pos HC.out.2]
        go_wp2
        go_ret
        rw [HE2.out]
        exact ⟨rfl, S2.out.1⟩
      | false =>
        obtain ⟨U, hU⟩ : ∃ U, G.has up = U := ⟨_, rfl⟩
        have HU : Hid (G.has up = U) := hU
        have HCf : Hid (¬ (ids.any fun v => decide (v ∈ G.keys)) = true) := by
          show ¬ _
          rw [HC.out.2]
          decide
        clear hU
        go_wp2_with (first
          | (with_reducible change wpList _ _ _ ({ dst := some 37, op := _, type := _, pos := _, after := _, guard := _ } :: _) _ _
             refine wpList_load_want rfl 34 (.tmp 6) rfl d6 0 rfl up.cells _ S2.out.2.1.range0 Try.underlying34 rfl (info34 HT.out.2.1.1) ?_)
          | fail)
        refine (has_is S2.out.2.2.2.1 up HT.out.2.1 up.cells rfl U HU.out).mono ?_
        rintro e V3 ⟨rfl, hb⟩
        have S3 : Hid (Below w.heap.size w V3 ∧ Blk V3 d6 34 up.cells ∧ Blk V3 d7 34 dn.cells ∧ GAt V3 p G ∧ VsR V3 a n ids) := ⟨below_tr S2.out.1 hb, S2.out.2.1.below hb S2.out.2.1.lt, S2.out.2.2.1.below hb S2.out.2.2.1.lt, S2.out.2.2.2.1.below hb, S2.out.2.2.2.2.below hb⟩
        clear hb
        cases U with
        | false =>
          have HE2 : Hid (E = 111) := by
            show E = _
            rw [← HE.out]
            unfold Gm.addE
            rw [if_neg HC.out.1, if_neg HCf.out, if_pos (.inl HU.out)]
          go_wp2
          go_ret
          rw [HE2.out]
          exact ⟨rfl, S3.out.1⟩
        | true =>
          obtain ⟨D, hD⟩ : ∃ D, G.has dn = D := ⟨_, rfl⟩
          have HD : Hid (G.has dn = D) := hD
          clear hD
          go_wp2_with (first
            | (with_reducible change wpList _ _ _ ({ dst := some 41, op := _, type := _, pos := _, after := _, guard := _ } :: _) _ _
               refine wpList_load_want rfl 34 (.tmp 7) rfl d7 0 rfl dn.cells _ S3.out.2.2.1.range0 Try.underlying34 rfl (info34 HT.out.2.2.1.1) ?_)
            | fail)
          refine (has_is S3.out.2.2.2.1 dn HT.out.2.2.1 dn.cells rfl D HD.out).mono ?_
          rintro e V4 ⟨rfl, hb⟩
          have S4 : Hid (Below w.heap.size w V4 ∧ Blk V4 d6 34 up.cells ∧ Blk V4 d7 34 dn.cells ∧ GAt V4 p G ∧ VsR V4 a n ids) := ⟨below_tr S3.out.1 hb, S3.out.2.1.below hb S3.out.2.1.lt, S3.out.2.2.1.below hb S3.out.2.2.1.lt, S3.out.2.2.2.1.below hb, S3.out.2.2.2.2.below hb⟩
          clear hb
          cases D with
          | false =>
            have HE2 : Hid (E = 111) := by
              show E = _
              rw [← HE.out]
              unfold Gm.addE
              rw [if_neg HC.out.1, if_neg HCf.out, if_pos (.inr HD.out)]
            go_wp2
            go_ret
            rw [HE2.out]
            exact ⟨rfl, S4.out.1⟩
          | true =>
            have HUD : Hid (¬ (G.has up = false ∨ G.has dn = false)) := by
              show ¬ _
              rw [HU.out, HD.out]
              simp
            go_wp2_with (first
              | (with_reducible change wpList _ _ _ ({ dst := some 46, op := _, type := _, pos := _, after := _, guard := _ } :: _) _ _
                 refine wpList_load_want rfl 34 (.tmp 6) rfl d6 0 rfl up.cells _ S4.out.2.1.range0 Try.underlying34 rfl (info34 HT.out.2.1.1) ?_)
              | (with_reducible change wpList _ _ _ ({ dst := some 47, op := _, type := _, pos := _, after := _, guard := _ } :: _) _ _
                 refine wpList_load_want rfl 34 (.tmp 7) rfl d7 0 rfl dn.cells _ S4.out.2.2.1.range0 Try.underlying34 rfl (info34 HT.out.2.2.1.1) ?_)
              | fail)
            refine (ahead_is S4.out.2.2.2.1 HT.out.1 up dn HT.out.2.1 HT.out.2.2.1 up.cells dn.cells rfl rfl AH HT.out.2.2.2.2).mono ?_
            rintro e V5 ⟨rfl, hb⟩
            have S5 : Hid (Below w.heap.size w V5 ∧ Blk V5 d6 34 up.cells ∧ Blk V5 d7 34 dn.cells ∧ GAt V5 p G ∧ VsR V5 a n ids) := ⟨below_tr S4.out.1 hb, S4.out.2.1.below hb S4.out.2.1.lt, S4.out.2.2.1.below hb S4.out.2.2.1.lt, S4.out.2.2.2.1.below hb, S4.out.2.2.2.2.below hb⟩
            clear hb
            cases AH with
            | false =>
              have HE2 : Hid (E = 112) := by
                show E = _
                rw [← HE.out]
                unfold Gm.addE
                rw [if_neg HC.out.1, if_neg HCf.out, if_neg HUD.out, if_pos rfl]
              go_wp2
              go_ret
              rw [HE2.out]
              exact ⟨rfl, S5.out.1⟩
            | true =>
              obtain ⟨k, hk⟩ : ∃ k, G.ls.length = k := ⟨_, rfl⟩
              have hk5 : k ≤ 512 := by rw [← hk]; exact S5.out.2.2.2.1.few
              have c0 : V5.cell? ⟨p, 0, none⟩ = some (.map (some G.mb)) := S5.out.2.2.2.1.blk.cell rfl
              have hl : (Builtin.len_ #[65] 3 #[.map (some G.mb)]).run Try.prog V5 = .ok (.int .i64 k) V5 := by
                have := S5.out.2.2.2.1.mp.len (t := 65) (E := 71) Try.underlying65 3
                rw [show (linesKv G.ls).length = k by rw [← hk]; simp [linesKv]] at this
                exact this
              have q5 : (k : Int) ≤ 512 := by omega
              have HK : Hid (G.ls.length = k) := hk
              clear hk hk5
              generalize G.mb = mb at c0 hl
              by_cases h5 : 512 < n + k
              · have q6 : 512 - (k : Int) < (n : Int) := by omega
                have HE2 : Hid (E = 3) := by
                  show E = _
                  rw [← HE.out]
                  unfold Gm.addE
                  rw [if_neg HC.out.1, if_neg HCf.out, if_neg HUD.out, if_neg (by decide), if_pos (by rw [HM.out.2, HK.out]; exact h5)]
                go_wp2
                go_ret
                rw [HE2.out]
                exact ⟨rfl, S5.out.1⟩
              · have q6 : ¬ 512 - (k : Int) < (n : Int) := by omega
                have HE2 : Hid (E = 0) := by
                  show E = _
                  rw [← HE.out]
                  unfold Gm.addE
                  rw [if_neg HC.out.1, if_neg HCf.out, if_neg HUD.out, if_neg (by decide), if_neg (by rw [HM.out.2, HK.out]; exact h5)]
                go_wp2
                go_ret
                rw [HE2.out]
                exact ⟨rfl, S5.out.1⟩
    · have q1 : ¬ (tn : Int) = (n : Int) := by omega
      have HE2 : Hid (E = 2) := by
        show E = _
        rw [← HE.out]
        unfold Gm.addE
        rw [if_pos (.inr (by rw [HM.out.2]; exact hnn))]
      go_wp2
      go_ret
      rw [HE2.out]
      exact ⟨rfl, S1.out.1⟩
set_option maxHeartbeats 1000000 in
theorem checkAdd_un {w : World} {g : Value} (h : Un w g) (up dn : Vx) (hu : Vk up) (hd : Vk dn) (a : Option Addr) (n c : Nat) (ids : List Vx) (hr : VsR w a n ids) (hn : n ≤ 140737488355328) (t : Value) (XA XB : List Value) (hXA : up.cells = XA) (hXB : dn.cells = XB) :
    Calls Try.prog 49 #[g, .agg XA.toArray, .agg XB.toArray, .slice a n c, t] w fun e w' => e = .returned (iv 1) ∧ Below w.heap.size w w' := by
  subst hXA
  subst hXB
  obtain ⟨d6, hdd6⟩ : ∃ d, w.heap.size = d := ⟨_, rfl⟩
  obtain ⟨W1, hWd6⟩ : ∃ W, w.alloc (.cells up.cells.toArray 34) = W := ⟨_, rfl⟩
  have bd6 : Below w.heap.size w W1 := by rw [← hWd6]; exact below_al _ _
  have kd6 : Blk W1 d6 34 up.cells := by rw [← hWd6, ← hdd6]; exact Blk.new w _ _
  obtain ⟨d7, hdd7⟩ : ∃ d, W1.heap.size = d := ⟨_, rfl⟩
  obtain ⟨W2, hWd7⟩ : ∃ W, W1.alloc (.cells dn.cells.toArray 34) = W := ⟨_, rfl⟩
  have bd7 : Below W1.heap.size W1 W2 := by rw [← hWd7]; exact below_al _ _
  have kd7 : Blk W2 d7 34 dn.cells := by rw [← hWd7, ← hdd7]; exact Blk.new W1 _ _
  have S0 : Hid (Below w.heap.size w W2 ∧ Un W2 g ∧ VsR W2 a n ids ∧ n ≤ 140737488355328) := ⟨below_tr bd6 bd7, h.below (below_tr bd6 bd7), hr.below (below_tr bd6 bd7), hn⟩
  have h1 := Vx.one up
  have h1b := Vx.one dn
  have h2 := Try.underlying34
  have h3 := info34 hu.1
  have h3b := info34 hd.1
  have h4 := Vx.len hu.1
  have h4b := Vx.len hd.1
  clear bd6 bd7 kd6 kd7 h hu hd hr hn
  go_enter Try.func49, Try.ntmps49
  go_wp2_with fail
  clear hWd6 hWd7 hdd6 hdd7 h1 h1b h3 h3b h4 h4b
  refine (setOf_is W2 a n c ids S0.out.2.2.1 S0.out.2.2.2 (mayBe ids) rfl).mono ?_
  rintro e V ⟨m, rfl, _, _, hb⟩
  have S1 : Hid (Below w.heap.size w V ∧ Un V g) := ⟨below_tr S0.out.1 hb, S0.out.2.1.below hb⟩
  clear hb
  generalize mayBe ids = M
  go_wp2_with fail
  refine (un_made S1.out.2).mono ?_
  rintro e w2 ⟨rfl, rfl⟩
  go_wp2
  go_ret
  exact ⟨rfl, S1.out.1⟩
end Go.Proofs.Ytjcihaohpbmogaa.Oct

/- Layer 11 (lines): what changes of a graph leave of it in memory. -/
namespace Go.Proofs.Ytjcihaohpbmogaa.Oct
open Go.RowKit
set_option maxRecDepth 100000
set_option linter.unusedSimpArgs false
set_option linter.unusedVariables false
set_option linter.unusedSectionVars false

def Ln.bl (l : Ln) : List Nat := l.blk :: l.rb :: (match l.kb with | none => [] | some k => [k])
theorem Ln.hp_bl (l : Ln) : l.hp.map (·.1) = l.bl := by
  unfold Ln.hp Ln.bl killHp
  cases l.kb <;> rfl
theorem Gm.bl_eq (G : Gm) (p : Nat) : G.bl p = p :: G.mb :: G.ls.flatMap Ln.bl := by
  unfold Gm.bl Gm.hp
  rw [List.map_cons, List.map_cons, List.map_flatMap]
  congr 2
  exact congrArg (fun f => List.flatMap f G.ls) (funext fun l => Ln.hp_bl l)
theorem Gm.bl_ln {G : Gm} {p k : Nat} {l : Ln} (hl : l ∈ G.ls) (hk : k ∈ l.bl) : k ∈ G.bl p := by
  rw [Gm.bl_eq]
  exact List.mem_cons_of_mem _ (List.mem_cons_of_mem _ (List.mem_flatMap.2 ⟨l, hl, hk⟩))
section
variable {w w' : World} {p : Nat} {G : Gm}
theorem GAt.nd (h : GAt w p G) : (G.bl p).Nodup := h.hp.apart
theorem GAt.lt (h : GAt w p G) : ∀ k ∈ G.bl p, k < w.heap.size := h.hp.lt
theorem GAt.mbp (h : GAt w p G) : G.mb ≠ p := by
  have := h.nd
  rw [Gm.bl_eq] at this
  simp only [List.nodup_cons, List.mem_cons, not_or] at this
  exact fun e => this.1.1 e.symm
theorem GAt.ne_ln (h : GAt w p G) {l : Ln} (hl : l ∈ G.ls) {k : Nat} (hk : k ∈ l.bl) : k ≠ p ∧ k ≠ G.mb := by
  have := h.nd
  rw [Gm.bl_eq] at this
  simp only [List.nodup_cons, List.mem_cons, not_or] at this
  have hm : k ∈ G.ls.flatMap Ln.bl := List.mem_flatMap.2 ⟨l, hl, hk⟩
  exact ⟨fun e => this.1.2 (e ▸ hm), fun e => this.2.1 (e ▸ hm)⟩
theorem flat_split (A B : List Ln) (l : Ln) : (A ++ l :: B).flatMap Ln.bl = A.flatMap Ln.bl ++ (l.bl ++ B.flatMap Ln.bl) := by
  rw [List.flatMap_append, List.flatMap_cons]
/-- the blocks of a line are apart from those of the others -/
theorem GAt.apart (h : GAt w p G) {A B : List Ln} {l : Ln} (hG : G.ls = A ++ l :: B) {k : Nat} (hk : k ∈ l.bl) : ∀ x ∈ A ++ B, k ∉ x.bl := by
  have := h.nd
  rw [Gm.bl_eq, hG, flat_split] at this
  simp only [List.nodup_cons] at this
  have h2 := this.2.2
  rw [List.nodup_append] at h2
  have h3 := h2.2.1
  rw [List.nodup_append] at h3
  intro x hx hkx
  rcases List.mem_append.1 hx with hx | hx
  · exact h2.2.2 k (List.mem_flatMap.2 ⟨x, hx, hkx⟩) k (List.mem_append_left _ hk) rfl
  · exact h3.2.2 k hk k (List.mem_flatMap.2 ⟨x, hx, hkx⟩) rfl
/-- a line is another one -/
theorem GAt.turn (h : GAt w p G) {A B : List Ln} {l l' : Ln} (hG : G.ls = A ++ l :: B) (hk : Keep (fun k => k ∈ l.bl) w w') (hv : l'.p.v = l.p.v) (hb : l'.blk = l.blk)
    (hfr : ∀ k ∈ l'.bl, k ∈ l.bl ∨ w.heap.size ≤ k) (hnd : l'.bl.Nodup) (hat : ∀ x ∈ l'.hp, x.2.at w' x.1) (hok : LnOk l') : GAfter w p G { G with ls := A ++ l' :: B } w' := by
  have hl : l ∈ G.ls := by rw [hG]; simp
  have hkv : linesKv (A ++ l' :: B) = linesKv G.ls := by
    rw [hG]
    unfold linesKv
    simp [hv, hb]
  refine ⟨⟨⟨?_, ?_⟩, ?_, ?_⟩, ?_, ?_⟩
  · intro x hx
    simp only [Gm.hp, List.mem_cons, List.mem_flatMap] at hx
    rcases hx with rfl | rfl | ⟨y, hy, hx⟩
    · exact (hk.block p h.blk.lt (fun e => (h.ne_ln hl e).1 rfl)).trans h.blk
    · show MP w' G.mb (linesKv (A ++ l' :: B))
      rw [hkv]
      exact h.mp.same (hk.block G.mb h.mp.lt (fun e => (h.ne_ln hl e).2 rfl))
    · have old : y ∈ A ++ B → x.2.at w' x.1 := fun hy => by
        have hyG : y ∈ G.ls := by rw [hG]; rcases List.mem_append.1 hy with e | e <;> simp [e]
        have hxy : x.1 ∈ y.bl := by rw [← Ln.hp_bl]; exact List.mem_map.2 ⟨x, hx, rfl⟩
        have hx0 : x.2.at w x.1 := h.hp.all x (by simp only [Gm.hp, List.mem_cons, List.mem_flatMap]; exact .inr (.inr ⟨y, hyG, hx⟩))
        exact Cont.at_same hx0 (hk.block x.1 (Cont.at_lt hx0) (fun e => h.apart hG e y hy hxy))
      rcases List.mem_append.1 hy with hy | hy
      · exact old (by simp [hy])
      · rcases List.mem_cons.1 hy with rfl | hy
        · exact hat x hx
        · exact old (by simp [hy])
  · show (Gm.bl { G with ls := A ++ l' :: B } p).Nodup
    have h0 := h.nd
    have hlt := h.lt
    rw [Gm.bl_eq] at h0 hlt ⊢
    rw [hG, flat_split] at h0 hlt
    rw [flat_split]
    simp only [List.nodup_cons, List.mem_cons, List.mem_append, not_or, List.nodup_append] at h0 ⊢
    simp only [List.mem_cons, List.mem_append] at hlt
    obtain ⟨⟨a1, a2, a3, a4⟩, ⟨b1, b2, b3⟩, c1, ⟨c2, c3, c4⟩, c5⟩ := h0
    have hp := hlt p (.inl rfl)
    have hm := hlt G.mb (.inr (.inl rfl))
    refine ⟨⟨a1, a2, fun e => (hfr _ e).elim a3 (fun e => by omega), a4⟩, ⟨b1, fun e => (hfr _ e).elim b2 (fun e => by omega), b3⟩, c1, ⟨hnd, c3, fun a ha b hb e => ?_⟩, fun a ha b hb e => ?_⟩
    · subst e
      rcases hfr a ha with e | e
      · exact c4 a e a hb rfl
      · have := hlt a (.inr (.inr (.inr (.inr hb))))
        omega
    · subst e
      rcases hb with hb | hb
      · rcases hfr a hb with e | e
        · exact c5 a ha a (.inl e) rfl
        · have := hlt a (.inr (.inr (.inl ha)))
          omega
      · exact c5 a ha a (.inr hb) rfl
  · intro y hy
    rcases List.mem_append.1 hy with hy | hy
    · exact h.ok y (by rw [hG]; simp [hy])
    · rcases List.mem_cons.1 hy with rfl | hy
      · exact hok
      · exact h.ok y (by rw [hG]; simp [hy])
  · have := h.few
    rw [hG] at this
    simpa using this
  · intro k hk2
    rw [Gm.bl_eq] at hk2 ⊢
    rw [hG, flat_split]
    rw [flat_split] at hk2
    simp only [List.mem_cons, List.mem_append] at hk2 ⊢
    rcases hk2 with e | e | e | e | e
    · exact .inl (.inl e)
    · exact .inl (.inr (.inl e))
    · exact .inl (.inr (.inr (.inl e)))
    · rcases hfr k e with e | e
      · exact .inl (.inr (.inr (.inr (.inl e))))
      · exact .inr e
    · exact .inl (.inr (.inr (.inr (.inr e))))
  · exact hk.mono fun j _ hj => Gm.bl_ln hl hj
/-- a line more -/
theorem GAt.push (h : GAt w p G) {l : Ln} (hk : Keep (fun k => k = G.mb) w w') (hm : MP w' G.mb (linesKv (G.ls ++ [l]))) (hfr : ∀ k ∈ l.bl, w.heap.size ≤ k) (hnd : l.bl.Nodup) (hat : ∀ x ∈ l.hp, x.2.at w' x.1) (hok : LnOk l) (hfew : G.ls.length < 512) :
    GAfter w p G { G with ls := G.ls ++ [l] } w' := by
  refine ⟨⟨⟨?_, ?_⟩, ?_, ?_⟩, ?_, ?_⟩
  · intro x hx
    simp only [Gm.hp, List.mem_cons, List.mem_flatMap] at hx
    rcases hx with rfl | rfl | ⟨y, hy, hx⟩
    · exact (hk.block p h.blk.lt (fun e => h.mbp e.symm)).trans h.blk
    · exact hm
    · rcases List.mem_append.1 hy with hy | hy
      · have hxy : x.1 ∈ y.bl := by rw [← Ln.hp_bl]; exact List.mem_map.2 ⟨x, hx, rfl⟩
        have hx0 : x.2.at w x.1 := h.hp.all x (by simp only [Gm.hp, List.mem_cons, List.mem_flatMap]; exact .inr (.inr ⟨y, hy, hx⟩))
        exact Cont.at_same hx0 (hk.block x.1 (Cont.at_lt hx0) (fun e => (h.ne_ln hy hxy).2 e))
      · rw [List.mem_singleton.1 hy] at hx
        exact hat x hx
  · show (Gm.bl { G with ls := G.ls ++ [l] } p).Nodup
    have h0 := h.nd
    have hlt := h.lt
    rw [Gm.bl_eq] at h0 hlt ⊢
    rw [List.flatMap_append, show [l].flatMap Ln.bl = l.bl by simp]
    simp only [List.nodup_cons, List.mem_cons, List.mem_append, not_or, List.nodup_append] at h0 ⊢
    simp only [List.mem_cons] at hlt
    have hp := hlt p (.inl rfl)
    have hm := hlt G.mb (.inr (.inl rfl))
    refine ⟨⟨h0.1.1, h0.1.2, fun e => by have := hfr p e; omega⟩, ⟨h0.2.1, fun e => by have := hfr _ e; omega⟩, h0.2.2, hnd, fun a ha b hb e => ?_⟩
    subst e
    have := hfr a hb
    have := hlt a (.inr (.inr ha))
    omega
  · intro y hy
    rcases List.mem_append.1 hy with hy | hy
    · exact h.ok y hy
    · rw [List.mem_singleton.1 hy]; exact hok
  · simp; omega
  · intro k hk2
    rw [Gm.bl_eq] at hk2 ⊢
    rw [List.flatMap_append, show [l].flatMap Ln.bl = l.bl by simp] at hk2
    simp only [List.mem_cons, List.mem_append] at hk2 ⊢
    rcases hk2 with e | e | e | e
    · exact .inl (.inl e)
    · exact .inl (.inr (.inl e))
    · exact .inl (.inr (.inr e))
    · exact .inr (hfr k e)
  · exact hk.mono fun j _ hj => by rw [Gm.bl_eq, hj]; simp
/-- a line less -/
theorem GAt.erase (h : GAt w p G) {A B : List Ln} {l : Ln} (hG : G.ls = A ++ l :: B) (hk : Keep (fun k => k = G.mb) w w') (hm : MP w' G.mb (linesKv (A ++ B))) : GAfter w p G { G with ls := A ++ B } w' := by
  have hin : ∀ y ∈ A ++ B, y ∈ G.ls := fun y hy => by rw [hG]; rcases List.mem_append.1 hy with e | e <;> simp [e]
  refine ⟨⟨⟨?_, ?_⟩, ?_, ?_⟩, ?_, ?_⟩
  · intro x hx
    simp only [Gm.hp, List.mem_cons, List.mem_flatMap] at hx
    rcases hx with rfl | rfl | ⟨y, hy, hx⟩
    · exact (hk.block p h.blk.lt (fun e => h.mbp e.symm)).trans h.blk
    · exact hm
    · have hxy : x.1 ∈ y.bl := by rw [← Ln.hp_bl]; exact List.mem_map.2 ⟨x, hx, rfl⟩
      have hx0 : x.2.at w x.1 := h.hp.all x (by simp only [Gm.hp, List.mem_cons, List.mem_flatMap]; exact .inr (.inr ⟨y, hin y hy, hx⟩))
      exact Cont.at_same hx0 (hk.block x.1 (Cont.at_lt hx0) (fun e => (h.ne_ln (hin y hy) hxy).2 e))
  · show (Gm.bl { G with ls := A ++ B } p).Nodup
    have h0 := h.nd
    rw [Gm.bl_eq] at h0 ⊢
    rw [hG, flat_split] at h0
    rw [List.flatMap_append]
    simp only [List.nodup_cons, List.mem_cons, List.mem_append, not_or, List.nodup_append] at h0 ⊢
    obtain ⟨⟨a1, a2, a3, a4⟩, ⟨b1, b2, b3⟩, c1, ⟨c2, c3, c4⟩, c5⟩ := h0
    exact ⟨⟨a1, a2, a4⟩, ⟨b1, b3⟩, c1, c3, fun a ha b hb => c5 a ha b (.inr hb)⟩
  · exact fun y hy => h.ok y (hin y hy)
  · have := h.few
    rw [hG] at this
    simp at this ⊢; omega
  · intro k hk2
    rw [Gm.bl_eq] at hk2 ⊢
    rw [hG, flat_split]
    rw [List.flatMap_append] at hk2
    simp only [List.mem_cons, List.mem_append] at hk2 ⊢
    rcases hk2 with e | e | e | e
    · exact .inl (.inl e)
    · exact .inl (.inr (.inl e))
    · exact .inl (.inr (.inr (.inl e)))
    · exact .inl (.inr (.inr (.inr (.inr e))))
  · exact hk.mono fun j _ hj => by rw [Gm.bl_eq, hj]; simp
theorem ls_split {l : Ln} (hl : l ∈ G.ls) : ∃ A B, G.ls = A ++ l :: B := List.append_of_mem hl
end
end Go.Proofs.Ytjcihaohpbmogaa.Oct
