/-
  Layer 11 (lines): checkAdd.
-/
import Derived.Test.YtjcihaohpbmogaaFnd
namespace Go.Proofs.Ytjcihaohpbmogaa.Oct
open Go.RowKit
set_option maxRecDepth 100000
set_option linter.unusedSimpArgs false
set_option linter.unusedVariables false
set_option linter.unusedSectionVars false

/-- what an addition would be answered; AH: is up ahead of down? -/
def Gm.addE (G : Gm) (AH : Bool) (up dn : Vx) (ids : List Vx) (tn : Nat) : Int :=
  if mayBe ids = false ∨ tn ≠ ids.length then 2 else if (ids.any fun v => decide (v ∈ G.keys)) = true then 110 else if G.has up = false ∨ G.has dn = false then 111 else if AH = false then 112 else if 512 < ids.length + G.ls.length then 3 else 0
set_option maxHeartbeats 4000000 in
theorem checkAdd_is {w : World} {p : Nat} {G : Gm} (h : GAt w p G) (hT : G.tied) (up dn : Vx) (hu : Vk up) (hd : Vk dn) (a : Option Addr) (n c : Nat) (ids : List Vx) (hr : VsR w a n ids) (hn : n ≤ 140737488355328) (ta : Option Addr) (tn tc : Nat) (AH : Bool) (hAH : AH = true ↔ G.ahd up dn) (E : Int) (hE : G.addE AH up dn ids tn = E) (XA XB : List Value) (hXA : up.cells = XA) (hXB : dn.cells = XB) :
    Calls Try.prog 49 #[.pointer (some ⟨p, 0, none⟩), .agg XA.toArray, .agg XB.toArray, .slice a n c, .slice ta tn tc] w fun e w' => e = .returned (iv E) ∧ Below w.heap.size w w' := by
  subst hXA
  subst hXB
  obtain ⟨d6, hdd6⟩ : ∃ d, w.heap.size = d := ⟨_, rfl⟩
  obtain ⟨W1, hWd6⟩ : ∃ W, w.alloc (.cells up.cells.toArray 34) = W := ⟨_, rfl⟩
  have bd6 : Below w.heap.size w W1 := by rw [← hWd6]; exact below_al _ _
  have kd6 : Blk W1 d6 34 up.cells := by rw [← hWd6, ← hdd6]; exact Blk.new w _ _
  obtain ⟨d7, hdd7⟩ : ∃ d, W1.heap.size = d := ⟨_, rfl⟩
  obtain ⟨W2, hWd7⟩ : ∃ W, W1.alloc (.cells dn.cells.toArray 34) = W := ⟨_, rfl⟩
  have bd7 : Below W1.heap.size W1 W2 := by rw [← hWd7]; exact below_al _ _
  have kd7 : Blk W2 d7 34 dn.cells := by rw [← hWd7, ← hdd7]; exact Blk.new W1 _ _
  have HT : Hid (G.tied ∧ Vk up ∧ Vk dn ∧ n ≤ 140737488355328 ∧ (AH = true ↔ G.ahd up dn)) := ⟨hT, hu, hd, hn, hAH⟩
  have HE : Hid (G.addE AH up dn ids tn = E) := hE
  have S0 : Hid (Below w.heap.size w W2 ∧ Blk W2 d6 34 up.cells ∧ Blk W2 d7 34 dn.cells ∧ GAt W2 p G ∧ VsR W2 a n ids) := ⟨below_tr bd6 bd7, kd6.below bd7 kd6.lt, kd7, h.below (below_tr bd6 bd7), hr.below (below_tr bd6 bd7)⟩
  have q0 : (n : Int) ≤ 140737488355328 := by omega
  have h1 := Vx.one up
  have h1b := Vx.one dn
  have h2 := Try.underlying34
  have h3 := info34 hu.1
  have h3b := info34 hd.1
  have h4 := Vx.len hu.1
  have h4b := Vx.len hd.1
  have hlen := hr.1
  obtain ⟨M, hM⟩ : ∃ M, mayBe ids = M := ⟨_, rfl⟩
  have HM : Hid (mayBe ids = M ∧ ids.length = n) := ⟨hM, hlen⟩
  clear bd6 bd7 kd6 kd7 h hT hu hd hr hn hAH hE hM hlen
  go_enter Try.func49, Try.ntmps49
  go_wp2_with fail
  clear hWd6 hWd7 hdd6 hdd7 h1 h1b h3 h3b h4 h4b
  refine (setOf_is W2 a n c ids S0.out.2.2.2.2 HT.out.2.2.2.1 M HM.out.1).mono ?_
  rintro e V ⟨m, rfl, _, _, hb⟩
  have S1 : Hid (Below w.heap.size w V ∧ Blk V d6 34 up.cells ∧ Blk V d7 34 dn.cells ∧ GAt V p G ∧ VsR V a n ids) := ⟨below_tr S0.out.1 hb, S0.out.2.1.below hb S0.out.2.1.lt, S0.out.2.2.1.below hb S0.out.2.2.1.lt, S0.out.2.2.2.1.below hb, S0.out.2.2.2.2.below hb⟩
  clear hb
  go_wp2_with fail
  refine (made_is S1.out.2.2.2.1).mono ?_
  rintro e w2 ⟨rfl, rfl⟩
  cases M with
  | false =>
    have HE2 : Hid (E = 2) := by
      show E = _
      rw [← HE.out]
      unfold Gm.addE
      rw [if_pos (.inl HM.out.1)]
    go_wp2
    go_ret
    rw [HE2.out]
    exact ⟨rfl, S1.out.1⟩
  | true =>
    by_cases hnn : tn = n
    · obtain rfl : n = tn := hnn.symm
      obtain ⟨C, hC⟩ : ∃ C, (ids.any fun v => decide (v ∈ G.keys)) = C := ⟨_, rfl⟩
      have HC : Hid (¬ (mayBe ids = false ∨ n ≠ ids.length) ∧ (ids.any fun v => decide (v ∈ G.keys)) = C) := ⟨by rw [HM.out.1, HM.out.2]; simp, hC⟩
      clear hC
      go_wp2_with fail
      refine (containsF_is V a n c ids S1.out.2.2.2.2 44 #[.pointer (some ⟨p, 0, none⟩)] #[] (fun v => decide (v ∈ G.keys)) (pred_line S1.out.2.2.2.1 ids S1.out.2.2.2.2.2.1) HT.out.2.2.2.1 C HC.out.2).mono ?_
      rintro e V2 ⟨rfl, hb⟩
      have S2 : Hid (Below w.heap.size w V2 ∧ Blk V2 d6 34 up.cells ∧ Blk V2 d7 34 dn.cells ∧ GAt V2 p G ∧ VsR V2 a n ids) := ⟨below_tr S1.out.1 hb, S1.out.2.1.below hb S1.out.2.1.lt, S1.out.2.2.1.below hb S1.out.2.2.1.lt, S1.out.2.2.2.1.below hb, S1.out.2.2.2.2.below hb⟩
      clear hb
      cases C with
      | true =>
        have HE2 : Hid (E = 110) := by
          show E = _
          rw [← HE.out]
          unfold Gm.addE
          rw [if_neg HC.out.1, if_pos HC.out.2]
        go_wp2
        go_ret
        rw [HE2.out]
        exact ⟨rfl, S2.out.1⟩
      | false =>
        obtain ⟨U, hU⟩ : ∃ U, G.has up = U := ⟨_, rfl⟩
        have HU : Hid (G.has up = U) := hU
        have HCf : Hid (¬ (ids.any fun v => decide (v ∈ G.keys)) = true) := by
          show ¬ _
          rw [HC.out.2]
          decide
        clear hU
        go_wp2_with (first
          | (with_reducible change wpList _ _ _ ({ dst := some 37, op := _, type := _, pos := _, after := _, guard := _ } :: _) _ _
             refine wpList_load_want rfl 34 (.tmp 6) rfl d6 0 rfl up.cells _ S2.out.2.1.range0 Try.underlying34 rfl (info34 HT.out.2.1.1) ?_)
          | fail)
        refine (has_is S2.out.2.2.2.1 up HT.out.2.1 up.cells rfl U HU.out).mono ?_
        rintro e V3 ⟨rfl, hb⟩
        have S3 : Hid (Below w.heap.size w V3 ∧ Blk V3 d6 34 up.cells ∧ Blk V3 d7 34 dn.cells ∧ GAt V3 p G ∧ VsR V3 a n ids) := ⟨below_tr S2.out.1 hb, S2.out.2.1.below hb S2.out.2.1.lt, S2.out.2.2.1.below hb S2.out.2.2.1.lt, S2.out.2.2.2.1.below hb, S2.out.2.2.2.2.below hb⟩
        clear hb
        cases U with
        | false =>
          have HE2 : Hid (E = 111) := by
            show E = _
            rw [← HE.out]
            unfold Gm.addE
            rw [if_neg HC.out.1, if_neg HCf.out, if_pos (.inl HU.out)]
          go_wp2
          go_ret
          rw [HE2.out]
          exact ⟨rfl, S3.out.1⟩
        | true =>
          obtain ⟨D, hD⟩ : ∃ D, G.has dn = D := ⟨_, rfl⟩
          have HD : Hid (G.has dn = D) := hD
          clear hD
          go_wp2_with (first
            | (with_reducible change wpList _ _ _ ({ dst := some 41, op := _, type := _, pos := _, after := _, guard := _ } :: _) _ _
               refine wpList_load_want rfl 34 (.tmp 7) rfl d7 0 rfl dn.cells _ S3.out.2.2.1.range0 Try.underlying34 rfl (info34 HT.out.2.2.1.1) ?_)
            | fail)
          refine (has_is S3.out.2.2.2.1 dn HT.out.2.2.1 dn.cells rfl D HD.out).mono ?_
          rintro e V4 ⟨rfl, hb⟩
          have S4 : Hid (Below w.heap.size w V4 ∧ Blk V4 d6 34 up.cells ∧ Blk V4 d7 34 dn.cells ∧ GAt V4 p G ∧ VsR V4 a n ids) := ⟨below_tr S3.out.1 hb, S3.out.2.1.below hb S3.out.2.1.lt, S3.out.2.2.1.below hb S3.out.2.2.1.lt, S3.out.2.2.2.1.below hb, S3.out.2.2.2.2.below hb⟩
          clear hb
          cases D with
          | false =>
            have HE2 : Hid (E = 111) := by
              show E = _
              rw [← HE.out]
              unfold Gm.addE
              rw [if_neg HC.out.1, if_neg HCf.out, if_pos (.inr HD.out)]
            go_wp2
            go_ret
            rw [HE2.out]
            exact ⟨rfl, S4.out.1⟩
          | true =>
            have HUD : Hid (¬ (G.has up = false ∨ G.has dn = false)) := by
              show ¬ _
              rw [HU.out, HD.out]
              simp
            go_wp2_with (first
              | (with_reducible change wpList _ _ _ ({ dst := some 46, op := _, type := _, pos := _, after := _, guard := _ } :: _) _ _
                 refine wpList_load_want rfl 34 (.tmp 6) rfl d6 0 rfl up.cells _ S4.out.2.1.range0 Try.underlying34 rfl (info34 HT.out.2.1.1) ?_)
              | (with_reducible change wpList _ _ _ ({ dst := some 47, op := _, type := _, pos := _, after := _, guard := _ } :: _) _ _
                 refine wpList_load_want rfl 34 (.tmp 7) rfl d7 0 rfl dn.cells _ S4.out.2.2.1.range0 Try.underlying34 rfl (info34 HT.out.2.2.1.1) ?_)
              | fail)
            refine (ahead_is S4.out.2.2.2.1 HT.out.1 up dn HT.out.2.1 HT.out.2.2.1 up.cells dn.cells rfl rfl AH HT.out.2.2.2.2).mono ?_
            rintro e V5 ⟨rfl, hb⟩
            have S5 : Hid (Below w.heap.size w V5 ∧ Blk V5 d6 34 up.cells ∧ Blk V5 d7 34 dn.cells ∧ GAt V5 p G ∧ VsR V5 a n ids) := ⟨below_tr S4.out.1 hb, S4.out.2.1.below hb S4.out.2.1.lt, S4.out.2.2.1.below hb S4.out.2.2.1.lt, S4.out.2.2.2.1.below hb, S4.out.2.2.2.2.below hb⟩
            clear hb
            cases AH with
            | false =>
              have HE2 : Hid (E = 112) := by
                show E = _
                rw [← HE.out]
                unfold Gm.addE
                rw [if_neg HC.out.1, if_neg HCf.out, if_neg HUD.out, if_pos rfl]
              go_wp2
              go_ret
              rw [HE2.out]
              exact ⟨rfl, S5.out.1⟩
            | true =>
              obtain ⟨k, hk⟩ : ∃ k, G.ls.length = k := ⟨_, rfl⟩
              have hk5 : k ≤ 512 := by rw [← hk]; exact S5.out.2.2.2.1.few
              have c0 : V5.cell? ⟨p, 0, none⟩ = some (.map (some G.mb)) := S5.out.2.2.2.1.blk.cell rfl
              have hl : (Builtin.len_ #[65] 3 #[.map (some G.mb)]).run Try.prog V5 = .ok (.int .i64 k) V5 := by
                have := S5.out.2.2.2.1.mp.len (t := 65) (E := 71) Try.underlying65 3
                rw [show (linesKv G.ls).length = k by rw [← hk]; simp [linesKv]] at this
                exact this
              have q5 : (k : Int) ≤ 512 := by omega
              have HK : Hid (G.ls.length = k) := hk
              clear hk hk5
              generalize G.mb = mb at c0 hl
              by_cases h5 : 512 < n + k
              · have q6 : 512 - (k : Int) < (n : Int) := by omega
                have HE2 : Hid (E = 3) := by
                  show E = _
                  rw [← HE.out]
                  unfold Gm.addE
                  rw [if_neg HC.out.1, if_neg HCf.out, if_neg HUD.out, if_neg (by decide), if_pos (by rw [HM.out.2, HK.out]; exact h5)]
                go_wp2
                go_ret
                rw [HE2.out]
                exact ⟨rfl, S5.out.1⟩
              · have q6 : ¬ 512 - (k : Int) < (n : Int) := by omega
                have HE2 : Hid (E = 0) := by
                  show E = _
                  rw [← HE.out]
                  unfold Gm.addE
                  rw [if_neg HC.out.1, if_neg HCf.out, if_neg HUD.out, if_neg (by decide), if_neg (by rw [HM.out.2, HK.out]; exact h5)]
                go_wp2
                go_ret
                rw [HE2.out]
                exact ⟨rfl, S5.out.1⟩
    · have q1 : ¬ (tn : Int) = (n : Int) := by omega
      have HE2 : Hid (E = 2) := by
        show E = _
        rw [← HE.out]
        unfold Gm.addE
        rw [if_pos (.inr (by rw [HM.out.2]; exact hnn))]
      go_wp2
      go_ret
      rw [HE2.out]
      exact ⟨rfl, S1.out.1⟩
#print axioms checkAdd_is
set_option maxHeartbeats 1000000 in
theorem checkAdd_un {w : World} {g : Value} (h : Un w g) (up dn : Vx) (hu : Vk up) (hd : Vk dn) (a : Option Addr) (n c : Nat) (ids : List Vx) (hr : VsR w a n ids) (hn : n ≤ 140737488355328) (t : Value) (XA XB : List Value) (hXA : up.cells = XA) (hXB : dn.cells = XB) :
    Calls Try.prog 49 #[g, .agg XA.toArray, .agg XB.toArray, .slice a n c, t] w fun e w' => e = .returned (iv 1) ∧ Below w.heap.size w w' := by
  subst hXA
  subst hXB
  obtain ⟨d6, hdd6⟩ : ∃ d, w.heap.size = d := ⟨_, rfl⟩
  obtain ⟨W1, hWd6⟩ : ∃ W, w.alloc (.cells up.cells.toArray 34) = W := ⟨_, rfl⟩
  have bd6 : Below w.heap.size w W1 := by rw [← hWd6]; exact below_al _ _
  have kd6 : Blk W1 d6 34 up.cells := by rw [← hWd6, ← hdd6]; exact Blk.new w _ _
  obtain ⟨d7, hdd7⟩ : ∃ d, W1.heap.size = d := ⟨_, rfl⟩
  obtain ⟨W2, hWd7⟩ : ∃ W, W1.alloc (.cells dn.cells.toArray 34) = W := ⟨_, rfl⟩
  have bd7 : Below W1.heap.size W1 W2 := by rw [← hWd7]; exact below_al _ _
  have kd7 : Blk W2 d7 34 dn.cells := by rw [← hWd7, ← hdd7]; exact Blk.new W1 _ _
  have S0 : Hid (Below w.heap.size w W2 ∧ Un W2 g ∧ VsR W2 a n ids ∧ n ≤ 140737488355328) := ⟨below_tr bd6 bd7, h.below (below_tr bd6 bd7), hr.below (below_tr bd6 bd7), hn⟩
  have h1 := Vx.one up
  have h1b := Vx.one dn
  have h2 := Try.underlying34
  have h3 := info34 hu.1
  have h3b := info34 hd.1
  have h4 := Vx.len hu.1
  have h4b := Vx.len hd.1
  clear bd6 bd7 kd6 kd7 h hu hd hr hn
  go_enter Try.func49, Try.ntmps49
  go_wp2_with fail
  clear hWd6 hWd7 hdd6 hdd7 h1 h1b h3 h3b h4 h4b
  refine (setOf_is W2 a n c ids S0.out.2.2.1 S0.out.2.2.2 (mayBe ids) rfl).mono ?_
  rintro e V ⟨m, rfl, _, _, hb⟩
  have S1 : Hid (Below w.heap.size w V ∧ Un V g) := ⟨below_tr S0.out.1 hb, S0.out.2.1.below hb⟩
  clear hb
  generalize mayBe ids = M
  go_wp2_with fail
  refine (un_made S1.out.2).mono ?_
  rintro e w2 ⟨rfl, rfl⟩
  go_wp2
  go_ret
  exact ⟨rfl, S1.out.1⟩
#print axioms checkAdd_un
end Go.Proofs.Ytjcihaohpbmogaa.Oct
