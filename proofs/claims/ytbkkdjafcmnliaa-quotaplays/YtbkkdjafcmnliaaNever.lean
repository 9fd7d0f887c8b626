/-
  Layer 18 (quota): the law QuotaNever.
-/
import Derived.Test.YtbkkdjafcmnliaaView
namespace Go.Proofs.Ytbkkdjafcmnliaa.Oct
open Go.RowKit

def mkM (b r n s : Int) : Mt := { b := b, r := r, n := n, u := s, l := 0, h := 0 }
section
variable {w0 W : World} {p : Nat} {M : Mt}
theorem st_charge2 (h : St w0 W p M) (n : Int) : Calls Try.prog 13 #[.pointer (some ⟨p, 0, none⟩), iv n] W fun e w' => e = .returned (iv (M.charge n).1) ∧ St w0 w' p (M.charge n).2 ∧ W.grownBy w' (some p) :=
  (charge_is h.at_ h.good n).mono fun _ _ ⟨h1, h2, h3⟩ => ⟨h1, h.grown h2 (good_charge h.good n) h3, h3⟩
theorem st_refund2 (h : St w0 W p M) (n : Int) : Calls Try.prog 15 #[.pointer (some ⟨p, 0, none⟩), iv n] W fun e w' => e = .returned (iv (M.refund n).1) ∧ St w0 w' p (M.refund n).2 ∧ W.grownBy w' (some p) :=
  (refund_is h.at_ h.good n).mono fun _ _ ⟨h1, h2, h3⟩ => ⟨h1, h.grown h2 (good_refund h.good n) h3, h3⟩
theorem st_used2 (h : St w0 W p M) : Calls Try.prog 19 #[.pointer (some ⟨p, 0, none⟩)] W fun e w' => e = .returned (iv M.u) ∧ W = w' := used_is h.at_ h.good.2.2.1.1
end
theorem St.al {w0 W : World} {p : Nat} {M : Mt} (h : St w0 W p M) (o : Obj) : St w0 (W.alloc o) p M := h.below (below_al W o)
/-- what the law's loop keeps -/
def NvInv (W0 wr : World) (p g len : Nat) (b r n s : Int) (t : Nat) : Prop := t ≤ len ∧ t ≤ 301 ∧ St W0 wr p (mkM b r n s) ∧ s ≤ b ∧ g < W0.heap.size ∧ Blk W0 g 23 [iv b, iv r, iv n]
variable {w : World}

set_option maxRecDepth 100000 in
set_option maxHeartbeats 4000000 in
theorem never_law (b r n : Int) (a : Option Addr) (len cap : Nat) (l : List ActV) (hl : ArgA w a len cap l) : Calls Try.prog 4 #[lv b r n, .slice a len cap] w fun e w' => e = .returned (.bool true) ∧ Below w.heap.size w w' := by
  cases ho : okL b r n
  · have HN := fun o => new_bad_al w o b r n ho
    clear ho hl
    go_enter Try.func4, Try.ntmps4
    go_wp2_with fail
    refine (HN _).mono ?_
    rintro e w1 ⟨rfl, hb⟩
    have HL := lives_st hb
    clear HN hb
    go_wp2_with (go_at_call 10; refine HL.mono ?_; rintro e w2 ⟨rfl, hb⟩)
    go_ret
    exact ⟨rfl, hb⟩
  · obtain ⟨W0, hW0⟩ : ∃ W0, W0 = w.alloc (.cells #[iv b, iv r, iv n] 23) := ⟨_, rfl⟩
    obtain ⟨g, hg⟩ : ∃ g, w.heap.size = g := ⟨_, rfl⟩
    have HB0 : Hid (Below w.heap.size w W0) := by rw [hW0]; exact below_al w _
    have HG : Hid (g < W0.heap.size ∧ Blk W0 g 23 [iv b, iv r, iv n]) := by
      rw [hW0, ← hg]
      exact ⟨by simp, Blk.new w #[iv b, iv r, iv n] 23⟩
    have HL : Hid (ArgA W0 a len cap l) := by rw [hW0]; exact hl.below (below_al w _)
    have HN := st_new W0 b r n ho
    have hok := okL_iff.1 ho
    generalize W0.heap.size + 1 = p at HN
    clear ho hl
    go_enter Try.func4, Try.ntmps4
    go_wp2_with fail
    rw [← hW0]
    refine HN.mono ?_
    rintro e w1 ⟨rfl, s0⟩
    have HI : Hid (NvInv W0 w1 p g len b r n 0 0) := ⟨Nat.zero_le _, by omega, s0, hok.1.1, HG.out⟩
    clear HN s0 hW0
    clear hg
    go_wp2
    go_loopw [29, 7] (fun u v wr => ∃ (t : Nat) (s : Int), u = iv t ∧ v = iv s ∧ Hid (NvInv W0 wr p g len b r n s t)) (fun u _ _ => 302 - (intOf u).toNat)
    case atStart => exact ⟨0, 0, rfl, rfl, HI.out⟩
    case round =>
      obtain ⟨t, s, rfl, rfl, HV⟩ := hrel
      have HBW : Hid (Below w.heap.size w wr) := HB0.out.trans (HV.out.2.2.1.bel.mono HB0.out.size)
      by_cases ht : t = len
      · have q : (len : Int) ≤ (t : Int) := by omega
        have HL := lives_st HBW.out
        clear hok
        go_wp2_with (go_at_call 10; refine HL.mono ?_; rintro e w2 ⟨rfl, hb⟩)
        go_ret
        exact ⟨rfl, hb⟩
      · have HT : Hid (t < len) := by show _ < _; have := HV.out.1; omega
        have q : (t : Int) < (len : Int) := by have := HT.out; omega
        obtain ⟨ab, aoff, ha, hal, hact⟩ := HL.out.2.2.2 (by have := HT.out; omega)
        subst ha
        obtain ⟨x, hx⟩ : ∃ x, l[t]? = some x := ⟨_, List.getElem?_eq_getElem (by rw [HL.out.1]; exact HT.out)⟩
        have hA := (hact t x hx).below HV.out.2.2.1.bel hal
        have c0 : wr.cell? ⟨ab, aoff + t * 5, none⟩ = some (iv x.kind) := hA.1 0 _ rfl
        have c1 : wr.cell? ⟨ab, aoff + t * 5 + 1, none⟩ = some (iv x.n) := hA.1 1 _ rfl
        have c2 : wr.cell? ⟨ab, aoff + t * 5 + 2, none⟩ = some (iv x.b) := hA.1 2 _ rfl
        have c3 : wr.cell? ⟨ab, aoff + t * 5 + 3, none⟩ = some (iv x.r) := hA.1 3 _ rfl
        have c4 : wr.cell? ⟨ab, aoff + t * 5 + 4, none⟩ = some (iv x.win) := hA.1 4 _ rfl
        have hn64 : I64 x.n := hA.2.2.1
        generalize x.kind = K at c0
        generalize x.n = X at c1 hn64
        generalize x.b = y2 at c2
        generalize x.r = y3 at c3
        generalize x.win = y4 at c4
        have HCP : Hid (len ≤ cap ∧ cap ≤ maxLen) := ⟨HL.out.2.1, HL.out.2.2.1⟩
        clear hact hal hx hA ht
        by_cases h3 : t = 301
        · have q3 : (300 : Int) < (t : Int) := by omega
          have HL2 : ∀ o, Calls Try.prog 10 #[] (wr.alloc o) fun e w' => e = .returned (.bool true) ∧ Below w.heap.size w w' := fun o => lives_st (HBW.out.trans ((below_al wr o).mono HBW.out.size))
          clear hok h3 HL
          go_wp2_with (go_at_call 10; refine (HL2 _).mono ?_; rintro e w2 ⟨rfl, hb⟩)
          go_ret
          exact ⟨rfl, hb⟩
        have q3 : (t : Int) ≤ 300 := by have := HV.out.2.1; omega
        have hs : 0 ≤ s ∧ s ≤ b := ⟨HV.out.2.2.1.good.2.2.2.1.1, HV.out.2.2.2.1⟩
        have HS : Hid (∀ o, St W0 (wr.alloc o) p (mkM b r n s)) := fun o => HV.out.2.2.1.al o
        have HSW : Hid (St W0 wr p (mkM b r n s)) := HV.out.2.2.1
        have HP : Hid (p < wr.heap.size) := Blk.lt HV.out.2.2.1.at_
        have hb1 : b ≤ 1099511627776 := hok.1.2
        have hw1 : IntKind.i64.wrap (b - s) = b - s := wrapi (by omega) (by omega)
        have q6 : ¬ b < s := by omega
        have q7 : ¬ s < 0 := by omega
        clear HV hok HI
        by_cases hK : K = 1
        · subst hK
          by_cases hX : X < 0
          · have HE : (mkM b r n s).charge X = (2, mkM b r n (s)) := by
              unfold Mt.charge mkM
              dsimp only
              rw [if_pos hX]
            go_wp2_with fail
            have HC := st_charge2 (HS.out (.cells #[.int .i64 1, .int .i64 X, .int .i64 y2, .int .i64 y3, .int .i64 y4] 36)) X
            rw [HE] at HC
            refine HC.mono ?_
            rintro e w3 ⟨rfl, s3, g3⟩
            have ca : w3.cell? ⟨wr.heap.size, 1, none⟩ = some (iv X) := ((Blk.new wr #[.int .i64 1, .int .i64 X, .int .i64 y2, .int .i64 y3, .int .i64 y4] 36).kept g3 (by have := HP.out; simp; omega)).cell rfl
  
            have HS4 : Hid (St W0 w3 p (mkM b r n (s))) := s3
            have HB4 : Hid (s ≤ b) := by show _ ≤ _; omega
            have HT3 : Hid (t < len ∧ t ≤ 300) := ⟨HT.out, by omega⟩
            have cg : (w3).cell? ⟨g, 0, none⟩ = some (iv b) := (HG.out.2.below HS4.out.bel HG.out.1).cell rfl
            skip
            clear HC HE s3 g3 c0 c1 c2 c3 c4
            go_wp2_with (go_at_call 19; refine (st_used2 HS4.out).mono ?_; rintro e w5 ⟨rfl, rfl⟩)
            refine ⟨⟨t + 1, _, by simp, rfl, HT3.out.1, by have := HT3.out.2; omega, HS4.out, HB4.out, HG.out⟩, ?_⟩
            have := HT3.out.2
            simp only [intOf]
            omega
          · by_cases hY : b - s < X
            · have HE : (mkM b r n s).charge X = (180, mkM b r n (s)) := by
                unfold Mt.charge mkM
                dsimp only
                rw [if_neg hX, if_pos hY]
              go_wp2_with fail
              have HC := st_charge2 (HS.out (.cells #[.int .i64 1, .int .i64 X, .int .i64 y2, .int .i64 y3, .int .i64 y4] 36)) X
              rw [HE] at HC
              refine HC.mono ?_
              rintro e w3 ⟨rfl, s3, g3⟩
              have ca : w3.cell? ⟨wr.heap.size, 1, none⟩ = some (iv X) := ((Blk.new wr #[.int .i64 1, .int .i64 X, .int .i64 y2, .int .i64 y3, .int .i64 y4] 36).kept g3 (by have := HP.out; simp; omega)).cell rfl
    
              have HS4 : Hid (St W0 w3 p (mkM b r n (s))) := s3
              have HB4 : Hid (s ≤ b) := by show _ ≤ _; omega
              have HT3 : Hid (t < len ∧ t ≤ 300) := ⟨HT.out, by omega⟩
              have cg : (w3).cell? ⟨g, 0, none⟩ = some (iv b) := (HG.out.2.below HS4.out.bel HG.out.1).cell rfl
              have q9 : ¬ X ≤ b - s := by omega
              clear HC HE s3 g3 c0 c1 c2 c3 c4
              go_wp2_with (go_at_call 19; refine (st_used2 HS4.out).mono ?_; rintro e w5 ⟨rfl, rfl⟩)
              refine ⟨⟨t + 1, _, by simp, rfl, HT3.out.1, by have := HT3.out.2; omega, HS4.out, HB4.out, HG.out⟩, ?_⟩
              have := HT3.out.2
              simp only [intOf]
              omega
            · have HE : (mkM b r n s).charge X = (0, mkM b r n (s + X)) := by
                unfold Mt.charge mkM
                dsimp only
                rw [if_neg hX, if_neg hY]
              go_wp2_with fail
              have HC := st_charge2 (HS.out (.cells #[.int .i64 1, .int .i64 X, .int .i64 y2, .int .i64 y3, .int .i64 y4] 36)) X
              rw [HE] at HC
              refine HC.mono ?_
              rintro e w3 ⟨rfl, s3, g3⟩
              have ca : w3.cell? ⟨wr.heap.size, 1, none⟩ = some (iv X) := ((Blk.new wr #[.int .i64 1, .int .i64 X, .int .i64 y2, .int .i64 y3, .int .i64 y4] 36).kept g3 (by have := HP.out; simp; omega)).cell rfl
    
              have HS4 : Hid (St W0 w3 p (mkM b r n (s + X))) := s3
              have HB4 : Hid (s + X ≤ b) := by show _ ≤ _; omega
              have HT3 : Hid (t < len ∧ t ≤ 300) := ⟨HT.out, by omega⟩
              have cg : (w3).cell? ⟨g, 0, none⟩ = some (iv b) := (HG.out.2.below HS4.out.bel HG.out.1).cell rfl
              have q9 : ¬ b < s + X := by omega
              have q10 : ¬ s + X < 0 := by omega
              have hw2 : IntKind.i64.wrap (s + X) = s + X := wrapi (by omega) (by omega)
              clear HC HE s3 g3 c0 c1 c2 c3 c4
              go_wp2_with (go_at_call 19; refine (st_used2 HS4.out).mono ?_; rintro e w5 ⟨rfl, rfl⟩)
              refine ⟨⟨t + 1, _, by simp, rfl, HT3.out.1, by have := HT3.out.2; omega, HS4.out, HB4.out, HG.out⟩, ?_⟩
              have := HT3.out.2
              simp only [intOf]
              omega
        · have hK1 : (K == 1) = false := by simpa using hK
          by_cases hK2 : K = 2
          · subst hK2
            by_cases hX : X < 0
            · have HE : (mkM b r n s).refund X = (2, mkM b r n (s)) := by
                unfold Mt.refund mkM
                dsimp only
                rw [if_pos hX]
              go_wp2_with fail
              have HC := st_refund2 (HS.out (.cells #[.int .i64 2, .int .i64 X, .int .i64 y2, .int .i64 y3, .int .i64 y4] 36)) X
              rw [HE] at HC
              refine HC.mono ?_
              rintro e w3 ⟨rfl, s3, g3⟩
              have ca : w3.cell? ⟨wr.heap.size, 1, none⟩ = some (iv X) := ((Blk.new wr #[.int .i64 2, .int .i64 X, .int .i64 y2, .int .i64 y3, .int .i64 y4] 36).kept g3 (by have := HP.out; simp; omega)).cell rfl
    
              have HS4 : Hid (St W0 w3 p (mkM b r n (s))) := s3
              have HB4 : Hid (s ≤ b) := by show _ ≤ _; omega
              have HT3 : Hid (t < len ∧ t ≤ 300) := ⟨HT.out, by omega⟩
              have cg : (w3).cell? ⟨g, 0, none⟩ = some (iv b) := (HG.out.2.below HS4.out.bel HG.out.1).cell rfl
              skip
              clear HC HE s3 g3 c0 c1 c2 c3 c4
              go_wp2_with (go_at_call 19; refine (st_used2 HS4.out).mono ?_; rintro e w5 ⟨rfl, rfl⟩)
              refine ⟨⟨t + 1, _, by simp, rfl, HT3.out.1, by have := HT3.out.2; omega, HS4.out, HB4.out, HG.out⟩, ?_⟩
              have := HT3.out.2
              simp only [intOf]
              omega
            · by_cases hY : s < X
              · have HE : (mkM b r n s).refund X = (2, mkM b r n (s)) := by
                  unfold Mt.refund mkM
                  dsimp only
                  rw [if_neg hX, if_pos hY]
                go_wp2_with fail
                have HC := st_refund2 (HS.out (.cells #[.int .i64 2, .int .i64 X, .int .i64 y2, .int .i64 y3, .int .i64 y4] 36)) X
                rw [HE] at HC
                refine HC.mono ?_
                rintro e w3 ⟨rfl, s3, g3⟩
                have ca : w3.cell? ⟨wr.heap.size, 1, none⟩ = some (iv X) := ((Blk.new wr #[.int .i64 2, .int .i64 X, .int .i64 y2, .int .i64 y3, .int .i64 y4] 36).kept g3 (by have := HP.out; simp; omega)).cell rfl
      
                have HS4 : Hid (St W0 w3 p (mkM b r n (s))) := s3
                have HB4 : Hid (s ≤ b) := by show _ ≤ _; omega
                have HT3 : Hid (t < len ∧ t ≤ 300) := ⟨HT.out, by omega⟩
                have cg : (w3).cell? ⟨g, 0, none⟩ = some (iv b) := (HG.out.2.below HS4.out.bel HG.out.1).cell rfl
                skip
                clear HC HE s3 g3 c0 c1 c2 c3 c4
                go_wp2_with (go_at_call 19; refine (st_used2 HS4.out).mono ?_; rintro e w5 ⟨rfl, rfl⟩)
                refine ⟨⟨t + 1, _, by simp, rfl, HT3.out.1, by have := HT3.out.2; omega, HS4.out, HB4.out, HG.out⟩, ?_⟩
                have := HT3.out.2
                simp only [intOf]
                omega
              · have HE : (mkM b r n s).refund X = (0, mkM b r n (s - X)) := by
                  unfold Mt.refund mkM
                  dsimp only
                  rw [if_neg hX, if_neg hY]
                go_wp2_with fail
                have HC := st_refund2 (HS.out (.cells #[.int .i64 2, .int .i64 X, .int .i64 y2, .int .i64 y3, .int .i64 y4] 36)) X
                rw [HE] at HC
                refine HC.mono ?_
                rintro e w3 ⟨rfl, s3, g3⟩
                have ca : w3.cell? ⟨wr.heap.size, 1, none⟩ = some (iv X) := ((Blk.new wr #[.int .i64 2, .int .i64 X, .int .i64 y2, .int .i64 y3, .int .i64 y4] 36).kept g3 (by have := HP.out; simp; omega)).cell rfl
      
                have HS4 : Hid (St W0 w3 p (mkM b r n (s - X))) := s3
                have HB4 : Hid (s - X ≤ b) := by show _ ≤ _; omega
                have HT3 : Hid (t < len ∧ t ≤ 300) := ⟨HT.out, by omega⟩
                have cg : (w3).cell? ⟨g, 0, none⟩ = some (iv b) := (HG.out.2.below HS4.out.bel HG.out.1).cell rfl
                have q9 : ¬ b < s - X := by omega
                have q10 : ¬ s - X < 0 := by omega
                have hw2 : IntKind.i64.wrap (s - X) = s - X := wrapi (by omega) (by omega)
                clear HC HE s3 g3 c0 c1 c2 c3 c4
                go_wp2_with (go_at_call 19; refine (st_used2 HS4.out).mono ?_; rintro e w5 ⟨rfl, rfl⟩)
                refine ⟨⟨t + 1, _, by simp, rfl, HT3.out.1, by have := HT3.out.2; omega, HS4.out, HB4.out, HG.out⟩, ?_⟩
                have := HT3.out.2
                simp only [intOf]
                omega
          · have hK3 : (K == 2) = false := by simpa using hK2
            have HS4 : Hid (∀ o, St W0 (wr.alloc o) p (mkM b r n s)) := HS.out
            have HB4 : Hid (s ≤ b) := hs.2
            have HT3 : Hid (t < len ∧ t ≤ 300) := ⟨HT.out, by omega⟩
            have cg : ∀ o, (wr.alloc o).cell? ⟨g, 0, none⟩ = some (iv b) := fun o => (HG.out.2.below (HS.out o).bel HG.out.1).cell rfl
            have cg2 : wr.cell? ⟨g, 0, none⟩ = some (iv b) := (HG.out.2.below HSW.out.bel HG.out.1).cell rfl
            go_wp2_with (go_at_call 19; refine (st_used2 (HS4.out _)).mono ?_; rintro e w5 ⟨rfl, rfl⟩)
            refine ⟨⟨t + 1, _, by simp, rfl, HT3.out.1, by have := HT3.out.2; omega, HS4.out _, HB4.out, HG.out⟩, ?_⟩
            have := HT3.out.2
            simp only [intOf]
            omega
#print axioms never_law
end Go.Proofs.Ytbkkdjafcmnliaa.Oct
