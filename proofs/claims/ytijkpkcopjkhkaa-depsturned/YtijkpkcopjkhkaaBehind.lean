/-
  Layer 12 (deps): DepsBehind.
-/
import Derived.Test.YtijkpkcopjkhkaaBehindReg
import Derived.Test.YtijkpkcopjkhkaaTurnPure
import Derived.Test.YtijkpkcopjkhkaaMirror
namespace Go.Proofs.Ytijkpkcopjkhkaa.Oct
open Go.RowKit

theorem placeOf_le {d : Hs} {hs : List Hs} {k : Nat} (h : hs[k]? = some d) : 0 ≤ placeOf d hs ∧ placeOf d hs ≤ k := by
  refine ⟨(placeOf_mem d hs).2 (List.mem_of_getElem? h), ?_⟩
  unfold placeOf
  cases he : hs.findIdx? (· == d) with
  | none => simp
  | some i =>
    show (i : Int) ≤ k
    rw [List.findIdx?_eq_some_iff_getElem] at he
    obtain ⟨_, _, h3⟩ := he
    obtain ⟨hk, hx⟩ := List.getElem?_eq_some_iff.1 h
    by_cases hik : k < i
    · have := h3 k hik
      simp [hx] at this
    · omega
theorem placeOf_get {h : Hs} {hs : List Hs} (hm : h ∈ hs) : ∃ i : Nat, hs[i]? = some h ∧ placeOf h hs = i := by
  unfold placeOf
  cases he : hs.findIdx? (· == h) with
  | none =>
    rw [List.findIdx?_eq_none_iff] at he
    have := he h hm
    simp at this
  | some i =>
    rw [List.findIdx?_eq_some_iff_getElem] at he
    obtain ⟨h1, h2, _⟩ := he
    exact ⟨i, by rw [List.getElem?_eq_getElem h1]; simpa using h2, rfl⟩
/-- in the order each stands behind all that it needs -/
theorem behind_fact {l : List It} {hs : List Hs} (ho : OrderS l hs) {h d : Hs} (hm : h ∈ hs) (hr : Reach (getS (downS l)) h d) : 0 ≤ placeOf d hs ∧ placeOf d hs < placeOf h hs := by
  obtain ⟨i, hi, he⟩ := placeOf_get hm
  obtain ⟨k, hk, hkd⟩ := order_behind ho hi hr
  have := placeOf_le hkd
  rw [he]
  omega
/-- an order of all has all -/
theorem order_whole {l : List It} {hs : List Hs} (ho : OrderS l hs) (hl : l.length ≤ hs.length) : hs.length = l.length ∧ ∀ x ∈ l, x.name ∈ hs := by
  have h1 := nodup_le hs (l.map (·.name)) (order_nodup ho) (fun x hx => order_mem ho hx)
  rw [List.length_map] at h1
  refine ⟨by omega, fun x hx => ?_⟩
  refine Classical.byContradiction fun hc => ?_
  have h2 := nodup_le (x.name :: hs) (l.map (·.name)) (List.nodup_cons.2 ⟨hc, order_nodup ho⟩) (fun y hy => by
    rcases List.mem_cons.1 hy with rfl | hy
    · exact List.mem_map.2 ⟨x, hx, rfl⟩
    · exact order_mem ho hy)
  simp at h2
  omega
set_option maxRecDepth 100000 in
set_option maxHeartbeats 4000000 in
theorem behind_law (l : List It) (a : Option Addr) (len cap : Nat) (w : World) (hi : Its w a len l) (hc : len ≤ cap ∧ cap ≤ maxLen) :
    Calls Try.prog 5 #[.slice a len cap] w (Law w) := by
  have HI : Hid (Its w a len l ∧ l.length = len) := ⟨hi, hi.1⟩
  have H8 : Hid (Calls Try.prog 8 #[.slice a len cap] w (LightP w len l)) := light_is w a len cap l hi hc
  have q5 : (len : Int) ≤ 9223372036854775807 := by have h1 := hc.1; have h2 := hc.2; unfold maxLen at h2; omega
  clear hi hc
  go_enter Try.func5, Try.ntmps5
  go_wp2_with fail
  refine H8.out.mono ?_
  rintro e w' ⟨b, rfl, HL, rfl⟩
  cases b with
  | false =>
    go_wp2_with fail
    refine (lives_is w).mono ?_
    rintro e w1 ⟨rfl, HB1⟩
    go_wp2
    go_ret
    exact ⟨rfl, HB1.out⟩
  | true =>
    by_cases h60 : 60 < len
    · have q1 : (60 : Int) < (len : Int) := by omega
      clear h60
      go_wp2_with fail
      refine (lives_is w).mono ?_
      rintro e w1 ⟨rfl, HB1⟩
      go_wp2
      go_ret
      exact ⟨rfl, HB1.out⟩
    · have q1 : ¬ (60 : Int) < (len : Int) := by omega
      have HM : Hid (len ≤ 60 ∧ many l ≤ 90000) := ⟨by omega, by have := (HL.out rfl).2; omega⟩
      obtain ⟨Z, hZl, hZ⟩ := zero36
      obtain ⟨Y, hYl, hY⟩ := zero34
      have HZ : Hid (Z.length = 33 ∧ Y.length = 32) := ⟨hZl, hYl⟩
      clear h60 hZl hYl
      go_wp2_with fail
      refine (order_is w a len cap l HI.out.1 (by have := HM.out; omega) HM.out.2).mono ?_
      rintro e w2 ⟨p, n, c, er, hs, rfl, HR, HO, HB2⟩
      by_cases her : er = 0
      · subst her
        have HOS : Hid (OrderS l hs ∧ (∀ x ∈ l, x.name ∈ hs) ∧ ClosedL len l ∧ n = len) := by
          rcases HO.out with ⟨_, _, h⟩ | ⟨_, _, _, h⟩ | ⟨_, _, _, _, h⟩ | ⟨_, _, _, _, _, h⟩ | ⟨h1, h2, h3, h4, h5, _⟩
          · cases h
          · cases h
          · cases h
          · cases h
          · have := order_whole h4 h5
            exact ⟨h4, this.2, ⟨by have := HM.out; omega, h2, h3⟩, by rw [← HR.out.1.1, this.1, HI.out.2]⟩
        obtain rfl := HOS.out.2.2.2
        have H20 : Hid (Calls Try.prog 20 #[.slice a n cap] w2 fun e V => e = .returned (.bool true) ∧ Hid (Below w2.heap.size w2 V)) := by
          refine (closed_is w2 a n cap l (HI.out.1.below HB2.out) (by have := HM.out; omega) HM.out.2).mono ?_
          rintro e V ⟨b, rfl, h1, h2⟩
          exact ⟨by rw [h1.out.2 HOS.out.2.2.1], h2⟩
        go_wp2_with fail
        refine H20.out.mono ?_
        rintro e w3 ⟨rfl, HB3⟩
        go_wp2
        go_loopw [74] (fun u wr => ∃ i : Nat, u = .int .i64 (i : Int) ∧ Hid (i ≤ n ∧ Below w2.heap.size w2 wr)) (fun u _ => n - (intOf u).toNat)
        case atStart => exact ⟨0, rfl, ⟨Nat.zero_le _, HB3.out⟩⟩
        case round =>
          obtain ⟨i, rfl, HJ⟩ := hrel
          by_cases hin : i < n
          · obtain ⟨x, hx⟩ : ∃ x, l[i]? = some x := ⟨_, List.getElem?_eq_getElem (by rw [HI.out.2]; exact hin)⟩
            obtain ⟨b, off, rfl, hb, hel⟩ := HI.out.1.2 (by omega)
            have HBW : Hid (Below w.heap.size w wr) := bt HB2.out HJ.out.2
            have HX : Hid (i < n ∧ l[i]? = some x ∧ x.name.length = 32) := ⟨hin, hx, (hel i x hx).1⟩
            have HRA : Hid (wr.rangeAt b (off + i * 33) x.cells) := rangeAt_same (hel i x hx).2.1 (HBW.out.block b hb)
            have q2 : (i : Int) < (n : Int) := by omega
            obtain ⟨z, hz⟩ : ∃ z, placeOf x.name hs = z := ⟨_, rfl⟩
            have HZP : Hid (placeOf x.name hs = z) := hz
            have q3 : ¬ z < 0 := by
              have := (placeOf_mem x.name hs).2 (HOS.out.2.1 x (List.mem_of_getElem? hx))
              omega
            clear hel hx hin hz hb
            go_wp2_with (first
              | (with_reducible change wpList _ _ _ ({ dst := some 77, op := _, type := _, pos := _, after := _, guard := _ } :: _) _ _
                 refine wpList_load_mid rfl 36 (.tmp 76) rfl b (off + i * 33) rfl x.cells _ HRA.out Try.underlying36 rfl (info36 x HX.out.2.2) ?_)
              | (with_reducible change wpList _ _ _ ({ dst := none, op := Op.store 36 _ _, type := _, pos := _, after := _, guard := _ } :: _) _ _
                 refine wpList_store_fresh rfl 36 (.tmp 9) (.tmp 77) rfl Z x.cells 36 rfl rfl (by rw [x.cells_length HX.out.2.2, HZ.out.1]) (info36 x HX.out.2.2) (cells_one x) ?_)
              | (with_reducible change wpList _ _ _ ({ dst := some 80, op := _, type := _, pos := _, after := _, guard := _ } :: _) _ _
                 refine wpList_load_mid rfl 34 (.tmp 79) rfl wr.heap.size 0 rfl (U x.name) _ (cells_name wr x) Try.underlying34 rfl (info34 x.name HX.out.2.2) ?_)
              | fail)
            obtain ⟨V, hV⟩ : ∃ V, wr.alloc (.cells x.cells.toArray 36) = V := ⟨_, rfl⟩
            obtain ⟨xb, hxb⟩ : ∃ xb, wr.heap.size = xb := ⟨_, rfl⟩
            have HV : Hid (Below w2.heap.size w2 V ∧ V.rangeAt xb 0 (U x.name) ∧ xb < V.heap.size) := by
              rw [← hV, ← hxb]
              exact ⟨bt HJ.out.2 ((Below.refl _ wr).alloc (Nat.le_refl _) _), cells_name wr x, by simp⟩
            rw [hV, hxb]
            clear hV hxb HRA
            refine (place_is V p n c hs x.name (HR.out.1.below HV.out.1) HX.out.2.2 HR.out.2).mono ?_
            rintro e V1 ⟨rfl, HB4⟩
            rw [HZP.out]
            have HV1 : Hid (Below w2.heap.size w2 V1 ∧ V1.rangeAt xb 0 (U x.name)) := ⟨bt HV.out.1 HB4.out, rangeAt_same HV.out.2.1 (HB4.out.block _ HV.out.2.2)⟩
            go_wp2_with (first
              | (with_reducible change wpList _ _ _ ({ dst := some 86, op := _, type := _, pos := _, after := _, guard := _ } :: _) _ _
                 refine wpList_load_mid rfl 34 (.tmp 85) rfl xb 0 rfl (U x.name) _ HV1.out.2 Try.underlying34 rfl (info34 x.name HX.out.2.2) ?_)
              | fail)
            refine (needs_is V1 _ n cap l x.name (HI.out.1.below (bt HB2.out HV1.out.1)) HX.out.2.2 (by have := HM.out.1; omega) HM.out.2).mono ?_
            rintro e V2 ⟨p2, n2, c2, rs, rfl, H2, HB5⟩
            have HV2 : Hid (Below w2.heap.size w2 V2) := bt HV1.out.1 HB5.out
            have q6 : (n2 : Int) ≤ 100000 := by have := H2.out.2.1; omega
            clear HV HV1 HB4 HB5
            obtain ⟨W1, hW1⟩ : ∃ W1, W1 = wr := ⟨_, rfl⟩
            subst hW1
            go_wp2
            go_loopw [89] (fun u wr => ∃ j : Nat, u = .int .i64 (j : Int) ∧ Hid (j ≤ n2 ∧ Below V2.heap.size V2 wr)) (fun u _ => n2 - (intOf u).toNat)
            case atStart => exact ⟨0, rfl, ⟨Nat.zero_le _, Below.refl _ _⟩⟩
            case round =>
              obtain ⟨j, rfl, HK⟩ := hrel
              by_cases hj : j < n2
              · obtain ⟨d, hd⟩ : ∃ d, rs[j]? = some d := ⟨_, List.getElem?_eq_getElem (by rw [H2.out.1.1]; exact hj)⟩
                obtain ⟨g2, off2, hp2, hg2, hel2⟩ := H2.out.1.2.2 (by omega)
                have HD : Hid (j < n2 ∧ d.length = 32 ∧ wr.rangeAt g2 (off2 + j * 32) (U d)) := ⟨hj, H2.out.1.2.1 d (List.mem_of_getElem? hd), rangeAt_same (hel2 j d hd) (HK.out.2.block g2 hg2)⟩
                obtain ⟨y, hy⟩ : ∃ y, placeOf d hs = y := ⟨_, rfl⟩
                have HY : Hid (placeOf d hs = y) := hy
                have hbf := behind_fact HOS.out.1 (HOS.out.2.1 x (List.mem_of_getElem? HX.out.2.1)) ((H2.out.2.2.2 d).1 (List.mem_of_getElem? hd)).2
                rw [hy, HZP.out] at hbf
                have q7 : ¬ y < 0 := by omega
                have q8 : ¬ z ≤ y := by omega
                have q9 : (j : Int) < (n2 : Int) := by omega
                clear hj hd hel2 hy hbf
                rw [hp2]
                go_wp2_with (first
                  | (with_reducible change wpList _ _ _ ({ dst := some 92, op := _, type := _, pos := _, after := _, guard := _ } :: _) _ _
                     refine wpList_load_mid rfl 34 (.tmp 91) rfl g2 (off2 + j * 32) rfl (U d) _ HD.out.2.2 Try.underlying34 rfl (info34 d HD.out.2.1) ?_)
                  | (with_reducible change wpList _ _ _ ({ dst := none, op := Op.store 34 _ _, type := _, pos := _, after := _, guard := _ } :: _) _ _
                     refine wpList_store_fresh rfl 34 (.tmp 12) (.tmp 92) rfl Y (U d) 34 rfl rfl (by rw [U_length, HD.out.2.1, HZ.out.2]) (info34 d HD.out.2.1) (U_one d) ?_)
                  | (with_reducible change wpList _ _ _ ({ dst := some 94, op := _, type := _, pos := _, after := _, guard := _ } :: _) _ _
                     refine wpList_load_mid rfl 34 (.tmp 12) rfl wr.heap.size 0 rfl (U d) _ (new34 wr d) Try.underlying34 rfl (info34 d HD.out.2.1) ?_)
                  | fail)
                have HN : Hid (Below V2.heap.size V2 (wr.alloc (.cells (U d).toArray 34))) := bt HK.out.2 ((Below.refl _ wr).alloc (Nat.le_refl _) _)
                refine (place_is _ p n c hs d (HR.out.1.below (bt HV2.out HN.out)) HD.out.2.1 HR.out.2).mono ?_
                rintro e V3 ⟨rfl, HB6⟩
                rw [HY.out]
                go_wp2
                go_roundw
                case rel => exact ⟨j + 1, by simp, ⟨HD.out.1, bt HN.out HB6.out⟩⟩
                case measure => have := HD.out.1; simp [intOf]; omega
              · have q7 : ¬ (j : Int) < (n2 : Int) := by omega
                go_wp2
                refine ⟨⟨i + 1, by simp, ⟨HX.out.1, bt HV2.out HK.out.2⟩⟩, ?_⟩
                have := HX.out.1; simp [intOf]; omega
          · have q2 : ¬ (i : Int) < (n : Int) := by omega
            clear hin
            go_wp2_with fail
            refine (lives_is wr).mono ?_
            rintro e w4 ⟨rfl, HB4⟩
            go_wp2
            go_ret
            exact ⟨rfl, bt (bt HB2.out HJ.out.2) HB4.out⟩
      · have qe : ((er : Int) != 0) = true := by simpa using her
        have HOE : Hid (hs = [] ∧ n = 0 ∧ (¬ ClosedL len l ∨ ∃ x ∈ l, Reach (getS (downS l)) x.name x.name)) := by
          have hc : hs = [] ∧ (¬ ClosedL len l ∨ ∃ x ∈ l, Reach (getS (downS l)) x.name x.name) := by
            rcases HO.out with ⟨h1, _, _⟩ | ⟨_, h2, h3, _⟩ | ⟨_, _, ⟨x, h3⟩, h4, _⟩ | ⟨_, h2, h3, ⟨ks, h4, h5⟩, h6, _⟩ | ⟨_, _, _, _, _, h⟩
            · have := HM.out.1; have := HI.out.2; omega
            · exact ⟨h3, .inl fun h => h2 h.2.1⟩
            · exact ⟨h4, .inl fun h => h.2.2 x h3⟩
            · exact ⟨h6, .inr (short_round h4 h2 h3 h5)⟩
            · exact absurd h her
          exact ⟨hc.1, by rw [← HR.out.1.1, hc.1]; rfl, hc.2⟩
        obtain rfl := HOE.out.2.1
        clear her
        go_wp2
        go_loopw [32, 5] (fun u v wr => ∃ (i : Nat) (r : Bool), u = .int .i64 (i : Int) ∧ v = .bool r ∧ Hid (i ≤ len ∧ Below w.heap.size w wr ∧ (r = true ↔ ∃ x ∈ l.take i, Reach (getS (downS l)) x.name x.name))) (fun u _ _ => len - (intOf u).toNat)
        case atStart => exact ⟨0, false, rfl, rfl, ⟨Nat.zero_le _, HB2.out, by simp⟩⟩
        case round =>
          obtain ⟨i, r, rfl, rfl, HJ⟩ := hrel
          by_cases hin : i < len
          · obtain ⟨x, hx⟩ : ∃ x, l[i]? = some x := ⟨_, List.getElem?_eq_getElem (by rw [HI.out.2]; exact hin)⟩
            obtain ⟨b, off, rfl, hb, hel⟩ := HI.out.1.2 (by omega)
            have HX : Hid (i < len ∧ l[i]? = some x ∧ x.name.length = 32) := ⟨hin, hx, (hel i x hx).1⟩
            have HRA : Hid (wr.rangeAt b (off + i * 33) x.cells) := rangeAt_same (hel i x hx).2.1 (HJ.out.2.1.block b hb)
            have q2 : (i : Int) < (len : Int) := by omega
            have HT : Hid ((∃ y ∈ l.take (i + 1), Reach (getS (downS l)) y.name y.name) ↔ (∃ y ∈ l.take i, Reach (getS (downS l)) y.name y.name) ∨ Reach (getS (downS l)) x.name x.name) := by
              show _ ↔ _
              rw [List.take_add_one, hx]
              simp only [Option.toList, List.mem_append, List.mem_singleton]
              constructor
              · rintro ⟨y, hy | rfl, h⟩
                · exact .inl ⟨y, hy, h⟩
                · exact .inr h
              · rintro (⟨y, hy, h⟩ | h)
                · exact ⟨y, .inl hy, h⟩
                · exact ⟨x, .inr rfl, h⟩
            clear hel hx hin hb
            go_wp2_with (first
              | (with_reducible change wpList _ _ _ ({ dst := some 35, op := _, type := _, pos := _, after := _, guard := _ } :: _) _ _
                 refine wpList_load_mid rfl 36 (.tmp 34) rfl b (off + i * 33) rfl x.cells _ HRA.out Try.underlying36 rfl (info36 x HX.out.2.2) ?_)
              | (with_reducible change wpList _ _ _ ({ dst := none, op := Op.store 36 _ _, type := _, pos := _, after := _, guard := _ } :: _) _ _
                 refine wpList_store_fresh rfl 36 (.tmp 7) (.tmp 35) rfl Z x.cells 36 rfl rfl (by rw [x.cells_length HX.out.2.2, HZ.out.1]) (info36 x HX.out.2.2) (cells_one x) ?_)
              | fail)
            obtain ⟨V, hV⟩ : ∃ V, wr.alloc (.cells x.cells.toArray 36) = V := ⟨_, rfl⟩
            obtain ⟨xb, hxb⟩ : ∃ xb, wr.heap.size = xb := ⟨_, rfl⟩
            have HV : Hid (Below w.heap.size w V ∧ V.rangeAt xb 0 (U x.name) ∧ xb < V.heap.size) := by
              rw [← hV, ← hxb]
              exact ⟨bt HJ.out.2.1 ((Below.refl _ wr).alloc (Nat.le_refl _) _), cells_name wr x, by simp⟩
            rw [hV, hxb]
            clear hV hxb HRA
            cases r with
            | true =>
              refine behind_region_t ?_
              go_wp2
              go_roundw
              case rel => exact ⟨i + 1, true, by simp, rfl, ⟨HX.out.1, HV.out.1.drew, ⟨fun _ => HT.out.2 (.inl (HJ.out.2.2.1 rfl)), fun _ => rfl⟩⟩⟩
              case measure => have := HX.out.1; simp [intOf]; omega
            | false =>
              obtain ⟨B, hB⟩ : ∃ B : Bool, B = true ↔ Reach (getS (downS l)) x.name x.name := by
                classical
                exact ⟨decide (Reach (getS (downS l)) x.name x.name), decide_eq_true_iff⟩
              have HBB : Hid (B = true ↔ Reach (getS (downS l)) x.name x.name) := hB
              clear hB
              refine behind_region_f (x := x.name) (B := B) HX.out.2.2 ⟨HV.out.2.1, HV.out.2.2⟩ (fun V1 h1 => needs_tell V1 _ len cap l x.name x.name (HI.out.1.below (bt HV.out.1 h1)) HX.out.2.2 (by have := HM.out.1; omega) HM.out.2 B HBB.out) ?_
              intro p1 n1 c1 z1 V2 hV2
              have HV2 : Hid (Below w.heap.size w V2) := bt HV.out.1 hV2
              clear hV2
              go_wp2
              go_roundw
              case rel => exact ⟨i + 1, B, by simp, rfl, ⟨HX.out.1, HV2.out, ⟨fun h => HT.out.2 (.inr (HBB.out.1 h)), fun h => by
                rcases HT.out.1 h with h | h
                · have := HJ.out.2.2.2 h; cases this
                · exact HBB.out.2 h⟩⟩⟩
              case measure => have := HX.out.1; simp [intOf]; omega
          · have q2 : ¬ (i : Int) < (len : Int) := by omega
            have HRR : Hid (r = true ↔ ∃ x ∈ l, Reach (getS (downS l)) x.name x.name) := by
              have := HJ.out.2.2
              rw [List.take_of_length_le (by have := HI.out.2; omega)] at this
              exact this
            clear hin
            go_wp2_with fail
            refine (closed_is wr a len cap l (HI.out.1.below HJ.out.2.1) (by have := HM.out; omega) HM.out.2).mono ?_
            rintro e w4 ⟨cl, rfl, G1, HB4⟩
            have HB5 : Hid (Below w.heap.size w w4) := bt HJ.out.2.1 HB4.out
            cases cl with
            | false =>
              go_wp2_with fail
              refine (lives_is w4).mono ?_
              rintro e w5 ⟨rfl, HB6⟩
              go_wp2
              go_ret
              exact ⟨rfl, bt HB5.out HB6.out⟩
            | true =>
              obtain rfl : r = true := by
                rcases HOE.out.2.2 with h | h
                · exact absurd (G1.out.1 rfl) h
                · exact HRR.out.2 h
              go_wp2_with fail
              refine (lives_is w4).mono ?_
              rintro e w5 ⟨rfl, HB6⟩
              go_wp2
              go_ret
              exact ⟨rfl, bt HB5.out HB6.out⟩
#print axioms behind_law
end Go.Proofs.Ytijkpkcopjkhkaa.Oct
