/-
  Layer 12 (deps): Missing.
-/
import Derived.Test.YtijkpkcopjkhkaaNeeds
namespace Go.Proofs.Ytijkpkcopjkhkaa.Oct
open Go.RowKit

/-- what a list of hashes adds to those that are missing -/
def missD (ns ks ds : List Hs) : List Hs := ds.foldl (fun ks d => if d ∈ ns then ks else addK ks d) ks
def missK (ns : List Hs) (l : List It) : List Hs := l.foldl (fun ks x => missD ns ks x.deps) []
theorem missK_take (ns : List Hs) (l : List It) (i : Nat) (x : It) (h : l[i]? = some x) : missK ns (l.take (i + 1)) = missD ns (missK ns (l.take i)) x.deps := by
  unfold missK
  rw [List.take_add_one, h, List.foldl_append]; rfl
theorem missD_take (ns ks ds : List Hs) (j : Nat) (d : Hs) (h : ds[j]? = some d) : missD ns ks (ds.take (j + 1)) = if d ∈ ns then missD ns ks (ds.take j) else addK (missD ns ks (ds.take j)) d := by
  unfold missD
  rw [List.take_add_one, h, List.foldl_append]; rfl
theorem mem_missD {ns : List Hs} {x : Hs} : ∀ (ds ks : List Hs), x ∈ missD ns ks ds ↔ x ∈ ks ∨ (x ∈ ds ∧ x ∉ ns)
  | [], ks => by simp [missD]
  | d :: ds, ks => by
    have ih := mem_missD (ns := ns) (x := x) ds (if d ∈ ns then ks else addK ks d)
    show x ∈ missD ns (if d ∈ ns then ks else addK ks d) ds ↔ _
    rw [ih]
    by_cases hd : d ∈ ns
    · simp only [if_pos hd, List.mem_cons]
      constructor
      · rintro (h | ⟨h1, h2⟩)
        · exact .inl h
        · exact .inr ⟨.inr h1, h2⟩
      · rintro (h | ⟨h1 | h1, h2⟩)
        · exact .inl h
        · rw [h1] at h2; exact absurd hd h2
        · exact .inr ⟨h1, h2⟩
    · simp only [if_neg hd, mem_addK, List.mem_cons]
      constructor
      · rintro ((h | h) | ⟨h1, h2⟩)
        · exact .inl h
        · exact .inr ⟨.inl h, by rw [h]; exact hd⟩
        · exact .inr ⟨.inr h1, h2⟩
      · rintro (h | ⟨h1 | h1, h2⟩)
        · exact .inl (.inl h)
        · exact .inl (.inr h1)
        · exact .inr ⟨h1, h2⟩
theorem mem_missK {ns : List Hs} {x : Hs} (l : List It) : x ∈ missK ns l ↔ (∃ it ∈ l, x ∈ it.deps) ∧ x ∉ ns := by
  have key : ∀ (l : List It) (ks : List Hs), x ∈ l.foldl (fun ks x => missD ns ks x.deps) ks ↔ x ∈ ks ∨ ((∃ it ∈ l, x ∈ it.deps) ∧ x ∉ ns) := by
    intro l
    induction l with
    | nil => intro ks; simp
    | cons it l ih =>
      intro ks
      rw [List.foldl_cons, ih, mem_missD]
      constructor
      · rintro ((h | ⟨h1, h2⟩) | ⟨⟨y, hy, h1⟩, h2⟩)
        · exact .inl h
        · exact .inr ⟨⟨it, by simp, h1⟩, h2⟩
        · exact .inr ⟨⟨y, by simp [hy], h1⟩, h2⟩
      · rintro (h | ⟨⟨y, hy, h1⟩, h2⟩)
        · exact .inl (.inl h)
        · rcases List.mem_cons.1 hy with rfl | hy
          · exact .inl (.inr ⟨h1, h2⟩)
          · exact .inr ⟨⟨y, hy, h1⟩, h2⟩
  have := key l []
  simpa [missK] using this
theorem mem_namesK {x : Hs} (l : List It) : x ∈ namesK l ↔ x ∈ l.map (·.name) := by
  have key : ∀ (l : List It) (ks : List Hs), x ∈ l.foldl (fun ks x => addK ks x.name) ks ↔ x ∈ ks ∨ x ∈ l.map (·.name) := by
    intro l
    induction l with
    | nil => intro ks; simp
    | cons it l ih =>
      intro ks
      rw [List.foldl_cons, ih, mem_addK]
      simp only [List.map_cons, List.mem_cons]
      constructor
      · rintro ((h | h) | h)
        · exact .inl h
        · exact .inr (.inl h)
        · exact .inr (.inr h)
      · rintro (h | h | h)
        · exact .inl (.inl h)
        · exact .inl (.inr h)
        · exact .inr h
  have := key l []
  simpa [namesK] using this
/-- all that items need -/
def allD (l : List It) : List Hs := l.flatMap (·.deps)
theorem allD_len (l : List It) : (allD l).length = many l := by
  unfold allD many
  rw [List.length_flatMap]
def missing (l : List It) (x : Hs) : Prop := (∃ it ∈ l, x ∈ it.deps) ∧ x ∉ l.map (·.name)

set_option maxRecDepth 100000 in
set_option maxHeartbeats 4000000 in
theorem missing_is (w : World) (a : Option Addr) (len cap : Nat) (l : List It) (hi : Its w a len l) (hn : len ≤ 100000) (hm : many l ≤ 90000) :
    Calls Try.prog 18 #[.slice a len cap] w (SetP w fun x => len ≤ 256 ∧ missing l x) := by
  have HA : Hid (Its w a len l ∧ len ≤ 100000 ∧ many l ≤ 90000) := ⟨hi, hn, hm⟩
  have q5 : (len : Int) ≤ 100000 := by omega
  clear hi hn hm
  by_cases h256 : 256 < len
  · have hd : decide (256 < len) = true := by simpa using h256
    have HN : Hid (¬ len ≤ 256) := by show ¬ _; omega
    have H23 := isLong_is w a len cap
    rw [hd] at H23
    have H23' : Hid (Calls Try.prog 23 #[.slice a len cap] w fun e w' => e = .returned (.bool true) ∧ w = w') := H23
    clear H23 h256 hd
    go_enter Try.func18, Try.ntmps18
    go_wp2_with fail
    refine H23'.out.mono ?_
    rintro e w' ⟨rfl, rfl⟩
    go_wp2
    go_ret
    exact SetP.nil w (fun x hx => HN.out hx.1) (Below.refl _ _)
  · have hd : decide (256 < len) = false := by simpa using h256
    have HN : Hid (len ≤ 256) := by show _ ≤ _; omega
    have H23 := isLong_is w a len cap
    rw [hd] at H23
    have H23' : Hid (Calls Try.prog 23 #[.slice a len cap] w fun e w' => e = .returned (.bool false) ∧ w = w') := H23
    obtain ⟨Z, hZl, hZ⟩ := zero36
    obtain ⟨Y, hYl, hY⟩ := zero34
    have HZ : Hid (Z.length = 33 ∧ Y.length = 32) := ⟨hZl, hYl⟩
    have hz52 := zero52
    have hmk := run_make43
    clear H23 h256 hd hZl hYl
    go_enter Try.func18, Try.ntmps18
    go_wp2_with fail
    refine H23'.out.mono ?_
    rintro e w' ⟨rfl, rfl⟩
    go_wp2_with (go_at_call 24; refine (namesOf_is w a len cap l HA.out.1 HA.out.2.1).mono ?_; rintro e w1 ⟨b1, rfl, H1, HB1⟩)
    clear hmk
    obtain ⟨b2, hb2⟩ : ∃ b2, w1.heap.size = b2 := ⟨_, rfl⟩
    obtain ⟨W, hW⟩ : ∃ W, w1.alloc (.map #[] 0) = W := ⟨_, rfl⟩
    obtain ⟨ns, hns⟩ : ∃ ns, namesK l = ns := ⟨_, rfl⟩
    have H0 : Hid (Below w.heap.size w W ∧ SM W b1 ns ∧ SM W b2 [] ∧ b1 < b2 ∧ w.heap.size ≤ b1) := ⟨by rw [← hW]; exact HB1.out.alloc HB1.out.size _, by rw [← hW, ← hns]; exact H1.out.1.alloc _, by rw [← hW, ← hb2]; exact SM.made w1, by rw [← hb2]; exact H1.out.1.lt, H1.out.2⟩
    have HNS : Hid (namesK l = ns) := hns
    rw [hb2, hW]
    clear hb2 hW H1 HB1 hns
    go_loopw [18] (fun u wr => ∃ i : Nat, u = .int .i64 (i : Int) ∧ Hid (i ≤ len ∧ Below w.heap.size w wr ∧ SM wr b1 ns ∧ SM wr b2 (missK ns (l.take i)))) (fun u _ => len - (intOf u).toNat)
    case atStart => exact ⟨0, rfl, ⟨Nat.zero_le _, H0.out.1, H0.out.2.1, H0.out.2.2.1⟩⟩
    case round =>
      obtain ⟨i, rfl, HB⟩ := hrel
      by_cases hi : i < len
      · obtain ⟨x, hx⟩ : ∃ x, l[i]? = some x := ⟨_, List.getElem?_eq_getElem (by rw [HA.out.1.1]; exact hi)⟩
        obtain ⟨b, off, rfl, hb, hel⟩ := HA.out.1.2 (by omega)
        have HX : Hid (i < len ∧ l[i]? = some x ∧ x.name.length = 32) := ⟨hi, hx, (hel i x hx).1⟩
        have HRA : Hid (wr.rangeAt b (off + i * 33) x.cells) := rangeAt_same (hel i x hx).2.1 (HB.out.2.1.block b hb)
        have HDW : Hid (HsR w x.a x.n x.deps) := (hel i x hx).2.2.1
        have HXN : Hid (x.n ≤ 100000) := by show _ ≤ _; have h1 := dep_le l i x hx; have h2 := HDW.out.1; have h3 := HA.out.2.2; omega
        have q1 : (i : Int) < (len : Int) := by omega
        have hdp := cells_dep wr x (hel i x hx).1
        clear hel hx hi
        go_wp2_with (first
          | (with_reducible change wpList _ _ _ ({ dst := some 21, op := _, type := _, pos := _, after := _, guard := _ } :: _) _ _
             refine wpList_load_mid rfl 36 (.tmp 20) rfl b (off + i * 33) rfl x.cells _ HRA.out Try.underlying36 rfl (info36 x HX.out.2.2) ?_)
          | (with_reducible change wpList _ _ _ ({ dst := none, op := Op.store 36 _ _, type := _, pos := _, after := _, guard := _ } :: _) _ _
             refine wpList_store_fresh rfl 36 (.tmp 6) (.tmp 21) rfl Z x.cells 36 rfl rfl (by rw [x.cells_length HX.out.2.2, HZ.out.1]) (info36 x HX.out.2.2) (cells_one x) ?_)
          | fail)
        obtain ⟨V, hV⟩ : ∃ V, wr.alloc (.cells x.cells.toArray 36) = V := ⟨_, rfl⟩
        have hbV : Below wr.heap.size wr V := by rw [← hV]; exact (Below.refl _ wr).alloc (Nat.le_refl _) _
        have HV : Hid (Below w.heap.size w V ∧ SM V b1 ns ∧ SM V b2 (missK ns (l.take i))) := ⟨HB.out.2.1.trans (hbV.mono HB.out.2.1.size), HB.out.2.2.1.below hbV HB.out.2.2.1.lt, HB.out.2.2.2.below hbV HB.out.2.2.2.lt⟩
        rw [hV]
        clear hV hbV hdp HRA
        obtain ⟨W1, hW1⟩ : ∃ W1, W1 = wr := ⟨_, rfl⟩
        subst hW1
        have q2 : (x.n : Int) ≤ 100000 := by have := HXN.out; omega
        go_loopw [25] (fun u wr => ∃ j : Nat, u = .int .i64 (j : Int) ∧ Hid (j ≤ x.n ∧ Below w.heap.size w wr ∧ SM wr b1 ns ∧ SM wr b2 (missD ns (missK ns (l.take i)) (x.deps.take j)))) (fun u _ => x.n - (intOf u).toNat)
        case atStart => exact ⟨0, rfl, ⟨Nat.zero_le _, HV.out.1, HV.out.2.1, HV.out.2.2⟩⟩
        case round =>
          obtain ⟨j, rfl, HJ⟩ := hrel
          by_cases hj : j < x.n
          · obtain ⟨d, hd⟩ : ∃ d, x.deps[j]? = some d := ⟨_, List.getElem?_eq_getElem (by rw [HDW.out.1]; exact hj)⟩
            obtain ⟨g2, off2, hxa, hg2, hel2⟩ := HDW.out.2.2 (by omega)
            have HD : Hid (j < x.n ∧ x.deps[j]? = some d ∧ d.length = 32 ∧ wr.rangeAt g2 (off2 + j * 32) (U d)) := ⟨hj, hd, HDW.out.2.1 d (List.mem_of_getElem? hd), rangeAt_same (hel2 j d hd) (HJ.out.2.1.block g2 hg2)⟩
            have q3 : (j : Int) < (x.n : Int) := by omega
            clear hj hd hel2
            rw [hxa]
            have HB6 : Hid (Below wr.heap.size wr (wr.alloc (.cells (U d).toArray 34))) := (Below.refl _ wr).alloc (Nat.le_refl _) _
            have HS6 : Hid (SM (wr.alloc (.cells (U d).toArray 34)) b1 ns) := HJ.out.2.2.1.alloc _
            have hb7 : Below wr.heap.size wr ((wr.alloc (.cells (U d).toArray 34)).alloc (.cells #[] 52)) := HB6.out.alloc (by simp) _
            have H7 : Hid (Below wr.heap.size wr ((wr.alloc (.cells (U d).toArray 34)).alloc (.cells #[] 52)) ∧ SM ((wr.alloc (.cells (U d).toArray 34)).alloc (.cells #[] 52)) b2 (missD ns (missK ns (l.take i)) (x.deps.take j)) ∧ ((wr.alloc (.cells (U d).toArray 34)).alloc (.cells #[] 52)).rangeAt wr.heap.size 0 (U d)) := ⟨hb7, (HJ.out.2.2.2.alloc _).alloc _, rangeAt_same (new34 wr d) (Below.heap_alloc _ _ _ (by simp))⟩
            clear hb7
            cases hdm : decide (d ∈ ns) with
            | true =>
              have HDM : Hid (decide (d ∈ ns) = true) := hdm
              clear hdm
              go_wp2_with (first
                | (with_reducible change wpList _ _ _ ({ dst := some 28, op := _, type := _, pos := _, after := _, guard := _ } :: _) _ _
                   refine wpList_load_mid rfl 34 (.tmp 27) rfl g2 (off2 + j * 32) rfl (U d) _ HD.out.2.2.2 Try.underlying34 rfl (info34 d HD.out.2.2.1) ?_)
                | (with_reducible change wpList _ _ _ ({ dst := none, op := Op.store 34 _ _, type := _, pos := _, after := _, guard := _ } :: _) _ _
                   refine wpList_store_fresh rfl 34 (.tmp 8) (.tmp 28) rfl Y (U d) 34 rfl rfl (by rw [U_length, HD.out.2.2.1, HZ.out.2]) (info34 d HD.out.2.2.1) (U_one d) ?_)
                | (with_reducible change wpList _ _ _ ({ dst := some 31, op := _, type := _, pos := _, after := _, guard := _ } :: _) _ _
                   refine wpList_load_mid rfl 34 (.tmp 8) rfl wr.heap.size 0 rfl (U d) _ (new34 wr d) Try.underlying34 rfl (info34 d HD.out.2.2.1) ?_)
                | (with_reducible change wpList _ _ _ ({ dst := some 32, op := _, type := _, pos := _, after := _, guard := _ } :: _) _ _
                   refine wpList_slook rfl (.tmp 30) (.tmp 31) rfl b1 ns d rfl rfl HS6.out HD.out.2.2.1 ?_
                   rw [HDM.out])
                | fail)
              refine ⟨⟨j + 1, by simp, ⟨HD.out.1, HJ.out.2.1.trans (H7.out.1.mono HJ.out.2.1.size), HS6.out.alloc _, ?_⟩⟩, ?_⟩
              · rw [missD_take ns _ _ j d HD.out.2.1, if_pos (by simpa using HDM.out)]
                exact H7.out.2.1
              · have := HD.out.1; simp [intOf]; omega
            | false =>
              have HDM : Hid (decide (d ∈ ns) = false) := hdm
              clear hdm
              go_wp2_with (first
                | (with_reducible change wpList _ _ _ ({ dst := some 28, op := _, type := _, pos := _, after := _, guard := _ } :: _) _ _
                   refine wpList_load_mid rfl 34 (.tmp 27) rfl g2 (off2 + j * 32) rfl (U d) _ HD.out.2.2.2 Try.underlying34 rfl (info34 d HD.out.2.2.1) ?_)
                | (with_reducible change wpList _ _ _ ({ dst := none, op := Op.store 34 _ _, type := _, pos := _, after := _, guard := _ } :: _) _ _
                   refine wpList_store_fresh rfl 34 (.tmp 8) (.tmp 28) rfl Y (U d) 34 rfl rfl (by rw [U_length, HD.out.2.2.1, HZ.out.2]) (info34 d HD.out.2.2.1) (U_one d) ?_)
                | (with_reducible change wpList _ _ _ ({ dst := some 31, op := _, type := _, pos := _, after := _, guard := _ } :: _) _ _
                   refine wpList_load_mid rfl 34 (.tmp 8) rfl wr.heap.size 0 rfl (U d) _ (new34 wr d) Try.underlying34 rfl (info34 d HD.out.2.2.1) ?_)
                | (with_reducible change wpList _ _ _ ({ dst := some 32, op := _, type := _, pos := _, after := _, guard := _ } :: _) _ _
                   refine wpList_slook rfl (.tmp 30) (.tmp 31) rfl b1 ns d rfl rfl HS6.out HD.out.2.2.1 ?_
                   rw [HDM.out])
                | (with_reducible change wpList _ _ _ ({ dst := some 38, op := _, type := _, pos := _, after := _, guard := _ } :: _) _ _
                   refine wpList_load_mid rfl 34 (.tmp 8) rfl wr.heap.size 0 rfl (U d) _ H7.out.2.2 Try.underlying34 rfl (info34 d HD.out.2.2.1) ?_)
                | (with_reducible change wpList _ _ _ ({ dst := none, op := Op.mapUpdate 43 _ _ _, type := _, pos := _, after := _, guard := _ } :: _) _ _
                   refine Hid.out ?_)
                | fail)
              show wpList _ _ _ _ _ _
              refine wpList_sput rfl (.tmp 37) (.tmp 38) (.tmp 39) rfl b2 _ d rfl rfl rfl H7.out.2.1 HD.out.2.2.1 ?_
              intro w6 r1 r2 r3
              go_wp2
              refine ⟨⟨j + 1, by simp, ⟨HD.out.1, below_grownBy (HJ.out.2.1.trans (H7.out.1.mono HJ.out.2.1.size)) r2 (by have := H0.out; omega) (Nat.le_refl _), (HS6.out.alloc _).kept r2 (by have := H0.out; simp; omega), ?_⟩⟩, ?_⟩
              · rw [missD_take ns _ _ j d HD.out.2.1, if_neg (by simpa using HDM.out)]
                exact r1
              · have := HD.out.1; simp [intOf]; omega
          · have q3 : ¬ (j : Int) < (x.n : Int) := by omega
            go_wp2
            refine ⟨⟨i + 1, by simp, ⟨HX.out.1, HJ.out.2.1, HJ.out.2.2.1, ?_⟩⟩, ?_⟩
            · have := HJ.out.2.2.2
              rw [List.take_of_length_le (l := x.deps) (by rw [HDW.out.1]; omega)] at this
              rw [missK_take ns l i x HX.out.2.1]; exact this
            · have := HX.out.1; simp [intOf]; omega
      · have q1 : ¬ (i : Int) < (len : Int) := by omega
        have HK : Hid (SM wr b2 (missK ns l)) := by
          show SM _ _ _
          have := HB.out.2.2.2
          rw [List.take_of_length_le (by rw [HA.out.1.1]; omega)] at this
          exact this
        have HKL : Hid ((missK ns l).length ≤ 90000) := by
          show _ ≤ _
          have h1 := nodup_le (missK ns l) (allD l) HK.out.nodup.1 (fun x hx => by
            obtain ⟨⟨it, h1, h2⟩, _⟩ := (mem_missK l).1 hx
            exact List.mem_flatMap.2 ⟨it, h1, h2⟩)
          rw [allD_len] at h1
          have := HA.out.2.2
          omega
        go_wp2_with (go_at_call 33; refine (rising_is wr b2 (missK ns l) HK.out (by have := HKL.out; omega)).mono ?_; rintro e w5 ⟨a5, n5, c5, rs, rfl, H5, HB5⟩)
        go_ret
        refine ⟨a5, n5, c5, rs, rfl, ⟨H5.out.1, ?_, H5.out.2.2.1, fun x => ?_⟩, HB.out.2.1.trans (HB5.out.mono HB.out.2.1.size)⟩
        · have h1 := nodup_le rs (missK ns l) (rise_nodup H5.out.2.2.1) (fun x hx => (H5.out.2.2.2 x).1 hx)
          rw [H5.out.1.1] at h1
          have := HKL.out
          omega
        · rw [H5.out.2.2.2, mem_missK, ← HNS.out, mem_namesK]
          exact ⟨fun h => ⟨HN.out, h⟩, fun h => h.2⟩
#print axioms missing_is
end Go.Proofs.Ytijkpkcopjkhkaa.Oct
