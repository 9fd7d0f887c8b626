/-
  Layer 10 (patch): the reference's 'Split' and 'Path'.
-/
import Derived.Test.YtgdecjacbkicmaaDoorRefName
import Derived.Test.YtgdecjacbkicmaaDoorStrs
import Derived.Laws.AppendOwn
namespace Go.Proofs.YtgdecjacbkicmaaDoor.Oct
open Go.RowKit
set_option maxRecDepth 100000

theorem info9 : (Tryd.prog.info? 9).map (fun i => (i.zero, i.size, i.bytes)) = some (some (.string ⟨#[]⟩), 1, 16) := by kernel_rfl
theorem cell_new_row (w : World) (t : TypeId) (v : Value) : ∀ j u, [v][j]? = some u → (w.alloc (.cells #[v] t)).cell? ((⟨w.heap.size, 0, none⟩ : Addr).add j) = some u := by
  intro j u hj
  have e := World.cell?_alloc_mark w #[v] t (0, 0) j
  rw [Addr.add_lit, Nat.zero_add, e]
  simpa using hj

/-- texts of the call's own -/
def OwnS (B : Nat) (w : World) (v : Value) (l : List ByteArray) : Prop := w.ownsRow B 9 1 v l.length (l.map Value.string)
theorem OwnS.strs {B : Nat} {w : World} {v : Value} {l : List ByteArray} (h : OwnS B w v l) (hp : 0 < l.length) : ∃ g cap, v = .slice (some ⟨g, 0, none⟩) l.length cap ∧ Strs w (some ⟨g, 0, none⟩) l.length l := by
  have hh := h
  rcases h.2 with ⟨_, h2⟩ | ⟨g, cap, cur, e1, e2, hg, e3, e4, _⟩
  · omega
  · refine ⟨g, cap, e1, rfl, fun _ => ⟨g, 0, rfl, lt_of_block hg, fun i x hx => ?_⟩⟩
    subst e1
    have hlt : i < l.length := (List.getElem?_eq_some_iff.1 hx).1
    have := World.ownsRow.cellAt hh i (by omega)
    rw [Nat.zero_add, this, List.getElem?_map, hx]; rfl

/-- what has been cut off so far: the pieces ps, all that stands ahead of b; from b to t there is no slash -/
structure Cutting (s : ByteArray) (t b : Nat) (ps : List ByteArray) : Prop where
  le : b ≤ t
  few : ps.length ≤ b
  all : pcs s = ps ++ (split (s.data.toList.drop b)).map mkS
  clean : 47 ∉ (s.data.toList.drop b).take (t - b)
theorem Cutting.first (s : ByteArray) : Cutting s 0 0 [] := ⟨Nat.le_refl _, Nat.le_refl _, rfl, by simp⟩
theorem Cutting.other {s : ByteArray} {t b : Nat} {ps : List ByteArray} (h : Cutting s t b ps) {c : UInt8} (hc : s.data.toList[t]? = some c) (hne : c ≠ 47) : Cutting s (t + 1) b ps := by
  refine ⟨by have := h.le; omega, h.few, h.all, ?_⟩
  have hle := h.le
  have hl := (List.getElem?_eq_some_iff.1 hc).1
  have e : (s.data.toList.drop b).take (t + 1 - b) = (s.data.toList.drop b).take (t - b) ++ [c] := by
    rw [show t + 1 - b = (t - b) + 1 by omega]
    rw [List.take_add_one, List.getElem?_drop, show b + (t - b) = t by omega, hc]; rfl
  rw [e]
  simp only [List.mem_append, List.mem_singleton, not_or]
  exact ⟨h.clean, fun e => hne e.symm⟩
theorem Cutting.slash {s : ByteArray} {t b : Nat} {ps : List ByteArray} (h : Cutting s t b ps) (hc : s.data.toList[t]? = some 47) : Cutting s (t + 1) (t + 1) (ps ++ [s.extract b t]) := by
  have hle := h.le
  obtain ⟨hl, hv⟩ := List.getElem?_eq_some_iff.1 hc
  have e : s.data.toList.drop b = (s.data.toList.drop b).take (t - b) ++ 47 :: s.data.toList.drop (t + 1) := by
    have e1 := List.take_append_drop (t - b) (s.data.toList.drop b)
    rw [List.drop_drop, show b + (t - b) = t by omega] at e1
    rw [List.drop_eq_getElem_cons hl, hv] at e1
    exact e1.symm
  refine ⟨Nat.le_refl _, by have := h.few; simp; omega, ?_, by simp⟩
  rw [h.all, e, split_one _ h.clean, List.map_cons, List.append_assoc]
  have e2 : mkS ((s.data.toList.drop b).take (t - b)) = s.extract b t := by
    rw [← mkS_list (s.extract b t), Lib.extract_data]
  rw [e2]; rfl
theorem Cutting.last {s : ByteArray} {b n : Nat} {ps : List ByteArray} (h : Cutting s n b ps) (hn : s.size = n) : pcs s = ps ++ [s.extract b n] := by
  have hl : s.data.toList.length = n := hn
  have e : (s.data.toList.drop b).take (n - b) = s.data.toList.drop b := List.take_of_length_le (by rw [List.length_drop, hl]; exact Nat.le_refl _)
  have hc := h.clean
  rw [e] at hc
  rw [h.all, split_none hc]
  have e2 : mkS (s.data.toList.drop b) = s.extract b n := by
    rw [← mkS_list (s.extract b n), Lib.extract_data, e]
  rw [List.map_singleton, e2]

theorem grown_below {w wr w4 : World} {x : Value} {v : Value} {l : List ByteArray} (hB : Below w.heap.size w wr) (ho : OwnS w.heap.size wr v l) (hg : (wr.alloc (.cells #[x] 9)).grownBy w4 v.ownBlock) : Below w.heap.size w w4 := by
  have hsz := hB.size
  refine hB.trans ⟨hg.os, hg.tape, hg.output, ?_, ?_⟩
  · have := hg.size; rw [World.size_alloc] at this; omega
  · intro b hb
    refine (hg.block b (by rw [World.size_alloc]; omega) (fun e => ?_)).trans (Below.heap_alloc _ _ _ (by omega))
    rcases ho.2 with ⟨h2, _⟩ | ⟨g, cap, cur, e1, e2, _⟩
    · subst h2; simp [Value.ownBlock] at e
    · subst e1; simp [Value.ownBlock] at e; omega

theorem OwnS.snoc {B : Nat} {w : World} {v : Value} {ps l : List ByteArray} {x : ByteArray} (h : w.ownsRow B 9 1 v (ps.length + 1) (ps.map Value.string ++ [.string x])) (e : l = ps ++ [x]) : OwnS B w v l := by
  subst e
  show w.ownsRow B 9 1 v (ps ++ [x]).length ((ps ++ [x]).map Value.string)
  rw [List.length_append, List.map_append]
  exact h
set_option maxRecDepth 100000 in
set_option maxHeartbeats 2000000 in
theorem refSplit_is (s : ByteArray) (w : World) (hn : s.size ≤ 100000) : Calls Tryd.prog 71 #[.string s] w fun e w' => ∃ v, e = .returned v ∧ Hid (OwnS w.heap.size w' v (pcs s)) ∧ Hid (Below w.heap.size w w') := by
  obtain ⟨i9, hi9, hz0, hz1, hz2⟩ := info_parts info9
  obtain ⟨n, hsn⟩ : ∃ n, s.size = n := ⟨_, rfl⟩
  have HSN : Hid (s.size = n) := hsn
  have HLL : Hid (s.data.toList.length = n) := hsn
  rw [hsn] at hn
  have q0 : (n : Int) ≤ 100000 := by omega
  have HN : Hid (n ≤ 100000) := hn
  have HB0 : Hid (Below w.heap.size w w) := Below.refl _ _
  have HO0 : Hid (OwnS w.heap.size w (.slice none 0 0) []) := ⟨rfl, .inl ⟨rfl, rfl⟩⟩
  clear hn
  go_enter Tryd.func71, Tryd.ntmps71
  go_wp2_with fail
  go_loopw [3, 4, 5] (fun v bg i wr => ∃ (t b : Nat) (ps : List ByteArray), bg = .int .i64 (b : Int) ∧ i = .int .i64 (t : Int) ∧ t ≤ n ∧ Hid (Cutting s t b ps) ∧ Hid (OwnS w.heap.size wr v ps) ∧ Hid (Below w.heap.size w wr)) (fun _ _ i _ => n - (intOf i).toNat)
  case atStart => exact ⟨0, 0, [], rfl, rfl, by omega, Cutting.first s, HO0, HB0⟩
  case round =>
    obtain ⟨t, b, ps, rfl, rfl, ht, hcut, ho, hb⟩ := hrel
    have b1 : (b : Int) ≤ (t : Int) := by have := hcut.out.le; omega
    have b2 : (t : Int) ≤ 100000 := by have := HN.out; omega
    by_cases hlt : t = n
    · subst hlt
      go_wp2_with (first
        | (with_reducible change wpList _ _ _ ({ dst := some 30, op := _, type := _, pos := _, after := _, guard := _ } :: _) _ _
           refine wpList_append_own _ rfl (.tmp 25) (.tmp 29) 43 rfl w.heap.size 9 i9 (.string ⟨#[]⟩) 1 16 Tryd.underlying43 hi9 hz0 hz1 hz2 rfl (by decide) _ ps.length (ps.map Value.string) rfl (World.ownsRow.alloc ho.out _) ⟨wr.heap.size, 0, none⟩ 1 1 [.string (s.extract b t)] rfl rfl (cell_new_row wr 9 (.string (s.extract b t))) (by simp [Value.oneCell']) (by have := hcut.out.few; have := hcut.out.le; have := HN.out; unfold maxLen; omega) (by have := hcut.out.few; have := hcut.out.le; have := HN.out; omega) (by have := hb.out.size; simp; omega) ?_
           intro v4 w4 ho4 hg4 _)
        | fail)
      go_ret
      exact ⟨v4, rfl, OwnS.snoc ho4 (hcut.out.last HSN.out), grown_below hb.out ho.out hg4⟩
    · have q4 : (t : Int) < (n : Int) := by omega
      have HT : Hid (t < n) := by show t < n; omega
      have htl : t < s.data.toList.length := by rw [HLL.out]; omega
      obtain ⟨c, hc⟩ : ∃ c, s.data.toList[t]? = some c := ⟨_, List.getElem?_eq_getElem htl⟩
      have HC : Hid (s.data.toList[t]? = some c) := hc
      have hg1 : ∀ h, s[t]'h = c := by
        intro h
        have e := (List.getElem?_eq_some_iff.1 hc).2
        exact e
      clear hlt hc htl
      by_cases h47 : c = 47
      · subst h47
        go_wp2_with (first
          | (with_reducible change wpList _ _ _ ({ dst := some 22, op := _, type := _, pos := _, after := _, guard := _ } :: _) _ _
             refine wpList_append_own _ rfl (.tmp 16) (.tmp 21) 43 rfl w.heap.size 9 i9 (.string ⟨#[]⟩) 1 16 Tryd.underlying43 hi9 hz0 hz1 hz2 rfl (by decide) _ ps.length (ps.map Value.string) rfl (World.ownsRow.alloc ho.out _) ⟨wr.heap.size, 0, none⟩ 1 1 [.string (s.extract b t)] rfl rfl (cell_new_row wr 9 (.string (s.extract b t))) (by simp [Value.oneCell']) (by have := hcut.out.few; have := hcut.out.le; have := HN.out; unfold maxLen; omega) (by have := hcut.out.few; have := hcut.out.le; have := HN.out; omega) (by have := hb.out.size; simp; omega) ?_
             intro v4 w4 ho4 hg4 _)
          | fail)
        go_roundw
        case rel => exact ⟨t + 1, t + 1, ps ++ [s.extract b t], by simp, by simp, by have := HT.out; omega, hcut.out.slash HC.out, OwnS.snoc ho4 rfl, grown_below hb.out ho.out hg4⟩
        case measure => have := HT.out; simp [intOf]; omega
      · have HNE : Hid (c ≠ 47) := h47
        have e47 : ((c.toNat : Int) == 47) = false := by
          have : c.toNat ≠ 47 := fun e => h47 (by rw [← UInt8.ofNat_toNat (x := c), e]; rfl)
          simp; omega
        clear h47
        go_wp2_with fail
        go_roundw
        case rel => exact ⟨t + 1, b, ps, rfl, by simp, by have := HT.out; omega, hcut.out.other HC.out HNE.out, ho, hb⟩
        case measure => have := HT.out; simp [intOf]; omega

theorem OwnS.below {B : Nat} {w w' : World} {v : Value} {l : List ByteArray} (h : OwnS B w v l) (hb : Below w.heap.size w w') : OwnS B w' v l := by
  obtain ⟨h1, h2⟩ := h
  refine ⟨h1, ?_⟩
  rcases h2 with h2 | ⟨g, c, cur, e1, e2, hg2, r⟩
  · exact .inl h2
  · exact .inr ⟨g, c, cur, e1, e2, (hb.block g (lt_of_block hg2)).trans hg2, r⟩
theorem pcs_pos (s : ByteArray) : 0 < (pcs s).length := by
  rw [pcs_len]
  cases hs : split s.data.toList with
  | nil => exact absurd hs (split_ne _)
  | cons q r => simp

/-- the reference's Split, as a slice of texts that can be read -/
theorem refSplit_in (s : ByteArray) (w : World) (hn : s.size ≤ 100000) : Calls Tryd.prog 71 #[.string s] w fun e w' => ∃ g cap, e = .returned (.slice (some ⟨g, 0, none⟩) (pcs s).length cap) ∧ Hid (Strs w' (some ⟨g, 0, none⟩) (pcs s).length (pcs s)) ∧ Hid (Below w.heap.size w w') := by
  refine (refSplit_is s w hn).mono ?_
  rintro e w' ⟨v, rfl, ho, hb⟩
  obtain ⟨g, cap, rfl, hs⟩ := ho.out.strs (pcs_pos s)
  exact ⟨g, cap, rfl, hs, hb⟩

set_option maxRecDepth 100000 in
set_option maxHeartbeats 2000000 in
theorem refPath_is (s : ByteArray) (w : World) (hn : s.size ≤ 140737488355328) : Calls Tryd.prog 46 #[.string s] w fun e w' => e = .returned (.bool (isPath s.data.toList)) ∧ Below w.heap.size w w' := by
  obtain ⟨n, hsn⟩ : ∃ n, s.size = n := ⟨_, rfl⟩
  have HSN : Hid (s.size = n) := hsn
  rw [hsn] at hn
  by_cases h64 : 64 < n
  · have hp := isPath_long (s := s) (by omega)
    rw [hp]
    have q1 : (64 : Int) < n := by omega
    clear h64 hp hn
    go_enter Tryd.func46, Tryd.ntmps46
    go_wp2_with fail
    go_ret
    exact ⟨rfl, Below.refl _ _⟩
  · have HN64 : Hid (n ≤ 64) := by show n ≤ 64; omega
    have q1 : (n : Int) ≤ 64 := by omega
    have HSS : Hid (s.size ≤ 100000) := by have e := HSN.out; show s.size ≤ 100000; omega
    obtain ⟨N, hN⟩ : ∃ N, (pcs s).length = N := ⟨_, rfl⟩
    have HNN : Hid ((pcs s).length = N) := hN
    have hN2 : (N : Int) ≤ 65 := by
      have e := split_len s.data.toList
      have e2 := HSN.out
      rw [size_list] at e2
      rw [← hN, pcs_len]; omega
    clear h64
    go_enter Tryd.func46, Tryd.ntmps46
    go_wp2_with (go_at_call 71; refine (refSplit_in s _ HSS.out).mono ?_; rintro e w1 ⟨g, cap, rfl, HST, HB1⟩; rw [hN])
    rw [hN] at HST
    clear hN
    go_loopw [4] (fun i wr => ∃ t : Nat, i = .int .i64 (t : Int) ∧ t ≤ N ∧ Hid (((pcs s).take t).all (fun x => isPart x.data.toList) = true) ∧ Hid (w1 = wr)) (fun i _ => N - (intOf i).toNat)
    case atStart => exact ⟨0, rfl, by omega, rfl, rfl⟩
    case round =>
      obtain ⟨t, rfl, ht, hal, hww⟩ := hrel
      have b1 : (t : Int) ≤ 65 := by omega
      by_cases hlt : t = N
      · subst hlt
        by_cases h8 : t ≤ 8
        · have HP : Hid (isPath s.data.toList = true) := isPath_good (by have := HSN.out; have := HN64.out; omega) (by rw [HNN.out]; exact h8) (by rw [HNN.out]; exact hal.out)
          have q8 : (t : Int) ≤ 8 := by omega
          clear h8
          go_wp2_with fail
          go_ret
          exact ⟨by rw [HP.out]; simp, by rw [← hww.out]; exact HB1.out⟩
        · have HP : Hid (isPath s.data.toList = false) := by
            obtain ⟨x, hx⟩ : ∃ x, (pcs s)[8]? = some x := ⟨_, List.getElem?_eq_getElem (by rw [HNN.out]; omega)⟩
            exact isPath_many hx
          have q8 : ¬ (t : Int) ≤ 8 := by omega
          clear h8
          go_wp2_with fail
          go_ret
          exact ⟨by rw [HP.out]; simp, by rw [← hww.out]; exact HB1.out⟩
      · have q4 : (t : Int) < (N : Int) := by omega
        have HT : Hid (t < N) := by show t < N; omega
        obtain ⟨b', off, hab, hbs, hcell⟩ := HST.out.2 (by omega)
        have htl : t < (pcs s).length := by rw [HNN.out]; omega
        obtain ⟨x, hx⟩ : ∃ x, (pcs s)[t]? = some x := ⟨_, List.getElem?_eq_getElem htl⟩
        have HX : Hid ((pcs s)[t]? = some x) := hx
        have hc : wr.cell? ⟨g, t, none⟩ = some (.string x) := by
          have e := hcell t x hx
          simp only [Option.some.injEq, Addr.mk.injEq] at hab
          obtain ⟨rfl, rfl, _⟩ := hab
          rw [Nat.zero_add] at e
          rw [← hww.out]; exact e
        have HXN : Hid (x.size ≤ 140737488355328) := by
          have e1 := pcs_size hx
          have e2 := HSN.out
          have e3 := HN64.out
          show x.size ≤ _
          omega
        clear hlt hab hbs hcell htl hx
        cases hp : isPart x.data.toList with
        | true =>
          have HP : Hid (isPart x.data.toList = true) := hp
          clear hp
          go_wp2_with (go_at_call 72; refine (refPart_b x true HP.out _ HXN.out).mono ?_; rintro e w2 ⟨rfl, rfl⟩)
          go_roundw
          case rel =>
            refine ⟨t + 1, by simp, by have := HT.out; omega, ?_, hww⟩
            show _ = _
            obtain ⟨hl, e⟩ := List.getElem?_eq_some_iff.1 HX.out
            rw [all_take_succ _ _ _ hl, hal.out, e, HP.out]; rfl
          case measure => have := HT.out; simp [intOf]; omega
        | false =>
          have HP : Hid (isPart x.data.toList = false) := hp
          clear hp
          go_wp2_with (go_at_call 72; refine (refPart_b x false HP.out _ HXN.out).mono ?_; rintro e w2 ⟨rfl, rfl⟩)
          go_ret
          exact ⟨by rw [isPath_bad HX.out HP.out]; rfl, by rw [← hww.out]; exact HB1.out⟩
theorem refPath_b (s : ByteArray) (b : Bool) (hb : isPath s.data.toList = b) (w : World) (hn : s.size ≤ 140737488355328) : Calls Tryd.prog 46 #[.string s] w fun e w' => e = .returned (.bool b) ∧ Below w.heap.size w w' := by
  subst hb; exact refPath_is s w hn
end Go.Proofs.YtgdecjacbkicmaaDoor.Oct
