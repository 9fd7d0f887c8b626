/-
  Layer 15 (people): teamsOf: the teams that a user is in.
-/
import Derived.Test.YtfickhhfhdhcbaaPut
import Derived.Laws.AppendOwn
import Derived.ProofKit
namespace Go.Proofs.Ytfickhhfhdhcbaa.Oct
open Go.RowKit

theorem info9 : (Try.prog.info? 9).map (fun i => (i.zero, i.size, i.bytes)) = some (some (.string ⟨#[]⟩), 1, 16) := by kernel_rfl
theorem cell_new_row (w : World) (t : TypeId) (v : Value) : ∀ j u, [v][j]? = some u → (w.alloc (.cells #[v] t)).cell? ((⟨w.heap.size, 0, none⟩ : Addr).add j) = some u := by
  intro j u hj
  have e := World.cell?_alloc_mark w #[v] t (0, 0) j
  rw [Addr.add_lit, Nat.zero_add, e]
  simpa using hj
theorem run_bs27 (s : ByteArray) (W : World) : (Instr.buildSlice 27 1 #[(0, .string s)]).run Try.prog W = .ok (.slice (some ⟨W.heap.size, 0, none⟩) 1 1) (W.alloc (.cells #[.string s] 9)) := by kernel_rfl
theorem run_bs27h (x : Hs) (W : World) : (Instr.buildSlice 27 1 #[(0, hv x)]).run Try.prog W = .ok (.slice (some ⟨W.heap.size, 0, none⟩) 1 1) (W.alloc (.cells #[hv x] 9)) := run_bs27 _ W
theorem own_below {B e sz n : Nat} {w w' : World} {v : Value} {xs : List Value} (h : w.ownsRow B e sz v n xs) (hb : Below w.heap.size w w') : w'.ownsRow B e sz v n xs := by
  obtain ⟨h1, h2⟩ := h
  refine ⟨h1, ?_⟩
  rcases h2 with h2 | ⟨g, c, cur, e1, e2, hg2, r⟩
  · exact .inl h2
  · exact .inr ⟨g, c, cur, e1, e2, (hb.block g (lt_of_block hg2)).trans hg2, r⟩
theorem grown_own {B e sz n : Nat} {w1 wr w4 : World} {v : Value} {xs : List Value} (hB : Below w1.heap.size w1 wr) (hw : w1.heap.size = B) (ho : wr.ownsRow B e sz v n xs) (hg : wr.grownBy w4 v.ownBlock) : Below w1.heap.size w1 w4 := by
  refine hB.grown hg hB.size (fun j hj => ?_)
  rcases ho.2 with ⟨rfl, _⟩ | ⟨g, c, cur, rfl, e2, _⟩
  · simp [Value.ownBlock] at hj
  · simp [Value.ownBlock] at hj; omega

def addIf (c : Bool) (nm : Hs) (out : List Hs) : List Hs := if c then out ++ [nm] else out
/-- in which team is a user? -/
def inTeam (l : List Tm) (u t : Hs) : Bool := match teamOf l t with
  | some tm => decide (u ∈ tm.mem)
  | none => false
def teamsOf (l : List Tm) (u : Hs) : List Hs := (sortK (l.map (·.name))).filter (inTeam l u)
theorem teamsKv_keys (l : List Tm) : (teamsKv l).map (·.1) = l.map (·.name) := by unfold teamsKv; rw [List.map_map]; rfl
theorem sortK_mem {l : List Hs} {x : Hs} : x ∈ sortK l ↔ x ∈ l := (List.mergeSort_perm l _).mem_iff
theorem sortK_length (l : List Hs) : (sortK l).length = l.length := (List.mergeSort_perm l _).length_eq
theorem teamOf_some {l : List Tm} {t : Hs} (h : t ∈ l.map (·.name)) : ∃ tm, teamOf l t = some tm ∧ tm ∈ l := by
  cases hf : teamOf l t with
  | none =>
    obtain ⟨r, hr, e⟩ := List.mem_map.1 h
    have := List.find?_eq_none.1 hf r hr
    simp [e] at this
  | some tm => exact ⟨tm, rfl, List.mem_of_find?_eq_some hf⟩

set_option maxRecDepth 100000 in
theorem names_is {w : World} {tb : Nat} {l : List Tm} (hm : MP w tb (teamsKv l)) (hlen : l.length ≤ 1000) :
    Calls Try.prog 44 #[.map (some tb)] w fun e w' => ∃ a c, e = .returned (.slice a l.length c) ∧ Hid (w'.ownsRow w.heap.size 9 1 (.slice a l.length c) l.length ((sortK (l.map (·.name))).map hv) ∧ Below w.heap.size w w') := by
  have HR : Hid (Calls Try.prog 69 #[.map (some tb)] w fun e w' => ∃ v : Value, e = .returned v ∧ w'.ownsRow w.heap.size 9 1 v (teamsKv l).length ((sortK ((teamsKv l).map (·.1))).map hv) ∧ (v = .slice none 0 0 ↔ teamsKv l = []) ∧ Below w.heap.size w w') := rising_S hm (by rw [teamsKv_len]; omega)
  clear hm
  go_enter Try.func44, Try.ntmps44
  go_wp2_with fail
  refine HR.out.mono ?_
  rintro e w2 ⟨v, rfl, h1, h2, h3⟩
  rw [teamsKv_len, teamsKv_keys] at h1
  obtain ⟨a, c, rfl⟩ : ∃ a c, v = .slice a l.length c := by
    rcases h1.2 with ⟨rfl, hz⟩ | ⟨g, c, cur, rfl, _⟩
    · exact ⟨none, 0, by rw [hz]⟩
    · exact ⟨_, c, rfl⟩
  have H : Hid (w2.ownsRow w.heap.size 9 1 (.slice a l.length c) l.length ((sortK (l.map (·.name))).map hv) ∧ Below w.heap.size w w2) := ⟨h1, h3⟩
  clear h1 h2 h3
  go_wp2
  go_ret
  exact ⟨a, c, rfl, H.out⟩
#print axioms names_is

set_option maxRecDepth 100000 in
set_option maxHeartbeats 1000000 in
theorem teamsOf_is {w : World} {tb : Nat} {l : List Tm} (hm : MP w tb (teamsKv l)) (hlen : l.length ≤ 8) (hs : ∀ tm ∈ l, MP w tm.blk (unit tm.mem)) (u : Hs) (hu : u.length ≤ 140737488355328) (hshort : ∀ tm ∈ l, tm.name.length ≤ 140737488355328) :
    Calls Try.prog 45 #[.map (some tb), hv u] w fun e w' => ∃ a c, e = .returned (.slice a (teamsOf l u).length c) ∧ Hid (w'.ownsRow w.heap.size 9 1 (.slice a (teamsOf l u).length c) (teamsOf l u).length ((teamsOf l u).map hv) ∧ Below w.heap.size w w') := by
  obtain ⟨i9, hi9, hz0, hz1, hz2⟩ := info_parts info9
  have H : Hid (MP w tb (teamsKv l) ∧ l.length ≤ 8 ∧ (∀ tm ∈ l, MP w tm.blk (unit tm.mem)) ∧ u.length ≤ 140737488355328 ∧ ∀ tm ∈ l, tm.name.length ≤ 140737488355328) := ⟨hm, hlen, hs, hu, hshort⟩
  obtain ⟨n, hn⟩ : ∃ n, l.length = n := ⟨_, rfl⟩
  have HN : Hid (l.length = n) := hn
  have q0 : (n : Int) ≤ 8 := by omega
  obtain ⟨ns, hns⟩ : ∃ ns, sortK (l.map (·.name)) = ns := ⟨_, rfl⟩
  have HNS : Hid (sortK (l.map (·.name)) = ns ∧ ns.length = n ∧ ∀ x ∈ ns, x ∈ l.map (·.name)) := ⟨hns, by rw [← hns, sortK_length, List.length_map, hn], fun x hx => by rw [← hns] at hx; exact sortK_mem.1 hx⟩
  clear hm hlen hs hu hshort hn hns
  go_enter Try.func45, Try.ntmps45
  go_wp2_with fail
  refine (names_is H.out.1 (by have := H.out.2.1; omega)).mono ?_
  rintro e w1 ⟨a, cN, rfl, h1⟩
  rw [HN.out] at h1 ⊢
  have H1 : Hid (w1.ownsRow w.heap.size 9 1 (.slice a n cN) n (ns.map hv) ∧ Below w.heap.size w w1) := by
    have := h1.out
    rw [HNS.out.1] at this
    exact this
  clear h1
  have HO0 : Hid (w1.ownsRow w1.heap.size 9 1 (.slice none 0 0) 0 []) := ⟨by simp, .inl ⟨rfl, rfl⟩⟩
  go_wp2_with fail
  go_loopw [11, 5] (fun x v wr => ∃ (i : Nat) (out : List Hs), x = .int .i64 (i : Int) ∧ Hid (i ≤ n ∧ Below w1.heap.size w1 wr ∧ wr.ownsRow w1.heap.size 9 1 v out.length (out.map hv) ∧ out = (ns.take i).filter (inTeam l u))) (fun x _ _ => n - (intOf x).toNat)
  case atStart => exact ⟨0, [], rfl, ⟨Nat.zero_le _, Below.refl _ _, HO0.out, by simp⟩⟩
  case round =>
    obtain ⟨i, out, rfl, HB⟩ := hrel
    by_cases hlt : i = n
    · have q3 : ¬ (i : Int) < (n : Int) := by omega
      have HE : Hid (out = teamsOf l u) := by
        show _ = _
        rw [HB.out.2.2.2, List.take_of_length_le (by rw [HNS.out.2.1]; omega), ← HNS.out.1]
        rfl
      clear hlt
      go_wp2_with fail
      go_ret
      have ho := HB.out.2.2.1
      rw [HE.out] at ho
      obtain ⟨a5, c5, e5⟩ : ∃ a5 c5, u5 = .slice a5 (teamsOf l u).length c5 := by
        rcases ho.2 with ⟨e5, hz⟩ | ⟨g, c, cur, e5, _⟩
        · exact ⟨none, 0, by rw [hz]; exact e5⟩
        · exact ⟨_, c, e5⟩
      refine ⟨a5, c5, by rw [← e5]; rfl, ?_⟩
      rw [← e5]
      refine ⟨⟨ho.1, ho.2.imp id (fun ⟨g, c, cur, e1, e2, r⟩ => ⟨g, c, cur, e1, Nat.le_trans H1.out.2.size e2, r⟩)⟩, H1.out.2.trans (HB.out.2.1.mono H1.out.2.size)⟩
    · have q3 : (i : Int) < (n : Int) := by have := HB.out.1; omega
      have HI : Hid (i < n) := by show _ < _; have := HB.out.1; omega
      obtain ⟨g, cap, rfl, hrow⟩ : ∃ g cap, a = some ⟨g, 0, none⟩ ∧ wr.cell? ⟨g, i, none⟩ = some (hv (ns[i]'(by rw [HNS.out.2.1]; exact HI.out))) := by
        rcases H1.out.1.2 with ⟨_, hz⟩ | ⟨g, c, cur, e1, _, hg, _⟩
        · have := HI.out; omega
        · cases e1
          refine ⟨g, cN, rfl, ?_⟩
          have hc := World.ownsRow.cellAt H1.out.1 i (by have := HI.out; omega)
          rw [HB.out.2.1.cell (p := ⟨g, i, none⟩) (lt_of_block hg), hc, List.getElem?_map, List.getElem?_eq_getElem (by rw [HNS.out.2.1]; exact HI.out)]
          rfl
      obtain ⟨nm, hnm⟩ : ∃ nm, ns[i]'(by rw [HNS.out.2.1]; exact HI.out) = nm := ⟨_, rfl⟩
      rw [hnm] at hrow
      have hmem : nm ∈ ns := by rw [← hnm]; exact List.getElem_mem _
      obtain ⟨tm, htm, htl⟩ := teamOf_some (HNS.out.2.2 nm hmem)
      have hname : tm.name = nm := by simpa using List.find?_some htm
      have hbl : Below w.heap.size w wr := H1.out.2.trans (HB.out.2.1.mono H1.out.2.size)
      have hlk := look_team (H.out.1.same (hbl.block _ H.out.1.lt)) (by rw [← hname]; exact H.out.2.2.2.2 tm htl) htm
      have HT : Hid (MP wr tm.blk (unit tm.mem) ∧ (ns.take (i + 1)).filter (inTeam l u) = addIf (decide (u ∈ tm.mem)) nm out) := by
        refine ⟨(H.out.2.2.1 tm htl).same (hbl.block _ (H.out.2.2.1 tm htl).lt), ?_⟩
        rw [List.take_succ_eq_append_getElem (by rw [HNS.out.2.1]; exact HI.out), List.filter_append, ← HB.out.2.2.2, hnm]
        have hit : inTeam l u nm = decide (u ∈ tm.mem) := by unfold inTeam; rw [htm]
        unfold addIf
        rw [List.filter_cons, hit]
        split <;> simp
      have HLO : Hid (out.length ≤ i) := by
        show _ ≤ _
        rw [HB.out.2.2.2]
        exact Nat.le_trans (List.length_filter_le _ _) (by simp; omega)
      have hbs := run_bs27h nm
      obtain ⟨b, hb⟩ : ∃ b, tm.blk = b := ⟨_, rfl⟩
      have HBB : Hid (tm.blk = b) := hb
      rw [hb] at hlk
      obtain ⟨c, hc⟩ : ∃ c, decide (u ∈ tm.mem) = c := ⟨_, rfl⟩
      have HC : Hid (decide (u ∈ tm.mem) = c) := hc
      rw [hc] at HT
      obtain ⟨s, hy⟩ : ∃ s, hv nm = .string s := ⟨_, rfl⟩
      have HY : Hid (hv nm = .string s) := hy
      rw [hy] at hrow hlk hbs
      have HY1 : Hid ((Value.string s).oneCell' = true) := rfl
      clear hlt hnm hmem htm htl hname hbl hb hc hy
      cases c with
      | false =>
        go_wp2_with fail
        rw [← HBB.out]
        refine (has_is HT.out.1 u H.out.2.2.2.1).mono ?_
        rintro e w3 ⟨rfl, hb3⟩
        have H3 : Hid (Below wr.heap.size wr w3) := hb3
        rw [HC.out]
        clear hb3 hlk
        go_wp2
        go_roundw
        case rel => exact ⟨i + 1, out, by simp, ⟨HI.out, HB.out.2.1.trans (H3.out.mono HB.out.2.1.size), own_below HB.out.2.2.1 H3.out, HT.out.2.symm⟩⟩
        case measure => have := HI.out; simp [intOf]; omega
      | true =>
        go_wp2_with fail
        rw [← HBB.out]
        refine (has_is HT.out.1 u H.out.2.2.2.1).mono ?_
        rintro e w3 ⟨rfl, hb3⟩
        have H3 : Hid (Below w1.heap.size w1 w3 ∧ w3.ownsRow w1.heap.size 9 1 u5 out.length (out.map hv)) := ⟨HB.out.2.1.trans (hb3.mono HB.out.2.1.size), own_below HB.out.2.2.1 hb3⟩
        rw [HC.out]
        clear hb3 hlk hrow
        go_wp2_with (first
          | (with_reducible change wpList _ _ _ ({ dst := some 23, op := _, type := _, pos := _, after := _, guard := _ } :: _) _ _
             refine Hid.out ?_)
          | fail)
        show wpList _ _ _ _ _ _
        refine wpList_append_own _ rfl (.tmp 20) (.tmp 22) 27 rfl w1.heap.size 9 i9 (.string ⟨#[]⟩) 1 16 Try.underlying27 hi9 hz0 hz1 hz2 rfl (by decide) u5 out.length (out.map hv) rfl (World.ownsRow.alloc H3.out.2 _) ⟨w3.heap.size, 0, none⟩ 1 1 [.string s] rfl rfl (cell_new_row w3 9 (.string s)) (fun z hz => by rw [List.mem_singleton.1 hz]; exact HY1.out) (by have := HLO.out; have := HI.out; unfold maxLen; omega) (by have := HLO.out; have := HI.out; omega) (by have := H3.out.1.size; simp; omega) ?_
        intro v4 w4 ho4 hg4 _
        have H4 : Hid (w4.ownsRow w1.heap.size 9 1 v4 (out ++ [nm]).length ((out ++ [nm]).map hv) ∧ Below w1.heap.size w1 w4) := by
          refine ⟨by rw [List.length_append, List.map_append]; rw [← HY.out] at ho4; exact ho4, ?_⟩
          exact grown_own (H3.out.1.alloc H3.out.1.size _) rfl (World.ownsRow.alloc H3.out.2 _) hg4
        clear ho4 hg4 hbs
        go_wp2
        go_roundw
        case rel => exact ⟨i + 1, out ++ [nm], by simp, ⟨HI.out, H4.out.2, H4.out.1, HT.out.2.symm⟩⟩
        case measure => have := HI.out; simp [intOf]; omega
#print axioms teamsOf_is
end Go.Proofs.Ytfickhhfhdhcbaa.Oct
