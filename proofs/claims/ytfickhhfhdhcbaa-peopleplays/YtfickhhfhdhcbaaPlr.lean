/-
  Layer 15 (people): the document's people: PeoplePlays: few, rows told by both.
-/
import Derived.Test.YtfickhhfhdhcbaaRlc
import Derived.Deep.RegionHeld
import Derived.Deep.RegionHeldLaw
namespace Go.Proofs.Ytfickhhfhdhcbaa.Oct
open Go.RowKit
set_option linter.unusedSimpArgs false
set_option linter.unusedVariables false

set_option maxRecDepth 100000 in
set_option maxHeartbeats 1000000 in
theorem few_is2 (l : List Av) (a : Option Addr) (n cp : Nat) (w : World) (hl : ArgA w a n cp l) : Calls Try.prog 8 #[.slice a n cp] w fun e w' => ∃ r, e = .returned (.bool r) ∧ Below w.heap.size w w' ∧ (r = true → n ≤ 200) := by
  have hz32 := zero32
  have HL : Hid (ArgA w a n cp l) := hl
  have qn : (n : Int) ≤ 2199023255552 := by have := hl.2.1; omega
  clear hl
  go_enter Try.func8, Try.ntmps8
  go_wp2
  go_loopw [8, 3] (fun u v W => ∃ (i : Nat) (k : Int), u = iv i ∧ v = iv k ∧ Hid (i ≤ n ∧ 0 ≤ k ∧ k ≤ 200 ∧ Below w.heap.size w W ∧ (i : Int) ≤ k)) (fun u _ _ => n - (intOf u).toNat)
  case atStart => exact ⟨0, 0, rfl, rfl, Nat.zero_le _, by omega, by omega, Below.refl _ _, by omega⟩
  case round =>
    obtain ⟨i, k, rfl, rfl, HI⟩ := hrel
    by_cases hi : i = n
    · have q1 : (n : Int) ≤ (i : Int) := by omega
      clear hi
      go_wp2
      go_ret
      exact ⟨_, rfl, HI.out.2.2.2.1, fun _ => by have := HI.out; omega⟩
    · have HQ : Hid (i < n) := by have := HI.out.1; show _ < _; omega
      have q1 : (i : Int) < (n : Int) := by have := HQ.out; omega
      have q2 : i < n := HQ.out
      obtain ⟨ab, off, ha, hbl, hc⟩ := HL.out.2.2.2 (by omega)
      subst ha
      obtain ⟨x, hx⟩ : ∃ x, l[i]? = some x := ⟨_, List.getElem?_eq_getElem (by rw [HL.out.1]; exact q2)⟩
      have hr : wr.rangeAt ab (off + i * 5) x.cells := rangeAt_same (hc i x hx) (HI.out.2.2.2.1.block ab hbl)
      have HR : Hid (wr.rangeAt ab (off + i * 5) x.cells) := hr
      have hok := HL.out.2.2.1 x (List.mem_of_getElem? hx)
      clear hi hc hx hbl hr
      go_wp2_with (with_reducible change wpList _ _ _ ({ dst := some 11, op := _, type := _, pos := _, after := _, guard := _ } :: _) _ _; refine Hid.out ?_)
      show wpList _ _ _ _ _ _
      refine wpList_load_want rfl 32 (.tmp 10) rfl ab (off + i * 5) rfl x.cells _ HR.out Try.underlying32 rfl size32 ?_
      simp only [Act.put, List.setIfInBounds_toArray, List.set_cons_zero, List.set_cons_succ]
      obtain ⟨g5, hg5⟩ : ∃ g, wr.heap.size = g := ⟨_, rfl⟩
      go_wp2_with (with_reducible change wpList _ _ _ ({ dst := none, op := Op.store 32 _ _, type := _, pos := _, after := _, guard := _ } :: _) _ _; refine Hid.out ?_)
      show wpList _ _ _ _ _ _
      refine wpList_store_blk rfl 32 (.tmp 5) (.tmp 11) rfl g5 0 32 [iv 0, .string ⟨#[]⟩, .string ⟨#[]⟩, .string ⟨#[]⟩, iv 0] x.cells rfl rfl (by rw [← hg5]; exact Blk.new wr _ _) (by simp [Av.cells]) size32 (Av.one x) ?_
      intro V1 hb5' hg6
      have hV : Below wr.heap.size wr V1 := (below_al wr _).grown hg6.out (below_al wr _).size (fun j hj => by cases hj; omega)
      have HV : Hid (Below w.heap.size w V1) := below_tr HI.out.2.2.2.1 hV
      obtain ⟨sx, hsx⟩ : ∃ s : ByteArray, (⟨x.x.toArray⟩ : ByteArray) = s := ⟨_, rfl⟩
      obtain ⟨st, hst⟩ : ∃ s : ByteArray, (⟨x.t.toArray⟩ : ByteArray) = s := ⟨_, rfl⟩
      obtain ⟨su, hsu⟩ : ∃ s : ByteArray, (⟨x.u.toArray⟩ : ByteArray) = s := ⟨_, rfl⟩
      have c1 : V1.cell? ⟨g5, 1, none⟩ = some (.string sx) := by rw [← hsx]; exact hb5'.out.cell rfl
      have c2 : V1.cell? ⟨g5, 2, none⟩ = some (.string st) := by rw [← hst]; exact hb5'.out.cell rfl
      have c3 : V1.cell? ⟨g5, 3, none⟩ = some (.string su) := by rw [← hsu]; exact hb5'.out.cell rfl
      have z1 : (sx.size : Int) ≤ 140737488355328 := by rw [← hsx]; have := hok.1; simp [ByteArray.size]; omega
      have z2 : (st.size : Int) ≤ 140737488355328 := by rw [← hst]; have := hok.2.1; simp [ByteArray.size]; omega
      have z3 : (su.size : Int) ≤ 140737488355328 := by rw [← hsu]; have := hok.2.2; simp [ByteArray.size]; omega
      obtain ⟨n1, hn1⟩ : ∃ n, sx.size = n := ⟨_, rfl⟩
      obtain ⟨n2, hn2⟩ : ∃ n, st.size = n := ⟨_, rfl⟩
      obtain ⟨n3, hn3⟩ : ∃ n, su.size = n := ⟨_, rfl⟩
      have q4 : (0 : Int) ≤ k := HI.out.2.1
      have q5 : k ≤ 200 := HI.out.2.2.1
      clear hb5' hg6 hV hg5 HR hok hsx hst hsu
      obtain ⟨m, hm⟩ : ∃ m : Int, ((n1 : Int) + n2 + n3) / 100 = m := ⟨_, rfl⟩
      rw [hn1] at z1
      rw [hn2] at z2
      rw [hn3] at z3
      have q6 : (0 : Int) ≤ m := by omega
      have q7 : m ≤ 4222124650660 := by omega
      by_cases hk : 200 < k + (1 + m)
      · go_wp2
        go_ret
        exact ⟨_, rfl, HV.out, fun e => by cases e⟩
      · have HK : Hid (0 ≤ k + (1 + m) ∧ k + (1 + m) ≤ 200 ∧ ((i + 1 : Nat) : Int) ≤ k + (1 + m)) := ⟨by omega, by omega, by have := HI.out.2.2.2.2; omega⟩
        go_wp2
        go_roundw
        case rel => exact ⟨i + 1, k + (1 + m), by simp, rfl, HQ.out, HK.out.1, HK.out.2.1, HV.out, HK.out.2.2⟩
        case measure =>
          have := HQ.out
          simp only [intOf]
          omega

theorem texts2 {w : World} {a b : Option Addr} {n m c d : Nat} {l : List Hs} (ha : StrAt w a n l) (hb : StrAt w b m l) (hn : n ≤ 1000000) : Calls Try.prog 13 #[.slice a n c, .slice b m d] w fun e w' => e = .returned (.bool true) ∧ Below w.heap.size w w' := by
  have e : m = n := by rw [← hb.1, ← ha.1]
  subst e
  exact texts_same ha hb hn
theorem same2 {w : World} {a b : Option Addr} {n m c d : Nat} {l : List Hs} (ha : StrAt w a n l) (hb : StrAt w b m l) (hn : n ≤ 1000000) (u : Hs) (r : Int) : Calls Try.prog 20 #[.agg #[hv u, .slice a n c, iv r], .agg #[hv u, .slice b m d, iv r]] w fun e w' => e = .returned (.bool true) ∧ Below w.heap.size w w' := by
  have e : m = n := by rw [← hb.1, ← ha.1]
  subst e
  exact same_same ha hb hn u r
theorem sv_str {w : World} {a : Option Addr} {n c : Nat} {l : List Hs} (h : SV w (.slice a n c) n 1 (l.map hv)) : StrAt w a n l := by
  obtain ⟨a', c', e, h1, h2, h3, h4, h5⟩ := h
  cases e
  have hl : l.length = n := by simpa using h3
  refine ⟨hl, fun hp => ?_⟩
  rcases h5 with ⟨_, rfl⟩ | ⟨g, rfl, hg, hc⟩
  · omega
  · exact ⟨g, rfl, hg, fun i x hx => hc i _ (by simp [hx])⟩
/-- people's blocks hold no row of names or facts -/
def headM (c : Cont) : Prop := match c with
  | .cells _ L => ∃ b r, L = .map b :: r
  | .kv _ => True
theorem hp_heads (M : Pm) (p : Nat) : ∀ x ∈ M.hp p, headM x.2 := by
  intro x hx
  simp only [Pm.hp, List.mem_cons, List.mem_flatMap] at hx
  rcases hx with rfl | rfl | rfl | ⟨o, ho, hx⟩
  · exact ⟨_, _, rfl⟩
  · trivial
  · trivial
  · simp only [Og.hp, List.mem_cons, List.mem_map] at hx
    rcases hx with rfl | rfl | rfl | ⟨t, ht, rfl⟩
    · exact ⟨_, _, rfl⟩
    · trivial
    · trivial
    · trivial
theorem bl_cell {w : World} {p : Nat} {M : Pm} (h : PAt w p M) {g : Nat} (hg : g ∈ M.bl p) {u : Value} (hu : w.cell? ⟨g, 0, none⟩ = some u) : ∃ b, u = .map b := by
  obtain ⟨x, hx, rfl⟩ := List.mem_map.1 hg
  have h1 := hp_heads M p x hx
  have h2 := h.hp.all x hx
  obtain ⟨g, c⟩ := x
  cases c with
  | cells t L =>
    obtain ⟨b, r, rfl⟩ := h1
    have h3 : w.cell? ⟨g, 0, none⟩ = some (.map b) := Blk.cell h2 rfl
    rw [h3] at hu
    injection hu with hu
    exact ⟨b, hu.symm⟩
  | kv l =>
    obtain ⟨es, hm, _⟩ := (h2 : MP w g l)
    exfalso
    obtain ⟨clock, hh, _⟩ := hm
    have hh : w.heap[g]? = some (.map (es.map Ent.me).toArray clock) := hh
    have hcell : w.cell? ⟨g, 0, none⟩ = none := by unfold World.cell?; simp [hh]
    have hu : w.cell? ⟨g, 0, none⟩ = some u := hu
    rw [hcell] at hu
    cases hu
theorem sv_far {V W : World} {v : Value} {n sz p : Nat} {cs : List Value} {M : Pm} (h : SV V v n sz cs) (h0 : ∀ u, cs[0]? = some u → ∀ b, u ≠ .map b) (hp : PAt V p M) (hk : Keep (fun k => k ∈ M.bl p) V W) : SV W v n sz cs := by
  obtain ⟨a', c', rfl, h1, h2, h3, h4, h5⟩ := h
  refine ⟨a', c', rfl, h1, h2, h3, h4, ?_⟩
  rcases h5 with h5 | ⟨g, rfl, hl, hc⟩
  · exact .inl h5
  · refine .inr ⟨g, rfl, Nat.lt_of_lt_of_le hl hk.size, fun j u hu => ?_⟩
    have hlen : 0 < cs.length := by have := (List.getElem?_eq_some_iff.1 hu).1; omega
    have h6 : cs[0]? = some cs[0] := List.getElem?_eq_getElem hlen
    have hn : ¬ g ∈ M.bl p := fun e => by
      obtain ⟨b, hb⟩ := bl_cell hp e (hc 0 _ h6)
      exact h0 _ h6 b hb
    exact (World.cell?_of_block (a := ⟨g, j, none⟩) (hk.block g hl hn)).trans (hc j u hu)
theorem hv_headm {l : List Hs} (u : Value) (h : (l.map hv)[0]? = some u) (b : Option Nat) : u ≠ .map b := by
  cases l with
  | nil => simp at h
  | cons x l => simp at h; subst h; unfold hv; exact fun e => by cases e
theorem fc_headm {l : List Fc} (u : Value) (h : (fcC l)[0]? = some u) (b : Option Nat) : u ≠ .map b := by
  cases l with
  | nil => simp [fcC] at h
  | cons x l => simp [fcC, Fc.cells] at h; subst h; unfold hv; exact fun e => by cases e
theorem rp_far {V W : World} {uv ov fv : Value} {R : Rp} {p : Nat} {M : Pm} (h : RPt V uv ov fv R) (hp : PAt V p M) (hk : Keep (fun k => k ∈ M.bl p) V W) : RPt W uv ov fv R := ⟨sv_far h.u hv_headm hp hk, sv_far h.o hv_headm hp hk, sv_far h.f fc_headm hp hk, h.nu, h.no, h.nf⟩
/-- how the facts grow -/
theorem model_len (R : Rp) (a : Av) : (rModel R a).1.F.length ≤ R.F.length + 1 := by
  have hj : (joF R.F a.x a.u).length ≤ R.F.length := by
    unfold joF
    split
    · exact Nat.le_refl _
    · exact List.length_eraseIdx_le _ _
  have he := List.length_eraseIdx_le R.F (fct R.F a.x a.t a.u).toNat
  have hf : (R.F.filter (fun f => f.o != a.x || f.u != a.u)).length ≤ R.F.length := List.length_filter_le _ _
  unfold rModel rAddU rAddO rJoin rLeave rTeam rPut rOut
  repeat' split
  all_goals first
    | (simp only [List.length_append, List.length_cons, List.length_nil]; omega)
    | (show _ ≤ _; omega)
    | omega
#print axioms few_is2
#print axioms rp_far
end Go.Proofs.Ytfickhhfhdhcbaa.Oct
