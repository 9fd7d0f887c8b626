/-
  Layer 7 (tree): a tree in memory; 'get', 'depth', 'last'.
-/
import Derived.Test.YtnagknlfboadkaaLeaf
import Derived.Test.YtnagknlfboadkaaDeep2
import Derived.Test.YtnagknlfboadkaaRow
import Derived.Deep.LoopGhost
namespace Go.Proofs.Ytnagknlfboadkaa.Oct
open Go.RowKit

/-- a slice of nodes that can be read -/
def RdK (w : World) (a : Option Addr) (n : Nat) (bs : List Nat) : Prop :=
  bs.length = n ∧ (0 < n → ∃ g off, a = some ⟨g, off, none⟩ ∧ RowT w 46 g ∧ ∀ i b, bs[i]? = some b → w.cell? ⟨g, off + i, none⟩ = some (.pointer (some ⟨b, 0, none⟩)))
theorem RdK.below {w w' : World} {B : Nat} {a : Option Addr} {n : Nat} {bs : List Nat} (h : RdK w a n bs) (hb : Below B w w') (hB : w.heap.size ≤ B) : RdK w' a n bs := by
  refine ⟨h.1, fun hp => ?_⟩
  obtain ⟨g, off, e, h1, h2⟩ := h.2 hp
  have hgl := h1.lt
  exact ⟨g, off, e, h1.same (hb.block g (by omega)), fun i b hi => (hb.cell (p := ⟨g, _, none⟩) (by show g < B; omega)).trans (h2 i b hi)⟩
/-- a slice's room -/
def Cap (a : Option Addr) (n cap : Nat) : Prop := n ≤ cap ∧ Ad a cap
/-- a tree lies at a block -/
def Lies (w : World) : (d : Nat) → T d → Nat → Prop
  | 0, t, b => ∃ a n cap, Nd w b a n cap t (.slice none 0 0) ∧ Cap a n cap
  | d + 1, t, b => ∃ a n cap a' n' cap' bs, Nd w b a n cap t.1 (.slice a' n' cap') ∧ Cap a n cap ∧ RdK w a' n' bs ∧ Cap a' n' cap' ∧ bs.length = t.2.length ∧ ∀ (i : Nat) (k : T d) (b' : Nat), t.2[i]? = some k → bs[i]? = some b' → Lies w d k b'
theorem Lies.below {w w' : World} {B : Nat} (hb : Below B w w') (hB : w.heap.size ≤ B) : ∀ {d : Nat} {t : T d} {b : Nat}, Lies w d t b → Lies w' d t b
  | 0, _, _, h => by
    obtain ⟨a, n, cap, h1, h2⟩ := h
    exact ⟨a, n, cap, h1.below hb hB, h2⟩
  | d + 1, _, _, h => by
    obtain ⟨a, n, cap, a', n', cap', bs, h1, h2, h3, h4, h5, h6⟩ := h
    exact ⟨a, n, cap, a', n', cap', bs, h1.below hb hB, h2, h3.below hb hB, h4, h5, fun i k b' hi hb' => Lies.below hb hB (h6 i k b' hi hb')⟩
/-- its own node -/
theorem Lies.node {w : World} {d : Nat} {t : T d} {b : Nat} (h : Lies w d t b) : ∃ a n cap a' n' cap', Nd w b a n cap (prs d t) (.slice a' n' cap') ∧ Cap a n cap ∧ (d = 0 → a' = none ∧ n' = 0 ∧ cap' = 0) := by
  cases d with
  | zero =>
    obtain ⟨a, n, cap, h1, h2⟩ := h
    exact ⟨a, n, cap, none, 0, 0, h1, h2, fun _ => ⟨rfl, rfl, rfl⟩⟩
  | succ d =>
    obtain ⟨a, n, cap, a', n', cap', bs, h1, h2, _⟩ := h
    exact ⟨a, n, cap, a', n', cap', h1, h2, fun e => by cases e⟩
/-- a good tree: its keys rise, its nodes are neither too small nor too great (its root may be small) -/
structure Good (d : Nat) (t : T d) : Prop where
  wf : WF d t
  ris : Ris (tl d t)
  most : (prs d t).length ≤ 7
theorem Good.kid {d : Nat} {t : T (d + 1)} (h : Good (d + 1) t) {i : Nat} {k : T d} (hk : t.2[i]? = some k) : Good d k ∧ 3 ≤ (prs d k).length := by
  have hm := h.wf.2 k (List.mem_of_getElem? hk)
  refine ⟨⟨hm.1, ?_, hm.2.2⟩, hm.2.1⟩
  have hr : Ris (inter (t.2.map (tl d)) t.1) := h.ris
  rw [inter_at i (tl d k) (by simpa using h.wf.1) (kid_map hk)] at hr
  exact hr.left.right
theorem blk_uniq {w : World} {b : Nat} {t t' : TypeId} {x y x' y' : Value} (h : Blk w b t [x, y]) (h' : Blk w b t' [x', y']) : x = x' ∧ y = y' := by
  have e0 := (h.cell (i := 0) rfl).symm.trans (h'.cell (i := 0) rfl)
  have e1 := (h.cell (i := 1) rfl).symm.trans (h'.cell (i := 1) rfl)
  exact ⟨Option.some.inj e0, Option.some.inj e1⟩
/-- what is told of the pairs of a key -/
def gv : List Pr → ByteArray
  | [] => ⟨#[]⟩
  | x :: _ => x.2
theorem isLeaf_any (w : World) (nd : Nat) (a : Option Addr) (n cap : Nat) (b : Bool) (hb : ((n : Int) == 0) = b) (h : w.cell? ⟨nd, 1, none⟩ = some (.slice a n cap)) : Calls Try.prog 39 #[.pointer (some ⟨nd, 0, none⟩)] w fun e w' => e = .returned (.bool b) ∧ w = w' := by
  go_enter Try.func39, Try.ntmps39
  go_wp2
  go_ret
  exact ⟨rfl, rfl⟩

set_option maxRecDepth 100000 in
set_option maxHeartbeats 1000000 in
theorem get_is (w : World) (d : Nat) (t : T d) (nd : Nat) (key : ByteArray) (h : Lies w d t nd) (hg : Good d t) :
    Calls Try.prog 30 #[.pointer (some ⟨nd, 0, none⟩), .string key] w fun e w' => e = .returned (.tuple #[.string (gv (eqs key (tl d t))), .bool (!(eqs key (tl d t)).isEmpty)]) ∧ Hid (Below w.heap.size w w') := by
  have HL : Hid (Lies w d t nd ∧ Good d t) := ⟨h, hg⟩
  obtain ⟨E, hE⟩ : ∃ E, eqs key (tl d t) = E := ⟨_, rfl⟩
  rw [hE]
  have HE : Hid (eqs key (tl d t) = E) := hE
  clear h hg hE
  go_enter Try.func30, Try.ntmps30
  go_wp2
  go_loopg [0] d (fun k u wr => ∃ (t' : T k) (nd' : Nat), u = .pointer (some ⟨nd', 0, none⟩) ∧ Hid (Lies wr k t' nd') ∧ Hid (Good k t') ∧ Hid (eqs key (tl k t') = E) ∧ Hid (Below w.heap.size w wr))
  case atStart => exact ⟨t, nd, rfl, HL.out.1, HL.out.2, HE, Below.refl _ _⟩
  case round =>
    obtain ⟨t', nd', rfl, HL1, HG1, HE1, HB1⟩ := hrel
    obtain ⟨a, n, cap, a', n', cap', hnd, hnc, h00⟩ := HL1.out.node
    have HD1 : Hid (Nd wr nd' a n cap (prs gk t') (.slice a' n' cap')) := hnd
    have hrp : Ris (prs gk t') := ris_prs HG1.out.ris HG1.out.wf
    have HRP : Hid (Ris (prs gk t')) := hrp
    have HN : Hid (n ≤ 7) := by show n ≤ 7; rw [← hnd.rd.1]; exact HG1.out.most
    have H00 : Hid (gk = 0 → a' = none ∧ n' = 0 ∧ cap' = 0) := h00
    clear hnd hnc h00 hrp
    go_wp2_with fail
    refine (place_is wr nd' a n cap _ _ key HD1.out (ris_mono HRP.out key) (by have := HN.out; omega)).mono ?_
    rintro e w1 ⟨i, rfl, HA, HB2⟩
    have HD2 : Hid (Nd w1 nd' a n cap (prs gk t') (.slice a' n' cap')) := HD1.out.below HB2.out (Nat.le_refl _)
    have HW : Hid (Below w.heap.size w w1) := HB1.out.trans (HB2.out.mono HB1.out.size)
    have HL2 : Hid (Lies w1 gk t' nd') := HL1.out.below HB2.out (Nat.le_refl _)
    have c0 := HD2.out.blk.cell (i := 0) rfl
    have c1 := HD2.out.blk.cell (i := 1) rfl
    have hin : i ≤ n := by rw [← HD1.out.rd.1]; exact HA.out.1
    cases hi : isP (prs gk t') key i with
    | true =>
      obtain ⟨x, hx, hxk, hex⟩ := eqs_is HRP.out HA.out hi
      have HEx : Hid (E = [x]) := by
        show E = [x]
        rw [← HE1.out]
        cases gk with
        | zero => exact hex
        | succ d' =>
          obtain ⟨A, B, e, _, _, hA, hB⟩ := node_is (ts := t'.2) HG1.out.wf.1 HG1.out.ris hx
          have : eqs key (tl (d' + 1) t') = eqs key (A ++ x :: B) := congrArg _ e
          rw [this, ← hxk]
          exact eqs_one hA hB
      have hlt : i < n := by rw [← HD1.out.rd.1]; exact (List.getElem?_eq_some_iff.1 hx).1
      obtain ⟨g, off, rfl, hg, hc⟩ := HD2.out.rd.2 (by omega)
      have c2 := (hc i x hx).2
      have q1 : (i : Int) < (n : Int) := by omega
      have HX2 : Hid (gv E = x.2) := by show _ = _; rw [HEx.out]; rfl
      have HX3 : Hid ((!E.isEmpty) = true) := by show _ = _; rw [HEx.out]; rfl
      generalize x.2 = y at *
      clear hc hex
      go_wp2
      go_ret2
      exact ⟨by rw [HX2.out, HX3.out]; rfl, HW⟩
    | false =>
      have HI : Hid (isP (prs gk t') key i = false) := hi
      have hno := eqs_no HRP.out HA.out hi
      clear hi
      cases gk with
      | zero =>
        obtain ⟨rfl, rfl, rfl⟩ := H00.out rfl
        have HX2 : Hid (E = []) := by show E = []; rw [← HE1.out]; exact hno
        clear hno
        go_wp2_with (go_at_call 39; refine (leaf_is w1 nd' c1).mono ?_; rintro e w2 ⟨rfl, rfl⟩)
        go_ret2
        exact ⟨by rw [HX2.out]; rfl, HW⟩
      | succ d' =>
        clear hno
        obtain ⟨a2, n2, cap2, a3, n3, cap3, bs, h1, h2, h3, h4, h5, h6⟩ := HL2.out
        obtain ⟨e1, e2⟩ := blk_uniq h1.blk HD2.out.blk
        cases e1; cases e2
        have hnn : n' = n + 1 := by rw [← h3.1, h5, HG1.out.wf.1]; exact congrArg (· + 1) h1.rd.1
        have hlt : i < n' := by omega
        obtain ⟨g, off, rfl, hg, hc⟩ := h3.2 (by omega)
        have hib : i < bs.length := by rw [h3.1]; exact hlt
        have hit : i < t'.2.length := by rw [← h5]; exact hib
        have c2 := hc i _ (List.getElem?_eq_getElem hib)
        have HK : Hid (t'.2[i]? = some t'.2[i]) := List.getElem?_eq_getElem hit
        have HL3 : Hid (Lies w1 d' t'.2[i] bs[i]) := h6 i _ _ HK.out (List.getElem?_eq_getElem hib)
        have HE3 : Hid (eqs key (tl d' t'.2[i]) = E) := by
          show _ = _
          obtain ⟨A, B, e, _, _, hA, hB, _⟩ := node_at (ts := t'.2) HG1.out.wf.1 HG1.out.ris HRP.out HA.out HK.out HI.out
          have e' : eqs key (tl (d' + 1) t') = eqs key (A ++ tl d' t'.2[i] ++ B) := congrArg _ e
          rw [← HE1.out, e', eqs_mid hA hB]
        have q1 : (i : Int) < (n' : Int) := by omega
        have HB0 : Hid (((n' : Int) == 0) = false) := by show _ = _; simp; omega
        generalize bs[i] = b2 at *
        clear h1 h2 h3 h4 h6 hc
        go_wp2_with (go_at_call 39; refine (isLeaf_any w1 nd' _ n' cap' false HB0.out c1).mono ?_; rintro e w2 ⟨rfl, rfl⟩)
        go_roundg d'
        case measure => omega
        case rel => exact ⟨t'.2[i], b2, rfl, HL3, (HG1.out.kid HK.out).1, HE3, HW⟩
#print axioms get_is
end Go.Proofs.Ytnagknlfboadkaa.Oct
