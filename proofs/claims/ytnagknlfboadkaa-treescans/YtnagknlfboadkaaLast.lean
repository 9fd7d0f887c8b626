/-
  Layer 7 (tree): 'last', 'isSmall'.
-/
import Derived.Test.YtnagknlfboadkaaCut2
namespace Go.Proofs.Ytnagknlfboadkaa.Oct
open Go.RowKit

theorem small_is (w : World) (nd n cap : Nat) (a : Option Addr) (b : Bool) (hb : decide ((n : Int) < 3) = b) (h : w.cell? ⟨nd, 0, none⟩ = some (.slice a n cap)) : Calls Try.prog 49 #[.pointer (some ⟨nd, 0, none⟩)] w fun e w' => e = .returned (.bool b) ∧ w = w' := by
  subst hb
  go_enter Try.func49, Try.ntmps49
  go_wp2
  go_ret
  exact ⟨rfl, rfl⟩
theorem inter_last {d : Nat} {ps : List Pr} {ts : List (T d)} {k : T d} (hl : ts.length = ps.length + 1) (hk : ts[ps.length]? = some k) : inter (ts.map (tl d)) ps = upp ((ts.map (tl d)).take ps.length) (ps.take ps.length) ++ tl d k := by
  rw [inter_at ps.length (tl d k) (by simpa using hl) (kid_map hk)]
  rw [List.drop_eq_nil_of_le (Nat.le_refl _)]
  simp [dn]
theorem results_pair {fn : Func} {p : Tmp} (hf : fn.results = #[.cell p 40]) {tm : Array Value} {W : World} {b : Nat} {x y : ByteArray} (h : tm.getD p undef = .pointer (some ⟨b, 0, none⟩)) (hb : Blk W b 40 [.string x, .string y]) : (results fn tm).run Try.prog W = .ok (.agg #[.string x, .string y]) W := by
  exact results_cell_row (P := Try.prog) hf tm W b 40 _ (0, 0) _ h hb Try.underlying40 rfl (by kernel_rfl)
set_option maxRecDepth 100000 in
set_option maxHeartbeats 1000000 in
theorem last_is (w : World) (d : Nat) (t : T d) (nd : Nat) (h : Lies w d t nd) (hg : Good d t) (h1 : 1 ≤ (prs d t).length) :
    Calls Try.prog 41 #[.pointer (some ⟨nd, 0, none⟩)] w fun e w' => ∃ p : Pr, e = .returned (.agg #[.string p.1, .string p.2]) ∧ Hid (∃ A, tl d t = A ++ [p]) ∧ Hid (Below w.heap.size w w') := by
  have HL : Hid (Lies w d t nd ∧ Good d t ∧ 1 ≤ (prs d t).length) := ⟨h, hg, h1⟩
  obtain ⟨L, hL⟩ : ∃ L, tl d t = L := ⟨_, rfl⟩
  have HLL : Hid (tl d t = L) := hL
  rw [hL]
  clear h hg h1 hL
  have HB0 : Hid (Below w.heap.size w (w.alloc (.cells #[.string ⟨#[]⟩, .string ⟨#[]⟩] 40))) := (Below.refl _ w).alloc (Nat.le_refl _) _
  have HR0 : Hid (Blk (w.alloc (.cells #[.string ⟨#[]⟩, .string ⟨#[]⟩] 40)) w.heap.size 40 [.string ⟨#[]⟩, .string ⟨#[]⟩]) := Blk.new _ _ _
  go_enter Try.func41, Try.ntmps41
  go_wp2
  obtain ⟨w0, hw0⟩ : ∃ w0, w0 = w.alloc (.cells #[.string ⟨#[]⟩, .string ⟨#[]⟩] 40) := ⟨_, rfl⟩
  rw [← hw0] at HB0 HR0
  have HW0 : Hid (w0 = w.alloc (.cells #[.string ⟨#[]⟩, .string ⟨#[]⟩] 40)) := hw0
  clear hw0
  go_loopg [0] d (fun k u wr => ∃ (t' : T k) (nd' : Nat), u = .pointer (some ⟨nd', 0, none⟩) ∧ Hid (Lies w k t' nd') ∧ Hid (Good k t' ∧ 1 ≤ (prs k t').length) ∧ Hid (∃ A, L = A ++ tl k t') ∧ Hid (Below w0.heap.size w0 wr))
  case atStart => exact ⟨t, nd, rfl, HL.out.1, HL.out.2, ⟨[], HLL.out.symm⟩, by rw [← HW0.out]; exact Below.refl _ _⟩
  case round =>
    obtain ⟨t', nd', rfl, HL1, HG1, HA1, HB1⟩ := hrel
    have HW : Hid (Below w.heap.size w wr) := HB0.out.trans (HB1.out.mono HB0.out.size)
    cases gk with
    | zero =>
      obtain ⟨ps, hps⟩ : ∃ ps : List Pr, ps = t' := ⟨t', rfl⟩
      subst hps
      obtain ⟨a, n, cap, hnd0, hcap⟩ := HL1.out
      have hnd := hnd0.below HW.out (Nat.le_refl _)
      have hlen : ps.length = n := hnd.rd.1
      have h1 : 1 ≤ ps.length := HG1.out.2
      have h7 : ps.length ≤ 7 := HG1.out.1.most
      obtain ⟨g, off, rfl, hgr0, _⟩ := hnd0.rd.2 (by omega)
      obtain ⟨g', off', eg, _, hcell⟩ := hnd.rd.2 (by omega)
      cases eg
      have HGL : Hid (g < w.heap.size ∧ nd' < w.heap.size) := ⟨hgr0.lt, hnd0.blk.lt⟩
      have hlt : n - 1 < ps.length := by omega
      have e0 := (hcell (n - 1) _ (List.getElem?_eq_getElem hlt)).1
      have e1 := (hcell (n - 1) _ (List.getElem?_eq_getElem hlt)).2
      have c0 := hnd.blk.cell (i := 0) rfl
      have c1 := hnd.blk.cell (i := 1) rfl
      have HR : Hid (Blk wr w.heap.size 40 [.string ⟨#[]⟩, .string ⟨#[]⟩]) := HR0.out.below HB1.out HR0.out.lt
      have r0 := HR.out.cell (i := 0) rfl
      have r1 := HR.out.cell (i := 1) rfl
      have f0 := HR.out.free 0
      have f1 := HR.out.free 1
      have HP : Hid (∃ A, L = A ++ [ps[n - 1]]) := by
        obtain ⟨A, hA⟩ := HA1.out
        refine ⟨A ++ ps.take (n - 1), ?_⟩
        rw [hA, List.append_assoc]
        congr 1
        show (ps : List Pr) = _
        have e := List.take_append_drop (n - 1) ps
        have e2 : ps.drop (n - 1 + 1) = [] := List.drop_eq_nil_of_le (by omega)
        rw [List.drop_eq_getElem_cons hlt, e2] at e
        exact e.symm
      have q1 : IntKind.i64.wrap ((n : Int) - 1) = ((n - 1 : Nat) : Int) := by rw [IntKind.wrap_i64]; omega
      obtain ⟨j, hj⟩ : ∃ j, n - 1 = j := ⟨_, rfl⟩
      have q2 : (n : Int) - 1 = (j : Int) := by omega
      have q3 : (j : Int) < (n : Int) := by omega
      have q4 : (n : Int) ≤ 7 := by omega
      have q5 : IntKind.i64.wrap (j : Int) = (j : Int) := by rw [IntKind.wrap_i64]; omega
      have q6 : j < n := by omega
      have q7 : ¬ (j : Int) < 0 := by omega
      have q8 : (0 : Int) ≤ (j : Int) := by omega
      generalize hpp : ps[n - 1] = pp at *
      rw [hj] at e0 e1 q1
      clear hcell hpp
      go_wp2_with (go_at_call 39; refine (leaf_is wr nd' c1).mono ?_; rintro e w2 ⟨rfl, rfl⟩)
      have HKE : Hid ((fun w' => w'.cell? ⟨nd', 0, none⟩ = some (.slice (some ⟨g, off, none⟩) n cap) ∧ w'.cell? ⟨g, off + j * 2, none⟩ = some (.string pp.1) ∧ w'.cell? ⟨g, off + j * 2 + 1, none⟩ = some (.string pp.2)) ((wr.setCell ⟨w.heap.size, 0, none⟩ (.string pp.1)).setCell ⟨w.heap.size, 1, none⟩ (.string pp.2)).drew) := by
        have hg := grown_tr (grown_setCell wr w.heap.size 0 (.string pp.1)) (grown_setCell _ w.heap.size 1 (.string pp.2))
        have := HGL.out
        exact ⟨hg.cell c0 (by simp; omega), hg.cell e0 (by simp; omega), hg.cell e1 (by simp; omega)⟩
      go_region_held (fun w' => w'.cell? ⟨nd', 0, none⟩ = some (.slice (some ⟨g, off, none⟩) n cap) ∧ w'.cell? ⟨g, off + j * 2, none⟩ = some (.string pp.1) ∧ w'.cell? ⟨g, off + j * 2 + 1, none⟩ = some (.string pp.2)) (first | exact ⟨c0, e0, e1⟩ | exact HKE.out) (fail)
      go_wp2
      have hb := (HR.out.set 0 (.string pp.1)).set 1 (.string pp.2)
      refine bodyPost_ret (results_pair rfl rfl hb) rfl ?_
      exact ⟨pp.1, pp.2, rfl, HP, (HW.out.drew.setCell (p := ⟨w.heap.size, 0, none⟩) (Nat.le_refl _) _).setCell (p := ⟨w.heap.size, 1, none⟩) (Nat.le_refl _) _⟩
    | succ d' =>
      obtain ⟨a, n, cap, a', n', cap', bs, h1, h2, h3, h4, h5, h6⟩ := HL1.out
      have hwf := HG1.out.1.wf.1
      have hnn : n' = n + 1 := by rw [← h3.1, h5, hwf]; exact congrArg (· + 1) h1.rd.1
      have hpl : t'.1.length = n := h1.rd.1
      obtain ⟨g, off, rfl, hg, _⟩ := h3.2 (by omega)
      obtain ⟨g', off', eg, _, hc⟩ := (h3.below HW.out (Nat.le_refl _)).2 (by omega)
      cases eg
      have hib : n < bs.length := by rw [h3.1]; omega
      have hit : n < t'.2.length := by rw [← h5]; exact hib
      have c2 := hc n _ (List.getElem?_eq_getElem hib)
      have HK : Hid (t'.2[n]? = some t'.2[n]) := List.getElem?_eq_getElem hit
      have HL3 : Hid (Lies w d' t'.2[n] bs[n]) := h6 n _ _ HK.out (List.getElem?_eq_getElem hib)
      have HE3 : Hid (∃ A, L = A ++ tl d' t'.2[n]) := by
        obtain ⟨A, hA⟩ := HA1.out
        have hk : t'.2[t'.1.length]? = some t'.2[n] := by rw [hpl]; exact HK.out
        have e : tl (d' + 1) t' = _ := inter_last hwf hk
        exact ⟨A ++ _, by rw [hA, e, List.append_assoc]⟩
      have HG3 := HG1.out.1.kid HK.out
      have HG3' : Hid (Good d' t'.2[n] ∧ 3 ≤ (prs d' t'.2[n]).length) := HG3
      have c1 := (h1.below HW.out (Nat.le_refl _)).blk.cell (i := 1) rfl
      have hm7 : n ≤ 7 := by rw [← hpl]; exact HG1.out.1.most
      have q1 : IntKind.i64.wrap ((n' : Int) - 1) = (n : Int) := by rw [IntKind.wrap_i64]; omega
      have q2 : (n' : Int) - 1 = (n : Int) := by omega
      have q3 : (n : Int) < (n' : Int) := by omega
      have q4 : (n' : Int) ≤ 8 := by omega
      have HB0' : Hid (((n' : Int) == 0) = false) := by show _ = _; simp; omega
      generalize bs[n] = b2 at *
      clear h1 h2 h3 h4 h6 hc HG3
      go_wp2_with (go_at_call 39; refine (isLeaf_any wr nd' _ n' cap' false HB0'.out c1).mono ?_; rintro e w2 ⟨rfl, rfl⟩)
      go_quiet (fail)
      go_wp2
      go_roundg d'
      case measure => omega
      case rel => exact ⟨t'.2[n], b2, rfl, HL3, ⟨HG3'.out.1, by have := HG3'.out.2; omega⟩, HE3, below_drewN HB1.out _⟩
#print axioms last_is
end Go.Proofs.Ytnagknlfboadkaa.Oct
