/-
  Layer 11 (lines): a line's copy.
  Layer 11 (lines): Clone.
-/
import Derived.Test.YtjcihaohpbmogaaQeAP
import Derived.Test.YtjcihaohpbmogaaQeAS
/- Layer 11 (lines): a line's copy. -/
namespace Go.Proofs.Ytjcihaohpbmogaa.Oct
open Go.RowKit
set_option maxRecDepth 100000
set_option linter.unusedSimpArgs false
set_option linter.unusedVariables false
set_option linter.unusedSectionVars false

theorem cells86 {l : Ln} (h : LnOk l) : l.cells.length = 36 := by
  unfold Ln.cells
  simp [Vx.len h.down.1]
theorem info86 {L : List Value} (h : L.length = 36) : (Try.prog.info? 86).map (·.size) = some L.length := by rw [h]; show _ = some 36; kernel_rfl
theorem zval86 : ∃ Z : List Value, (∀ W, (zeroValue 86).run Try.prog W = .ok (.agg Z.toArray) W) ∧ Hid (Z.length = 36) := ⟨.string ⟨#[]⟩ :: .slice none 0 0 :: (vTop.cells ++ [.map none]), fun W => by kernel_rfl, by rfl⟩
theorem cells86_one {l : Ln} : ∀ v ∈ l.cells, v.oneCell' = true := by
  intro v hv
  unfold Ln.cells at hv
  simp only [List.mem_cons, List.mem_append, List.not_mem_nil, or_false] at hv
  rcases hv with rfl | rfl | h | rfl
  · rfl
  · rfl
  · exact Vx.one _ v h
  · rfl
theorem neq35 (a : Addr) (n c : Nat) (W : World) : (binOp BinOp.eql 35 (.slice (some a) n c) (.slice none 0 0)).run Try.prog W = .ok (.bool false) W := by kernel_rfl
def Cl58P (w : World) (n : Nat) (vs : List Vx) (e : Ending) (w' : World) : Prop := ∃ v, e = .returned v ∧ OV w.heap.size w' v n vs ∧ Below w.heap.size w w'
theorem clone58 (w : World) (a : Addr) (n c : Nat) (vs : List Vx) (hv : VsR w (some a) n vs) (hn : n ≤ 1000000) : Calls Try.prog 58 #[.slice (some a) n c] w fun e w' => Cl58P w n vs e w' := by
  have HV : Hid (VsR w (some a) n vs ∧ n ≤ 1000000) := ⟨hv, hn⟩
  have hq := neq35 a n c
  clear hv hn
  go_enter Try.func58, Try.ntmps58
  go_wp2_with (first
    | (with_reducible change wpList _ _ _ ({ dst := some 5, op := _, type := _, pos := _, after := _, guard := _ } :: _) _ _
       refine Hid.out ?_)
    | fail)
  show wpList _ _ _ _ _ _
  refine wpList_bz rfl 35 rfl _ _ (bs35z _) ?_
  obtain ⟨W2, hW2⟩ : ∃ W, w.alloc (.cells #[] 34) = W := ⟨_, rfl⟩
  obtain ⟨r1, hr1⟩ : ∃ r, w.heap.size = r := ⟨_, rfl⟩
  have hb2 : Below w.heap.size w W2 := by rw [← hW2]; exact below_al _ _
  have HZ : Hid (Blk W2 r1 34 [] ∧ w.heap.size = r1 ∧ Below w.heap.size w W2) := ⟨by rw [← hW2, ← hr1]; exact Blk.new w _ _, hr1, hb2⟩
  rw [hW2, hr1]
  clear hW2 hr1 hb2 hq
  go_wp2_with (first
    | (with_reducible change wpList _ _ _ ({ dst := some 7, op := _, type := _, pos := _, after := _, guard := _ } :: _) _ _
       refine Hid.out ?_)
    | fail)
  show wpList _ _ _ _ _ _
  have ho : OV r1 W2 (.slice (some ⟨r1, 0, none⟩) 0 0) 0 [] := ⟨⟨rfl, .inr ⟨r1, 0, #[], rfl, Nat.le_refl _, HZ.out.1, Nat.le_refl _, by unfold maxLen; omega, rfl, rfl⟩⟩, by simp⟩
  obtain ⟨v', W', h1, h2, h3, _⟩ := run_app W2 r1 35 _ 0 [] (some a) n c vs ho (HV.out.1.below HZ.out.2.2) (by have := HV.out.2; omega) (Nat.le_of_lt HZ.out.1.lt)
  rw [Nat.zero_add, List.nil_append] at h2
  refine wpList_ap rfl 35 35 _ _ rfl _ _ rfl rfl _ _ h1 ?_
  have HF : Hid (Cl58P w n vs (.returned v') W') := by
    refine ⟨v', rfl, by rw [HZ.out.2.1]; exact h2, HZ.out.2.2.grown h3 HZ.out.2.2.size (fun k hk => ?_)⟩
    have e : r1 = k := Option.some.inj hk
    have := HZ.out.2.1
    omega
  clear ho h1 h2 h3 HZ
  go_wp2
  go_ret
  exact HF.out
def Cl59P (w : World) (kb : Option Nat) (L : List Hs) (e : Ending) (w' : World) : Prop := ∃ kb', e = .returned (.map kb') ∧ (kb' = none ↔ kb = none) ∧ (∀ k, kb' = some k → w.heap.size ≤ k ∧ MP w' k (unitH L)) ∧ Below w.heap.size w w'
theorem clone59 (w : World) (kb : Option Nat) (L : List Hs) (h : ∀ k, kb = some k → MP w k (unitH L)) : Calls Try.prog 59 #[.map kb] w fun e w' => Cl59P w kb L e w' := by
  cases kb with
  | none =>
    refine (Go.Proofs.AnyW.maps_Clone_nil laysMC w).mono ?_
    rintro e w' ⟨rfl, rfl⟩
    exact ⟨none, rfl, by simp, by simp, Below.refl _ _⟩
  | some k =>
    obtain ⟨es, ⟨clock, h1, h2, h3, h4, h5⟩, h6⟩ := h k rfl
    refine (Go.Proofs.AnyW.maps_Clone laysMC k _ clock w h1).mono ?_
    rintro e w' ⟨rfl, rfl⟩
    refine ⟨some w.heap.size, rfl, by simp, fun k' e => ?_, below_al _ _⟩
    cases e
    exact ⟨Nat.le_refl _, es, ⟨clock, by simpa using heap_alloc_new w (.map (es.map Ent.me).toArray clock), h2, h3, h4, h5⟩, h6⟩
/-- a copy of a line, all of it in new memory -/
def CopyP (w : World) (l : Ln) (e : Ending) (w' : World) : Prop := ∃ l' : Ln, e = .returned (.pointer (some ⟨l'.blk, 0, none⟩)) ∧ l'.p = l.p ∧ (∀ k ∈ l'.bl, w.heap.size ≤ k) ∧ l'.bl.Nodup ∧ (∀ x ∈ l'.hp, x.2.at w' x.1) ∧ LnOk l' ∧ Below w.heap.size w w'
set_option maxHeartbeats 4000000 in
theorem copy_is {w : World} {p : Nat} {G : Gm} (h : GAt w p G) {l : Ln} (hl : l ∈ G.ls) (hne : l.p.fr ≠ []) : Calls Try.prog 31 #[.pointer (some ⟨l.blk, 0, none⟩)] w fun e w' => CopyP w l e w' := by
  have hok := h.ok l hl
  have hlen := cells86 hok
  obtain ⟨Z, hZ, HZ⟩ := zval86
  have hkb : w.cell? ⟨l.blk, 35, none⟩ = some (.map l.kb) := by
    refine (h.ln hl).cell ?_
    unfold Ln.cells
    rw [List.getElem?_cons_succ, List.getElem?_cons_succ, List.getElem?_append_right (by rw [Vx.len hok.down.1]; exact Nat.le_refl 33), Vx.len hok.down.1]
    rfl
  have HL : Hid (GAt w p G ∧ l ∈ G.ls ∧ l.p.fr ≠ [] ∧ LnOk l ∧ l.cells.length = 36) := ⟨h, hl, hne, hok, hlen⟩
  have HB0 : Hid (Blk w l.blk 86 l.cells) := h.ln hl
  have HR0 : Hid (VsR w (some ⟨l.rb, 0, none⟩) l.p.fr.length l.p.fr) := (h.row hl).vs hok.fr
  have HK0 : Hid (∀ k, l.kb = some k → MP w k (unitH l.p.kills)) := fun k hk => h.kl hl hk
  have c1 : w.cell? ⟨l.blk, 1, none⟩ = some (.slice (some ⟨l.rb, 0, none⟩) l.p.fr.length l.cap) := (h.ln hl).cell rfl
  obtain ⟨lb, hlb⟩ : ∃ b, l.blk = b := ⟨_, rfl⟩
  obtain ⟨C, hC⟩ : ∃ C, l.cells = C := ⟨_, rfl⟩
  have HC : Hid (l.cells = C ∧ l.blk = lb) := ⟨hC, hlb⟩
  obtain ⟨d, hd⟩ : ∃ d, w.heap.size = d := ⟨_, rfl⟩
  obtain ⟨W1, hW1⟩ : ∃ W, w.alloc (.cells C.toArray 86) = W := ⟨_, rfl⟩
  have hb1 : Below w.heap.size w W1 := by rw [← hW1]; exact below_al _ _
  have hlt := (h.ln hl).lt
  have S1 : Hid (Below w.heap.size w W1 ∧ Blk W1 d 86 C ∧ w.heap.size = d ∧ W1.heap.size = d + 1) := ⟨hb1, by rw [← hW1, ← hd]; exact Blk.new w _ _, hd, by rw [← hW1, ← hd]; simp⟩
  rw [hlb, hC] at HB0
  rw [hlb] at c1 hkb
  rw [hlb]
  have c1' : W1.cell? ⟨lb, 1, none⟩ = some (.slice (some ⟨l.rb, 0, none⟩) l.p.fr.length l.cap) := (cell_same (hb1.block lb (by rw [← hlb]; exact hlt))).trans c1
  have hkb' : W1.cell? ⟨lb, 35, none⟩ = some (.map l.kb) := (cell_same (hb1.block lb (by rw [← hlb]; exact hlt))).trans hkb
  have HC1 := hid_of hkb'
  have HW1 : Hid (w.alloc (.cells C.toArray 86) = W1 ∧ w.heap.size = d) := ⟨hW1, hd⟩
  have HLB : Hid (lb < w.heap.size) := by show lb < _; rw [← hlb]; exact hlt
  clear h hl hne hok hlen hkb c1 hb1 hlt hC hlb hd hW1 hkb'
  go_enter Try.func31, Try.ntmps31
  go_wp2_with (first
    | (with_reducible change wpList _ _ _ ({ dst := some 6, op := _, type := _, pos := _, after := _, guard := _ } :: _) _ _
       refine wpList_load_want rfl 86 (.tmp 5) rfl lb 0 rfl C _ HB0.out.range0 Try.underlying86 rfl (info86 (by rw [← HC.out.1]; exact HL.out.2.2.2.2)) ?_)
    | (with_reducible change wpList _ _ _ ({ dst := none, op := Op.store 86 _ _, type := _, pos := _, after := _, guard := _ } :: _) _ _
       refine Hid.out ?_)
    | fail)
  show wpList _ _ _ _ _ _
  refine wpList_store_fresh rfl 86 (.tmp 3) (.tmp 6) rfl Z C 86 rfl rfl (by rw [← HC.out.1, HL.out.2.2.2.2, HZ.out]) (info86 (by rw [← HC.out.1]; exact HL.out.2.2.2.2)) (by rw [← HC.out.1]; exact cells86_one) ?_
  rw [HW1.out.1, HW1.out.2]
  clear HW1 hZ HB0
  go_wp2_with fail
  refine (clone58 W1 ⟨l.rb, 0, none⟩ l.p.fr.length l.cap l.p.fr (HR0.out.below S1.out.1) (by have := HL.out.2.2.2.1.len; omega)).mono ?_
  rintro e W2 ⟨v, rfl, ho, hb⟩
  obtain ⟨a1, c1, rfl, hvs, hnc, hor⟩ := ho.read
  have hpos : 0 < l.p.fr.length := List.length_pos_iff.2 HL.out.2.2.1
  obtain ⟨g, rfl, hg⟩ : ∃ g, a1 = some ⟨g, 0, none⟩ ∧ W1.heap.size ≤ g := by
    rcases hor with h | h
    · obtain ⟨g, off, e, _⟩ := hvs.2.2 hpos
      rw [h] at e
      cases e
    · exact h
  have hsz := S1.out.2.2.2
  have S2 : Hid (Below w.heap.size w W2 ∧ Blk W2 d 86 C ∧ OV W1.heap.size W2 (.slice (some ⟨g, 0, none⟩) l.p.fr.length c1) l.p.fr.length l.p.fr ∧ d < g) := ⟨below_tr S1.out.1 hb, S1.out.2.1.below hb S1.out.2.1.lt, ho, by omega⟩
  have c2 : W2.cell? ⟨lb, 35, none⟩ = some (.map l.kb) := (cell_same (hb.block lb (Nat.lt_of_lt_of_le HLB.out S1.out.1.size))).trans HC1.out
  clear ho hb hvs hnc hor hpos hg hsz c1'
  go_wp2_with (first
    | (with_reducible change wpList _ _ _ ({ dst := none, op := Op.store 35 _ _, type := _, pos := _, after := _, guard := _ } :: _) _ _
       refine Hid.out ?_)
    | fail)
  show wpList _ _ _ _ _ _
  refine wpList_stc rfl 35 (.tmp 12) (.tmp 11) rfl (by kernel_rfl) (b := d) (i := 1) (t := 86) (L := C) (u := .slice (some ⟨l.rb, 0, none⟩) l.p.fr.length l.cap) rfl rfl rfl rfl S2.out.2.1 (by rw [← HC.out.1]; rfl) ?_
  intro W3 r1 r2
  have S3 : Hid (Below w.heap.size w W3 ∧ Blk W3 d 86 (C.set 1 (.slice (some ⟨g, 0, none⟩) l.p.fr.length c1)) ∧ OV 0 W3 (.slice (some ⟨g, 0, none⟩) l.p.fr.length c1) l.p.fr.length l.p.fr ∧ d < g ∧ W2.heap.size ≤ W3.heap.size) := by
    refine ⟨S2.out.1.grown r2 S2.out.1.size (fun k hk => ?_), r1, (S2.out.2.2.1.kept r2 (by have := S1.out.2.2.2; omega)).lo (Nat.zero_le _), S2.out.2.2.2, r2.size⟩
    have e := Option.some.inj hk
    have := S1.out.2.2.1
    omega
  have HKW : Hid (∀ k, l.kb = some k → MP W3 k (unitH l.p.kills)) := fun k hk => (HK0.out k hk).same (S3.out.1.block k (HK0.out k hk).lt)
  have c3 : W3.cell? ⟨lb, 35, none⟩ = some (.map l.kb) := (cell_same (r2.block lb (Nat.lt_of_lt_of_le HLB.out S2.out.1.size) (fun e => by have e := Option.some.inj e; have := S1.out.2.2.1; have := HLB.out; omega))).trans c2
  clear r1 r2 S2 c2 HK0 HC1
  go_wp2_with fail
  refine (clone59 W3 l.kb l.p.kills HKW.out).mono ?_
  rintro e W4 ⟨kb', rfl, hkn, hkm, hb⟩
  have S4 : Hid (Below w.heap.size w W4 ∧ Blk W4 d 86 (C.set 1 (.slice (some ⟨g, 0, none⟩) l.p.fr.length c1)) ∧ OV 0 W4 (.slice (some ⟨g, 0, none⟩) l.p.fr.length c1) l.p.fr.length l.p.fr ∧ d < g ∧ (∀ k, kb' = some k → W3.heap.size ≤ k ∧ MP W4 k (unitH l.p.kills)) ∧ (kb' = none ↔ l.kb = none) ∧ g < W3.heap.size) := by
    obtain ⟨rest, r1, _⟩ := S3.out.2.2.1.blk
    exact ⟨below_tr S3.out.1 hb, S3.out.2.1.below hb S3.out.2.1.lt, S3.out.2.2.1.below hb, S3.out.2.2.2.1, hkm, hkn, r1.lt⟩
  clear hkn hkm hb c3 HKW
  go_wp2_with (first
    | (with_reducible change wpList _ _ _ ({ dst := none, op := Op.store 84 _ _, type := _, pos := _, after := _, guard := _ } :: _) _ _
       refine Hid.out ?_)
    | fail)
  show wpList _ _ _ _ _ _
  refine wpList_stc rfl 84 (.tmp 18) (.tmp 17) rfl (by kernel_rfl) (b := d) (i := 35) (t := 86) (L := C.set 1 (.slice (some ⟨g, 0, none⟩) l.p.fr.length c1)) (u := .map l.kb) rfl rfl rfl rfl S4.out.2.1 (by
    rw [← HC.out.1]
    show (l.cells.set 1 _)[35]? = _
    unfold Ln.cells
    rw [List.set_cons_succ, List.set_cons_zero, List.getElem?_cons_succ, List.getElem?_cons_succ, List.getElem?_append_right (by rw [Vx.len HL.out.2.2.2.1.down.1]; exact Nat.le_refl 33), Vx.len HL.out.2.2.2.1.down.1]
    rfl) ?_
  intro W5 r1 r2
  have HF : Hid (CopyP w l (.returned (.pointer (some ⟨d, 0, none⟩))) W5) := by
    obtain ⟨rest, b1, b2, b3, b4⟩ := S4.out.2.2.1.blk
    have hd : w.heap.size = d := S1.out.2.2.1
    have hw3 : g < W3.heap.size := S4.out.2.2.2.2.2.2
    have hdg := S4.out.2.2.2.1
    refine ⟨⟨l.p, d, g, c1, rest, kb'⟩, rfl, rfl, ?_, ?_, ?_, ?_, ?_⟩
    · intro k hk
      unfold Ln.bl at hk
      simp only [List.mem_cons] at hk
      rcases hk with e | e | e
      · omega
      · omega
      · cases hkk : kb' with
        | none => rw [hkk] at e; cases e
        | some k' =>
          rw [hkk] at e
          have e := List.mem_singleton.1 e
          have := (S4.out.2.2.2.2.1 k' hkk).1
          omega
    · unfold Ln.bl
      cases hkk : kb' with
      | none => simp; omega
      | some k' =>
        have := (S4.out.2.2.2.2.1 k' hkk).1
        simp
        omega
    · intro x hx
      unfold Ln.hp at hx
      simp only [List.mem_cons] at hx
      rcases hx with rfl | rfl | hx
      · show Blk W5 d 86 _
        have e : (Ln.cells ⟨l.p, d, g, c1, rest, kb'⟩) = (C.set 1 (.slice (some ⟨g, 0, none⟩) l.p.fr.length c1)).set 35 (.map kb') := by
          have e1 := cells_set (l := ⟨l.p, d, g, c1, rest, l.kb⟩) HL.out.2.2.2.1.down.1 kb' l.p.kills
          have e2 : Ln.cells ⟨l.p, d, g, c1, rest, l.kb⟩ = l.cells.set 1 (.slice (some ⟨g, 0, none⟩) l.p.fr.length c1) := rfl
          rw [← HC.out.1, ← e2, ← e1]
        rw [e]
        exact r1
      · show Blk W5 g 34 _
        exact b1.kept r2 (fun e => by have e := Option.some.inj e; omega)
      · unfold killHp at hx
        cases hkk : kb' with
        | none => rw [hkk] at hx; cases hx
        | some k' =>
          rw [hkk] at hx
          simp only [List.mem_cons, List.not_mem_nil, or_false] at hx
          subst hx
          have h9 := S4.out.2.2.2.2.1 k' hkk
          exact h9.2.same (r2.block k' h9.2.lt (fun e => by have e := Option.some.inj e; omega))
    · have hok := HL.out.2.2.2.1
      exact ⟨hok.v, hok.fr, hok.down, trivial, b2, by simpa using b3, b4, hok.len, fun e => hok.no (S4.out.2.2.2.2.2.1.1 e)⟩
    · refine S4.out.1.grown r2 S4.out.1.size (fun k hk => ?_)
      have e := Option.some.inj hk
      omega
  clear r1 r2 S4 S3
  go_wp2
  go_ret
  exact HF.out
end Go.Proofs.Ytjcihaohpbmogaa.Oct

/- Layer 11 (lines): Clone. -/
namespace Go.Proofs.Ytjcihaohpbmogaa.Oct
open Go.RowKit
set_option maxRecDepth 100000
set_option linter.unusedSimpArgs false
set_option linter.unusedVariables false
set_option linter.unusedSectionVars false

set_option maxRecDepth 100000 in
set_option maxHeartbeats 4000000 in
theorem cl7 {Q : Exit → Act → World → Prop} {x0 x1 x2 x6 x7 x8 x9 x10 x11 x12 x13 x14 x15 x16 x17 x18 x19 x20 x21 x22 x23 x24 x25 x26 x27 : Value} {ds : List Deferred} {A : World} {q d4 lb m : Nat} {y : Vx} {l : Ln} {M : Kv Vx}
    (HL : Hid (q < A.heap.size ∧ d4 < A.heap.size)) (HN : Hid ((¬ q = m) ∧ ¬ d4 = m)) (c0 : A.cell? ⟨q, 0, none⟩ = some (.map (some m))) (HR : Hid (A.rangeAt d4 0 y.cells)) (HV : Hid (Vk y)) (HM : Hid (MP A m M)) (HCOPY : Hid (∀ V, Below A.heap.size A V → Calls Try.prog 31 #[.pointer (some ⟨lb, 0, none⟩)] V fun e w' => CopyP V l e w'))
    (hQ : ∀ V l', Keep (fun k => k = m) A V → MP V m (kput M y (.pointer (some ⟨l'.blk, 0, none⟩))) → (l'.p = l.p ∧ (∀ k ∈ l'.bl, A.heap.size ≤ k) ∧ l'.bl.Nodup ∧ (∀ x ∈ l'.hp, x.2.at V x.1) ∧ LnOk l') → Q .normal { tmps := #[x0, x1, x2, .pointer (some ⟨q, 0, none⟩), .pointer (some ⟨d4, 0, none⟩), .pointer (some ⟨lb, 0, none⟩), x6, x7, x8, x9, x10, x11, x12, x13, x14, x15, x16, x17, x18, x19, .pointer (some ⟨q, 0, none⟩), .pointer (some ⟨q, 0, none⟩), .pointer (some ⟨q, 0, none⟩), .map (some m), .agg y.cells.toArray, .pointer (some ⟨lb, 0, none⟩), .pointer (some ⟨l'.blk, 0, none⟩), x27], defers := ds } V) :
    (Code.region 7 #[{ dst := some 20, op := Op.move (Operand.tmp 3), type := 25, pos := "lines.go:96", after := #[], guard := none }, { dst := some 21, op := Op.nilCheck (Operand.tmp 20), type := 0, pos := "lines.go:96", after := #[{ on := 0, ground := Ground.data }], guard := none }, { dst := some 22, op := Op.fieldAddr 67 (Operand.tmp 21) 0, type := 0, pos := "lines.go:96", after := #[{ on := 1, ground := Ground.data }], guard := none }, { dst := some 23, op := Op.load 65 (Operand.tmp 22), type := 65, pos := "lines.go:96", after := #[{ on := 2, ground := Ground.data }], guard := none }, { dst := some 24, op := Op.load 34 (Operand.tmp 4), type := 34, pos := "lines.go:96", after := #[], guard := none }, { dst := some 25, op := Op.move (Operand.tmp 5), type := 71, pos := "lines.go:96", after := #[], guard := none }, { dst := some 26, op := Op.call { callee := Callee.value (Operand.func 31), args := #[Operand.tmp 25], argTypes := #[71] }, type := 71, pos := "lines.go:96", after := #[{ on := 5, ground := Ground.data }], guard := none }, { dst := none, op := Op.mapUpdate 65 (Operand.tmp 23) (Operand.tmp 24) (Operand.tmp 26), type := 0, pos := "lines.go:96", after := #[{ on := 3, ground := Ground.data }, { on := 4, ground := Ground.data }, { on := 6, ground := Ground.data }, { on := 6, ground := Ground.chain }, { on := 0, ground := Ground.phase }, { on := 1, ground := Ground.phase }, { on := 2, ground := Ground.phase }, { on := 3, ground := Ground.phase }, { on := 4, ground := Ground.phase }, { on := 5, ground := Ground.phase }, { on := 6, ground := Ground.phase }], guard := none }] true).wp Try.prog Q { tmps := #[x0, x1, x2, .pointer (some ⟨q, 0, none⟩), .pointer (some ⟨d4, 0, none⟩), .pointer (some ⟨lb, 0, none⟩), x6, x7, x8, x9, x10, x11, x12, x13, x14, x15, x16, x17, x18, x19, x20, x21, x22, x23, x24, x25, x26, x27], defers := ds } A := by
  refine Code.wp_mono (Q := fun x a' w' => match x with | .normal => Q .normal a' w' | _ => False) (by intro x a' w' h; cases x <;> first | exact h | exact h.elim) ?_
  refine wp_region_held (S := fun V => Keep (fun k => k = m) A V) (by kernel_rfl) ?_
  have hS0 : Hid (Keep (fun k => k = m) A A.drew) := (Keep.refl _ A).drew
  change wpAnyH Try.prog .any _ _ (fun V => Keep (fun k => k = m) A V) 8 (Array.replicate 8 false) _ A.drew
  obtain ⟨V0, hV0⟩ : ∃ V0, A.drew = V0 := ⟨_, rfl⟩
  rw [hV0]
  rw [hV0] at hS0
  have hL0 : Hid (Below A.heap.size A V0) := by
    show Below _ _ _
    rw [← hV0]
    exact below_drew0 A
  clear hV0
  refine wpAnyH_take (i := 0) (oi := { dst := some 20, op := Op.move (Operand.tmp 3), type := 25, pos := "lines.go:96", after := #[], guard := none }) (v := .pointer (some ⟨q, 0, none⟩)) rfl (by kernel_rfl) (by kernel_rfl) (by kernel_rfl) (fun _ _ _ h => h.elim) (Or.inl ⟨by rfl, ?y1⟩) hS0.out ?_
  case y1 =>
    intro V hV
    go_simp
  simp only [Act.put, List.setIfInBounds_toArray, List.set_cons_zero, List.set_cons_succ]
  refine wpAnyH_take (i := 1) (oi := { dst := some 21, op := Op.nilCheck (Operand.tmp 20), type := 0, pos := "lines.go:96", after := #[{ on := 0, ground := Ground.data }], guard := none }) (v := .pointer (some ⟨q, 0, none⟩)) rfl (by kernel_rfl) (by kernel_rfl) (by kernel_rfl) (fun _ _ _ h => h.elim) (Or.inl ⟨by rfl, ?y2⟩) hS0.out ?_
  case y2 =>
    intro V hV
    go_simp
  simp only [Act.put, List.setIfInBounds_toArray, List.set_cons_zero, List.set_cons_succ]
  refine wpAnyH_take (i := 2) (oi := { dst := some 22, op := Op.fieldAddr 67 (Operand.tmp 21) 0, type := 0, pos := "lines.go:96", after := #[{ on := 1, ground := Ground.data }], guard := none }) (v := .pointer (some ⟨q, 0, none⟩)) rfl (by kernel_rfl) (by kernel_rfl) (by kernel_rfl) (fun _ _ _ h => h.elim) (Or.inl ⟨by rfl, ?y3⟩) hS0.out ?_
  case y3 =>
    intro V hV
    go_simp
  simp only [Act.put, List.setIfInBounds_toArray, List.set_cons_zero, List.set_cons_succ]
  refine wpAnyH_take (i := 3) (oi := { dst := some 23, op := Op.load 65 (Operand.tmp 22), type := 65, pos := "lines.go:96", after := #[{ on := 2, ground := Ground.data }], guard := none }) (v := .map (some m)) rfl (by kernel_rfl) (by kernel_rfl) (by kernel_rfl) (fun _ _ _ h => h.elim) (Or.inl ⟨by rfl, ?y4⟩) hS0.out ?_
  case y4 =>
    intro V hV
    have hc : V.cell? ⟨q, 0, none⟩ = some (.map (some m)) := (cell_same ((show Keep (fun k => k = m) A V from hV).block _ HL.out.1 HN.out.1)).trans c0
    go_simp
  simp only [Act.put, List.setIfInBounds_toArray, List.set_cons_zero, List.set_cons_succ]
  refine wpAnyH_take (i := 4) (oi := { dst := some 24, op := Op.load 34 (Operand.tmp 4), type := 34, pos := "lines.go:96", after := #[], guard := none }) (v := .agg y.cells.toArray) rfl (by kernel_rfl) (by kernel_rfl) (by kernel_rfl) (fun _ _ _ h => h.elim) (yieldsIf_load_mid (by rfl) _ _ rfl _ _ rfl (y.cells) _ (fun V hV => rangeAt_same (HR.out) ((show Keep (fun k => k = m) A V from hV).block _ (HL.out.2) (HN.out.2))) Try.underlying34 rfl (info34 HV.out.1)) hS0.out ?_
  simp only [Act.put, List.setIfInBounds_toArray, List.set_cons_zero, List.set_cons_succ]
  refine wpAnyH_take (i := 5) (oi := { dst := some 25, op := Op.move (Operand.tmp 5), type := 71, pos := "lines.go:96", after := #[], guard := none }) (v := .pointer (some ⟨lb, 0, none⟩)) rfl (by kernel_rfl) (by kernel_rfl) (by kernel_rfl) (fun _ _ _ h => h.elim) (Or.inl ⟨by rfl, ?y5⟩) hS0.out ?_
  case y5 =>
    intro V hV
    go_simp
  simp only [Act.put, List.setIfInBounds_toArray, List.set_cons_zero, List.set_cons_succ]
  refine wpAnyH_ready (rs := [6]) (by kernel_rfl) (by simp) (AllReadyH.cons (i := 6) (o := { dst := some 26, op := Op.call { callee := Callee.value (Operand.func 31), args := #[Operand.tmp 25], argTypes := #[71] }, type := 71, pos := "lines.go:96", after := #[{ on := 5, ground := Ground.data }], guard := none }) rfl ?_ AllReadyH.nil)
  · intro K1 hK1
    rw [if_pos (by rfl)]
    have HC1 := HCOPY.out V0 hL0.out
    go_wp2_with fail
    refine HC1.mono ?_
    rintro e V1 ⟨l', rfl, hl1⟩
    dsimp only
    clear HC1
    have hL1 : Hid (Below A.heap.size A V1) := below_tr hL0.out hl1.2.2.2.2.2
    have hS1 : Hid (Keep (fun k => k = m) A V1) := Keep.below hL1.out
    have hX1 : Hid (l'.p = l.p ∧ (∀ k ∈ l'.bl, A.heap.size ≤ k) ∧ l'.bl.Nodup ∧ (∀ x ∈ l'.hp, x.2.at V1 x.1) ∧ LnOk l') := ⟨hl1.1, fun k hk => Nat.le_trans (hL0.out).size (hl1.2.1 k hk), hl1.2.2.1, hl1.2.2.2.1, hl1.2.2.2.2.1⟩
    clear hl1
    refine hK1.out _ _ hS1.out ?_
    clear hK1
    intro _
    try simp only [Act.put, List.setIfInBounds_toArray, List.set_cons_zero, List.set_cons_succ]
    refine wpAnyH_ready (rs := [7]) (by kernel_rfl) (by simp) (AllReadyH.cons (i := 7) (o := { dst := none, op := Op.mapUpdate 65 (Operand.tmp 23) (Operand.tmp 24) (Operand.tmp 26), type := 0, pos := "lines.go:96", after := #[{ on := 3, ground := Ground.data }, { on := 4, ground := Ground.data }, { on := 6, ground := Ground.data }, { on := 6, ground := Ground.chain }, { on := 0, ground := Ground.phase }, { on := 1, ground := Ground.phase }, { on := 2, ground := Ground.phase }, { on := 3, ground := Ground.phase }, { on := 4, ground := Ground.phase }, { on := 5, ground := Ground.phase }, { on := 6, ground := Ground.phase }], guard := none }) rfl ?_ AllReadyH.nil)
    · intro K1 hK1
      obtain ⟨V2, r2, p2, g2, _⟩ := (HM.out.same ((hL1.out).block m HM.out.lt)).put (t := 65) (E := 71) (h := y) Try.underlying65 HV.out (.pointer (some ⟨l'.blk, 0, none⟩))
      refine step_mapUp (by rfl) 65 _ _ _ rfl _ _ _ rfl rfl rfl V2 r2 ?_
      have hS2 : Hid (Keep (fun k => k = m) A V2) := (hS1.out).trans (Keep.grown (S := fun k => k = m) g2 rfl) (fun _ h _ => h)
      have hP2 : Hid (MP V2 m (kput M y (.pointer (some ⟨l'.blk, 0, none⟩)))) := p2
      have hX2 : Hid (l'.p = l.p ∧ (∀ k ∈ l'.bl, A.heap.size ≤ k) ∧ l'.bl.Nodup ∧ (∀ x ∈ l'.hp, x.2.at V2 x.1) ∧ LnOk l') := by
        have hx := hX1.out
        refine ⟨hx.1, hx.2.1, hx.2.2.1, fun x hm => ?_, hx.2.2.2.2⟩
        have h1 := hx.2.2.2.1 x hm
        refine Cont.at_same h1 (g2.block x.1 (Cont.at_lt h1) (fun e => ?_))
        have e := Option.some.inj e
        have h2 := hx.2.1 x.1 (by rw [← Ln.hp_bl]; exact List.mem_map.2 ⟨x, hm, rfl⟩)
        have h3 := HM.out.lt
        omega
      clear r2 p2 g2
      refine hK1.out _ _ hS2.out ?_
      clear hK1
      intro _
      try simp only [Act.put, List.setIfInBounds_toArray, List.set_cons_zero, List.set_cons_succ]
      refine wpAnyH_done (by kernel_rfl) ?_ _
      exact hQ V2 l' hS2.out hP2.out hX2.out
/-- a copy of a graph, all of it in new memory -/
def CloneP (w : World) (p : Nat) (G : Gm) (e : Ending) (w' : World) : Prop := ∃ q C, e = .returned (.pointer (some ⟨q, 0, none⟩)) ∧ GAt w' q C ∧ (∀ k ∈ C.bl q, w.heap.size ≤ k) ∧ C.ps.Perm G.ps ∧ Below w.heap.size w w'
/-- where the copying stands -/
def ClI (w : World) (p q r mb : Nat) (G : Gm) (es left : List (Ent Vx)) (C : Gm) (wr : World) : Prop :=
  HMR wr mb r es left ∧ Below w.heap.size w wr ∧ GAt wr q C ∧ (∀ k ∈ C.bl q, w.heap.size ≤ k) ∧ (¬ r ∈ C.bl q) ∧ (C.keys ++ left.map (·.k)).Perm G.keys ∧ ∀ x ∈ C.ps, x ∈ G.ps
theorem cl_perm {G C : Gm} (hn : G.keys.Nodup) (hk : C.keys.Perm G.keys) (hs : ∀ x ∈ C.ps, x ∈ G.ps) : C.ps.Perm G.ps := by
  rw [keys_ps] at hn hk
  rw [keys_ps] at hk
  have hn2 : (keysP C.ps).Nodup := hk.nodup_iff.2 hn
  have nd : ∀ {l : List PL}, (keysP l).Nodup → l.Nodup := fun h => by
    unfold keysP at h
    exact List.Pairwise.of_map (·.v) (fun a b h e => h (e ▸ rfl)) h
  refine (List.perm_ext_iff_of_nodup (nd hn2) (nd hn)).2 fun x => ⟨hs x, fun hx => ?_⟩
  have hm : x.v ∈ keysP C.ps := hk.mem_iff.2 (List.mem_map.2 ⟨x, hx, rfl⟩)
  obtain ⟨y, hy, e⟩ := List.mem_map.1 hm
  have h1 := getP_of hn (hs y hy)
  have h2 := getP_of hn hx
  have e : y.v = x.v := e
  rw [e, h2] at h1
  rw [Option.some.inj h1]
  exact hy
set_option maxHeartbeats 4000000 in
theorem clone_is {w : World} {p : Nat} {G : Gm} (h : GAt w p G) (hne : ∀ l ∈ G.ls, l.p.fr ≠ []) : Calls Try.prog 12 #[.pointer (some ⟨p, 0, none⟩)] w fun e w' => CloneP w p G e w' := by
  have c0 : w.cell? ⟨p, 0, none⟩ = some (.map (some G.mb)) := h.blk.cell rfl
  obtain ⟨es, hes, hkv⟩ := h.mp
  have HS : Hid (GAt w p G ∧ HM w G.mb es ∧ es.map (fun e => (e.k, e.v)) = linesKv G.ls) := ⟨h, hes, hkv⟩
  have HES : Hid (∀ e ∈ es, ∃ l ∈ G.ls, e.k = l.p.v ∧ e.v = .pointer (some ⟨l.blk, 0, none⟩)) := by
    intro e he
    have h1 : (e.k, e.v) ∈ linesKv G.ls := by rw [← hkv]; exact List.mem_map.2 ⟨e, he, rfl⟩
    unfold linesKv at h1
    obtain ⟨l, hl, h2⟩ := List.mem_map.1 h1
    exact ⟨l, hl, (congrArg Prod.fst h2).symm, (congrArg Prod.snd h2).symm⟩
  have HKE : Hid (es.map (·.k) = G.keys) := by
    have := congrArg (List.map Prod.fst) hkv
    rw [List.map_map] at this
    unfold linesKv at this
    rw [List.map_map] at this
    exact this
  have HNE : Hid (∀ l ∈ G.ls, l.p.fr ≠ []) := hne
  obtain ⟨Z, hZ, HZ⟩ := zval34
  clear h hes hkv hne
  generalize hmb : G.mb = mb at c0
  have HMB : Hid (G.mb = mb) := hmb
  clear hmb
  go_enter Try.func12, Try.ntmps12
  go_wp2_with fail
  refine (made_is HS.out.1).mono ?_
  rintro e w1 ⟨rfl, rfl⟩
  go_wp2_with fail
  refine (new_is w).mono ?_
  rintro e W1 ⟨q, C0, rfl, HG, HB1⟩
  have H1 : Hid (GAt W1 q C0 ∧ C0.ps = [] ∧ (∀ k ∈ C0.bl q, w.heap.size ≤ k) ∧ Below w.heap.size w W1) := ⟨HG.out.1, HG.out.2.1, HG.out.2.2, HB1.out⟩
  have c1 : W1.cell? ⟨p, 0, none⟩ = some (.map (some mb)) := (cell_same (HB1.out.block p HS.out.1.blk.lt)).trans c0
  clear HG HB1 c0
  go_wp2_with (with_reducible change wpList _ _ _ ({ dst := some 14, op := _, type := _, pos := _, after := _, guard := _ } :: _) _ _; refine Hid.out ?_)
  show wpList _ _ _ _ _ _
  obtain ⟨r, hr⟩ : ∃ r, W1.heap.size = r := ⟨_, rfl⟩
  have HR0 : Hid (W1.heap.size = r) := hr
  refine wpList_range rfl 65 (.tmp 13) rfl (K := Vx) (E := 71) Try.underlying65 mb es rfl (by rw [← HMB.out]; exact HS.out.2.1.below H1.out.2.2.2 HS.out.2.1.lt) ?_
  intro w2 r1 r2 r3
  rw [hr] at r1
  rw [hr]
  have H2 : Hid (ClI w p q r mb G es es C0 w2) := by
    refine ⟨r1, below_tr H1.out.2.2.2 r2, H1.out.1.below r2, H1.out.2.2.1, fun hm => ?_, ?_, fun x hx => ?_⟩
    · have := H1.out.1.lt r hm
      omega
    · have e : C0.keys = [] := by rw [keys_ps, H1.out.2.1]; rfl
      rw [e, List.nil_append, HKE.out]
    · rw [H1.out.2.1] at hx
      cases hx
  clear r1 r2 r3 hr c1
  simp only [Act.put, List.setIfInBounds_toArray, List.set_cons_zero, List.set_cons_succ]
  go_wp2
  go_loopw [4] (fun u wr => ∃ (left : List (Ent Vx)) (C : Gm), Hid (ClI w p q r mb G es left C wr)) (fun _ wr => wr.rangeLeft mb r)
  case atStart => exact ⟨es, C0, H2.out⟩
  case round =>
    obtain ⟨V, hV⟩ : ∃ V, V = wr := ⟨_, rfl⟩
    subst hV
    obtain ⟨left, C, HI⟩ := hrel
    clear H2
    have HLL : Hid (V.rangeLeft mb r = left.length) := HI.out.1.left
    rcases HI.out.1.next 0 with ⟨h0, hrun⟩ | ⟨e, left', w3, he, hp, hrun, h3, hg3, hz3, hen⟩
    · have HE : Hid (CloneP w p G (.returned (.pointer (some ⟨q, 0, none⟩))) V) := by
        obtain ⟨_, h2, h4, h5, _, h6, h7⟩ := HI.out
        rw [h0, List.map_nil, List.append_nil] at h6
        exact ⟨q, C, rfl, h4, h5, cl_perm HS.out.1.nodup h6 h7, h2⟩
      clear h0
      go_wp2_with fail
      clear hrun
      go_wp2
      go_ret
      exact HE.out
    · have hrun' : (Instr.next (.pointer (some ⟨r, 0, none⟩)) false 0).run Try.prog V = .ok (.tuple #[.bool true, .agg e.k.cells.toArray, e.v]) w3 := hrun
      have hen' : (Instr.entry (.pointer (some ⟨r, 0, none⟩))).run Try.prog w3 = .ok (.tuple #[.agg e.k.cells.toArray, e.v]) w3 := hen
      have hek : e ∈ es := by
        obtain ⟨clock, seen, _, _, hl, _⟩ := HI.out.1
        rw [hl] at he
        exact (List.mem_filter.1 he).1
      obtain ⟨l, hl, hk, hv⟩ := HES.out e hek
      have hwr : w.heap.size ≤ r := by rw [← HR0.out]; exact H1.out.2.2.2.size
      have hBw : Below w.heap.size w w3 := HI.out.2.1.grown hg3 HI.out.2.1.size (fun j hj => by have e := Option.some.inj hj; omega)
      have ho := HS.out.1.ok l hl
      have hgc : GAt w3 q C := HI.out.2.2.1.keep (Keep.grown (S := fun k => k = r) hg3 rfl) (fun k hk e => HI.out.2.2.2.2.1 (e ▸ hk))
      have HE : Hid (l ∈ G.ls ∧ Vk l.p.v ∧ left'.length < left.length) := ⟨hl, ho.v, by rw [hp.length_eq]; simp⟩
      have HE2 : Hid (HMR w3 mb r es left' ∧ Below w.heap.size w w3 ∧ GAt w3 q C ∧ (∀ k ∈ C.bl q, w.heap.size ≤ k) ∧ (¬ r ∈ C.bl q) ∧ (C.keys ++ l.p.v :: left'.map (·.k)).Perm G.keys ∧ ∀ x ∈ C.ps, x ∈ G.ps) := by
        refine ⟨h3, hBw, hgc, HI.out.2.2.2.1, HI.out.2.2.2.2.1, ?_, HI.out.2.2.2.2.2.2⟩
        have h9 := HI.out.2.2.2.2.2.1
        have h8 := hp.map (·.k)
        rw [List.map_cons, hk] at h8
        exact (List.Perm.append_left _ h8.symm).trans h9
      rw [hk, hv] at hrun' hen'
      clear hrun hen he hp h3 hg3 hz3 hek hl hk hv hBw ho hgc HI hwr
      go_wp2_with (first
        | (with_reducible change wpList _ _ _ ({ dst := none, op := Op.store 34 _ _, type := _, pos := _, after := _, guard := _ } :: _) _ _
           refine Hid.out ?_)
        | fail)
      show wpList _ _ _ _ _ _
      refine wpList_store_fresh rfl 34 (.tmp 4) (.tmp 18) rfl Z l.p.v.cells 34 rfl rfl (by rw [Vx.len HE.out.2.1.1, HZ.out]) (info34 HE.out.2.1.1) (Vx.one l.p.v) ?_
      obtain ⟨U1, hU1⟩ : ∃ W, w3.alloc (.cells l.p.v.cells.toArray 34) = W := ⟨_, rfl⟩
      obtain ⟨d4, hd4⟩ : ∃ g, w3.heap.size = g := ⟨_, rfl⟩
      have S1 : Hid (HMR U1 mb r es left' ∧ Below w.heap.size w U1 ∧ GAt U1 q C ∧ Blk U1 d4 34 l.p.v.cells ∧ (¬ d4 ∈ C.bl q) ∧ (∀ k ∈ C.bl q, w.heap.size ≤ k)) := by
        have hbl : Below w3.heap.size w3 U1 := by rw [← hU1]; exact below_al _ _
        refine ⟨HE2.out.1.below hbl, below_tr HE2.out.2.1 hbl, HE2.out.2.2.1.below hbl, by rw [← hU1, ← hd4]; exact Blk.new w3 _ _, fun hm => ?_, HE2.out.2.2.2.1⟩
        have := HE2.out.2.2.1.lt d4 hm
        omega
      rw [hU1, hd4]
      clear hU1 hd4 hrun' hen'
      obtain ⟨lb, hlb⟩ : ∃ b, l.blk = b := ⟨_, rfl⟩
      have HLB := hid_of hlb
      rw [hlb]
      clear hlb
      go_wp2_with fail
      have hmem : C.mb ∈ C.bl q := by rw [Gm.bl_eq]; simp
      have hmn : ¬ q = C.mb := fun e => S1.out.2.2.1.mbp e.symm
      have HCOPY : Hid (∀ V, Below U1.heap.size U1 V → Calls Try.prog 31 #[.pointer (some ⟨lb, 0, none⟩)] V fun e w' => CopyP V l e w') := fun V hb => by
        rw [← HLB.out]
        exact copy_is (HS.out.1.below (below_tr S1.out.2.1 hb)) HE.out.1 (HNE.out l HE.out.1)
      refine cl7 (m := C.mb) (y := l.p.v) (l := l) (M := linesKv C.ls) ⟨S1.out.2.2.1.blk.lt, S1.out.2.2.2.1.lt⟩ ⟨hmn, fun e => S1.out.2.2.2.2.1 (e ▸ hmem)⟩ (S1.out.2.2.1.blk.cell rfl) S1.out.2.2.2.1.range0 HE.out.2.1 S1.out.2.2.1.mp HCOPY ?_
      intro U2 l' hkp hmp hx
      have hkn : l.p.v ∉ C.ls.map (·.p.v) := by
        have h1 : (C.keys ++ l.p.v :: left'.map (·.k)).Nodup := HE2.out.2.2.2.2.2.1.nodup_iff.2 HS.out.1.nodup
        rw [List.nodup_append] at h1
        exact fun hm => h1.2.2 _ hm _ (by simp) rfl
      have hfew : C.ls.length < 512 := by
        have h1 := HE2.out.2.2.2.2.2.1.length_eq
        have h2 := HS.out.1.few
        rw [List.length_append, List.length_cons] at h1
        have h3 : G.keys.length = G.ls.length := List.length_map ..
        have h4 : C.keys.length = C.ls.length := List.length_map ..
        omega
      have hmp2 : MP U2 C.mb (linesKv (C.ls ++ [l'])) := by
        rw [kput_new hkn] at hmp
        have e : linesKv (C.ls ++ [l']) = linesKv C.ls ++ [(l.p.v, .pointer (some ⟨l'.blk, 0, none⟩))] := by
          unfold linesKv
          rw [List.map_append, List.map_cons, List.map_nil, hx.1]
        rw [e]
        exact hmp
      have hga := S1.out.2.2.1.push hkp hmp2 hx.2.1 hx.2.2.1 hx.2.2.2.1 hx.2.2.2.2 hfew
      have hsz : w.heap.size ≤ U1.heap.size := S1.out.2.1.size
      have HN : Hid (ClI w p q r mb G es left' { C with ls := C.ls ++ [l'] } U2) := by
        have hmbw : mb < w.heap.size := by rw [← HMB.out]; exact HS.out.1.mp.lt
        have hcm : w.heap.size ≤ C.mb := S1.out.2.2.2.2.2 _ hmem
        refine ⟨S1.out.1.same (hkp.block mb S1.out.1.lt.1 (fun e => by omega)) (hkp.block r S1.out.1.lt.2.1 (fun e => HE2.out.2.2.2.2.1 (e ▸ hmem))), S1.out.2.1.trans (hkp.toBelow hsz (fun k hk => by omega)), hga.1, fun k hk => ?_, fun hm => ?_, ?_, fun x hm => ?_⟩
        · rcases hga.2.1 k hk with h | h
          · exact S1.out.2.2.2.2.2 k h
          · omega
        · rcases hga.2.1 r hm with h | h
          · exact HE2.out.2.2.2.2.1 h
          · have := S1.out.1.lt.2.1
            omega
        · have e : Gm.keys { C with ls := C.ls ++ [l'] } = C.keys ++ [l.p.v] := by
            unfold Gm.keys
            rw [List.map_append, List.map_cons, List.map_nil, hx.1]
          rw [e, List.append_assoc]
          exact HE2.out.2.2.2.2.2.1
        · unfold Gm.ps at hm
          rw [List.map_append, List.mem_append] at hm
          rcases hm with hm | hm
          · exact HE2.out.2.2.2.2.2.2 x hm
          · rw [List.map_cons, List.map_nil, List.mem_singleton] at hm
            rw [hm, hx.1]
            exact List.mem_map.2 ⟨l, HE.out.1, rfl⟩
      clear hkp hmp hx hkn hfew hmp2 hga hsz hmem hmn HCOPY
      go_wp2
      refine ⟨⟨left', _, HN.out⟩, ?_⟩
      rw [HLL.out, HN.out.1.left]
      exact HE.out.2.2
end Go.Proofs.Ytjcihaohpbmogaa.Oct
