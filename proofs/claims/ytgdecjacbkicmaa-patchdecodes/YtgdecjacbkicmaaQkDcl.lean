/-
  Layer 10 (patch): the law Decodes.
-/
import Derived.Test.YtgdecjacbkicmaaQkI
import Derived.Test.YtgdecjacbkicmaaQkCtl
import Derived.Test.YtgdecjacbkicmaaQkInj
import Derived.Test.YtgdecjacbkicmaaQkRsm
import Derived.Deep.MidRow
/- Layer 10 (patch): the law Decodes. -/
namespace Go.Proofs.Ytgdecjacbkicmaa.Oct
open Go.RowKit
set_option maxRecDepth 100000
set_option linter.unusedSimpArgs false
set_option linter.unusedVariables false

def plP (q : PV) : PV := mkP q.au q.tm.toNat q.nt q.D (q.O.map OpV.pl)
theorem pP_encP {A P T : Nat} (hA : 16 ≤ A) (hP : 64 ≤ P) (hT : 200 ≤ T) {w : World} {q : PV} (hq : PR w q) (hc : chk q = 0) (r : List UInt8) : pP A P T (ptB q ++ r) = some (plP q, r) := by
  obtain ⟨hh, hdd, hoo⟩ := chk_of hc
  obtain ⟨s1, s2, s3, s4, _⟩ := head_of hh
  obtain ⟨s5, _⟩ := deps_of hdd
  obtain ⟨s6, s7, s8, s9⟩ := ops_of hoo
  have dl := hq.deps.1
  have ol := hq.ops.1
  obtain ⟨t, ht⟩ : ∃ t : Nat, q.tm = (t : Int) := ⟨q.tm.toNat, by omega⟩
  unfold ptB plP
  rw [ht, Int.toNat_natCast]
  simp only [List.cons_append, List.append_assoc]
  unfold pP
  simp only
  rw [if_pos (by trivial), tT_enc _ _ (by omega) (by omega)]
  simp only [Option.bind_some]
  rw [nN_enc _ (by omega) (by omega)]
  simp only [Option.bind_some]
  rw [tT_enc _ _ (by omega) (by omega)]
  simp only [Option.bind_some]
  rw [nN_enc _ (by omega) (by omega)]
  simp only [Option.bind_some]
  rw [← dl, rep_enc id id q.D _ (fun x hx r => hH_enc r (hq.deps.2.1 x hx))]
  simp only [Option.bind_some, List.map_id]
  rw [nN_enc _ (by omega) (by omega)]
  simp only [Option.bind_some]
  rw [← ol, rep_enc (encO q.D) OpV.pl q.O r (fun x hx r => oO_enc hP hT (by omega) (s9 x hx) (hq.ops.2.1 x hx).1.2.2.1 (by have := many_mem hx; omega) r)]
  simp only [Option.bind_some]
theorem pl_strip : ∀ {O : List OpV}, (∀ o ∈ O, o.ts.length = o.ln) → (O.map OpV.pl).map OpV.strip = O.map OpV.strip
  | [], _ => rfl
  | o :: O, h => by
    have ih := pl_strip (O := O) (fun x hx => h x (by simp [hx]))
    simp only [List.map_cons, ih, List.cons.injEq, and_true]
    unfold OpV.pl OpV.strip
    simp only [h o (by simp)]
theorem plP_tw {w : World} {q : PV} (hq : PR w q) (hc : chk q = 0) : Tw (plP q) q := by
  obtain ⟨hh, _, _⟩ := chk_of hc
  obtain ⟨_, s2, _, _, _⟩ := head_of hh
  refine ⟨rfl, ?_, rfl, rfl, hq.deps.1.symm, ?_, ?_⟩
  · show q.tm = ((q.tm.toNat : Nat) : Int)
    omega
  · show q.on = (q.O.map OpV.pl).length
    rw [List.length_map, hq.ops.1]
  · show Alike (q.O.map OpV.pl) q.O
    exact pl_strip fun o ho => (hq.ops.2.1 o ho).1.2.2.1
theorem agree {A P T A' P' T' : Nat} (hA : 16 ≤ A) (hP : 64 ≤ P) (hT : 200 ≤ T) {w : World} {l : List UInt8} {p q : PV} (h : pP A' P' T' l = some (p, [])) (hc : chk p = 0) (hq : PR w q) (ht : Tw p q) (hn : ∀ p, pP A P T l = some (p, []) → chk p ≠ 0) : False := by
  have hcq : chk q = 0 := ht.chk.trans hc
  have e := pP_some h hc
  rw [List.append_nil, ← ht.bytes] at e
  have h2 := pP_encP hA hP hT hq hcq []
  rw [List.append_nil, ← e] at h2
  exact hn _ h2 ((plP_tw hq hcq).chk.symm.trans hcq)
theorem both_same {w w' : World} {l : List UInt8} {A P T A' P' T' : Nat} {p q p2 q2 : PV} (h : pP A P T l = some (p, [])) (hc : chk p = 0) (hq : PR w q) (ht : Tw p q) (h2 : pP A' P' T' l = some (p2, [])) (hc2 : chk p2 = 0) (hq2 : PR w' q2) (ht2 : Tw p2 q2) : sameP q q2 = true := by
  have e := pP_some h hc
  have e2 := pP_some h2 hc2
  rw [List.append_nil] at e e2
  exact (unlike hq hq2 (ht.chk.trans hc) (ht2.chk.trans hc2)).1 (by rw [ht.bytes, ht2.bytes, ← e, ← e2])
theorem xor85 : ∀ x : Fin 256, bits BinOp.xor IntKind.u8 ((x.val : Nat) : Int) 85 = ((x.val ^^^ 85 : Nat) : Int) := by decide +kernel
theorem xor_u8 (c : UInt8) : ∃ m : UInt8, bits BinOp.xor IntKind.u8 (c.toNat : Int) 85 = (m.toNat : Int) := by
  have h := xor85 ⟨c.toNat, c.toNat_lt⟩
  refine ⟨c ^^^ 85, ?_⟩
  rw [UInt8.toNat_xor]
  exact h
theorem PR.p00 (w : World) : PR w p00 := ⟨HsR.nil _ _, ⟨rfl, (by intro o ho; cases ho), fun hp => absurd hp (by show ¬ 0 < 0; omega)⟩, ⟨Nat.le_refl _, by show 0 ≤ maxLen; omega⟩, ⟨Nat.le_refl _, by show 0 ≤ maxLen; omega⟩, by show 0 ≤ _; omega, by show 0 ≤ _; omega, by show 0 ≤ _; omega, by show 0 ≤ _; omega⟩
/-- what was decoded, of the program: its answer, and where it lies -/
def DA (w : World) (l : List UInt8) (q : PV) (E : Int) : Prop := (E = 103 ∧ q = p00 ∧ ∀ p, pP 16 64 200 l = some (p, []) → chk p ≠ 0) ∨ (E = 0 ∧ PT w q ∧ ∃ p, pP 16 64 200 l = some (p, []) ∧ chk p = 0 ∧ Tw p q)
def DB (w : World) (l : List UInt8) (q : PV) (E : Int) : Prop := (E = 103 ∧ q = p00 ∧ ∀ p, pP 1000 1000 1000 l = some (p, []) → chk p ≠ 0) ∨ (E = 0 ∧ PT w q ∧ ∃ p, pP 1000 1000 1000 l = some (p, []) ∧ chk p = 0 ∧ Tw p q)
theorem DP.da {w w' : World} {l : List UInt8} {e : Ending} (h : DP w l e w') : Below w.heap.size w w' ∧ ∃ q E, e = .returned (.tuple #[.agg q.cells.toArray, iv E]) ∧ DA w' l q E := by
  refine ⟨h.1, ?_⟩
  rcases h.2 with ⟨h1, h2⟩ | ⟨p, q, h1, h2, h3, h4, h5⟩
  · exact ⟨p00, 103, h1, .inl ⟨rfl, rfl, h2⟩⟩
  · exact ⟨q, 0, h3, .inr ⟨rfl, h4, p, h1, h2, h5⟩⟩
theorem DR.db {w w' : World} {l : List UInt8} {e : Ending} (h : DR w l e w') : Below w.heap.size w w' ∧ ∃ q E, e = .returned (.tuple #[.agg q.cells.toArray, iv E]) ∧ DB w' l q E := by
  refine ⟨h.1, ?_⟩
  rcases h.2 with ⟨h1, h2⟩ | ⟨p, q, h1, h2, h3, h4, h5⟩
  · exact ⟨p00, 103, h1, .inl ⟨rfl, rfl, h2⟩⟩
  · exact ⟨q, 0, h3, .inr ⟨rfl, h4, p, h1, h2, h5⟩⟩
theorem DA.fk {S : List TypeId} {B : Nat} {w w' : World} {l : List UInt8} {q : PV} {E : Int} (h : DA w l q E) (k : Fk S B w w') (h1 : 47 ∉ S) (h2 : 51 ∉ S) (h3 : 9 ∉ S) : DA w' l q E := by
  rcases h with h | ⟨a, b, c⟩
  · exact .inl h
  · exact .inr ⟨a, b.fk k h1 h2 h3, c⟩
theorem DB.fk {S : List TypeId} {B : Nat} {w w' : World} {l : List UInt8} {q : PV} {E : Int} (h : DB w l q E) (k : Fk S B w w') (h1 : 47 ∉ S) (h2 : 51 ∉ S) (h3 : 9 ∉ S) : DB w' l q E := by
  rcases h with h | ⟨a, b, c⟩
  · exact .inl h
  · exact .inr ⟨a, b.fk k h1 h2 h3, c⟩
/-- both answer the same -/
theorem da_db {w : World} {l : List UInt8} {q q2 : PV} {E F : Int} (h : DA w l q E) (k : DB w l q2 F) : E = F ∧ PR w q ∧ PR w q2 ∧ q.dn ≤ 1000 ∧ q2.dn ≤ 1000 ∧ sameP q q2 = true := by
  rcases h with ⟨rfl, rfl, hn⟩ | ⟨rfl, hp, p, h1, h2, h3⟩
  · rcases k with ⟨rfl, rfl, _⟩ | ⟨rfl, hp2, p2, k1, k2, k3⟩
    · exact ⟨rfl, PR.p00 w, PR.p00 w, by show 0 ≤ _; omega, by show 0 ≤ _; omega, by decide +kernel⟩
    · exact (agree (by omega) (by omega) (by omega) k1 k2 hp2.pr k3 hn).elim
  · rcases k with ⟨rfl, rfl, hn⟩ | ⟨rfl, hp2, p2, k1, k2, k3⟩
    · exact (agree (by omega) (by omega) (by omega) h1 h2 hp.pr h3 hn).elim
    · exact ⟨rfl, hp.pr, hp2.pr, hp.zd, hp2.zd, both_same h1 h2 hp.pr h3 k1 k2 hp2.pr k3⟩
set_option maxHeartbeats 8000000 in
theorem decodes_law (w : World) (a : Option Addr) (n c : Nat) (l : List UInt8) (hin : In w a n c l) : Calls Try.prog 4 #[.slice a n c] w fun e w' => e = .returned (.bool true) ∧ Below w.heap.size w w' := by
  have hZ := zero25
  have HI : Hid (In w a n c l) := hin
  have qn0 : (n : Int) ≤ 140737488355328 := by have := hin.2.2.1; omega
  clear hin
  by_cases hbig : 20000 < n
  · have q1 : (20000 : Int) < (n : Int) := by omega
    clear hbig
    go_enter Try.func4, Try.ntmps4
    go_wp2_with fail
    refine (lives_is w).mono ?_
    rintro e V9 ⟨rfl, hb9⟩
    have HF : Hid (Below w.heap.size w V9) := hb9
    clear hb9
    go_wp2
    go_ret
    exact ⟨rfl, HF.out⟩
  have q1 : (n : Int) ≤ 20000 := by omega
  clear hbig
  obtain ⟨i0, hi, hz0, hz1, hz2⟩ := i5
  have HI5 : Hid (Try.prog.info? 5 = some i0 ∧ i0.zero = some (.int .u8 0) ∧ i0.size = 1 ∧ i0.bytes = 1) := ⟨hi, hz0, hz1, hz2⟩
  clear hi hz0 hz1 hz2
  go_enter Try.func4, Try.ntmps4
  go_wp2_with (with_reducible change wpList _ _ _ ({ dst := some 13, op := _, type := _, pos := _, after := _, guard := _ } :: _) _ _; refine Hid.out ?_)
  show wpList _ _ _ _ _ _
  refine wpList_bs0 rfl 36 rfl _ (bs36 w) ?_
  have hrow := empty_row w 5 1
  have hb5 : Below w.heap.size w (w.alloc (.cells #[] 5)) := below_al _ _
  obtain ⟨r, hr⟩ : ∃ r, w.heap.size = r := ⟨_, rfl⟩
  obtain ⟨V5, hV5⟩ : ∃ V, w.alloc (.cells #[] 5) = V := ⟨_, rfl⟩
  rw [hr, hV5] at hrow
  rw [hV5] at hb5
  rw [hr, hV5]
  have H5 : Hid (V5.ownsRow r 5 1 (.slice (some ⟨r, 0, none⟩) 0 0) 0 [] ∧ Below w.heap.size w V5 ∧ w.heap.size = r ∧ r ≤ V5.heap.size) := ⟨hrow, hb5, hr, by have := hb5.size; omega⟩
  clear hrow hb5 hr hV5
  go_wp2_with (with_reducible change wpList _ _ _ ({ dst := some 15, op := _, type := _, pos := _, after := _, guard := _ } :: _) _ _; refine Hid.out ?_)
  show wpList _ _ _ _ _ _
  refine wpList_append_in V5 rfl (.tmp 13) (.tmp 14) 36 rfl r 5 i0 Try.underlying36 HI5.out.1 HI5.out.2.1 HI5.out.2.2.1 HI5.out.2.2.2 (.slice (some ⟨r, 0, none⟩) 0 0) [] 0 rfl rfl H5.out.1 a n c l rfl (HI.out.below H5.out.2.1) (by omega) H5.out.2.2.2 ?_
  intro v6 V6 ho6 hg6
  rw [List.nil_append] at ho6
  obtain ⟨a6, c6, rfl, hin6, hne6⟩ := own_in ho6 (by rw [HI.out.1]; omega)
  have hl6 := HI.out.1
  rw [hl6] at ho6 hin6 hne6 ⊢
  have H6 : Hid (V6.ownsRow r 5 1 (.slice a6 n c6) n (U l) ∧ In V6 a6 n c6 l ∧ Below w.heap.size w V6 ∧ w.heap.size = r) := ⟨by have h := ho6; unfold Own at h; rw [hl6] at h; exact h, hin6, H5.out.2.1.trans ((fk_own (S := [5]) H5.out.1 hg6 (Nat.le_refl r) H5.out.2.2.2 (by simp)).below.mono (by have := H5.out; omega)), H5.out.2.2.1⟩
  have HNE : Hid (0 < n → ∃ g, a6 = some ⟨g, 0, none⟩ ∧ r ≤ g) := fun hp => by obtain ⟨g, e, h1, _⟩ := hne6 hp; exact ⟨g, e, h1⟩
  clear ho6 hin6 hg6 hne6 hl6 H5
  go_wp2_with fail
  refine (decode16 _ _ _ _ V6 H6.out.2.1).mono ?_
  intro e V7 hdp
  obtain ⟨hb7, q, E, rfl, hda⟩ := hdp.da
  obtain ⟨d4, hd4⟩ : ∃ d, V7.heap.size = d := ⟨_, rfl⟩
  have H7 : Hid (Below w.heap.size w V7 ∧ DA V7 l q E ∧ V7.ownsRow r 5 1 (.slice a6 n c6) n (U l)) := ⟨below_tr H6.out.2.2.1 hb7, hda, ownsRow_below H6.out.1 hb7⟩
  clear hdp hb7 hda
  go_wp2_with (with_reducible change wpList _ _ _ ({ dst := none, op := Op.store 25 _ _, type := _, pos := _, after := _, guard := _ } :: _) _ _; refine Hid.out ?_)
  show wpList _ _ _ _ _ _
  refine wpList_store_blk rfl 25 (.tmp 4) (.tmp 19) rfl d4 0 25 p00.cells q.cells rfl rfl (by rw [← hd4]; exact Blk.new V7 _ _) (Nat.le_refl _) (info25 q) (PV.one _) ?_
  intro V8 hx hgs
  have H8 : Hid (Below w.heap.size w V8 ∧ DA V8 l q E ∧ V8.ownsRow r 5 1 (.slice a6 n c6) n (U l) ∧ Blk V8 d4 25 q.cells) := by
    have hb : Below V7.heap.size V7 V8 := below_gr (below_al V7 _) hgs.out (by omega)
    exact ⟨below_tr H7.out.1 hb, H7.out.2.1.fk (Fk.of_below (S := []) (B := 0) hb (Nat.zero_le _)) (by simp) (by simp) (by simp), ownsRow_below H7.out.2.2 hb, blk_all hx.out rfl⟩
  clear hx hgs hd4 H7
  go_wp2
  go_loopw [23] (fun x wr => ∃ i : Nat, x = iv (i : Int) ∧ (i : Int) ≤ (n : Int) ∧ Hid (∃ M : List UInt8, M.length = n ∧ wr.ownsRow r 5 1 (.slice a6 n c6) n (U M) ∧ Fk [5] r V8 wr)) (fun x _ => n - (intOf x).toNat)
  case atStart => exact ⟨0, rfl, by omega, l, HI.out.1, H8.out.2.2.1, Fk.refl _ _ _⟩
  case round =>
    obtain ⟨V, hV⟩ : ∃ V, V = wr := ⟨_, rfl⟩
    subst hV
    obtain ⟨i, rfl, qi, HM0⟩ := hrel
    obtain ⟨M, h1, h2, h3⟩ := HM0.out
    have HM : Hid (M.length = n ∧ V.ownsRow r 5 1 (.slice a6 n c6) n (U M) ∧ Fk [5] r V8 V) := ⟨h1, h2, h3⟩
    clear HM0 h1 h2 h3
    by_cases hi : i < n
    · have q2 : (i : Int) < (n : Int) := by omega
      obtain ⟨g, rfl, hrg⟩ := HNE.out (by omega)
      obtain ⟨m, hm⟩ : ∃ m, M[i]? = some m := ⟨_, List.getElem?_eq_getElem (by rw [HM.out.1]; exact hi)⟩
      obtain ⟨x, hx⟩ := xor_u8 m
      have hcell : V.cell? ⟨g, i, none⟩ = some (bv (m.toNat : Int)) ∧ V.frozen? ⟨g, i, none⟩ = false ∧ RowT V 5 g := by
        rcases HM.out.2.1.2 with ⟨e, _⟩ | ⟨g', cap, cur, e, _, hb, hn2, hc2, hs2, ht2⟩
        · cases e
        · cases e
          have hk : Blk V g 5 cur.toList := by unfold Blk; rw [hb]
          refine ⟨?_, hk.free i, hk.row⟩
          have hc : (U M)[i]? = some (bv (m.toNat : Int)) := by unfold U; rw [List.getElem?_map, hm]; rfl
          rw [← ht2, List.getElem?_take] at hc
          split at hc
          · exact hk.cell hc
          · cases hc
      have ce := hcell.1
      have fe := hcell.2.1
      have qm : (m.toNat : Int) < 256 := by have := m.toNat_lt; omega
      have HXX : Hid (i < n ∧ M[i]? = some m ∧ r ≤ g ∧ RowT V 5 g) := ⟨hi, hm, hrg, hcell.2.2⟩
      clear hi qi hm hrg hcell
      go_wp2
      go_roundw
      case rel =>
        have hgs := grown_setCell V g i (bv (x.toNat : Int))
        have hfs : Fk [5] r V (V.setCell ⟨g, i, none⟩ (bv (x.toNat : Int))) := Fk.of_grown hgs (by have := HXX.out.2.2.2.lt; have := HXX.out.2.2.1; omega) (fun k e => by
          cases e
          refine ⟨HXX.out.2.2.1, fun C t f hC => ?_⟩
          obtain ⟨cs, fr, hb⟩ := HXX.out.2.2.2
          rw [hb] at hC
          cases hC
          simp)
        refine ⟨i + 1, by simp, by have := HXX.out.1; omega, M.set i x, by rw [List.length_set]; exact HM.out.1, ?_, HM.out.2.2.trans hfs⟩
        have h := own_put HM.out.2.1 rfl i (bv (x.toNat : Int))
        have e : U (M.set i x) = (U M).set i (bv (x.toNat : Int)) := by unfold U; rw [List.map_set]
        rw [e]
        exact h
      case measure => have := HXX.out.1; simp only [intOf]; omega
    · have q2 : (n : Int) ≤ (i : Int) := by omega
      obtain rfl : i = n := by omega
      have H9 : Hid (Below w.heap.size w V ∧ DA V l q E ∧ Blk V d4 25 q.cells ∧ In V a i c l) := by
        have hb : Below w.heap.size w V := H8.out.1.trans (HM.out.2.2.below.mono (by have := H6.out.2.2.2; omega))
        exact ⟨hb, H8.out.2.1.fk HM.out.2.2 (by decide) (by decide) (by decide), H8.out.2.2.2.fk HM.out.2.2 (by decide), HI.out.below hb⟩
      clear hi qi HM H8 H6 HNE
      go_wp2_with fail
      refine (rdecode17 a i c l V H9.out.2.2.2).mono ?_
      intro e Va hdr
      obtain ⟨hba, q2', F, rfl, hdb⟩ := hdr.db
      obtain ⟨d7, hd7⟩ : ∃ d, Va.heap.size = d := ⟨_, rfl⟩
      have Ha : Hid (Below w.heap.size w Va ∧ DA Va l q E ∧ Blk Va d4 25 q.cells ∧ DB Va l q2' F) := ⟨below_tr H9.out.1 hba, H9.out.2.1.fk (Fk.of_below (S := []) (B := 0) hba (Nat.zero_le _)) (by simp) (by simp) (by simp), H9.out.2.2.1.below hba H9.out.2.2.1.lt, hdb⟩
      clear hdr hba hdb H9
      go_wp2_with (with_reducible change wpList _ _ _ ({ dst := none, op := Op.store 25 _ _, type := _, pos := _, after := _, guard := _ } :: _) _ _; refine Hid.out ?_)
      show wpList _ _ _ _ _ _
      refine wpList_store_blk rfl 25 (.tmp 7) (.tmp 36) rfl d7 0 25 p00.cells q2'.cells rfl rfl (by rw [← hd7]; exact Blk.new Va _ _) (Nat.le_refl _) (info25 q2') (PV.one _) ?_
      intro Vb hx hgs
      have Hb : Hid (Below w.heap.size w Vb ∧ Blk Vb d4 25 q.cells ∧ Blk Vb d7 25 q2'.cells ∧ E = F ∧ PR Vb q ∧ PR Vb q2' ∧ q.dn ≤ 1000 ∧ q2'.dn ≤ 1000 ∧ sameP q q2' = true) := by
        have hb : Below Va.heap.size Va Vb := below_gr (below_al Va _) hgs.out (by omega)
        have hf : Fk [] 0 Va Vb := Fk.of_below hb (Nat.zero_le _)
        exact ⟨below_tr Ha.out.1 hb, Ha.out.2.2.1.below hb Ha.out.2.2.1.lt, blk_all hx.out rfl, da_db (Ha.out.2.1.fk hf (by simp) (by simp) (by simp)) (Ha.out.2.2.2.fk hf (by simp) (by simp) (by simp))⟩
      clear hx hgs hd7 Ha
      have hEF := Hb.out.2.2.2.1
      subst hEF
      go_wp2_with (with_reducible change wpList _ _ _ ({ dst := some 38, op := _, type := _, pos := _, after := _, guard := _ } :: _) _ _; refine Hid.out ?_)
      show wpList _ _ _ _ _ _
      refine wpList_load_mid rfl 25 (.tmp 4) rfl d4 0 rfl q.cells _ Hb.out.2.1.range0 Try.underlying25 rfl (info25 q) ?_
      go_wp2_with (with_reducible change wpList _ _ _ ({ dst := some 39, op := _, type := _, pos := _, after := _, guard := _ } :: _) _ _; refine Hid.out ?_)
      show wpList _ _ _ _ _ _
      refine wpList_load_mid rfl 25 (.tmp 7) rfl d7 0 rfl q2'.cells _ Hb.out.2.2.1.range0 Try.underlying25 rfl (info25 q2') ?_
      go_wp2_with fail
      refine (rsame_is Vb q q2' Hb.out.2.2.2.2.1 Hb.out.2.2.2.2.2.1 (by have := Hb.out.2.2.2.2.2.2.1; omega) (by have := Hb.out.2.2.2.2.2.2.2.1; omega) true Hb.out.2.2.2.2.2.2.2.2).mono ?_
      rintro e Vc ⟨rfl, hbc⟩
      have Hc : Hid (Below w.heap.size w Vc) := below_tr Hb.out.1 hbc
      clear hbc Hb
      go_wp2_with fail
      refine (lives_is Vc).mono ?_
      rintro e Vd ⟨rfl, hbd⟩
      have HF : Hid (Below w.heap.size w Vd) := below_tr Hc.out hbd
      clear hbd
      go_wp2
      go_ret
      exact ⟨rfl, HF.out⟩
end Go.Proofs.Ytgdecjacbkicmaa.Oct
