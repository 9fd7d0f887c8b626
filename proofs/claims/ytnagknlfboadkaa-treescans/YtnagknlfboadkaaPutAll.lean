/-
  Layer 7 (tree): 'put' into a tree of any depth.
-/
import Derived.Test.YtnagknlfboadkaaCut2
import Derived.Test.YtnagknlfboadkaaMap
namespace Go.Proofs.Ytnagknlfboadkaa.Oct
open Go.RowKit

/-- what 'put' tells: a node, and perhaps a pair and another node -/
def hv (b : Nat) (y : Pr) (r : Option Addr) : Value := .agg #[.pointer (some ⟨b, 0, none⟩), .string y.1, .string y.2, .pointer r]
theorem Half.lies.form {d : Nat} {w : World} {v : Value} {H : Half d} (h : H.lies w v) : ∃ b y r, v = hv b y r := by
  cases H with
  | one t => obtain ⟨b, h1, _⟩ := h; exact ⟨b, (⟨#[]⟩, ⟨#[]⟩), none, h1⟩
  | two l m r => obtain ⟨b, b2, h1, _⟩ := h; exact ⟨b, m, some ⟨b2, 0, none⟩, h1⟩
theorem results_hv {fn : Func} {p : Tmp} (hf : fn.results = #[.cell p 59]) {tm : Array Value} {W : World} {b b1 : Nat} {y : Pr} {r : Option Addr} (h : tm.getD p undef = .pointer (some ⟨b, 0, none⟩)) (hb : Blk W b 59 [.pointer (some ⟨b1, 0, none⟩), .string y.1, .string y.2, .pointer r]) : (results fn tm).run Try.prog W = .ok (hv b1 y r) W := by
  exact results_cell_row (P := Try.prog) hf tm W b 59 _ (0, 0) _ h hb Try.underlying59 rfl (by kernel_rfl)
def put4v (W : World) (b nd : Nat) (y : Pr) (r : Option Addr) : World := (((W.setCell ⟨b, 0, none⟩ (.pointer (some ⟨nd, 0, none⟩))).setCell ⟨b, 1, none⟩ (.string y.1)).setCell ⟨b, 2, none⟩ (.string y.2)).setCell ⟨b, 3, none⟩ (.pointer r)
theorem put4v_blk {W : World} {b nd : Nat} {y : Pr} {r : Option Addr} {L : List Value} (h : Blk W b 59 L) (hl : L.length = 4) : Blk (put4v W b nd y r) b 59 [.pointer (some ⟨nd, 0, none⟩), .string y.1, .string y.2, .pointer r] := by
  match L, hl with
  | [l0, l1, l2, l3], _ => exact (((h.set 0 (.pointer (some ⟨nd, 0, none⟩))).set 1 (.string y.1)).set 2 (.string y.2)).set 3 (.pointer r)
theorem put4v_grown (W : World) (b nd : Nat) (y : Pr) (r : Option Addr) : W.grownBy (put4v W b nd y r) (some b) :=
  grown_tr (grown_tr (grown_tr (grown_setCell _ _ _ _) (grown_setCell _ _ _ _)) (grown_setCell _ _ _ _)) (grown_setCell _ _ _ _)
theorem put4v_size (W : World) (b nd : Nat) (y : Pr) (r : Option Addr) : (put4v W b nd y r).heap.size = W.heap.size := by simp [put4v]
theorem put4v_below {B : Nat} {W W' : World} {b nd : Nat} {y : Pr} {r : Option Addr} (h : Below B W W') (hb : B ≤ b) : Below B W (put4v W' b nd y r) :=
  (((h.setCell (p := ⟨b, 0, none⟩) hb _).setCell (p := ⟨b, 1, none⟩) hb _).setCell (p := ⟨b, 2, none⟩) hb _).setCell (p := ⟨b, 3, none⟩) hb _
/-- a block that is no row of a tree's, and none of its nodes -/
def Oth (w : World) (b : Nat) : Prop := ∃ cs e fr, w.heap[b]? = some (.cells cs e fr) ∧ e ≠ 40 ∧ e ≠ 46 ∧ e ≠ 67
theorem Oth.ne {w : World} {b g : Nat} {e : TypeId} (h : Oth w b) (hr : RowT w e g) (he : e = 40 ∨ e = 46 ∨ e = 67) : g ≠ b := by
  rintro rfl
  obtain ⟨cs, e', fr, h1, h2, h3, h4⟩ := h
  obtain ⟨cs2, fr2, h5⟩ := hr
  rw [h1] at h5
  cases h5
  rcases he with rfl | rfl | rfl
  · exact h2 rfl
  · exact h3 rfl
  · exact h4 rfl
theorem Blk.oth {w : World} {b : Nat} {t : TypeId} {L : List Value} (h : Blk w b t L) (h1 : t ≠ 40) (h2 : t ≠ 46) (h3 : t ≠ 67) : Oth w b := ⟨_, t, _, h, h1, h2, h3⟩
theorem RdP.oth {w w' : World} {b : Nat} {a : Option Addr} {n : Nat} {ps : List Pr} (h : RdP w a n ps) (hg : w.grownBy w' (some b)) (ho : Oth w b) : RdP w' a n ps := by
  refine ⟨h.1, fun hp => ?_⟩
  obtain ⟨g, off, e, h1, h2⟩ := h.2 hp
  have hne := ho.ne h1 (.inl rfl)
  refine ⟨g, off, e, h1.same (hg.block g h1.lt (by simpa using hne)), fun k x hk => ?_⟩
  have := h2 k x hk
  exact ⟨hg.cell this.1 (by simpa using hne), hg.cell this.2 (by simpa using hne)⟩
theorem RdK.oth {w w' : World} {b : Nat} {a : Option Addr} {n : Nat} {bs : List Nat} (h : RdK w a n bs) (hg : w.grownBy w' (some b)) (ho : Oth w b) : RdK w' a n bs := by
  refine ⟨h.1, fun hp => ?_⟩
  obtain ⟨g, off, e, h1, h2⟩ := h.2 hp
  have hne := ho.ne h1 (.inr (.inl rfl))
  exact ⟨g, off, e, h1.same (hg.block g h1.lt (by simpa using hne)), fun k x hk => hg.cell (h2 k x hk) (by simpa using hne)⟩
theorem Nd.oth {w w' : World} {b nd : Nat} {a : Option Addr} {n cap : Nat} {ps : List Pr} {kv : Value} (h : Nd w nd a n cap ps kv) (hg : w.grownBy w' (some b)) (ho : Oth w b) : Nd w' nd a n cap ps kv :=
  ⟨h.blk.kept hg (by have := ho.ne h.blk.row (.inr (.inr rfl)); simpa using this), h.rd.oth hg ho⟩
theorem Lies.oth {w w' : World} {b : Nat} (hg : w.grownBy w' (some b)) (ho : Oth w b) : ∀ {d : Nat} {t : T d} {nd : Nat}, Lies w d t nd → Lies w' d t nd
  | 0, _, _, h => by
    obtain ⟨a, n, cap, h1, h2⟩ := h
    exact ⟨a, n, cap, h1.oth hg ho, h2⟩
  | d + 1, _, _, h => by
    obtain ⟨a, n, cap, a', n', cap', bs, h1, h2, h3, h4, h5, h6⟩ := h
    exact ⟨a, n, cap, a', n', cap', bs, h1.oth hg ho, h2, h3.oth hg ho, h4, h5, fun i k b' hi hb' => Lies.oth hg ho (h6 i k b' hi hb')⟩
theorem Half.lies.oth {w w' : World} {b d : Nat} {v : Value} {H : Half d} (h : H.lies w v) (hg : w.grownBy w' (some b)) (ho : Oth w b) : H.lies w' v := by
  cases H with
  | one t => obtain ⟨b, h1, h2⟩ := h; exact ⟨b, h1, h2.oth hg ho⟩
  | two l m r => obtain ⟨b, b2, h1, h2, h3⟩ := h; exact ⟨b, b2, h1, h2.oth hg ho, h3.oth hg ho⟩

set_option maxRecDepth 100000 in
set_option maxHeartbeats 1000000 in
theorem put_eq (w : World) (nd n cap n' cap' : Nat) (a a' : Option Addr) (ps : List Pr) (x : Pr) (k : Nat) (h : Nd w nd a n cap ps (.slice a' n' cap')) (hm : Mono ps x.1) (hn : n ≤ 7) (hc : Cap a n cap) (ha : AtP ps x.1 k) (hi : isP ps x.1 k = true) :
    Calls Try.prog 33 #[.pointer (some ⟨nd, 0, none⟩), .agg #[.string x.1, .string x.2]] w fun e w' => ∃ (nd2 : Nat) (a2 : Option Addr) (n2 cap2 : Nat) (ps2 : List Pr), e = .returned (one nd2) ∧ Hid (ps2 = ps.take k ++ [x] ++ ps.drop (k + 1)) ∧ Hid (Nd w' nd2 a2 n2 cap2 ps2 (.slice a' n' cap') ∧ Cap a2 n2 cap2) ∧ Hid (Below w.heap.size w w') := by
  obtain ⟨k0, v0⟩ := x
  have HM : Hid (Mono ps k0 ∧ AtP ps k0 k) := ⟨hm, ha⟩
  have HC : Hid (n ≤ 7 ∧ Cap a n cap) := ⟨hn, hc⟩
  have HI : Hid (isP ps k0 k = true) := hi
  have HD : Hid (Nd w nd a n cap ps (.slice a' n' cap')) := h
  have HL : Hid (nd < w.heap.size) := h.blk.lt
  have HB0 : Hid (Below w.heap.size w ((w.alloc (Obj.cells #[Value.string k0, Value.string v0] 40)).alloc (Obj.cells #[Value.pointer none, Value.string { data := #[] }, Value.string { data := #[] }, Value.pointer none] 59))) := ((Below.refl _ w).alloc (Nat.le_refl _) _).alloc (by simp) _
  clear hm hn hc h ha hi
  go_enter Try.func33, Try.ntmps33
  go_wp2_with fail
  refine (place_is _ nd _ n cap ps _ k0 (HD.out.below HB0.out (Nat.le_refl _)) HM.out.1 (by have := HC.out; omega)).mono ?_
  rintro e w1 ⟨k', rfl, HA, HB1⟩
  have hk' : k' = k := HA.out.uniq HM.out.2
  subst hk'
  rw [HI.out]
  have hS : w.heap.size + 2 ≤ w1.heap.size := by have := HB1.out.size; simp at this; omega
  have HD1 : Hid (Nd w1 nd a n cap ps (.slice a' n' cap')) := (HD.out.below HB0.out (Nat.le_refl _)).below HB1.out (Nat.le_refl _)
  have HW : Hid (Below w.heap.size w w1) := HB0.out.trans (HB1.out.mono (by simp; omega))
  have HX : Hid (Blk w1 w.heap.size 40 [.string k0, .string v0]) := ((Blk.new w #[Value.string k0, Value.string v0] 40).alloc _).below HB1.out (by simp; omega)
  have HY : Hid (Blk w1 (w.heap.size + 1) 59 [Value.pointer none, Value.string { data := #[] }, Value.string { data := #[] }, Value.pointer none]) := by
    have e := Blk.new (w.alloc (Obj.cells #[Value.string k0, Value.string v0] 40)) #[Value.pointer none, Value.string { data := #[] }, Value.string { data := #[] }, Value.pointer none] 59
    rw [World.size_alloc] at e
    exact e.below HB1.out (by simp)
  have c0 := HD1.out.blk.cell (i := 0) rfl
  have c1 := HD1.out.blk.cell (i := 1) rfl
  have x0 := HX.out.cell (i := 0) rfl
  have x1 := HX.out.cell (i := 1) rfl
  clear HB1 HB0
  have hkn : k' ≤ n := by rw [← HD.out.rd.1]; exact HA.out.1
  have HR1 : Hid (RdP (w1.alloc (.cells #[.string k0, .string v0] 40)).drew (some ⟨w1.heap.size, 0, none⟩) 1 [(k0, v0)]) := by
    have hb2 := (Blk.new w1 #[.string k0, .string v0] 40).drew
    exact rd_of_cells (ps := [(k0, v0)]) (off := 0) (fun _ => hb2.row) (fun j u hu => by rw [Nat.zero_add]; exact hb2.cell hu)
  have HB2 : Hid (Below w1.heap.size w1 (w1.alloc (.cells #[.string k0, .string v0] 40)).drew) := ((Below.refl _ w1).alloc (Nat.le_refl _) _).drew
  have HKEEP : Hid (∀ W, Below (w.heap.size + 1) w1 W → (fun w' => w'.cell? ⟨nd, 0, none⟩ = some (.slice a n cap) ∧ w'.cell? ⟨nd, 1, none⟩ = some (.slice a' n' cap') ∧ w'.cell? ⟨w.heap.size, 0, none⟩ = some (.string k0) ∧ w'.cell? ⟨w.heap.size, 1, none⟩ = some (.string v0)) W) := fun W hW => ⟨(hW.cell (p := ⟨nd, 0, none⟩) (by have := HL.out; show nd < w.heap.size + 1; omega)).trans c0, (hW.cell (p := ⟨nd, 1, none⟩) (by have := HL.out; show nd < w.heap.size + 1; omega)).trans c1, (hW.cell (p := ⟨w.heap.size, 0, none⟩) (by show w.heap.size < w.heap.size + 1; omega)).trans x0, (hW.cell (p := ⟨w.heap.size, 1, none⟩) (by show w.heap.size < w.heap.size + 1; omega)).trans x1⟩
  have HL1 : Hid (w.heap.size + 1 ≤ w1.heap.size) := by show _ ≤ _; omega
  have hk1 : k' < n := by
    rw [← HD.out.rd.1]
    have e := HI.out
    cases hx : ps[k']? with
    | some x => exact (List.getElem?_eq_some_iff.1 hx).1
    | none => simp only [isP, hx] at e; cases e
  have q1 : (k' : Int) + 1 ≤ 7 := by have := HC.out; omega
  have HJ : Hid (IntKind.i64.wrap ((k' : Int) + 1) = ((k' + 1 : Nat) : Int)) := by show _ = _; rw [IntKind.wrap_i64]; omega
  go_wp2_with fail
  go_region_held_law (fun w' => w'.cell? ⟨nd, 0, none⟩ = some (.slice a n cap) ∧ w'.cell? ⟨nd, 1, none⟩ = some (.slice a' n' cap') ∧ w'.cell? ⟨w.heap.size, 0, none⟩ = some (.string k0) ∧ w'.cell? ⟨w.heap.size, 1, none⟩ = some (.string v0))
    (first | with_reducible exact HKEEP.out _ (Below.refl _ w1).drew | with_reducible exact HKEEP.out _ (HB2.out.mono HL1.out) | with_reducible exact HKEEP.out _ HB4.out | with_reducible exact HKEEP.out _ (HB4.out.alloc (Nat.le_of_lt hS2) _) | exact HKEEP.out _ (Below.alloc (Below.setCell (Below.setCell (Below.setCell (Below.setCell HB4.out (Nat.le_refl _) _) (Nat.le_refl _) _) (Nat.le_refl _) _) (Nat.le_refl _) _) (by simp; omega) _))
    (first
    | (go_at_call 40; refine (spP (w1.alloc (.cells #[.string k0, .string v0] 40)).drew a n cap k' (k' + 1) _ _ rfl HJ.out ps (some ⟨w1.heap.size, 0, none⟩) 1 1 [(k0, v0)] ((HD1.out.below HB2.out (Nat.le_refl _)).rd) HC.out.2 (by omega) (by omega) HR1.out (by have := HC.out; omega)).mono ?_; rintro e w2 ⟨a2, n2, cap2, R2, rfl, HE2, HR2, hB2⟩; have HB3 : Hid (Below w1.heap.size w1 w2) := HB2.out.trans (hB2.out.mono HB2.out.size); clear hB2;
        have HY2 : Hid (Blk w2 (w.heap.size + 1) 59 [Value.pointer none, Value.string { data := #[] }, Value.string { data := #[] }, Value.pointer none]) := HY.out.below HB3.out (by omega);
        have hS2 : w.heap.size + 1 < w2.heap.size := HY2.out.lt; have HB4 : Hid (Below (w.heap.size + 1) w1 w2) := HB3.out.mono HL1.out;
        have y0 := HY2.out.cell (i := 0) rfl; have y1 := HY2.out.cell (i := 1) rfl; have y2 := HY2.out.cell (i := 2) rfl; have y3 := HY2.out.cell (i := 3) rfl;
        have f0 := HY2.out.free 0; have f1 := HY2.out.free 1; have f2 := HY2.out.free 2; have f3 := HY2.out.free 3))
  go_wp2
  have hb := (put4_blk (nd := w2.heap.size) HY2.out).alloc (Obj.cells #[Value.slice a2 n2 cap2, Value.slice a' n' cap'] 67)
  refine bodyPost_ret (results_half rfl rfl hb) rfl ?_
  have hO : Oth w2 (w.heap.size + 1) := HY2.out.oth (by decide) (by decide) (by decide)
  have hrd := HR2.out.1.oth (put4_grown w2 (w.heap.size + 1) w2.heap.size) hO
  have hbk := Blk.new (put4 w2 (w.heap.size + 1) w2.heap.size) #[Value.slice a2 n2 cap2, Value.slice a' n' cap'] 67
  rw [put4_size] at hbk
  refine ⟨w2.heap.size, a2, n2, cap2, R2, rfl, HE2.out.1, ⟨⟨hbk, hrd.below ((Below.refl _ _).alloc (Nat.le_refl _) _) (Nat.le_refl _)⟩, HR2.out.2⟩, ?_⟩
  exact (put4_below (HW.out.trans (HB3.out.mono (by omega))) (by omega)).alloc (by rw [put4_size]; omega) _
#print axioms put_eq

set_option maxRecDepth 100000 in
set_option maxHeartbeats 1000000 in
theorem put_lf (w : World) (nd n cap : Nat) (a : Option Addr) (ps : List Pr) (x : Pr) (k : Nat) (h : Nd w nd a n cap ps (.slice none 0 0)) (hm : Mono ps x.1) (hn : n ≤ 7) (hc : Cap a n cap) (ha : AtP ps x.1 k) (hi : isP ps x.1 k = false) :
    Calls Try.prog 33 #[.pointer (some ⟨nd, 0, none⟩), .agg #[.string x.1, .string x.2]] w fun e w' => ∃ (b : Nat) (y : Pr) (r : Option Addr) (H : Half 0), e = .returned (hv b y r) ∧ Hid (H.lies w' (hv b y r)) ∧ Hid (H.list = ps.take k ++ [x] ++ ps.drop k ∧ H.ok ∧ (∀ t, H = .one t → ps.length ≤ (prs 0 t).length)) ∧ Hid (Below w.heap.size w w') := by
  obtain ⟨k0, v0⟩ := x
  have HM : Hid (Mono ps k0 ∧ AtP ps k0 k) := ⟨hm, ha⟩
  have HC : Hid (n ≤ 7 ∧ Cap a n cap) := ⟨hn, hc⟩
  have HI : Hid (isP ps k0 k = false) := hi
  have HD : Hid (Nd w nd a n cap ps (.slice none 0 0)) := h
  have HL : Hid (nd < w.heap.size) := h.blk.lt
  have HB0 : Hid (Below w.heap.size w ((w.alloc (Obj.cells #[Value.string k0, Value.string v0] 40)).alloc (Obj.cells #[Value.pointer none, Value.string { data := #[] }, Value.string { data := #[] }, Value.pointer none] 59))) := ((Below.refl _ w).alloc (Nat.le_refl _) _).alloc (by simp) _
  clear hm hn hc h ha hi
  go_enter Try.func33, Try.ntmps33
  go_wp2_with fail
  refine (place_is _ nd _ n cap ps _ k0 (HD.out.below HB0.out (Nat.le_refl _)) HM.out.1 (by have := HC.out; omega)).mono ?_
  rintro e w1 ⟨k', rfl, HA, HB1⟩
  have hk' : k' = k := HA.out.uniq HM.out.2
  subst hk'
  rw [HI.out]
  have hS : w.heap.size + 2 ≤ w1.heap.size := by have := HB1.out.size; simp at this; omega
  have HD1 : Hid (Nd w1 nd a n cap ps (.slice none 0 0)) := (HD.out.below HB0.out (Nat.le_refl _)).below HB1.out (Nat.le_refl _)
  have HW : Hid (Below w.heap.size w w1) := HB0.out.trans (HB1.out.mono (by simp; omega))
  have HX : Hid (Blk w1 w.heap.size 40 [.string k0, .string v0]) := ((Blk.new w #[Value.string k0, Value.string v0] 40).alloc _).below HB1.out (by simp; omega)
  have HY : Hid (Blk w1 (w.heap.size + 1) 59 [Value.pointer none, Value.string { data := #[] }, Value.string { data := #[] }, Value.pointer none]) := by
    have e := Blk.new (w.alloc (Obj.cells #[Value.string k0, Value.string v0] 40)) #[Value.pointer none, Value.string { data := #[] }, Value.string { data := #[] }, Value.pointer none] 59
    rw [World.size_alloc] at e
    exact e.below HB1.out (by simp)
  have c0 := HD1.out.blk.cell (i := 0) rfl
  have c1 := HD1.out.blk.cell (i := 1) rfl
  have x0 := HX.out.cell (i := 0) rfl
  have x1 := HX.out.cell (i := 1) rfl
  clear HB1 HB0
  have hkn : k' ≤ n := by rw [← HD.out.rd.1]; exact HA.out.1
  have HR1 : Hid (RdP (w1.alloc (.cells #[.string k0, .string v0] 40)).drew (some ⟨w1.heap.size, 0, none⟩) 1 [(k0, v0)]) := by
    have hb2 := (Blk.new w1 #[.string k0, .string v0] 40).drew
    exact rd_of_cells (ps := [(k0, v0)]) (off := 0) (fun _ => hb2.row) (fun j u hu => by rw [Nat.zero_add]; exact hb2.cell hu)
  have HB2 : Hid (Below w1.heap.size w1 (w1.alloc (.cells #[.string k0, .string v0] 40)).drew) := ((Below.refl _ w1).alloc (Nat.le_refl _) _).drew
  have HKEEP : Hid (∀ W, Below (w.heap.size + 1) w1 W → (fun w' => w'.cell? ⟨nd, 0, none⟩ = some (.slice a n cap) ∧ w'.cell? ⟨nd, 1, none⟩ = some (.slice none 0 0) ∧ w'.cell? ⟨w.heap.size, 0, none⟩ = some (.string k0) ∧ w'.cell? ⟨w.heap.size, 1, none⟩ = some (.string v0)) W) := fun W hW => ⟨(hW.cell (p := ⟨nd, 0, none⟩) (by have := HL.out; show nd < w.heap.size + 1; omega)).trans c0, (hW.cell (p := ⟨nd, 1, none⟩) (by have := HL.out; show nd < w.heap.size + 1; omega)).trans c1, (hW.cell (p := ⟨w.heap.size, 0, none⟩) (by show w.heap.size < w.heap.size + 1; omega)).trans x0, (hW.cell (p := ⟨w.heap.size, 1, none⟩) (by show w.heap.size < w.heap.size + 1; omega)).trans x1⟩
  have HL1 : Hid (w.heap.size + 1 ≤ w1.heap.size) := by show _ ≤ _; omega
  go_wp2_with (go_at_call 39; refine (leaf_is w1 nd c1).mono ?_; rintro e w2 ⟨rfl, rfl⟩)
  go_region_held_law (fun w' => w'.cell? ⟨nd, 0, none⟩ = some (.slice a n cap) ∧ w'.cell? ⟨nd, 1, none⟩ = some (.slice none 0 0) ∧ w'.cell? ⟨w.heap.size, 0, none⟩ = some (.string k0) ∧ w'.cell? ⟨w.heap.size, 1, none⟩ = some (.string v0))
    (first | with_reducible exact HKEEP.out _ (Below.refl _ w1).drew | with_reducible exact HKEEP.out _ (HB2.out.mono HL1.out) | with_reducible exact HKEEP.out _ HB4.out | with_reducible exact HKEEP.out _ HB6.out | exact HKEEP.out _ (Below.setCell (Below.setCell (Below.setCell (Below.setCell HB6.out (Nat.le_refl _) _) (Nat.le_refl _) _) (Nat.le_refl _) _) (Nat.le_refl _) _))
    (first
    | (go_at_call 40; refine (spP (w1.alloc (.cells #[.string k0, .string v0] 40)).drew a n cap k' k' _ _ rfl rfl ps (some ⟨w1.heap.size, 0, none⟩) 1 1 [(k0, v0)] ((HD1.out.below HB2.out (Nat.le_refl _)).rd) HC.out.2 (by omega) (by omega) HR1.out (by have := HC.out; omega)).mono ?_; rintro e w2 ⟨a2, n2, cap2, R2, rfl, HE2, HR2, hB2⟩; have HB3 : Hid (Below w1.heap.size w1 w2) := HB2.out.trans (hB2.out.mono HB2.out.size); clear hB2;
        have HB4 : Hid (Below (w.heap.size + 1) w1 w2) := HB3.out.mono HL1.out)
    | (go_at_call 44; refine (cut_leaf w2 a2 n2 cap2 R2 HR2.out.1 HR2.out.2 (by have := HE2.out.2; have := HC.out; omega)).mono ?_; rintro e w3 ⟨v3, H3, rfl, HL3, HO3, HB5⟩; obtain ⟨b3, y3', r3, rfl⟩ := HL3.out.form; unfold hv; have HB6 : Hid (Below (w.heap.size + 1) w1 w3) := HB4.out.trans (HB5.out.mono (Nat.le_trans HL1.out HB3.out.size));
        have HY2 : Hid (Blk w3 (w.heap.size + 1) 59 [Value.pointer none, Value.string { data := #[] }, Value.string { data := #[] }, Value.pointer none]) := HY.out.below (HB3.out.trans (HB5.out.mono HB3.out.size)) (by omega);
        have hS2 : w.heap.size + 1 < w3.heap.size := HY2.out.lt;
        have y0 := HY2.out.cell (i := 0) rfl; have y1 := HY2.out.cell (i := 1) rfl; have y2 := HY2.out.cell (i := 2) rfl; have y3 := HY2.out.cell (i := 3) rfl;
        have f0 := HY2.out.free 0; have f1 := HY2.out.free 1; have f2 := HY2.out.free 2; have f3 := HY2.out.free 3))
  go_wp2
  have hb := put4v_blk (nd := b3) (y := y3') (r := r3) HY2.out rfl
  refine bodyPost_ret (results_hv rfl rfl hb) rfl ?_
  have hO : Oth w3 (w.heap.size + 1) := HY2.out.oth (by decide) (by decide) (by decide)
  have hB := HB3.out.trans (HB5.out.mono HB3.out.size)
  refine ⟨b3, y3', r3, H3, rfl, HL3.out.oth (put4v_grown _ _ _ _ _) hO, ⟨by rw [HO3.out.1, HE2.out.1], HO3.out.2.1, ?_⟩, put4v_below (HW.out.trans (hB.mono (by omega))) (by omega)⟩
  intro t ht
  subst ht
  have e1 : tl 0 t = R2 := HO3.out.1
  show ps.length ≤ (tl 0 t).length
  rw [e1, HE2.out.1]
  simp
  omega
#print axioms put_lf
end Go.Proofs.Ytnagknlfboadkaa.Oct
