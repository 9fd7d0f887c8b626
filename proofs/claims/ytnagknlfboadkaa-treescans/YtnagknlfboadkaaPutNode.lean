/-
  Layer 7 (tree): 'withKid'; 'put' into a node with kids.
-/
import Derived.Test.YtnagknlfboadkaaPutAll
namespace Go.Proofs.Ytnagknlfboadkaa.Oct
open Go.RowKit

theorem rdk_one {w : World} {b kb : Nat} (h : Blk w b 46 [kp kb]) : RdK w (some ⟨b, 0, none⟩) 1 [kb] := by
  refine ⟨rfl, fun _ => ⟨b, 0, rfl, h.row, fun i x hx => ?_⟩⟩
  cases i with
  | zero => simp at hx; subst hx; exact h.cell (i := 0) rfl
  | succ i => simp at hx
theorem rdk_two {w : World} {b k1 k2 : Nat} (h : Blk w b 46 [kp k1, kp k2]) : RdK w (some ⟨b, 0, none⟩) 2 [k1, k2] := by
  refine ⟨rfl, fun _ => ⟨b, 0, rfl, h.row, fun i x hx => ?_⟩⟩
  match i, hx with
  | 0, hx => simp at hx; subst hx; exact h.cell (i := 0) rfl
  | 1, hx => simp at hx; subst hx; exact h.cell (i := 1) rfl
  | i + 2, hx => simp at hx
set_option maxRecDepth 100000 in
set_option maxHeartbeats 1000000 in
theorem withKid_is (w : World) (nd n cap n' cap' kb i : Nat) (a a' : Option Addr) (ps : List Pr) (bs : List Nat) (h : Nd w nd a n cap ps (.slice a' n' cap')) (hk : RdK w a' n' bs) (hc : Cap a' n' cap') (hi : i < n') (hn : n' ≤ 20) :
    Calls Try.prog 42 #[.pointer (some ⟨nd, 0, none⟩), .int .i64 (i : Int), .pointer (some ⟨kb, 0, none⟩)] w fun e w' => ∃ (nd2 : Nat) (a2 : Option Addr) (n2 cap2 : Nat) (bs2 : List Nat), e = .returned (.pointer (some ⟨nd2, 0, none⟩)) ∧ Hid (bs2 = bs.take i ++ [kb] ++ bs.drop (i + 1)) ∧ Hid (Nd w' nd2 a n cap ps (.slice a2 n2 cap2) ∧ RdK w' a2 n2 bs2 ∧ Cap a2 n2 cap2) ∧ Hid (Below w.heap.size w w') := by
  have HD : Hid (Nd w nd a n cap ps (.slice a' n' cap')) := h
  have HK : Hid (RdK w a' n' bs ∧ Cap a' n' cap' ∧ i < n' ∧ n' ≤ 20) := ⟨hk, hc, hi, hn⟩
  have c0 := h.blk.cell (i := 0) rfl
  have c1 := h.blk.cell (i := 1) rfl
  have HL : Hid (nd < w.heap.size) := h.blk.lt
  have HB2 : Hid (Below w.heap.size w (w.alloc (.cells #[.pointer (some ⟨kb, 0, none⟩)] 46)).drew) := ((Below.refl _ w).alloc (Nat.le_refl _) _).drew
  have HR1 : Hid (RdK (w.alloc (.cells #[.pointer (some ⟨kb, 0, none⟩)] 46)).drew (some ⟨w.heap.size, 0, none⟩) 1 [kb]) := rdk_one (Blk.new w #[.pointer (some ⟨kb, 0, none⟩)] 46).drew
  have HKEEP : Hid (∀ W, Below w.heap.size w W → W.cell? ⟨nd, 0, none⟩ = some (.slice a n cap) ∧ W.cell? ⟨nd, 1, none⟩ = some (.slice a' n' cap')) := fun W hW => ⟨(hW.cell (p := ⟨nd, 0, none⟩) HL.out).trans c0, (hW.cell (p := ⟨nd, 1, none⟩) HL.out).trans c1⟩
  have q1 : (i : Int) + 1 ≤ 20 := by omega
  have HJ : Hid (IntKind.i64.wrap ((i : Int) + 1) = ((i + 1 : Nat) : Int)) := by show _ = _; rw [IntKind.wrap_i64]; omega
  clear h hk hc hi hn
  go_enter Try.func42, Try.ntmps42
  go_wp2_with fail
  go_region_held_law (fun w' => w'.cell? ⟨nd, 0, none⟩ = some (.slice a n cap) ∧ w'.cell? ⟨nd, 1, none⟩ = some (.slice a' n' cap'))
    (first | with_reducible exact HKEEP.out _ (Below.refl _ w).drew | with_reducible exact HKEEP.out _ HB2.out | with_reducible exact HKEEP.out _ HB3.out | with_reducible exact HKEEP.out _ (HB3.out.alloc HB3.out.size _))
    (first
    | (go_at_call 45; refine (spK (w.alloc (.cells #[.pointer (some ⟨kb, 0, none⟩)] 46)).drew a' n' cap' i (i + 1) _ _ rfl HJ.out bs (some ⟨w.heap.size, 0, none⟩) 1 1 [kb] (HK.out.1.below HB2.out (Nat.le_refl _)) HK.out.2.1 (by omega) (by have := HK.out.2.2; omega) HR1.out (by have := HK.out.2.2; omega)).mono ?_; rintro e w2 ⟨a2, n2, cap2, R2, rfl, HE2, HR2, hB2⟩; have HB3 : Hid (Below w.heap.size w w2) := HB2.out.trans (hB2.out.mono HB2.out.size); clear hB2))
  go_wp2
  go_ret
  have hB := (Below.refl w2.heap.size w2).alloc (Nat.le_refl _) (Obj.cells #[Value.slice a n cap, Value.slice a2 n2 cap2] 67)
  exact ⟨w2.heap.size, a2, n2, cap2, R2, rfl, HE2.out.1, ⟨⟨Blk.new _ _ _, (HD.out.below HB3.out (Nat.le_refl _)).rd.below hB (Nat.le_refl _)⟩, HR2.out.1.below hB (Nat.le_refl _), HR2.out.2⟩, HB3.out.alloc HB3.out.size _⟩
#print axioms withKid_is
theorem rdp_one {w : World} {b : Nat} {m : Pr} (h : Blk w b 40 [.string m.1, .string m.2]) : RdP w (some ⟨b, 0, none⟩) 1 [m] :=
  rd_of_cells (ps := [m]) (off := 0) (fun _ => h.row) (fun j u hu => by rw [Nat.zero_add]; exact h.cell hu)
theorem two_len {d k : Nat} {ps R : List Pr} {ts : List (T d)} {kt l r : T d} {m : Pr} (hl : ts.length = ps.length + 1) (hk : ts[k]? = some kt) (hR : R = ps.take k ++ [m] ++ ps.drop k) : (ts.take k ++ [l, r] ++ ts.drop (k + 1)).length = R.length + 1 := by
  have := (List.getElem?_eq_some_iff.1 hk).1
  rw [hR]; simp; omega
theorem two_kids {w w' : World} {d k bl br : Nat} {ts : List (T d)} {bs R : List Nat} {l r : T d} (h : Kids w d ts bs) (hl : Lies w d l bl) (hr : Lies w d r br) (hb : Below w.heap.size w w') (hR : R = bs.take k ++ [bl, br] ++ bs.drop (k + 1)) : Kids w' d (ts.take k ++ [l, r] ++ ts.drop (k + 1)) R := by
  rw [hR]
  have h2 := h.below hb
  exact ((h2.take k).append ((Kids.one (hl.below hb (Nat.le_refl _))).append (Kids.one (hr.below hb (Nat.le_refl _))))).append (h2.drop (k + 1))
theorem two_ok {d k : Nat} {ts : List (T d)} {l r : T d} {m : Pr} (h : KidsOk d ts) (ho : (Half.two l m r).ok) : KidsOk d (ts.take k ++ [l, r] ++ ts.drop (k + 1)) := by
  intro x hx
  rw [List.mem_append, List.mem_append] at hx
  rcases hx with (hx | hx) | hx
  · exact h x (List.mem_of_mem_take hx)
  · rcases List.mem_cons.1 hx with rfl | hx
    · exact ho.1
    · rw [List.mem_singleton.1 hx]; exact ho.2
  · exact h x (List.mem_of_mem_drop hx)
theorem two_list {d k : Nat} {ps R L X : List Pr} {ts : List (T d)} {kt l r : T d} {m : Pr} (hl : ts.length = ps.length + 1) (hk : ts[k]? = some kt) (h : L = inter ((ts.take k ++ [l, r] ++ ts.drop (k + 1)).map (tl d)) R) (hR : R = ps.take k ++ [m] ++ ps.drop k) (hX : (Half.two l m r).list = X) :
    L = upp ((ts.map (tl d)).take k) (ps.take k) ++ X ++ dn (ps.drop k) ((ts.map (tl d)).drop (k + 1)) := by
  rw [h, hR, ← hX, List.map_append, List.map_append, List.map_take, List.map_drop]
  exact inter_two (by simpa using hl) (kid_map hk)
theorem two_grow {d n n5 k : Nat} {ps : List Pr} {H : Half (d + 1)} (hn : ps.length = n) (h5 : n5 = k + 1 + (n - k)) (hk : k ≤ n) (h : n5 ≤ 7 → ∃ t, H = .one t ∧ (prs (d + 1) t).length = n5) (h8 : 7 < n5 → ∃ l m r, H = .two l m r) : ∀ t', H = .one t' → ps.length ≤ (prs (d + 1) t').length := by
  intro t' ht
  by_cases h7 : n5 ≤ 7
  · obtain ⟨t, e, hl⟩ := h h7
    rw [ht] at e
    have e2 : t' = t := by injection e
    rw [e2, hl]
    clear h h8
    omega
  · obtain ⟨l, m, r, e⟩ := h8 (by omega)
    rw [ht] at e
    cases e
/-- what 'put' does to a tree of depth d + 1 -/
def PutC (d : Nat) : Prop := ∀ (w : World) (t : T d) (nd : Nat) (x : Pr), Lies w d t nd → Good d t → Calls Try.prog 33 #[.pointer (some ⟨nd, 0, none⟩), .agg #[.string x.1, .string x.2]] w fun e w' =>
  ∃ (b : Nat) (y : Pr) (r : Option Addr) (H : Half d), e = .returned (hv b y r) ∧ Hid (H.lies w' (hv b y r)) ∧ Hid (H.list = insP (tl d t) x ∧ H.ok ∧ (∀ t', H = .one t' → (prs d t).length ≤ (prs d t').length)) ∧ Hid (Below w.heap.size w w')
/-- behind the put into a kid -/
structure P8 {d : Nat} (w1 W : World) (tb b : Nat) (y : Pr) (r : Option Addr) (H : Half d) : Prop where
  blk : Blk W tb 59 [.pointer (some ⟨b, 0, none⟩), .string y.1, .string y.2, .pointer r]
  lies : H.lies W (hv b y r)
  be : Below w1.heap.size w1 W
  le : w1.heap.size ≤ tb

set_option maxRecDepth 100000 in
set_option maxHeartbeats 2000000 in
theorem put_nd (d : Nat) (IH : PutC d) (w : World) (nd n cap n' cap' : Nat) (a a' : Option Addr) (ps : List Pr) (ts : List (T d)) (bs : List Nat) (x : Pr) (k kb : Nat) (kt : T d) (h : Nd w nd a n cap ps (.slice a' n' cap')) (hm : Mono ps x.1) (hn : n ≤ 7) (hc : Cap a n cap) (ha : AtP ps x.1 k) (hi : isP ps x.1 k = false)
    (hk : RdK w a' n' bs) (hck : Cap a' n' cap') (hks : Kids w d ts bs) (hok : KidsOk d ts) (hl : ts.length = ps.length + 1) (hkt : ts[k]? = some kt) (hkb : bs[k]? = some kb) (hgd : Good d kt) (h3 : 3 ≤ (prs d kt).length) :
    Calls Try.prog 33 #[.pointer (some ⟨nd, 0, none⟩), .agg #[.string x.1, .string x.2]] w fun e w' => ∃ (b : Nat) (y : Pr) (r : Option Addr) (H : Half (d + 1)), e = .returned (hv b y r) ∧ Hid (H.lies w' (hv b y r)) ∧ Hid (H.list = upp ((ts.map (tl d)).take k) (ps.take k) ++ insP (tl d kt) x ++ dn (ps.drop k) ((ts.map (tl d)).drop (k + 1)) ∧ H.ok ∧ (∀ t', H = .one t' → ps.length ≤ (prs (d + 1) t').length)) ∧ Hid (Below w.heap.size w w') := by
  have HQ : Hid (RdK w a' n' bs ∧ Cap a' n' cap' ∧ Kids w d ts bs ∧ KidsOk d ts ∧ ts.length = ps.length + 1 ∧ ts[k]? = some kt ∧ bs[k]? = some kb ∧ Good d kt ∧ 3 ≤ (prs d kt).length) := ⟨hk, hck, hks, hok, hl, hkt, hkb, hgd, h3⟩
  have HIH : Hid (PutC d) := IH
  have hnn : n' = n + 1 := by rw [← hk.1, hks.1, hl, h.rd.1]
  have HNN : Hid (n' = n + 1) := hnn
  have hkl : k < n' := by rw [← hk.1]; exact (List.getElem?_eq_some_iff.1 hkb).1
  obtain ⟨gk, offk, ea, hgk, hck2⟩ := hk.2 (by omega)
  subst ea
  have HKC : Hid (w.cell? ⟨gk, offk + k, none⟩ = some (.pointer (some ⟨kb, 0, none⟩)) ∧ gk < w.heap.size) := ⟨hck2 k kb hkb, hgk.lt⟩
  have q7 : (k : Int) < (n' : Int) := by omega
  clear hk hck hks hok hl hkt hkb hgd h3 hgk hck2 hnn hkl IH
  obtain ⟨k0, v0⟩ := x
  have HM : Hid (Mono ps k0 ∧ AtP ps k0 k) := ⟨hm, ha⟩
  have HC : Hid (n ≤ 7 ∧ Cap a n cap) := ⟨hn, hc⟩
  have HI : Hid (isP ps k0 k = false) := hi
  have HD : Hid (Nd w nd a n cap ps (.slice (some ⟨gk, offk, none⟩) n' cap')) := h
  have HL : Hid (nd < w.heap.size) := h.blk.lt
  have HB0 : Hid (Below w.heap.size w ((w.alloc (Obj.cells #[Value.string k0, Value.string v0] 40)).alloc (Obj.cells #[Value.pointer none, Value.string { data := #[] }, Value.string { data := #[] }, Value.pointer none] 59))) := ((Below.refl _ w).alloc (Nat.le_refl _) _).alloc (by simp) _
  clear hm hn hc h ha hi
  go_enter Try.func33, Try.ntmps33
  go_wp2_with fail
  refine (place_is _ nd _ n cap ps _ k0 (HD.out.below HB0.out (Nat.le_refl _)) HM.out.1 (by have := HC.out; omega)).mono ?_
  rintro e w1 ⟨k', rfl, HA, HB1⟩
  have hk' : k' = k := HA.out.uniq HM.out.2
  subst hk'
  rw [HI.out]
  have hS : w.heap.size + 2 ≤ w1.heap.size := by have := HB1.out.size; simp at this; omega
  have HD1 : Hid (Nd w1 nd a n cap ps (.slice (some ⟨gk, offk, none⟩) n' cap')) := (HD.out.below HB0.out (Nat.le_refl _)).below HB1.out (Nat.le_refl _)
  have HW : Hid (Below w.heap.size w w1) := HB0.out.trans (HB1.out.mono (by simp; omega))
  have HX : Hid (Blk w1 w.heap.size 40 [.string k0, .string v0]) := ((Blk.new w #[Value.string k0, Value.string v0] 40).alloc _).below HB1.out (by simp; omega)
  have HY : Hid (Blk w1 (w.heap.size + 1) 59 [Value.pointer none, Value.string { data := #[] }, Value.string { data := #[] }, Value.pointer none]) := by
    have e := Blk.new (w.alloc (Obj.cells #[Value.string k0, Value.string v0] 40)) #[Value.pointer none, Value.string { data := #[] }, Value.string { data := #[] }, Value.pointer none] 59
    rw [World.size_alloc] at e
    exact e.below HB1.out (by simp)
  have c0 := HD1.out.blk.cell (i := 0) rfl
  have c1 := HD1.out.blk.cell (i := 1) rfl
  have x0 := HX.out.cell (i := 0) rfl
  have x1 := HX.out.cell (i := 1) rfl
  clear HB1 HB0
  have hkn : k' ≤ n := by rw [← HD.out.rd.1]; exact HA.out.1
  have HL1 : Hid (w.heap.size + 1 ≤ w1.heap.size) := by show _ ≤ _; omega
  have ck : w1.cell? ⟨gk, offk + k', none⟩ = some (.pointer (some ⟨kb, 0, none⟩)) := (HW.out.cell (p := ⟨gk, _, none⟩) HKC.out.2).trans HKC.out.1
  have HZ : Hid (((n' : Int) == 0) = false) := by show _ = _; have := HNN.out; simp; omega
  go_wp2_with (go_at_call 39; refine (isLeaf_any w1 nd _ n' cap' false HZ.out c1).mono ?_; rintro e w2 ⟨rfl, rfl⟩)
  have HK8 : Hid (∀ W, Below w1.heap.size w1 W → (fun w' => w'.cell? ⟨nd, 1, none⟩ = some (.slice (some ⟨gk, offk, none⟩) n' cap') ∧ w'.cell? ⟨gk, offk + k', none⟩ = some (.pointer (some ⟨kb, 0, none⟩)) ∧ w'.cell? ⟨w.heap.size, 0, none⟩ = some (.string k0) ∧ w'.cell? ⟨w.heap.size, 1, none⟩ = some (.string v0)) W) := fun W hW => ⟨(hW.cell (p := ⟨nd, 1, none⟩) (by have := HL.out; show nd < w1.heap.size; omega)).trans c1, (hW.cell (p := ⟨gk, offk + k', none⟩) (by have := HKC.out.2; show gk < w1.heap.size; omega)).trans ck, (hW.cell (p := ⟨w.heap.size, 0, none⟩) (by show w.heap.size < w1.heap.size; omega)).trans x0, (hW.cell (p := ⟨w.heap.size, 1, none⟩) (by show w.heap.size < w1.heap.size; omega)).trans x1⟩
  have HBZ : Hid (Below w1.heap.size w1 (w1.alloc (Obj.cells #[Value.pointer none, Value.string { data := #[] }, Value.string { data := #[] }, Value.pointer none] 59)).drew) := ((Below.refl _ w1).alloc (Nat.le_refl _) _).drew
  have HKL : Hid (Lies w1 d kt kb) := (HQ.out.2.2.1.2 k' kt kb HQ.out.2.2.2.2.2.1 HQ.out.2.2.2.2.2.2.1).below HW.out (Nat.le_refl _)
  have HZB : Hid (Blk (w1.alloc (Obj.cells #[Value.pointer none, Value.string { data := #[] }, Value.string { data := #[] }, Value.pointer none] 59)).drew w1.heap.size 59 [Value.pointer none, Value.string { data := #[] }, Value.string { data := #[] }, Value.pointer none]) := (Blk.new w1 #[Value.pointer none, Value.string { data := #[] }, Value.string { data := #[] }, Value.pointer none] 59).drew
  go_region_held_law (fun w' => w'.cell? ⟨nd, 1, none⟩ = some (.slice (some ⟨gk, offk, none⟩) n' cap') ∧ w'.cell? ⟨gk, offk + k', none⟩ = some (.pointer (some ⟨kb, 0, none⟩)) ∧ w'.cell? ⟨w.heap.size, 0, none⟩ = some (.string k0) ∧ w'.cell? ⟨w.heap.size, 1, none⟩ = some (.string v0))
    (first | with_reducible exact HK8.out _ (Below.refl _ w1).drew | with_reducible exact HK8.out _ HBZ.out | with_reducible exact HK8.out _ HB3.out | with_reducible exact HK8.out _ (HB3.out.alloc HB3.out.size _) | exact HK8.out _ (Below.setCell (Below.setCell (Below.setCell (Below.setCell HB3.out (Nat.le_refl _) _) (Nat.le_refl _) _) (Nat.le_refl _) _) (Nat.le_refl _) _))
    (first
    | (go_at_call 33; refine (HIH.out w1.drew kt kb (k0, v0) (HKL.out.below (Below.refl _ w1).drew (Nat.le_refl _)) HQ.out.2.2.2.2.2.2.2.1).mono ?_; rintro e w3 ⟨b3, y3, r3, H3, rfl, HL3, HO3, hB3⟩; unfold hv; have HB3 : Hid (Below w1.heap.size w1 w3) := ⟨hB3.out.os, hB3.out.tape, hB3.out.output, hB3.out.size, hB3.out.block⟩; clear hB3; have HF : Hid True := trivial)
    | (go_at_call 33; refine (HIH.out (w1.alloc (Obj.cells #[Value.pointer none, Value.string { data := #[] }, Value.string { data := #[] }, Value.pointer none] 59)).drew kt kb (k0, v0) (HKL.out.below HBZ.out (Nat.le_refl _)) HQ.out.2.2.2.2.2.2.2.1).mono ?_; rintro e w3 ⟨b3, y3, r3, H3, rfl, HL3, HO3, hB3⟩; unfold hv; have HB3 : Hid (Below w1.heap.size w1 w3) := HBZ.out.trans (hB3.out.mono HBZ.out.size);
        have HF : Hid (Blk w3 w1.heap.size 59 [Value.pointer none, Value.string { data := #[] }, Value.string { data := #[] }, Value.pointer none]) := HZB.out.below hB3.out HZB.out.lt; clear hB3;
        have z0 := HF.out.cell (i := 0) rfl; have z1 := HF.out.cell (i := 1) rfl; have z2 := HF.out.cell (i := 2) rfl; have z3 := HF.out.cell (i := 3) rfl;
        have f0 := HF.out.free 0; have f1 := HF.out.free 1; have f2 := HF.out.free 2; have f3 := HF.out.free 3))
  · obtain ⟨W, hW⟩ : ∃ W, W = w3.alloc (Obj.cells #[Value.pointer (some { block := b3, off := 0 }), Value.string y3.1, Value.string y3.2, Value.pointer r3] 59) := ⟨_, rfl⟩
    obtain ⟨tb, htb⟩ : ∃ tb, w3.heap.size = tb := ⟨_, rfl⟩
    have hP : P8 w1 W tb b3 y3 r3 H3 := by
      rw [hW, ← htb]
      exact ⟨Blk.new _ _ _, HL3.out.below ((Below.refl _ w3).alloc (Nat.le_refl _) _), HB3.out.alloc HB3.out.size _, HB3.out.size⟩
    rw [← hW, htb]
    clear hW htb
    have HP : Hid (P8 w1 W tb b3 y3 r3 H3) := hP
    have HO : Hid (H3.list = insP (tl d kt) (k0, v0) ∧ H3.ok ∧ (∀ t', H3 = .one t' → (prs d kt).length ≤ (prs d t').length)) := HO3
    have HND : Hid (Nd W nd a n cap ps (.slice (some ⟨gk, offk, none⟩) n' cap')) := HD1.out.below hP.be (Nat.le_refl _)
    have HRK : Hid (RdK W (some ⟨gk, offk, none⟩) n' bs) := (HQ.out.1.below HW.out (Nat.le_refl _)).below hP.be (Nat.le_refl _)
    have HKS : Hid (Kids W d ts bs) := (HQ.out.2.2.1.below HW.out).below hP.be
    have HYB : Hid (Blk W (w.heap.size + 1) 59 [Value.pointer none, Value.string { data := #[] }, Value.string { data := #[] }, Value.pointer none]) := HY.out.below hP.be (by omega)
    have HBW : Hid (Below w.heap.size w W) := HW.out.trans (hP.be.mono (by omega))
    have hSW : w1.heap.size ≤ W.heap.size := hP.be.size
    have HTB : Hid (w.heap.size + 1 < tb ∧ tb < W.heap.size) := ⟨by have := hP.le; omega, hP.blk.lt⟩
    have t0 := hP.blk.cell (i := 0) rfl
    have t1 := hP.blk.cell (i := 1) rfl
    have t2 := hP.blk.cell (i := 2) rfl
    have t3 := hP.blk.cell (i := 3) rfl
    have d0 := HND.out.blk.cell (i := 0) rfl
    have d1 := HND.out.blk.cell (i := 1) rfl
    clear hP HO3 c0 c1 x0 x1 ck HD1 HX HY HL3 HB3 HF
    cases H3 with
    | one t3' =>
      obtain ⟨bb, hbb, hlies⟩ := HP.out.lies
      obtain ⟨rfl, hyy, rfl⟩ : b3 = bb ∧ y3 = (⟨#[]⟩, ⟨#[]⟩) ∧ r3 = none := by
        simp only [hv, one, Value.agg.injEq, Array.mk.injEq, List.cons.injEq, Value.pointer.injEq, Option.some.injEq, Addr.mk.injEq, Value.string.injEq, and_true] at hbb
        exact ⟨hbb.1, Prod.ext hbb.2.1 hbb.2.2.1, hbb.2.2.2⟩
      have HLT : Hid (Lies W d t3' b3) := hlies
      clear hbb hlies hyy
      go_wp2_with (go_at_call 42; refine (withKid_is W nd n cap n' cap' b3 k' a (some ⟨gk, offk, none⟩) ps bs HND.out HRK.out HQ.out.2.1 (by have := HNN.out; omega) (by have := HNN.out; have := HC.out; omega)).mono ?_; rintro e w5 ⟨nd5, a5, n5, cap5, bs5, rfl, HE5, HN5, HB5⟩;
                        have HY5 : Hid (Blk w5 (w.heap.size + 1) 59 [Value.pointer none, Value.string { data := #[] }, Value.string { data := #[] }, Value.pointer none]) := HYB.out.below HB5.out HYB.out.lt;
                        have y50 := HY5.out.cell (i := 0) rfl;
                        have y51 := HY5.out.cell (i := 1) rfl;
                        have y52 := HY5.out.cell (i := 2) rfl;
                        have y53 := HY5.out.cell (i := 3) rfl;
                        have g50 := HY5.out.free 0;
                        have g51 := HY5.out.free 1;
                        have g52 := HY5.out.free 2;
                        have g53 := HY5.out.free 3)
      have hb := put4_blk (nd := nd5) HY5.out
      refine bodyPost_ret (results_half rfl rfl hb) rfl ?_
      have hO : Oth w5 (w.heap.size + 1) := HY5.out.oth (by decide) (by decide) (by decide)
      have hg := put4_grown w5 (w.heap.size + 1) nd5
      have hk5 : Kids w5 d (ts.take k' ++ [t3'] ++ ts.drop (k' + 1)) bs5 := by
        rw [HE5.out]
        exact (((HKS.out.below HB5.out).take k').append (Kids.one (HLT.out.below HB5.out (Nat.le_refl _)))).append ((HKS.out.below HB5.out).drop (k' + 1))
      have hkt := HQ.out.2.2.2.2.2.1
      have hlt := (List.getElem?_eq_some_iff.1 hkt).1
      have hlen : (ts.take k' ++ [t3'] ++ ts.drop (k' + 1)).length = ps.length + 1 := by rw [← HQ.out.2.2.2.2.1]; simp; omega
      refine ⟨nd5, (⟨#[]⟩, ⟨#[]⟩), none, .one (ps, ts.take k' ++ [t3'] ++ ts.drop (k' + 1)), rfl, ⟨nd5, rfl, a, n, cap, a5, n5, cap5, bs5, HN5.out.1.oth hg hO, HC.out.2, HN5.out.2.1.oth hg hO, HN5.out.2.2, hk5.1, fun i kk b' h1 h2 => (hk5.2 i kk b' h1 h2).oth hg hO⟩, ⟨?_, ⟨⟨hlen, ?_⟩, ?_⟩, ?_⟩, ?_⟩
      · show inter ((ts.take k' ++ [t3'] ++ ts.drop (k' + 1)).map (tl d)) ps = _
        rw [List.map_append, List.map_append, List.map_take, List.map_drop]
        rw [show List.map (tl d) [t3'] = [tl d t3'] from rfl]
        rw [inter_set (by simpa using HQ.out.2.2.2.2.1) (kid_map hkt)]
        have e : tl d t3' = insP (tl d kt) (k0, v0) := HO.out.1
        rw [e]
      · intro kk hkk
        rw [List.mem_append, List.mem_append] at hkk
        rcases hkk with (hkk | hkk) | hkk
        · exact HQ.out.2.2.2.1 kk (List.mem_of_mem_take hkk)
        · rw [List.mem_singleton.1 hkk]
          have h1 := HO.out.2.1
          have h2 := HO.out.2.2 t3' rfl
          have h3 := HQ.out.2.2.2.2.2.2.2.2
          exact ⟨h1.1, by omega, h1.2⟩
        · exact HQ.out.2.2.2.1 kk (List.mem_of_mem_drop hkk)
      · show ps.length ≤ 7; rw [HD.out.rd.1]; exact HC.out.1
      · intro t' ht'; cases ht'; exact Nat.le_refl _
      · exact put4_below (HBW.out.trans (HB5.out.mono HBW.out.size)) (by omega)
    | two l m r =>
      obtain ⟨bl, br, hbb, hl1, hl2⟩ := HP.out.lies
      obtain ⟨rfl, rfl, rfl⟩ : b3 = bl ∧ y3 = m ∧ r3 = some ⟨br, 0, none⟩ := by
        simp only [hv, two, Value.agg.injEq, Array.mk.injEq, List.cons.injEq, Value.pointer.injEq, Option.some.injEq, Addr.mk.injEq, Value.string.injEq, and_true] at hbb
        exact ⟨hbb.1, Prod.ext hbb.2.1 hbb.2.2.1, hbb.2.2.2⟩
      have HLL : Hid (Lies W d l b3 ∧ Lies W d r br) := ⟨hl1, hl2⟩
      clear hbb hl1 hl2
      have HK11 : Hid (∀ W', Below W.heap.size W W' → (fun w' => w'.cell? ⟨nd, 0, none⟩ = some (.slice a n cap) ∧ w'.cell? ⟨nd, 1, none⟩ = some (.slice (some ⟨gk, offk, none⟩) n' cap') ∧ w'.cell? ⟨tb, 0, none⟩ = some (.pointer (some ⟨b3, 0, none⟩)) ∧ w'.cell? ⟨tb, 1, none⟩ = some (.string y3.1) ∧ w'.cell? ⟨tb, 2, none⟩ = some (.string y3.2) ∧ w'.cell? ⟨tb, 3, none⟩ = some (.pointer (some ⟨br, 0, none⟩))) W') := fun W' hW => ⟨(hW.cell (p := ⟨nd, 0, none⟩) HND.out.blk.lt).trans d0, (hW.cell (p := ⟨nd, 1, none⟩) HND.out.blk.lt).trans d1, (hW.cell (p := ⟨tb, 0, none⟩) HTB.out.2).trans t0, (hW.cell (p := ⟨tb, 1, none⟩) HTB.out.2).trans t1, (hW.cell (p := ⟨tb, 2, none⟩) HTB.out.2).trans t2, (hW.cell (p := ⟨tb, 3, none⟩) HTB.out.2).trans t3⟩
      have HK11s : Hid (∀ W' b y r, Below W.heap.size W W' → (fun w' => w'.cell? ⟨nd, 0, none⟩ = some (.slice a n cap) ∧ w'.cell? ⟨nd, 1, none⟩ = some (.slice (some ⟨gk, offk, none⟩) n' cap') ∧ w'.cell? ⟨tb, 0, none⟩ = some (.pointer (some ⟨b3, 0, none⟩)) ∧ w'.cell? ⟨tb, 1, none⟩ = some (.string y3.1) ∧ w'.cell? ⟨tb, 2, none⟩ = some (.string y3.2) ∧ w'.cell? ⟨tb, 3, none⟩ = some (.pointer (some ⟨br, 0, none⟩))) (put4v W' (w.heap.size + 1) b y r)) := fun W' b y r hW => by
        have hg := put4v_grown W' (w.heap.size + 1) b y r
        obtain ⟨h0, h1, h2, h3, h4, h5⟩ := HK11.out W' hW
        have hnl := HL.out
        have htl := HTB.out.1
        exact ⟨hg.cell h0 (by simp; omega), hg.cell h1 (by simp; omega), hg.cell h2 (by simp; omega), hg.cell h3 (by simp; omega), hg.cell h4 (by simp; omega), hg.cell h5 (by simp; omega)⟩
      have BP : Hid (Below W.heap.size W (W.alloc (Obj.cells #[Value.string y3.1, Value.string y3.2] 40)).drew) := ((Below.refl _ W).alloc (Nat.le_refl _) _).drew
      have BK : Hid (Below W.heap.size W (W.alloc (Obj.cells #[Value.pointer (some { block := b3, off := 0 }), Value.pointer (some { block := br, off := 0 })] 46)).drew) := ((Below.refl _ W).alloc (Nat.le_refl _) _).drew
      have BPK : Hid (Below W.heap.size W ((W.alloc (Obj.cells #[Value.string y3.1, Value.string y3.2] 40)).alloc (Obj.cells #[Value.pointer (some { block := b3, off := 0 }), Value.pointer (some { block := br, off := 0 })] 46)).drew) := (((Below.refl _ W).alloc (Nat.le_refl _) _).alloc (by simp) _).drew
      have BKP : Hid (Below W.heap.size W ((W.alloc (Obj.cells #[Value.pointer (some { block := b3, off := 0 }), Value.pointer (some { block := br, off := 0 })] 46)).alloc (Obj.cells #[Value.string y3.1, Value.string y3.2] 40)).drew) := (((Below.refl _ W).alloc (Nat.le_refl _) _).alloc (by simp) _).drew
      have RP1 : Hid (RdP (W.alloc (Obj.cells #[Value.string y3.1, Value.string y3.2] 40)).drew (some ⟨W.heap.size, 0, none⟩) 1 [y3]) := rdp_one (Blk.new W #[.string y3.1, .string y3.2] 40).drew
      have RP2 : Hid (RdP ((W.alloc (Obj.cells #[Value.string y3.1, Value.string y3.2] 40)).alloc (Obj.cells #[Value.pointer (some { block := b3, off := 0 }), Value.pointer (some { block := br, off := 0 })] 46)).drew (some ⟨W.heap.size, 0, none⟩) 1 [y3]) := rdp_one ((Blk.new W #[.string y3.1, .string y3.2] 40).alloc _).drew
      have RP3 : Hid (RdP ((W.alloc (Obj.cells #[Value.pointer (some { block := b3, off := 0 }), Value.pointer (some { block := br, off := 0 })] 46)).alloc (Obj.cells #[Value.string y3.1, Value.string y3.2] 40)).drew (some ⟨W.heap.size + 1, 0, none⟩) 1 [y3]) := by
        have e := Blk.new (W.alloc (Obj.cells #[Value.pointer (some { block := b3, off := 0 }), Value.pointer (some { block := br, off := 0 })] 46)) #[.string y3.1, .string y3.2] 40
        rw [World.size_alloc] at e
        exact rdp_one e.drew
      have RK2 : Hid (RdK ((W.alloc (Obj.cells #[Value.string y3.1, Value.string y3.2] 40)).alloc (Obj.cells #[Value.pointer (some { block := b3, off := 0 }), Value.pointer (some { block := br, off := 0 })] 46)).drew (some ⟨W.heap.size + 1, 0, none⟩) 2 [b3, br]) := by
        have e := Blk.new (W.alloc (Obj.cells #[Value.string y3.1, Value.string y3.2] 40)) #[kp b3, kp br] 46
        rw [World.size_alloc] at e
        exact rdk_two e.drew
      have RK3 : Hid (RdK ((W.alloc (Obj.cells #[Value.pointer (some { block := b3, off := 0 }), Value.pointer (some { block := br, off := 0 })] 46)).alloc (Obj.cells #[Value.string y3.1, Value.string y3.2] 40)).drew (some ⟨W.heap.size, 0, none⟩) 2 [b3, br]) := rdk_two ((Blk.new W #[kp b3, kp br] 46).alloc _).drew
      have HJ : Hid (IntKind.i64.wrap ((k' : Int) + 1) = ((k' + 1 : Nat) : Int)) := by show _ = _; have := HC.out; rw [IntKind.wrap_i64]; omega
      have H40a : Hid (Calls Try.prog 40 #[.slice a n cap, .int .i64 (k' : Int), .int .i64 (k' : Int), .slice (some ⟨W.heap.size, 0, none⟩) 1 1] (W.alloc (Obj.cells #[Value.string y3.1, Value.string y3.2] 40)).drew (SpP (W.alloc (Obj.cells #[Value.string y3.1, Value.string y3.2] 40)).drew k' k' n 1 ps [y3])) := spP (W.alloc (Obj.cells #[Value.string y3.1, Value.string y3.2] 40)).drew a n cap k' k' _ _ rfl rfl ps (some ⟨W.heap.size, 0, none⟩) 1 1 [y3] (HND.out.below BP.out (Nat.le_refl _)).rd HC.out.2 (Nat.le_refl _) hkn RP1.out (by have := HC.out; omega)
      have H40b : Hid (Calls Try.prog 40 #[.slice a n cap, .int .i64 (k' : Int), .int .i64 (k' : Int), .slice (some ⟨W.heap.size, 0, none⟩) 1 1] ((W.alloc (Obj.cells #[Value.string y3.1, Value.string y3.2] 40)).alloc (Obj.cells #[Value.pointer (some { block := b3, off := 0 }), Value.pointer (some { block := br, off := 0 })] 46)).drew (SpP ((W.alloc (Obj.cells #[Value.string y3.1, Value.string y3.2] 40)).alloc (Obj.cells #[Value.pointer (some { block := b3, off := 0 }), Value.pointer (some { block := br, off := 0 })] 46)).drew k' k' n 1 ps [y3])) := spP ((W.alloc (Obj.cells #[Value.string y3.1, Value.string y3.2] 40)).alloc (Obj.cells #[Value.pointer (some { block := b3, off := 0 }), Value.pointer (some { block := br, off := 0 })] 46)).drew a n cap k' k' _ _ rfl rfl ps (some ⟨W.heap.size, 0, none⟩) 1 1 [y3] (HND.out.below BPK.out (Nat.le_refl _)).rd HC.out.2 (Nat.le_refl _) hkn RP2.out (by have := HC.out; omega)
      have H40c : Hid (Calls Try.prog 40 #[.slice a n cap, .int .i64 (k' : Int), .int .i64 (k' : Int), .slice (some ⟨W.heap.size + 1, 0, none⟩) 1 1] ((W.alloc (Obj.cells #[Value.pointer (some { block := b3, off := 0 }), Value.pointer (some { block := br, off := 0 })] 46)).alloc (Obj.cells #[Value.string y3.1, Value.string y3.2] 40)).drew (SpP ((W.alloc (Obj.cells #[Value.pointer (some { block := b3, off := 0 }), Value.pointer (some { block := br, off := 0 })] 46)).alloc (Obj.cells #[Value.string y3.1, Value.string y3.2] 40)).drew k' k' n 1 ps [y3])) := spP ((W.alloc (Obj.cells #[Value.pointer (some { block := b3, off := 0 }), Value.pointer (some { block := br, off := 0 })] 46)).alloc (Obj.cells #[Value.string y3.1, Value.string y3.2] 40)).drew a n cap k' k' _ _ rfl rfl ps (some ⟨W.heap.size + 1, 0, none⟩) 1 1 [y3] (HND.out.below BKP.out (Nat.le_refl _)).rd HC.out.2 (Nat.le_refl _) hkn RP3.out (by have := HC.out; omega)
      go_wp2_with fail
      go_region_held_law (fun w' => w'.cell? ⟨nd, 0, none⟩ = some (.slice a n cap) ∧ w'.cell? ⟨nd, 1, none⟩ = some (.slice (some ⟨gk, offk, none⟩) n' cap') ∧ w'.cell? ⟨tb, 0, none⟩ = some (.pointer (some ⟨b3, 0, none⟩)) ∧ w'.cell? ⟨tb, 1, none⟩ = some (.string y3.1) ∧ w'.cell? ⟨tb, 2, none⟩ = some (.string y3.2) ∧ w'.cell? ⟨tb, 3, none⟩ = some (.pointer (some ⟨br, 0, none⟩)))
        (first | with_reducible exact HK11.out _ (Below.refl _ W).drew | with_reducible exact HK11.out _ BP.out | with_reducible exact HK11.out _ BK.out | with_reducible exact HK11.out _ BPK.out | with_reducible exact HK11.out _ BKP.out | with_reducible exact HK11.out _ HB5.out | with_reducible exact HK11.out _ (HB5.out.alloc HB5.out.size _) | with_reducible exact HK11.out _ HB6.out | with_reducible exact HK11.out _ HB7.out | exact HK11s.out _ _ _ _ HB7.out)
        (first
        | (go_at_call 40; (with_reducible refine Calls.mono H40a.out ?_); rintro e w5 ⟨a5, n5, cap5, R5, rfl, HE5, HR5, hB5⟩; have HB5 : Hid (Below W.heap.size W w5) := BP.out.trans (hB5.out.mono BP.out.size); have H45 : Hid (Calls Try.prog 45 #[.slice (some ⟨gk, offk, none⟩) n' cap', .int .i64 (k' : Int), .int .i64 (IntKind.i64.wrap ((k' : Int) + 1)), .slice (some ⟨w5.heap.size, 0, none⟩) 2 2] (w5.alloc (Obj.cells #[Value.pointer (some { block := b3, off := 0 }), Value.pointer (some { block := br, off := 0 })] 46)) (SpK (w5.alloc (Obj.cells #[Value.pointer (some { block := b3, off := 0 }), Value.pointer (some { block := br, off := 0 })] 46)) k' (k' + 1) n' 2 bs [b3, br])) := spK (w5.alloc (Obj.cells #[Value.pointer (some { block := b3, off := 0 }), Value.pointer (some { block := br, off := 0 })] 46)) (some ⟨gk, offk, none⟩) n' cap' k' (k' + 1) _ _ rfl HJ.out bs (some ⟨w5.heap.size, 0, none⟩) 2 2 [b3, br] (HRK.out.below (HB5.out.alloc HB5.out.size _) (Nat.le_refl _)) HQ.out.2.1 (by omega) (by have := HNN.out; omega) (rdk_two (Blk.new w5 #[kp b3, kp br] 46)) (by have := HNN.out; have := HC.out; omega); have H56 : Hid (∀ w6, Below (w5.alloc (Obj.cells #[Value.pointer (some { block := b3, off := 0 }), Value.pointer (some { block := br, off := 0 })] 46)).heap.size (w5.alloc (Obj.cells #[Value.pointer (some { block := b3, off := 0 }), Value.pointer (some { block := br, off := 0 })] 46)) w6 → Below w5.heap.size w5 w6) := fun w6 h => ((Below.refl _ w5).alloc (Nat.le_refl _) _).trans (h.mono (by simp)); clear hB5)
        | (go_at_call 40; (with_reducible refine Calls.mono H40b.out ?_); rintro e w5 ⟨a5, n5, cap5, R5, rfl, HE5, HR5, hB5⟩; have HB5 : Hid (Below W.heap.size W w5) := BPK.out.trans (hB5.out.mono BPK.out.size); have H45 : Hid (Calls Try.prog 45 #[.slice (some ⟨gk, offk, none⟩) n' cap', .int .i64 (k' : Int), .int .i64 (IntKind.i64.wrap ((k' : Int) + 1)), .slice (some ⟨W.heap.size + 1, 0, none⟩) 2 2] w5 (SpK w5 k' (k' + 1) n' 2 bs [b3, br])) := spK w5 (some ⟨gk, offk, none⟩) n' cap' k' (k' + 1) _ _ rfl HJ.out bs (some ⟨W.heap.size + 1, 0, none⟩) 2 2 [b3, br] (HRK.out.below HB5.out (Nat.le_refl _)) HQ.out.2.1 (by omega) (by have := HNN.out; omega) (RK2.out.below hB5.out (Nat.le_refl _)) (by have := HNN.out; have := HC.out; omega); have H56 : Hid (∀ w6, Below w5.heap.size w5 w6 → Below w5.heap.size w5 w6) := fun w6 h => h; clear hB5)
        | (go_at_call 40; (with_reducible refine Calls.mono H40c.out ?_); rintro e w5 ⟨a5, n5, cap5, R5, rfl, HE5, HR5, hB5⟩; have HB5 : Hid (Below W.heap.size W w5) := BKP.out.trans (hB5.out.mono BKP.out.size); have H45 : Hid (Calls Try.prog 45 #[.slice (some ⟨gk, offk, none⟩) n' cap', .int .i64 (k' : Int), .int .i64 (IntKind.i64.wrap ((k' : Int) + 1)), .slice (some ⟨W.heap.size, 0, none⟩) 2 2] w5 (SpK w5 k' (k' + 1) n' 2 bs [b3, br])) := spK w5 (some ⟨gk, offk, none⟩) n' cap' k' (k' + 1) _ _ rfl HJ.out bs (some ⟨W.heap.size, 0, none⟩) 2 2 [b3, br] (HRK.out.below HB5.out (Nat.le_refl _)) HQ.out.2.1 (by omega) (by have := HNN.out; omega) (RK3.out.below hB5.out (Nat.le_refl _)) (by have := HNN.out; have := HC.out; omega); have H56 : Hid (∀ w6, Below w5.heap.size w5 w6 → Below w5.heap.size w5 w6) := fun w6 h => h; clear hB5)
        | (go_at_call 45; (with_reducible refine Calls.mono H45.out ?_); rintro e w6 ⟨a6, n6, cap6, R6, rfl, HE6, HR6, hB6⟩; have HB56 : Hid (Below w5.heap.size w5 w6) := H56.out w6 hB6.out; have HB6 : Hid (Below W.heap.size W w6) := HB5.out.trans (HB56.out.mono HB5.out.size); clear hB6)
        | (go_at_call 44; refine (cut_node w6 d a5 a6 n5 cap5 n6 cap6 R5 (ts.take k' ++ [l, r] ++ ts.drop (k' + 1)) R6 (HR5.out.1.below HB56.out (Nat.le_refl _)) HR5.out.2 (by have := HE5.out.2; have := HC.out; omega) HR6.out.1 HR6.out.2 (two_len HQ.out.2.2.2.2.1 HQ.out.2.2.2.2.2.1 HE5.out.1) (two_kids HKS.out HLL.out.1 HLL.out.2 HB6.out HE6.out.1) (two_ok HQ.out.2.2.2.1 HO.out.2.1)).mono ?_; rintro e w7 ⟨v7, H7, rfl, HL7, HO7, hB7⟩; obtain ⟨b7, y7, r7, rfl⟩ := HL7.out.form; unfold hv; have HB7 : Hid (Below W.heap.size W w7) := HB6.out.trans (hB7.out.mono HB6.out.size); clear hB7;
            have HY7 : Hid (Blk w7 (w.heap.size + 1) 59 [Value.pointer none, Value.string { data := #[] }, Value.string { data := #[] }, Value.pointer none]) := HYB.out.below HB7.out HYB.out.lt;
            have y0 := HY7.out.cell (i := 0) rfl; have y1 := HY7.out.cell (i := 1) rfl; have y2 := HY7.out.cell (i := 2) rfl; have y33 := HY7.out.cell (i := 3) rfl;
            have f0 := HY7.out.free 0; have f1 := HY7.out.free 1; have f2 := HY7.out.free 2; have f3 := HY7.out.free 3))
      all_goals go_wp2
      all_goals refine bodyPost_ret (results_hv rfl rfl (put4v_blk (nd := b7) (y := y7) (r := r7) HY7.out rfl)) rfl ?_
      all_goals refine ⟨b7, y7, r7, H7, rfl, HL7.out.oth (put4v_grown _ _ _ _ _) (HY7.out.oth (by decide) (by decide) (by decide)), ⟨two_list HQ.out.2.2.2.2.1 HQ.out.2.2.2.2.2.1 HO7.out.1 HE5.out.1 HO.out.1, HO7.out.2.1, ?_⟩, put4v_below (HBW.out.trans (HB7.out.mono HBW.out.size)) (by omega)⟩
      all_goals exact two_grow HD.out.rd.1 HE5.out.2 hkn HO7.out.2.2.1 HO7.out.2.2.2
  · obtain ⟨W, hW⟩ : ∃ W, W = put4v w3 w1.heap.size b3 y3 r3 := ⟨_, rfl⟩
    obtain ⟨tb, htb⟩ : ∃ tb, w1.heap.size = tb := ⟨_, rfl⟩
    have hP : P8 w1 W tb b3 y3 r3 H3 := by
      rw [hW, ← htb]
      exact ⟨put4v_blk HF.out rfl, HL3.out.oth (put4v_grown _ _ _ _ _) (HF.out.oth (by decide) (by decide) (by decide)), put4v_below HB3.out (Nat.le_refl _), Nat.le_refl _⟩
    have hW2 := hW
    unfold put4v at hW2
    rw [← hW2]
    have hz : Hid (w1.heap.size = tb) := htb
    rw [htb]
    clear hW hW2 htb z0 z1 z2 z3 f0 f1 f2 f3
    have HP : Hid (P8 w1 W tb b3 y3 r3 H3) := hP
    have HO : Hid (H3.list = insP (tl d kt) (k0, v0) ∧ H3.ok ∧ (∀ t', H3 = .one t' → (prs d kt).length ≤ (prs d t').length)) := HO3
    have HND : Hid (Nd W nd a n cap ps (.slice (some ⟨gk, offk, none⟩) n' cap')) := HD1.out.below hP.be (Nat.le_refl _)
    have HRK : Hid (RdK W (some ⟨gk, offk, none⟩) n' bs) := (HQ.out.1.below HW.out (Nat.le_refl _)).below hP.be (Nat.le_refl _)
    have HKS : Hid (Kids W d ts bs) := (HQ.out.2.2.1.below HW.out).below hP.be
    have HYB : Hid (Blk W (w.heap.size + 1) 59 [Value.pointer none, Value.string { data := #[] }, Value.string { data := #[] }, Value.pointer none]) := HY.out.below hP.be (by omega)
    have HBW : Hid (Below w.heap.size w W) := HW.out.trans (hP.be.mono (by omega))
    have hSW : w1.heap.size ≤ W.heap.size := hP.be.size
    have HTB : Hid (w.heap.size + 1 < tb ∧ tb < W.heap.size) := ⟨by have := hP.le; omega, hP.blk.lt⟩
    have t0 := hP.blk.cell (i := 0) rfl
    have t1 := hP.blk.cell (i := 1) rfl
    have t2 := hP.blk.cell (i := 2) rfl
    have t3 := hP.blk.cell (i := 3) rfl
    have d0 := HND.out.blk.cell (i := 0) rfl
    have d1 := HND.out.blk.cell (i := 1) rfl
    clear hP HO3 c0 c1 x0 x1 ck HD1 HX HY HL3 HB3 HF
    cases H3 with
    | one t3' =>
      obtain ⟨bb, hbb, hlies⟩ := HP.out.lies
      obtain ⟨rfl, hyy, rfl⟩ : b3 = bb ∧ y3 = (⟨#[]⟩, ⟨#[]⟩) ∧ r3 = none := by
        simp only [hv, one, Value.agg.injEq, Array.mk.injEq, List.cons.injEq, Value.pointer.injEq, Option.some.injEq, Addr.mk.injEq, Value.string.injEq, and_true] at hbb
        exact ⟨hbb.1, Prod.ext hbb.2.1 hbb.2.2.1, hbb.2.2.2⟩
      have HLT : Hid (Lies W d t3' b3) := hlies
      clear hbb hlies hyy
      go_wp2_with (go_at_call 42; refine (withKid_is W nd n cap n' cap' b3 k' a (some ⟨gk, offk, none⟩) ps bs HND.out HRK.out HQ.out.2.1 (by have := HNN.out; omega) (by have := HNN.out; have := HC.out; omega)).mono ?_; rintro e w5 ⟨nd5, a5, n5, cap5, bs5, rfl, HE5, HN5, HB5⟩;
                        have HY5 : Hid (Blk w5 (w.heap.size + 1) 59 [Value.pointer none, Value.string { data := #[] }, Value.string { data := #[] }, Value.pointer none]) := HYB.out.below HB5.out HYB.out.lt;
                        have y50 := HY5.out.cell (i := 0) rfl;
                        have y51 := HY5.out.cell (i := 1) rfl;
                        have y52 := HY5.out.cell (i := 2) rfl;
                        have y53 := HY5.out.cell (i := 3) rfl;
                        have g50 := HY5.out.free 0;
                        have g51 := HY5.out.free 1;
                        have g52 := HY5.out.free 2;
                        have g53 := HY5.out.free 3)
      have hb := put4_blk (nd := nd5) HY5.out
      refine bodyPost_ret (results_half rfl rfl hb) rfl ?_
      have hO : Oth w5 (w.heap.size + 1) := HY5.out.oth (by decide) (by decide) (by decide)
      have hg := put4_grown w5 (w.heap.size + 1) nd5
      have hk5 : Kids w5 d (ts.take k' ++ [t3'] ++ ts.drop (k' + 1)) bs5 := by
        rw [HE5.out]
        exact (((HKS.out.below HB5.out).take k').append (Kids.one (HLT.out.below HB5.out (Nat.le_refl _)))).append ((HKS.out.below HB5.out).drop (k' + 1))
      have hkt := HQ.out.2.2.2.2.2.1
      have hlt := (List.getElem?_eq_some_iff.1 hkt).1
      have hlen : (ts.take k' ++ [t3'] ++ ts.drop (k' + 1)).length = ps.length + 1 := by rw [← HQ.out.2.2.2.2.1]; simp; omega
      refine ⟨nd5, (⟨#[]⟩, ⟨#[]⟩), none, .one (ps, ts.take k' ++ [t3'] ++ ts.drop (k' + 1)), rfl, ⟨nd5, rfl, a, n, cap, a5, n5, cap5, bs5, HN5.out.1.oth hg hO, HC.out.2, HN5.out.2.1.oth hg hO, HN5.out.2.2, hk5.1, fun i kk b' h1 h2 => (hk5.2 i kk b' h1 h2).oth hg hO⟩, ⟨?_, ⟨⟨hlen, ?_⟩, ?_⟩, ?_⟩, ?_⟩
      · show inter ((ts.take k' ++ [t3'] ++ ts.drop (k' + 1)).map (tl d)) ps = _
        rw [List.map_append, List.map_append, List.map_take, List.map_drop]
        rw [show List.map (tl d) [t3'] = [tl d t3'] from rfl]
        rw [inter_set (by simpa using HQ.out.2.2.2.2.1) (kid_map hkt)]
        have e : tl d t3' = insP (tl d kt) (k0, v0) := HO.out.1
        rw [e]
      · intro kk hkk
        rw [List.mem_append, List.mem_append] at hkk
        rcases hkk with (hkk | hkk) | hkk
        · exact HQ.out.2.2.2.1 kk (List.mem_of_mem_take hkk)
        · rw [List.mem_singleton.1 hkk]
          have h1 := HO.out.2.1
          have h2 := HO.out.2.2 t3' rfl
          have h3 := HQ.out.2.2.2.2.2.2.2.2
          exact ⟨h1.1, by omega, h1.2⟩
        · exact HQ.out.2.2.2.1 kk (List.mem_of_mem_drop hkk)
      · show ps.length ≤ 7; rw [HD.out.rd.1]; exact HC.out.1
      · intro t' ht'; cases ht'; exact Nat.le_refl _
      · exact put4_below (HBW.out.trans (HB5.out.mono HBW.out.size)) (by omega)
    | two l m r =>
      obtain ⟨bl, br, hbb, hl1, hl2⟩ := HP.out.lies
      obtain ⟨rfl, rfl, rfl⟩ : b3 = bl ∧ y3 = m ∧ r3 = some ⟨br, 0, none⟩ := by
        simp only [hv, two, Value.agg.injEq, Array.mk.injEq, List.cons.injEq, Value.pointer.injEq, Option.some.injEq, Addr.mk.injEq, Value.string.injEq, and_true] at hbb
        exact ⟨hbb.1, Prod.ext hbb.2.1 hbb.2.2.1, hbb.2.2.2⟩
      have HLL : Hid (Lies W d l b3 ∧ Lies W d r br) := ⟨hl1, hl2⟩
      clear hbb hl1 hl2
      have HK11 : Hid (∀ W', Below W.heap.size W W' → (fun w' => w'.cell? ⟨nd, 0, none⟩ = some (.slice a n cap) ∧ w'.cell? ⟨nd, 1, none⟩ = some (.slice (some ⟨gk, offk, none⟩) n' cap') ∧ w'.cell? ⟨tb, 0, none⟩ = some (.pointer (some ⟨b3, 0, none⟩)) ∧ w'.cell? ⟨tb, 1, none⟩ = some (.string y3.1) ∧ w'.cell? ⟨tb, 2, none⟩ = some (.string y3.2) ∧ w'.cell? ⟨tb, 3, none⟩ = some (.pointer (some ⟨br, 0, none⟩))) W') := fun W' hW => ⟨(hW.cell (p := ⟨nd, 0, none⟩) HND.out.blk.lt).trans d0, (hW.cell (p := ⟨nd, 1, none⟩) HND.out.blk.lt).trans d1, (hW.cell (p := ⟨tb, 0, none⟩) HTB.out.2).trans t0, (hW.cell (p := ⟨tb, 1, none⟩) HTB.out.2).trans t1, (hW.cell (p := ⟨tb, 2, none⟩) HTB.out.2).trans t2, (hW.cell (p := ⟨tb, 3, none⟩) HTB.out.2).trans t3⟩
      have HK11s : Hid (∀ W' b y r, Below W.heap.size W W' → (fun w' => w'.cell? ⟨nd, 0, none⟩ = some (.slice a n cap) ∧ w'.cell? ⟨nd, 1, none⟩ = some (.slice (some ⟨gk, offk, none⟩) n' cap') ∧ w'.cell? ⟨tb, 0, none⟩ = some (.pointer (some ⟨b3, 0, none⟩)) ∧ w'.cell? ⟨tb, 1, none⟩ = some (.string y3.1) ∧ w'.cell? ⟨tb, 2, none⟩ = some (.string y3.2) ∧ w'.cell? ⟨tb, 3, none⟩ = some (.pointer (some ⟨br, 0, none⟩))) (put4v W' (w.heap.size + 1) b y r)) := fun W' b y r hW => by
        have hg := put4v_grown W' (w.heap.size + 1) b y r
        obtain ⟨h0, h1, h2, h3, h4, h5⟩ := HK11.out W' hW
        have hnl := HL.out
        have htl := HTB.out.1
        exact ⟨hg.cell h0 (by simp; omega), hg.cell h1 (by simp; omega), hg.cell h2 (by simp; omega), hg.cell h3 (by simp; omega), hg.cell h4 (by simp; omega), hg.cell h5 (by simp; omega)⟩
      have BP : Hid (Below W.heap.size W (W.alloc (Obj.cells #[Value.string y3.1, Value.string y3.2] 40)).drew) := ((Below.refl _ W).alloc (Nat.le_refl _) _).drew
      have BK : Hid (Below W.heap.size W (W.alloc (Obj.cells #[Value.pointer (some { block := b3, off := 0 }), Value.pointer (some { block := br, off := 0 })] 46)).drew) := ((Below.refl _ W).alloc (Nat.le_refl _) _).drew
      have BPK : Hid (Below W.heap.size W ((W.alloc (Obj.cells #[Value.string y3.1, Value.string y3.2] 40)).alloc (Obj.cells #[Value.pointer (some { block := b3, off := 0 }), Value.pointer (some { block := br, off := 0 })] 46)).drew) := (((Below.refl _ W).alloc (Nat.le_refl _) _).alloc (by simp) _).drew
      have BKP : Hid (Below W.heap.size W ((W.alloc (Obj.cells #[Value.pointer (some { block := b3, off := 0 }), Value.pointer (some { block := br, off := 0 })] 46)).alloc (Obj.cells #[Value.string y3.1, Value.string y3.2] 40)).drew) := (((Below.refl _ W).alloc (Nat.le_refl _) _).alloc (by simp) _).drew
      have RP1 : Hid (RdP (W.alloc (Obj.cells #[Value.string y3.1, Value.string y3.2] 40)).drew (some ⟨W.heap.size, 0, none⟩) 1 [y3]) := rdp_one (Blk.new W #[.string y3.1, .string y3.2] 40).drew
      have RP2 : Hid (RdP ((W.alloc (Obj.cells #[Value.string y3.1, Value.string y3.2] 40)).alloc (Obj.cells #[Value.pointer (some { block := b3, off := 0 }), Value.pointer (some { block := br, off := 0 })] 46)).drew (some ⟨W.heap.size, 0, none⟩) 1 [y3]) := rdp_one ((Blk.new W #[.string y3.1, .string y3.2] 40).alloc _).drew
      have RP3 : Hid (RdP ((W.alloc (Obj.cells #[Value.pointer (some { block := b3, off := 0 }), Value.pointer (some { block := br, off := 0 })] 46)).alloc (Obj.cells #[Value.string y3.1, Value.string y3.2] 40)).drew (some ⟨W.heap.size + 1, 0, none⟩) 1 [y3]) := by
        have e := Blk.new (W.alloc (Obj.cells #[Value.pointer (some { block := b3, off := 0 }), Value.pointer (some { block := br, off := 0 })] 46)) #[.string y3.1, .string y3.2] 40
        rw [World.size_alloc] at e
        exact rdp_one e.drew
      have RK2 : Hid (RdK ((W.alloc (Obj.cells #[Value.string y3.1, Value.string y3.2] 40)).alloc (Obj.cells #[Value.pointer (some { block := b3, off := 0 }), Value.pointer (some { block := br, off := 0 })] 46)).drew (some ⟨W.heap.size + 1, 0, none⟩) 2 [b3, br]) := by
        have e := Blk.new (W.alloc (Obj.cells #[Value.string y3.1, Value.string y3.2] 40)) #[kp b3, kp br] 46
        rw [World.size_alloc] at e
        exact rdk_two e.drew
      have RK3 : Hid (RdK ((W.alloc (Obj.cells #[Value.pointer (some { block := b3, off := 0 }), Value.pointer (some { block := br, off := 0 })] 46)).alloc (Obj.cells #[Value.string y3.1, Value.string y3.2] 40)).drew (some ⟨W.heap.size, 0, none⟩) 2 [b3, br]) := rdk_two ((Blk.new W #[kp b3, kp br] 46).alloc _).drew
      have HJ : Hid (IntKind.i64.wrap ((k' : Int) + 1) = ((k' + 1 : Nat) : Int)) := by show _ = _; have := HC.out; rw [IntKind.wrap_i64]; omega
      have H40a : Hid (Calls Try.prog 40 #[.slice a n cap, .int .i64 (k' : Int), .int .i64 (k' : Int), .slice (some ⟨W.heap.size, 0, none⟩) 1 1] (W.alloc (Obj.cells #[Value.string y3.1, Value.string y3.2] 40)).drew (SpP (W.alloc (Obj.cells #[Value.string y3.1, Value.string y3.2] 40)).drew k' k' n 1 ps [y3])) := spP (W.alloc (Obj.cells #[Value.string y3.1, Value.string y3.2] 40)).drew a n cap k' k' _ _ rfl rfl ps (some ⟨W.heap.size, 0, none⟩) 1 1 [y3] (HND.out.below BP.out (Nat.le_refl _)).rd HC.out.2 (Nat.le_refl _) hkn RP1.out (by have := HC.out; omega)
      have H40b : Hid (Calls Try.prog 40 #[.slice a n cap, .int .i64 (k' : Int), .int .i64 (k' : Int), .slice (some ⟨W.heap.size, 0, none⟩) 1 1] ((W.alloc (Obj.cells #[Value.string y3.1, Value.string y3.2] 40)).alloc (Obj.cells #[Value.pointer (some { block := b3, off := 0 }), Value.pointer (some { block := br, off := 0 })] 46)).drew (SpP ((W.alloc (Obj.cells #[Value.string y3.1, Value.string y3.2] 40)).alloc (Obj.cells #[Value.pointer (some { block := b3, off := 0 }), Value.pointer (some { block := br, off := 0 })] 46)).drew k' k' n 1 ps [y3])) := spP ((W.alloc (Obj.cells #[Value.string y3.1, Value.string y3.2] 40)).alloc (Obj.cells #[Value.pointer (some { block := b3, off := 0 }), Value.pointer (some { block := br, off := 0 })] 46)).drew a n cap k' k' _ _ rfl rfl ps (some ⟨W.heap.size, 0, none⟩) 1 1 [y3] (HND.out.below BPK.out (Nat.le_refl _)).rd HC.out.2 (Nat.le_refl _) hkn RP2.out (by have := HC.out; omega)
      have H40c : Hid (Calls Try.prog 40 #[.slice a n cap, .int .i64 (k' : Int), .int .i64 (k' : Int), .slice (some ⟨W.heap.size + 1, 0, none⟩) 1 1] ((W.alloc (Obj.cells #[Value.pointer (some { block := b3, off := 0 }), Value.pointer (some { block := br, off := 0 })] 46)).alloc (Obj.cells #[Value.string y3.1, Value.string y3.2] 40)).drew (SpP ((W.alloc (Obj.cells #[Value.pointer (some { block := b3, off := 0 }), Value.pointer (some { block := br, off := 0 })] 46)).alloc (Obj.cells #[Value.string y3.1, Value.string y3.2] 40)).drew k' k' n 1 ps [y3])) := spP ((W.alloc (Obj.cells #[Value.pointer (some { block := b3, off := 0 }), Value.pointer (some { block := br, off := 0 })] 46)).alloc (Obj.cells #[Value.string y3.1, Value.string y3.2] 40)).drew a n cap k' k' _ _ rfl rfl ps (some ⟨W.heap.size + 1, 0, none⟩) 1 1 [y3] (HND.out.below BKP.out (Nat.le_refl _)).rd HC.out.2 (Nat.le_refl _) hkn RP3.out (by have := HC.out; omega)
      go_wp2_with fail
      go_region_held_law (fun w' => w'.cell? ⟨nd, 0, none⟩ = some (.slice a n cap) ∧ w'.cell? ⟨nd, 1, none⟩ = some (.slice (some ⟨gk, offk, none⟩) n' cap') ∧ w'.cell? ⟨tb, 0, none⟩ = some (.pointer (some ⟨b3, 0, none⟩)) ∧ w'.cell? ⟨tb, 1, none⟩ = some (.string y3.1) ∧ w'.cell? ⟨tb, 2, none⟩ = some (.string y3.2) ∧ w'.cell? ⟨tb, 3, none⟩ = some (.pointer (some ⟨br, 0, none⟩)))
        (first | with_reducible exact HK11.out _ (Below.refl _ W).drew | with_reducible exact HK11.out _ BP.out | with_reducible exact HK11.out _ BK.out | with_reducible exact HK11.out _ BPK.out | with_reducible exact HK11.out _ BKP.out | with_reducible exact HK11.out _ HB5.out | with_reducible exact HK11.out _ (HB5.out.alloc HB5.out.size _) | with_reducible exact HK11.out _ HB6.out | with_reducible exact HK11.out _ HB7.out | exact HK11s.out _ _ _ _ HB7.out)
        (first
        | (go_at_call 40; (with_reducible refine Calls.mono H40a.out ?_); rintro e w5 ⟨a5, n5, cap5, R5, rfl, HE5, HR5, hB5⟩; have HB5 : Hid (Below W.heap.size W w5) := BP.out.trans (hB5.out.mono BP.out.size); have H45 : Hid (Calls Try.prog 45 #[.slice (some ⟨gk, offk, none⟩) n' cap', .int .i64 (k' : Int), .int .i64 (IntKind.i64.wrap ((k' : Int) + 1)), .slice (some ⟨w5.heap.size, 0, none⟩) 2 2] (w5.alloc (Obj.cells #[Value.pointer (some { block := b3, off := 0 }), Value.pointer (some { block := br, off := 0 })] 46)) (SpK (w5.alloc (Obj.cells #[Value.pointer (some { block := b3, off := 0 }), Value.pointer (some { block := br, off := 0 })] 46)) k' (k' + 1) n' 2 bs [b3, br])) := spK (w5.alloc (Obj.cells #[Value.pointer (some { block := b3, off := 0 }), Value.pointer (some { block := br, off := 0 })] 46)) (some ⟨gk, offk, none⟩) n' cap' k' (k' + 1) _ _ rfl HJ.out bs (some ⟨w5.heap.size, 0, none⟩) 2 2 [b3, br] (HRK.out.below (HB5.out.alloc HB5.out.size _) (Nat.le_refl _)) HQ.out.2.1 (by omega) (by have := HNN.out; omega) (rdk_two (Blk.new w5 #[kp b3, kp br] 46)) (by have := HNN.out; have := HC.out; omega); have H56 : Hid (∀ w6, Below (w5.alloc (Obj.cells #[Value.pointer (some { block := b3, off := 0 }), Value.pointer (some { block := br, off := 0 })] 46)).heap.size (w5.alloc (Obj.cells #[Value.pointer (some { block := b3, off := 0 }), Value.pointer (some { block := br, off := 0 })] 46)) w6 → Below w5.heap.size w5 w6) := fun w6 h => ((Below.refl _ w5).alloc (Nat.le_refl _) _).trans (h.mono (by simp)); clear hB5)
        | (go_at_call 40; (with_reducible refine Calls.mono H40b.out ?_); rintro e w5 ⟨a5, n5, cap5, R5, rfl, HE5, HR5, hB5⟩; have HB5 : Hid (Below W.heap.size W w5) := BPK.out.trans (hB5.out.mono BPK.out.size); have H45 : Hid (Calls Try.prog 45 #[.slice (some ⟨gk, offk, none⟩) n' cap', .int .i64 (k' : Int), .int .i64 (IntKind.i64.wrap ((k' : Int) + 1)), .slice (some ⟨W.heap.size + 1, 0, none⟩) 2 2] w5 (SpK w5 k' (k' + 1) n' 2 bs [b3, br])) := spK w5 (some ⟨gk, offk, none⟩) n' cap' k' (k' + 1) _ _ rfl HJ.out bs (some ⟨W.heap.size + 1, 0, none⟩) 2 2 [b3, br] (HRK.out.below HB5.out (Nat.le_refl _)) HQ.out.2.1 (by omega) (by have := HNN.out; omega) (RK2.out.below hB5.out (Nat.le_refl _)) (by have := HNN.out; have := HC.out; omega); have H56 : Hid (∀ w6, Below w5.heap.size w5 w6 → Below w5.heap.size w5 w6) := fun w6 h => h; clear hB5)
        | (go_at_call 40; (with_reducible refine Calls.mono H40c.out ?_); rintro e w5 ⟨a5, n5, cap5, R5, rfl, HE5, HR5, hB5⟩; have HB5 : Hid (Below W.heap.size W w5) := BKP.out.trans (hB5.out.mono BKP.out.size); have H45 : Hid (Calls Try.prog 45 #[.slice (some ⟨gk, offk, none⟩) n' cap', .int .i64 (k' : Int), .int .i64 (IntKind.i64.wrap ((k' : Int) + 1)), .slice (some ⟨W.heap.size, 0, none⟩) 2 2] w5 (SpK w5 k' (k' + 1) n' 2 bs [b3, br])) := spK w5 (some ⟨gk, offk, none⟩) n' cap' k' (k' + 1) _ _ rfl HJ.out bs (some ⟨W.heap.size, 0, none⟩) 2 2 [b3, br] (HRK.out.below HB5.out (Nat.le_refl _)) HQ.out.2.1 (by omega) (by have := HNN.out; omega) (RK3.out.below hB5.out (Nat.le_refl _)) (by have := HNN.out; have := HC.out; omega); have H56 : Hid (∀ w6, Below w5.heap.size w5 w6 → Below w5.heap.size w5 w6) := fun w6 h => h; clear hB5)
        | (go_at_call 45; (with_reducible refine Calls.mono H45.out ?_); rintro e w6 ⟨a6, n6, cap6, R6, rfl, HE6, HR6, hB6⟩; have HB56 : Hid (Below w5.heap.size w5 w6) := H56.out w6 hB6.out; have HB6 : Hid (Below W.heap.size W w6) := HB5.out.trans (HB56.out.mono HB5.out.size); clear hB6)
        | (go_at_call 44; refine (cut_node w6 d a5 a6 n5 cap5 n6 cap6 R5 (ts.take k' ++ [l, r] ++ ts.drop (k' + 1)) R6 (HR5.out.1.below HB56.out (Nat.le_refl _)) HR5.out.2 (by have := HE5.out.2; have := HC.out; omega) HR6.out.1 HR6.out.2 (two_len HQ.out.2.2.2.2.1 HQ.out.2.2.2.2.2.1 HE5.out.1) (two_kids HKS.out HLL.out.1 HLL.out.2 HB6.out HE6.out.1) (two_ok HQ.out.2.2.2.1 HO.out.2.1)).mono ?_; rintro e w7 ⟨v7, H7, rfl, HL7, HO7, hB7⟩; obtain ⟨b7, y7, r7, rfl⟩ := HL7.out.form; unfold hv; have HB7 : Hid (Below W.heap.size W w7) := HB6.out.trans (hB7.out.mono HB6.out.size); clear hB7;
            have HY7 : Hid (Blk w7 (w.heap.size + 1) 59 [Value.pointer none, Value.string { data := #[] }, Value.string { data := #[] }, Value.pointer none]) := HYB.out.below HB7.out HYB.out.lt;
            have y0 := HY7.out.cell (i := 0) rfl; have y1 := HY7.out.cell (i := 1) rfl; have y2 := HY7.out.cell (i := 2) rfl; have y33 := HY7.out.cell (i := 3) rfl;
            have f0 := HY7.out.free 0; have f1 := HY7.out.free 1; have f2 := HY7.out.free 2; have f3 := HY7.out.free 3))
      all_goals go_wp2
      all_goals refine bodyPost_ret (results_hv rfl rfl (put4v_blk (nd := b7) (y := y7) (r := r7) HY7.out rfl)) rfl ?_
      all_goals refine ⟨b7, y7, r7, H7, rfl, HL7.out.oth (put4v_grown _ _ _ _ _) (HY7.out.oth (by decide) (by decide) (by decide)), ⟨two_list HQ.out.2.2.2.2.1 HQ.out.2.2.2.2.2.1 HO7.out.1 HE5.out.1 HO.out.1, HO7.out.2.1, ?_⟩, put4v_below (HBW.out.trans (HB7.out.mono HBW.out.size)) (by omega)⟩
      all_goals exact two_grow HD.out.rd.1 HE5.out.2 hkn HO7.out.2.2.1 HO7.out.2.2.2
#print axioms put_nd
end Go.Proofs.Ytnagknlfboadkaa.Oct
