/-
  Layer 7 (tree): 'withKid'; 'put' into a node with kids.
  Layer 7 (tree): 'spliced' of pairs, told as what may be appended to.
  Layer 7 (tree): 'mended'.
  Layer 7 (tree): 'put' into a tree of any depth.
-/
import Derived.Test.YtnagknlfboadkaaMp2
/- Layer 7 (tree): 'withKid'; 'put' into a node with kids. -/
namespace Go.Proofs.Ytnagknlfboadkaa.Oct
open Go.RowKit

theorem rdk_one {w : World} {b kb : Nat} (h : Blk w b 46 [kp kb]) : RdK w (some ⟨b, 0, none⟩) 1 [kb] := by
  refine ⟨rfl, fun _ => ⟨b, 0, rfl, h.row, fun i x hx => ?_⟩⟩
  cases i with
  | zero => simp at hx; subst hx; exact h.cell (i := 0) rfl
  | succ i => simp at hx
theorem rdk_two {w : World} {b k1 k2 : Nat} (h : Blk w b 46 [kp k1, kp k2]) : RdK w (some ⟨b, 0, none⟩) 2 [k1, k2] := by
  refine ⟨rfl, fun _ => ⟨b, 0, rfl, h.row, fun i x hx => ?_⟩⟩
  match i, hx with
  | 0, hx => simp at hx; subst hx; exact h.cell (i := 0) rfl
  | 1, hx => simp at hx; subst hx; exact h.cell (i := 1) rfl
  | i + 2, hx => simp at hx
set_option maxRecDepth 100000 in
set_option maxHeartbeats 1000000 in
theorem withKid_is (w : World) (nd n cap n' cap' kb i : Nat) (a a' : Option Addr) (ps : List Pr) (bs : List Nat) (h : Nd w nd a n cap ps (.slice a' n' cap')) (hk : RdK w a' n' bs) (hc : Cap a' n' cap') (hi : i < n') (hn : n' ≤ 20) :
    Calls Try.prog 42 #[.pointer (some ⟨nd, 0, none⟩), .int .i64 (i : Int), .pointer (some ⟨kb, 0, none⟩)] w fun e w' => ∃ (nd2 : Nat) (a2 : Option Addr) (n2 cap2 : Nat) (bs2 : List Nat), e = .returned (.pointer (some ⟨nd2, 0, none⟩)) ∧ Hid (bs2 = bs.take i ++ [kb] ++ bs.drop (i + 1)) ∧ Hid (Nd w' nd2 a n cap ps (.slice a2 n2 cap2) ∧ RdK w' a2 n2 bs2 ∧ Cap a2 n2 cap2) ∧ Hid (Below w.heap.size w w') := by
  have HD : Hid (Nd w nd a n cap ps (.slice a' n' cap')) := h
  have HK : Hid (RdK w a' n' bs ∧ Cap a' n' cap' ∧ i < n' ∧ n' ≤ 20) := ⟨hk, hc, hi, hn⟩
  have c0 := h.blk.cell (i := 0) rfl
  have c1 := h.blk.cell (i := 1) rfl
  have HL : Hid (nd < w.heap.size) := h.blk.lt
  have HB2 : Hid (Below w.heap.size w (w.alloc (.cells #[.pointer (some ⟨kb, 0, none⟩)] 46)).drew) := ((Below.refl _ w).alloc (Nat.le_refl _) _).drew
  have HR1 : Hid (RdK (w.alloc (.cells #[.pointer (some ⟨kb, 0, none⟩)] 46)).drew (some ⟨w.heap.size, 0, none⟩) 1 [kb]) := rdk_one (Blk.new w #[.pointer (some ⟨kb, 0, none⟩)] 46).drew
  have HKEEP : Hid (∀ W, Below w.heap.size w W → W.cell? ⟨nd, 0, none⟩ = some (.slice a n cap) ∧ W.cell? ⟨nd, 1, none⟩ = some (.slice a' n' cap')) := fun W hW => ⟨(hW.cell (p := ⟨nd, 0, none⟩) HL.out).trans c0, (hW.cell (p := ⟨nd, 1, none⟩) HL.out).trans c1⟩
  have q1 : (i : Int) + 1 ≤ 20 := by omega
  have HJ : Hid (IntKind.i64.wrap ((i : Int) + 1) = ((i + 1 : Nat) : Int)) := by show _ = _; rw [IntKind.wrap_i64]; omega
  clear h hk hc hi hn
  go_enter Try.func42, Try.ntmps42
  go_wp2_with fail
  go_region_held_law (fun w' => w'.cell? ⟨nd, 0, none⟩ = some (.slice a n cap) ∧ w'.cell? ⟨nd, 1, none⟩ = some (.slice a' n' cap'))
    (first | with_reducible exact HKEEP.out _ (Below.refl _ w).drew | with_reducible exact HKEEP.out _ HB2.out | with_reducible exact HKEEP.out _ HB3.out | with_reducible exact HKEEP.out _ (HB3.out.alloc HB3.out.size _))
    (first
    | (go_at_call 45; refine (spK (w.alloc (.cells #[.pointer (some ⟨kb, 0, none⟩)] 46)).drew a' n' cap' i (i + 1) _ _ rfl HJ.out bs (some ⟨w.heap.size, 0, none⟩) 1 1 [kb] (HK.out.1.below HB2.out (Nat.le_refl _)) HK.out.2.1 (by omega) (by have := HK.out.2.2; omega) HR1.out (by have := HK.out.2.2; omega)).mono ?_; rintro e w2 ⟨a2, n2, cap2, R2, rfl, HE2, HR2, hB2⟩; have HB3 : Hid (Below w.heap.size w w2) := HB2.out.trans (hB2.out.mono HB2.out.size); clear hB2))
  go_wp2
  go_ret
  have hB := (Below.refl w2.heap.size w2).alloc (Nat.le_refl _) (Obj.cells #[Value.slice a n cap, Value.slice a2 n2 cap2] 67)
  exact ⟨w2.heap.size, a2, n2, cap2, R2, rfl, HE2.out.1, ⟨⟨Blk.new _ _ _, (HD.out.below HB3.out (Nat.le_refl _)).rd.below hB (Nat.le_refl _)⟩, HR2.out.1.below hB (Nat.le_refl _), HR2.out.2⟩, HB3.out.alloc HB3.out.size _⟩
theorem rdp_one {w : World} {b : Nat} {m : Pr} (h : Blk w b 40 [.string m.1, .string m.2]) : RdP w (some ⟨b, 0, none⟩) 1 [m] :=
  rd_of_cells (ps := [m]) (off := 0) (fun _ => h.row) (fun j u hu => by rw [Nat.zero_add]; exact h.cell hu)
theorem two_len {d k : Nat} {ps R : List Pr} {ts : List (T d)} {kt l r : T d} {m : Pr} (hl : ts.length = ps.length + 1) (hk : ts[k]? = some kt) (hR : R = ps.take k ++ [m] ++ ps.drop k) : (ts.take k ++ [l, r] ++ ts.drop (k + 1)).length = R.length + 1 := by
  have := (List.getElem?_eq_some_iff.1 hk).1
  rw [hR]; simp; omega
theorem two_kids {w w' : World} {d k bl br : Nat} {ts : List (T d)} {bs R : List Nat} {l r : T d} (h : Kids w d ts bs) (hl : Lies w d l bl) (hr : Lies w d r br) (hb : Below w.heap.size w w') (hR : R = bs.take k ++ [bl, br] ++ bs.drop (k + 1)) : Kids w' d (ts.take k ++ [l, r] ++ ts.drop (k + 1)) R := by
  rw [hR]
  have h2 := h.below hb
  exact ((h2.take k).append ((Kids.one (hl.below hb (Nat.le_refl _))).append (Kids.one (hr.below hb (Nat.le_refl _))))).append (h2.drop (k + 1))
theorem two_ok {d k : Nat} {ts : List (T d)} {l r : T d} {m : Pr} (h : KidsOk d ts) (ho : (Half.two l m r).ok) : KidsOk d (ts.take k ++ [l, r] ++ ts.drop (k + 1)) := by
  intro x hx
  rw [List.mem_append, List.mem_append] at hx
  rcases hx with (hx | hx) | hx
  · exact h x (List.mem_of_mem_take hx)
  · rcases List.mem_cons.1 hx with rfl | hx
    · exact ho.1
    · rw [List.mem_singleton.1 hx]; exact ho.2
  · exact h x (List.mem_of_mem_drop hx)
theorem two_list {d k : Nat} {ps R L X : List Pr} {ts : List (T d)} {kt l r : T d} {m : Pr} (hl : ts.length = ps.length + 1) (hk : ts[k]? = some kt) (h : L = inter ((ts.take k ++ [l, r] ++ ts.drop (k + 1)).map (tl d)) R) (hR : R = ps.take k ++ [m] ++ ps.drop k) (hX : (Half.two l m r).list = X) :
    L = upp ((ts.map (tl d)).take k) (ps.take k) ++ X ++ dn (ps.drop k) ((ts.map (tl d)).drop (k + 1)) := by
  rw [h, hR, ← hX, List.map_append, List.map_append, List.map_take, List.map_drop]
  exact inter_two (by simpa using hl) (kid_map hk)
theorem two_grow {d n n5 k : Nat} {ps : List Pr} {H : Half (d + 1)} (hn : ps.length = n) (h5 : n5 = k + 1 + (n - k)) (hk : k ≤ n) (h : n5 ≤ 7 → ∃ t, H = .one t ∧ (prs (d + 1) t).length = n5) (h8 : 7 < n5 → ∃ l m r, H = .two l m r) : ∀ t', H = .one t' → ps.length ≤ (prs (d + 1) t').length := by
  intro t' ht
  by_cases h7 : n5 ≤ 7
  · obtain ⟨t, e, hl⟩ := h h7
    rw [ht] at e
    have e2 : t' = t := by injection e
    rw [e2, hl]
    clear h h8
    omega
  · obtain ⟨l, m, r, e⟩ := h8 (by omega)
    rw [ht] at e
    cases e
/-- what 'put' does to a tree of depth d + 1 -/
def PutC (d : Nat) : Prop := ∀ (w : World) (t : T d) (nd : Nat) (x : Pr), Lies w d t nd → Good d t → Calls Try.prog 33 #[.pointer (some ⟨nd, 0, none⟩), .agg #[.string x.1, .string x.2]] w fun e w' =>
  ∃ (b : Nat) (y : Pr) (r : Option Addr) (H : Half d), e = .returned (hv b y r) ∧ Hid (H.lies w' (hv b y r)) ∧ Hid (H.list = insP (tl d t) x ∧ H.ok ∧ (∀ t', H = .one t' → (prs d t).length ≤ (prs d t').length)) ∧ Hid (Below w.heap.size w w')
/-- behind the put into a kid -/
structure P8 {d : Nat} (w1 W : World) (tb b : Nat) (y : Pr) (r : Option Addr) (H : Half d) : Prop where
  blk : Blk W tb 59 [.pointer (some ⟨b, 0, none⟩), .string y.1, .string y.2, .pointer r]
  lies : H.lies W (hv b y r)
  be : Below w1.heap.size w1 W
  le : w1.heap.size ≤ tb

set_option maxRecDepth 100000 in
set_option maxHeartbeats 2000000 in
theorem put_nd (d : Nat) (IH : PutC d) (w : World) (nd n cap n' cap' : Nat) (a a' : Option Addr) (ps : List Pr) (ts : List (T d)) (bs : List Nat) (x : Pr) (k kb : Nat) (kt : T d) (h : Nd w nd a n cap ps (.slice a' n' cap')) (hm : Mono ps x.1) (hn : n ≤ 7) (hc : Cap a n cap) (ha : AtP ps x.1 k) (hi : isP ps x.1 k = false)
    (hk : RdK w a' n' bs) (hck : Cap a' n' cap') (hks : Kids w d ts bs) (hok : KidsOk d ts) (hl : ts.length = ps.length + 1) (hkt : ts[k]? = some kt) (hkb : bs[k]? = some kb) (hgd : Good d kt) (h3 : 3 ≤ (prs d kt).length) :
    Calls Try.prog 33 #[.pointer (some ⟨nd, 0, none⟩), .agg #[.string x.1, .string x.2]] w fun e w' => ∃ (b : Nat) (y : Pr) (r : Option Addr) (H : Half (d + 1)), e = .returned (hv b y r) ∧ Hid (H.lies w' (hv b y r)) ∧ Hid (H.list = upp ((ts.map (tl d)).take k) (ps.take k) ++ insP (tl d kt) x ++ dn (ps.drop k) ((ts.map (tl d)).drop (k + 1)) ∧ H.ok ∧ (∀ t', H = .one t' → ps.length ≤ (prs (d + 1) t').length)) ∧ Hid (Below w.heap.size w w') := by
  have HQ : Hid (RdK w a' n' bs ∧ Cap a' n' cap' ∧ Kids w d ts bs ∧ KidsOk d ts ∧ ts.length = ps.length + 1 ∧ ts[k]? = some kt ∧ bs[k]? = some kb ∧ Good d kt ∧ 3 ≤ (prs d kt).length) := ⟨hk, hck, hks, hok, hl, hkt, hkb, hgd, h3⟩
  have HIH : Hid (PutC d) := IH
  have hnn : n' = n + 1 := by rw [← hk.1, hks.1, hl, h.rd.1]
  have HNN : Hid (n' = n + 1) := hnn
  have hkl : k < n' := by rw [← hk.1]; exact (List.getElem?_eq_some_iff.1 hkb).1
  obtain ⟨gk, offk, ea, hgk, hck2⟩ := hk.2 (by omega)
  subst ea
  have HKC : Hid (w.cell? ⟨gk, offk + k, none⟩ = some (.pointer (some ⟨kb, 0, none⟩)) ∧ gk < w.heap.size) := ⟨hck2 k kb hkb, hgk.lt⟩
  have q7 : (k : Int) < (n' : Int) := by omega
  clear hk hck hks hok hl hkt hkb hgd h3 hgk hck2 hnn hkl IH
  obtain ⟨k0, v0⟩ := x
  have HM : Hid (Mono ps k0 ∧ AtP ps k0 k) := ⟨hm, ha⟩
  have HC : Hid (n ≤ 7 ∧ Cap a n cap) := ⟨hn, hc⟩
  have HI : Hid (isP ps k0 k = false) := hi
  have HD : Hid (Nd w nd a n cap ps (.slice (some ⟨gk, offk, none⟩) n' cap')) := h
  have HL : Hid (nd < w.heap.size) := h.blk.lt
  have HB0 : Hid (Below w.heap.size w ((w.alloc (Obj.cells #[Value.string k0, Value.string v0] 40)).alloc (Obj.cells #[Value.pointer none, Value.string { data := #[] }, Value.string { data := #[] }, Value.pointer none] 59))) := ((Below.refl _ w).alloc (Nat.le_refl _) _).alloc (by simp) _
  clear hm hn hc h ha hi
  go_enter Try.func33, Try.ntmps33
  go_wp2_with fail
  refine (place_is _ nd _ n cap ps _ k0 (HD.out.below HB0.out (Nat.le_refl _)) HM.out.1 (by have := HC.out; omega)).mono ?_
  rintro e w1 ⟨k', rfl, HA, HB1⟩
  have hk' : k' = k := HA.out.uniq HM.out.2
  subst hk'
  rw [HI.out]
  have hS : w.heap.size + 2 ≤ w1.heap.size := by have := HB1.out.size; simp at this; omega
  have HD1 : Hid (Nd w1 nd a n cap ps (.slice (some ⟨gk, offk, none⟩) n' cap')) := (HD.out.below HB0.out (Nat.le_refl _)).below HB1.out (Nat.le_refl _)
  have HW : Hid (Below w.heap.size w w1) := HB0.out.trans (HB1.out.mono (by simp; omega))
  have HX : Hid (Blk w1 w.heap.size 40 [.string k0, .string v0]) := ((Blk.new w #[Value.string k0, Value.string v0] 40).alloc _).below HB1.out (by simp; omega)
  have HY : Hid (Blk w1 (w.heap.size + 1) 59 [Value.pointer none, Value.string { data := #[] }, Value.string { data := #[] }, Value.pointer none]) := by
    have e := Blk.new (w.alloc (Obj.cells #[Value.string k0, Value.string v0] 40)) #[Value.pointer none, Value.string { data := #[] }, Value.string { data := #[] }, Value.pointer none] 59
    rw [World.size_alloc] at e
    exact e.below HB1.out (by simp)
  have c0 := HD1.out.blk.cell (i := 0) rfl
  have c1 := HD1.out.blk.cell (i := 1) rfl
  have x0 := HX.out.cell (i := 0) rfl
  have x1 := HX.out.cell (i := 1) rfl
  clear HB1 HB0
  have hkn : k' ≤ n := by rw [← HD.out.rd.1]; exact HA.out.1
  have HL1 : Hid (w.heap.size + 1 ≤ w1.heap.size) := by show _ ≤ _; omega
  have ck : w1.cell? ⟨gk, offk + k', none⟩ = some (.pointer (some ⟨kb, 0, none⟩)) := (HW.out.cell (p := ⟨gk, _, none⟩) HKC.out.2).trans HKC.out.1
  have HZ : Hid (((n' : Int) == 0) = false) := by show _ = _; have := HNN.out; simp; omega
  go_wp2_with (go_at_call 39; refine (isLeaf_any w1 nd _ n' cap' false HZ.out c1).mono ?_; rintro e w2 ⟨rfl, rfl⟩)
  have HK8 : Hid (∀ W, Below w1.heap.size w1 W → (fun w' => w'.cell? ⟨nd, 1, none⟩ = some (.slice (some ⟨gk, offk, none⟩) n' cap') ∧ w'.cell? ⟨gk, offk + k', none⟩ = some (.pointer (some ⟨kb, 0, none⟩)) ∧ w'.cell? ⟨w.heap.size, 0, none⟩ = some (.string k0) ∧ w'.cell? ⟨w.heap.size, 1, none⟩ = some (.string v0)) W) := fun W hW => ⟨(hW.cell (p := ⟨nd, 1, none⟩) (by have := HL.out; show nd < w1.heap.size; omega)).trans c1, (hW.cell (p := ⟨gk, offk + k', none⟩) (by have := HKC.out.2; show gk < w1.heap.size; omega)).trans ck, (hW.cell (p := ⟨w.heap.size, 0, none⟩) (by show w.heap.size < w1.heap.size; omega)).trans x0, (hW.cell (p := ⟨w.heap.size, 1, none⟩) (by show w.heap.size < w1.heap.size; omega)).trans x1⟩
  have HBZ : Hid (Below w1.heap.size w1 (w1.alloc (Obj.cells #[Value.pointer none, Value.string { data := #[] }, Value.string { data := #[] }, Value.pointer none] 59)).drew) := ((Below.refl _ w1).alloc (Nat.le_refl _) _).drew
  have HKL : Hid (Lies w1 d kt kb) := (HQ.out.2.2.1.2 k' kt kb HQ.out.2.2.2.2.2.1 HQ.out.2.2.2.2.2.2.1).below HW.out (Nat.le_refl _)
  have HZB : Hid (Blk (w1.alloc (Obj.cells #[Value.pointer none, Value.string { data := #[] }, Value.string { data := #[] }, Value.pointer none] 59)).drew w1.heap.size 59 [Value.pointer none, Value.string { data := #[] }, Value.string { data := #[] }, Value.pointer none]) := (Blk.new w1 #[Value.pointer none, Value.string { data := #[] }, Value.string { data := #[] }, Value.pointer none] 59).drew
  go_region_held_law (fun w' => w'.cell? ⟨nd, 1, none⟩ = some (.slice (some ⟨gk, offk, none⟩) n' cap') ∧ w'.cell? ⟨gk, offk + k', none⟩ = some (.pointer (some ⟨kb, 0, none⟩)) ∧ w'.cell? ⟨w.heap.size, 0, none⟩ = some (.string k0) ∧ w'.cell? ⟨w.heap.size, 1, none⟩ = some (.string v0))
    (first | with_reducible exact HK8.out _ (Below.refl _ w1).drew | with_reducible exact HK8.out _ HBZ.out | with_reducible exact HK8.out _ HB3.out | with_reducible exact HK8.out _ (HB3.out.alloc HB3.out.size _) | exact HK8.out _ (Below.setCell (Below.setCell (Below.setCell (Below.setCell HB3.out (Nat.le_refl _) _) (Nat.le_refl _) _) (Nat.le_refl _) _) (Nat.le_refl _) _))
    (first
    | (go_at_call 33; refine (HIH.out w1.drew kt kb (k0, v0) (HKL.out.below (Below.refl _ w1).drew (Nat.le_refl _)) HQ.out.2.2.2.2.2.2.2.1).mono ?_; rintro e w3 ⟨b3, y3, r3, H3, rfl, HL3, HO3, hB3⟩; unfold hv; have HB3 : Hid (Below w1.heap.size w1 w3) := ⟨hB3.out.os, hB3.out.tape, hB3.out.output, hB3.out.size, hB3.out.block⟩; clear hB3; have HF : Hid True := trivial)
    | (go_at_call 33; refine (HIH.out (w1.alloc (Obj.cells #[Value.pointer none, Value.string { data := #[] }, Value.string { data := #[] }, Value.pointer none] 59)).drew kt kb (k0, v0) (HKL.out.below HBZ.out (Nat.le_refl _)) HQ.out.2.2.2.2.2.2.2.1).mono ?_; rintro e w3 ⟨b3, y3, r3, H3, rfl, HL3, HO3, hB3⟩; unfold hv; have HB3 : Hid (Below w1.heap.size w1 w3) := HBZ.out.trans (hB3.out.mono HBZ.out.size);
        have HF : Hid (Blk w3 w1.heap.size 59 [Value.pointer none, Value.string { data := #[] }, Value.string { data := #[] }, Value.pointer none]) := HZB.out.below hB3.out HZB.out.lt; clear hB3;
        have z0 := HF.out.cell (i := 0) rfl; have z1 := HF.out.cell (i := 1) rfl; have z2 := HF.out.cell (i := 2) rfl; have z3 := HF.out.cell (i := 3) rfl;
        have f0 := HF.out.free 0; have f1 := HF.out.free 1; have f2 := HF.out.free 2; have f3 := HF.out.free 3))
  · obtain ⟨W, hW⟩ : ∃ W, W = w3.alloc (Obj.cells #[Value.pointer (some { block := b3, off := 0 }), Value.string y3.1, Value.string y3.2, Value.pointer r3] 59) := ⟨_, rfl⟩
    obtain ⟨tb, htb⟩ : ∃ tb, w3.heap.size = tb := ⟨_, rfl⟩
    have hP : P8 w1 W tb b3 y3 r3 H3 := by
      rw [hW, ← htb]
      exact ⟨Blk.new _ _ _, HL3.out.below ((Below.refl _ w3).alloc (Nat.le_refl _) _), HB3.out.alloc HB3.out.size _, HB3.out.size⟩
    rw [← hW, htb]
    clear hW htb
    have HP : Hid (P8 w1 W tb b3 y3 r3 H3) := hP
    have HO : Hid (H3.list = insP (tl d kt) (k0, v0) ∧ H3.ok ∧ (∀ t', H3 = .one t' → (prs d kt).length ≤ (prs d t').length)) := HO3
    have HND : Hid (Nd W nd a n cap ps (.slice (some ⟨gk, offk, none⟩) n' cap')) := HD1.out.below hP.be (Nat.le_refl _)
    have HRK : Hid (RdK W (some ⟨gk, offk, none⟩) n' bs) := (HQ.out.1.below HW.out (Nat.le_refl _)).below hP.be (Nat.le_refl _)
    have HKS : Hid (Kids W d ts bs) := (HQ.out.2.2.1.below HW.out).below hP.be
    have HYB : Hid (Blk W (w.heap.size + 1) 59 [Value.pointer none, Value.string { data := #[] }, Value.string { data := #[] }, Value.pointer none]) := HY.out.below hP.be (by omega)
    have HBW : Hid (Below w.heap.size w W) := HW.out.trans (hP.be.mono (by omega))
    have hSW : w1.heap.size ≤ W.heap.size := hP.be.size
    have HTB : Hid (w.heap.size + 1 < tb ∧ tb < W.heap.size) := ⟨by have := hP.le; omega, hP.blk.lt⟩
    have t0 := hP.blk.cell (i := 0) rfl
    have t1 := hP.blk.cell (i := 1) rfl
    have t2 := hP.blk.cell (i := 2) rfl
    have t3 := hP.blk.cell (i := 3) rfl
    have d0 := HND.out.blk.cell (i := 0) rfl
    have d1 := HND.out.blk.cell (i := 1) rfl
    clear hP HO3 c0 c1 x0 x1 ck HD1 HX HY HL3 HB3 HF
    cases H3 with
    | one t3' =>
      obtain ⟨bb, hbb, hlies⟩ := HP.out.lies
      obtain ⟨rfl, hyy, rfl⟩ : b3 = bb ∧ y3 = (⟨#[]⟩, ⟨#[]⟩) ∧ r3 = none := by
        simp only [hv, one, Value.agg.injEq, Array.mk.injEq, List.cons.injEq, Value.pointer.injEq, Option.some.injEq, Addr.mk.injEq, Value.string.injEq, and_true] at hbb
        exact ⟨hbb.1, Prod.ext hbb.2.1 hbb.2.2.1, hbb.2.2.2⟩
      have HLT : Hid (Lies W d t3' b3) := hlies
      clear hbb hlies hyy
      go_wp2_with (go_at_call 42; refine (withKid_is W nd n cap n' cap' b3 k' a (some ⟨gk, offk, none⟩) ps bs HND.out HRK.out HQ.out.2.1 (by have := HNN.out; omega) (by have := HNN.out; have := HC.out; omega)).mono ?_; rintro e w5 ⟨nd5, a5, n5, cap5, bs5, rfl, HE5, HN5, HB5⟩;
                        have HY5 : Hid (Blk w5 (w.heap.size + 1) 59 [Value.pointer none, Value.string { data := #[] }, Value.string { data := #[] }, Value.pointer none]) := HYB.out.below HB5.out HYB.out.lt;
                        have y50 := HY5.out.cell (i := 0) rfl;
                        have y51 := HY5.out.cell (i := 1) rfl;
                        have y52 := HY5.out.cell (i := 2) rfl;
                        have y53 := HY5.out.cell (i := 3) rfl;
                        have g50 := HY5.out.free 0;
                        have g51 := HY5.out.free 1;
                        have g52 := HY5.out.free 2;
                        have g53 := HY5.out.free 3)
      have hb := put4_blk (nd := nd5) HY5.out
      refine bodyPost_ret (results_half rfl rfl hb) rfl ?_
      have hO : Oth w5 (w.heap.size + 1) := HY5.out.oth (by decide) (by decide) (by decide)
      have hg := put4_grown w5 (w.heap.size + 1) nd5
      have hk5 : Kids w5 d (ts.take k' ++ [t3'] ++ ts.drop (k' + 1)) bs5 := by
        rw [HE5.out]
        exact (((HKS.out.below HB5.out).take k').append (Kids.one (HLT.out.below HB5.out (Nat.le_refl _)))).append ((HKS.out.below HB5.out).drop (k' + 1))
      have hkt := HQ.out.2.2.2.2.2.1
      have hlt := (List.getElem?_eq_some_iff.1 hkt).1
      have hlen : (ts.take k' ++ [t3'] ++ ts.drop (k' + 1)).length = ps.length + 1 := by rw [← HQ.out.2.2.2.2.1]; simp; omega
      refine ⟨nd5, (⟨#[]⟩, ⟨#[]⟩), none, .one (ps, ts.take k' ++ [t3'] ++ ts.drop (k' + 1)), rfl, ⟨nd5, rfl, a, n, cap, a5, n5, cap5, bs5, HN5.out.1.oth hg hO, HC.out.2, HN5.out.2.1.oth hg hO, HN5.out.2.2, hk5.1, fun i kk b' h1 h2 => (hk5.2 i kk b' h1 h2).oth hg hO⟩, ⟨?_, ⟨⟨hlen, ?_⟩, ?_⟩, ?_⟩, ?_⟩
      · show inter ((ts.take k' ++ [t3'] ++ ts.drop (k' + 1)).map (tl d)) ps = _
        rw [List.map_append, List.map_append, List.map_take, List.map_drop]
        rw [show List.map (tl d) [t3'] = [tl d t3'] from rfl]
        rw [inter_set (by simpa using HQ.out.2.2.2.2.1) (kid_map hkt)]
        have e : tl d t3' = insP (tl d kt) (k0, v0) := HO.out.1
        rw [e]
      · intro kk hkk
        rw [List.mem_append, List.mem_append] at hkk
        rcases hkk with (hkk | hkk) | hkk
        · exact HQ.out.2.2.2.1 kk (List.mem_of_mem_take hkk)
        · rw [List.mem_singleton.1 hkk]
          have h1 := HO.out.2.1
          have h2 := HO.out.2.2 t3' rfl
          have h3 := HQ.out.2.2.2.2.2.2.2.2
          exact ⟨h1.1, by omega, h1.2⟩
        · exact HQ.out.2.2.2.1 kk (List.mem_of_mem_drop hkk)
      · show ps.length ≤ 7; rw [HD.out.rd.1]; exact HC.out.1
      · intro t' ht'; cases ht'; exact Nat.le_refl _
      · exact put4_below (HBW.out.trans (HB5.out.mono HBW.out.size)) (by omega)
    | two l m r =>
      obtain ⟨bl, br, hbb, hl1, hl2⟩ := HP.out.lies
      obtain ⟨rfl, rfl, rfl⟩ : b3 = bl ∧ y3 = m ∧ r3 = some ⟨br, 0, none⟩ := by
        simp only [hv, two, Value.agg.injEq, Array.mk.injEq, List.cons.injEq, Value.pointer.injEq, Option.some.injEq, Addr.mk.injEq, Value.string.injEq, and_true] at hbb
        exact ⟨hbb.1, Prod.ext hbb.2.1 hbb.2.2.1, hbb.2.2.2⟩
      have HLL : Hid (Lies W d l b3 ∧ Lies W d r br) := ⟨hl1, hl2⟩
      clear hbb hl1 hl2
      have HK11 : Hid (∀ W', Below W.heap.size W W' → (fun w' => w'.cell? ⟨nd, 0, none⟩ = some (.slice a n cap) ∧ w'.cell? ⟨nd, 1, none⟩ = some (.slice (some ⟨gk, offk, none⟩) n' cap') ∧ w'.cell? ⟨tb, 0, none⟩ = some (.pointer (some ⟨b3, 0, none⟩)) ∧ w'.cell? ⟨tb, 1, none⟩ = some (.string y3.1) ∧ w'.cell? ⟨tb, 2, none⟩ = some (.string y3.2) ∧ w'.cell? ⟨tb, 3, none⟩ = some (.pointer (some ⟨br, 0, none⟩))) W') := fun W' hW => ⟨(hW.cell (p := ⟨nd, 0, none⟩) HND.out.blk.lt).trans d0, (hW.cell (p := ⟨nd, 1, none⟩) HND.out.blk.lt).trans d1, (hW.cell (p := ⟨tb, 0, none⟩) HTB.out.2).trans t0, (hW.cell (p := ⟨tb, 1, none⟩) HTB.out.2).trans t1, (hW.cell (p := ⟨tb, 2, none⟩) HTB.out.2).trans t2, (hW.cell (p := ⟨tb, 3, none⟩) HTB.out.2).trans t3⟩
      have HK11s : Hid (∀ W' b y r, Below W.heap.size W W' → (fun w' => w'.cell? ⟨nd, 0, none⟩ = some (.slice a n cap) ∧ w'.cell? ⟨nd, 1, none⟩ = some (.slice (some ⟨gk, offk, none⟩) n' cap') ∧ w'.cell? ⟨tb, 0, none⟩ = some (.pointer (some ⟨b3, 0, none⟩)) ∧ w'.cell? ⟨tb, 1, none⟩ = some (.string y3.1) ∧ w'.cell? ⟨tb, 2, none⟩ = some (.string y3.2) ∧ w'.cell? ⟨tb, 3, none⟩ = some (.pointer (some ⟨br, 0, none⟩))) (put4v W' (w.heap.size + 1) b y r)) := fun W' b y r hW => by
        have hg := put4v_grown W' (w.heap.size + 1) b y r
        obtain ⟨h0, h1, h2, h3, h4, h5⟩ := HK11.out W' hW
        have hnl := HL.out
        have htl := HTB.out.1
        exact ⟨hg.cell h0 (by simp; omega), hg.cell h1 (by simp; omega), hg.cell h2 (by simp; omega), hg.cell h3 (by simp; omega), hg.cell h4 (by simp; omega), hg.cell h5 (by simp; omega)⟩
      have BP : Hid (Below W.heap.size W (W.alloc (Obj.cells #[Value.string y3.1, Value.string y3.2] 40)).drew) := ((Below.refl _ W).alloc (Nat.le_refl _) _).drew
      have BK : Hid (Below W.heap.size W (W.alloc (Obj.cells #[Value.pointer (some { block := b3, off := 0 }), Value.pointer (some { block := br, off := 0 })] 46)).drew) := ((Below.refl _ W).alloc (Nat.le_refl _) _).drew
      have BPK : Hid (Below W.heap.size W ((W.alloc (Obj.cells #[Value.string y3.1, Value.string y3.2] 40)).alloc (Obj.cells #[Value.pointer (some { block := b3, off := 0 }), Value.pointer (some { block := br, off := 0 })] 46)).drew) := (((Below.refl _ W).alloc (Nat.le_refl _) _).alloc (by simp) _).drew
      have BKP : Hid (Below W.heap.size W ((W.alloc (Obj.cells #[Value.pointer (some { block := b3, off := 0 }), Value.pointer (some { block := br, off := 0 })] 46)).alloc (Obj.cells #[Value.string y3.1, Value.string y3.2] 40)).drew) := (((Below.refl _ W).alloc (Nat.le_refl _) _).alloc (by simp) _).drew
      have RP1 : Hid (RdP (W.alloc (Obj.cells #[Value.string y3.1, Value.string y3.2] 40)).drew (some ⟨W.heap.size, 0, none⟩) 1 [y3]) := rdp_one (Blk.new W #[.string y3.1, .string y3.2] 40).drew
      have RP2 : Hid (RdP ((W.alloc (Obj.cells #[Value.string y3.1, Value.string y3.2] 40)).alloc (Obj.cells #[Value.pointer (some { block := b3, off := 0 }), Value.pointer (some { block := br, off := 0 })] 46)).drew (some ⟨W.heap.size, 0, none⟩) 1 [y3]) := rdp_one ((Blk.new W #[.string y3.1, .string y3.2] 40).alloc _).drew
      have RP3 : Hid (RdP ((W.alloc (Obj.cells #[Value.pointer (some { block := b3, off := 0 }), Value.pointer (some { block := br, off := 0 })] 46)).alloc (Obj.cells #[Value.string y3.1, Value.string y3.2] 40)).drew (some ⟨W.heap.size + 1, 0, none⟩) 1 [y3]) := by
        have e := Blk.new (W.alloc (Obj.cells #[Value.pointer (some { block := b3, off := 0 }), Value.pointer (some { block := br, off := 0 })] 46)) #[.string y3.1, .string y3.2] 40
        rw [World.size_alloc] at e
        exact rdp_one e.drew
      have RK2 : Hid (RdK ((W.alloc (Obj.cells #[Value.string y3.1, Value.string y3.2] 40)).alloc (Obj.cells #[Value.pointer (some { block := b3, off := 0 }), Value.pointer (some { block := br, off := 0 })] 46)).drew (some ⟨W.heap.size + 1, 0, none⟩) 2 [b3, br]) := by
        have e := Blk.new (W.alloc (Obj.cells #[Value.string y3.1, Value.string y3.2] 40)) #[kp b3, kp br] 46
        rw [World.size_alloc] at e
        exact rdk_two e.drew
      have RK3 : Hid (RdK ((W.alloc (Obj.cells #[Value.pointer (some { block := b3, off := 0 }), Value.pointer (some { block := br, off := 0 })] 46)).alloc (Obj.cells #[Value.string y3.1, Value.string y3.2] 40)).drew (some ⟨W.heap.size, 0, none⟩) 2 [b3, br]) := rdk_two ((Blk.new W #[kp b3, kp br] 46).alloc _).drew
      have HJ : Hid (IntKind.i64.wrap ((k' : Int) + 1) = ((k' + 1 : Nat) : Int)) := by show _ = _; have := HC.out; rw [IntKind.wrap_i64]; omega
      have H40a : Hid (Calls Try.prog 40 #[.slice a n cap, .int .i64 (k' : Int), .int .i64 (k' : Int), .slice (some ⟨W.heap.size, 0, none⟩) 1 1] (W.alloc (Obj.cells #[Value.string y3.1, Value.string y3.2] 40)).drew (SpP (W.alloc (Obj.cells #[Value.string y3.1, Value.string y3.2] 40)).drew k' k' n 1 ps [y3])) := spP (W.alloc (Obj.cells #[Value.string y3.1, Value.string y3.2] 40)).drew a n cap k' k' _ _ rfl rfl ps (some ⟨W.heap.size, 0, none⟩) 1 1 [y3] (HND.out.below BP.out (Nat.le_refl _)).rd HC.out.2 (Nat.le_refl _) hkn RP1.out (by have := HC.out; omega)
      have H40b : Hid (Calls Try.prog 40 #[.slice a n cap, .int .i64 (k' : Int), .int .i64 (k' : Int), .slice (some ⟨W.heap.size, 0, none⟩) 1 1] ((W.alloc (Obj.cells #[Value.string y3.1, Value.string y3.2] 40)).alloc (Obj.cells #[Value.pointer (some { block := b3, off := 0 }), Value.pointer (some { block := br, off := 0 })] 46)).drew (SpP ((W.alloc (Obj.cells #[Value.string y3.1, Value.string y3.2] 40)).alloc (Obj.cells #[Value.pointer (some { block := b3, off := 0 }), Value.pointer (some { block := br, off := 0 })] 46)).drew k' k' n 1 ps [y3])) := spP ((W.alloc (Obj.cells #[Value.string y3.1, Value.string y3.2] 40)).alloc (Obj.cells #[Value.pointer (some { block := b3, off := 0 }), Value.pointer (some { block := br, off := 0 })] 46)).drew a n cap k' k' _ _ rfl rfl ps (some ⟨W.heap.size, 0, none⟩) 1 1 [y3] (HND.out.below BPK.out (Nat.le_refl _)).rd HC.out.2 (Nat.le_refl _) hkn RP2.out (by have := HC.out; omega)
      have H40c : Hid (Calls Try.prog 40 #[.slice a n cap, .int .i64 (k' : Int), .int .i64 (k' : Int), .slice (some ⟨W.heap.size + 1, 0, none⟩) 1 1] ((W.alloc (Obj.cells #[Value.pointer (some { block := b3, off := 0 }), Value.pointer (some { block := br, off := 0 })] 46)).alloc (Obj.cells #[Value.string y3.1, Value.string y3.2] 40)).drew (SpP ((W.alloc (Obj.cells #[Value.pointer (some { block := b3, off := 0 }), Value.pointer (some { block := br, off := 0 })] 46)).alloc (Obj.cells #[Value.string y3.1, Value.string y3.2] 40)).drew k' k' n 1 ps [y3])) := spP ((W.alloc (Obj.cells #[Value.pointer (some { block := b3, off := 0 }), Value.pointer (some { block := br, off := 0 })] 46)).alloc (Obj.cells #[Value.string y3.1, Value.string y3.2] 40)).drew a n cap k' k' _ _ rfl rfl ps (some ⟨W.heap.size + 1, 0, none⟩) 1 1 [y3] (HND.out.below BKP.out (Nat.le_refl _)).rd HC.out.2 (Nat.le_refl _) hkn RP3.out (by have := HC.out; omega)
      go_wp2_with fail
      go_region_held_law (fun w' => w'.cell? ⟨nd, 0, none⟩ = some (.slice a n cap) ∧ w'.cell? ⟨nd, 1, none⟩ = some (.slice (some ⟨gk, offk, none⟩) n' cap') ∧ w'.cell? ⟨tb, 0, none⟩ = some (.pointer (some ⟨b3, 0, none⟩)) ∧ w'.cell? ⟨tb, 1, none⟩ = some (.string y3.1) ∧ w'.cell? ⟨tb, 2, none⟩ = some (.string y3.2) ∧ w'.cell? ⟨tb, 3, none⟩ = some (.pointer (some ⟨br, 0, none⟩)))
        (first | with_reducible exact HK11.out _ (Below.refl _ W).drew | with_reducible exact HK11.out _ BP.out | with_reducible exact HK11.out _ BK.out | with_reducible exact HK11.out _ BPK.out | with_reducible exact HK11.out _ BKP.out | with_reducible exact HK11.out _ HB5.out | with_reducible exact HK11.out _ (HB5.out.alloc HB5.out.size _) | with_reducible exact HK11.out _ HB6.out | with_reducible exact HK11.out _ HB7.out | exact HK11s.out _ _ _ _ HB7.out)
        (first
        | (go_at_call 40; (with_reducible refine Calls.mono H40a.out ?_); rintro e w5 ⟨a5, n5, cap5, R5, rfl, HE5, HR5, hB5⟩; have HB5 : Hid (Below W.heap.size W w5) := BP.out.trans (hB5.out.mono BP.out.size); have H45 : Hid (Calls Try.prog 45 #[.slice (some ⟨gk, offk, none⟩) n' cap', .int .i64 (k' : Int), .int .i64 (IntKind.i64.wrap ((k' : Int) + 1)), .slice (some ⟨w5.heap.size, 0, none⟩) 2 2] (w5.alloc (Obj.cells #[Value.pointer (some { block := b3, off := 0 }), Value.pointer (some { block := br, off := 0 })] 46)) (SpK (w5.alloc (Obj.cells #[Value.pointer (some { block := b3, off := 0 }), Value.pointer (some { block := br, off := 0 })] 46)) k' (k' + 1) n' 2 bs [b3, br])) := spK (w5.alloc (Obj.cells #[Value.pointer (some { block := b3, off := 0 }), Value.pointer (some { block := br, off := 0 })] 46)) (some ⟨gk, offk, none⟩) n' cap' k' (k' + 1) _ _ rfl HJ.out bs (some ⟨w5.heap.size, 0, none⟩) 2 2 [b3, br] (HRK.out.below (HB5.out.alloc HB5.out.size _) (Nat.le_refl _)) HQ.out.2.1 (by omega) (by have := HNN.out; omega) (rdk_two (Blk.new w5 #[kp b3, kp br] 46)) (by have := HNN.out; have := HC.out; omega); have H56 : Hid (∀ w6, Below (w5.alloc (Obj.cells #[Value.pointer (some { block := b3, off := 0 }), Value.pointer (some { block := br, off := 0 })] 46)).heap.size (w5.alloc (Obj.cells #[Value.pointer (some { block := b3, off := 0 }), Value.pointer (some { block := br, off := 0 })] 46)) w6 → Below w5.heap.size w5 w6) := fun w6 h => ((Below.refl _ w5).alloc (Nat.le_refl _) _).trans (h.mono (by simp)); clear hB5)
        | (go_at_call 40; (with_reducible refine Calls.mono H40b.out ?_); rintro e w5 ⟨a5, n5, cap5, R5, rfl, HE5, HR5, hB5⟩; have HB5 : Hid (Below W.heap.size W w5) := BPK.out.trans (hB5.out.mono BPK.out.size); have H45 : Hid (Calls Try.prog 45 #[.slice (some ⟨gk, offk, none⟩) n' cap', .int .i64 (k' : Int), .int .i64 (IntKind.i64.wrap ((k' : Int) + 1)), .slice (some ⟨W.heap.size + 1, 0, none⟩) 2 2] w5 (SpK w5 k' (k' + 1) n' 2 bs [b3, br])) := spK w5 (some ⟨gk, offk, none⟩) n' cap' k' (k' + 1) _ _ rfl HJ.out bs (some ⟨W.heap.size + 1, 0, none⟩) 2 2 [b3, br] (HRK.out.below HB5.out (Nat.le_refl _)) HQ.out.2.1 (by omega) (by have := HNN.out; omega) (RK2.out.below hB5.out (Nat.le_refl _)) (by have := HNN.out; have := HC.out; omega); have H56 : Hid (∀ w6, Below w5.heap.size w5 w6 → Below w5.heap.size w5 w6) := fun w6 h => h; clear hB5)
        | (go_at_call 40; (with_reducible refine Calls.mono H40c.out ?_); rintro e w5 ⟨a5, n5, cap5, R5, rfl, HE5, HR5, hB5⟩; have HB5 : Hid (Below W.heap.size W w5) := BKP.out.trans (hB5.out.mono BKP.out.size); have H45 : Hid (Calls Try.prog 45 #[.slice (some ⟨gk, offk, none⟩) n' cap', .int .i64 (k' : Int), .int .i64 (IntKind.i64.wrap ((k' : Int) + 1)), .slice (some ⟨W.heap.size, 0, none⟩) 2 2] w5 (SpK w5 k' (k' + 1) n' 2 bs [b3, br])) := spK w5 (some ⟨gk, offk, none⟩) n' cap' k' (k' + 1) _ _ rfl HJ.out bs (some ⟨W.heap.size, 0, none⟩) 2 2 [b3, br] (HRK.out.below HB5.out (Nat.le_refl _)) HQ.out.2.1 (by omega) (by have := HNN.out; omega) (RK3.out.below hB5.out (Nat.le_refl _)) (by have := HNN.out; have := HC.out; omega); have H56 : Hid (∀ w6, Below w5.heap.size w5 w6 → Below w5.heap.size w5 w6) := fun w6 h => h; clear hB5)
        | (go_at_call 45; (with_reducible refine Calls.mono H45.out ?_); rintro e w6 ⟨a6, n6, cap6, R6, rfl, HE6, HR6, hB6⟩; have HB56 : Hid (Below w5.heap.size w5 w6) := H56.out w6 hB6.out; have HB6 : Hid (Below W.heap.size W w6) := HB5.out.trans (HB56.out.mono HB5.out.size); clear hB6)
        | (go_at_call 44; refine (cut_node w6 d a5 a6 n5 cap5 n6 cap6 R5 (ts.take k' ++ [l, r] ++ ts.drop (k' + 1)) R6 (HR5.out.1.below HB56.out (Nat.le_refl _)) HR5.out.2 (by have := HE5.out.2; have := HC.out; omega) HR6.out.1 HR6.out.2 (two_len HQ.out.2.2.2.2.1 HQ.out.2.2.2.2.2.1 HE5.out.1) (two_kids HKS.out HLL.out.1 HLL.out.2 HB6.out HE6.out.1) (two_ok HQ.out.2.2.2.1 HO.out.2.1)).mono ?_; rintro e w7 ⟨v7, H7, rfl, HL7, HO7, hB7⟩; obtain ⟨b7, y7, r7, rfl⟩ := HL7.out.form; unfold hv; have HB7 : Hid (Below W.heap.size W w7) := HB6.out.trans (hB7.out.mono HB6.out.size); clear hB7;
            have HY7 : Hid (Blk w7 (w.heap.size + 1) 59 [Value.pointer none, Value.string { data := #[] }, Value.string { data := #[] }, Value.pointer none]) := HYB.out.below HB7.out HYB.out.lt;
            have y0 := HY7.out.cell (i := 0) rfl; have y1 := HY7.out.cell (i := 1) rfl; have y2 := HY7.out.cell (i := 2) rfl; have y33 := HY7.out.cell (i := 3) rfl;
            have f0 := HY7.out.free 0; have f1 := HY7.out.free 1; have f2 := HY7.out.free 2; have f3 := HY7.out.free 3))
      all_goals go_wp2
      all_goals refine bodyPost_ret (results_hv rfl rfl (put4v_blk (nd := b7) (y := y7) (r := r7) HY7.out rfl)) rfl ?_
      all_goals refine ⟨b7, y7, r7, H7, rfl, HL7.out.oth (put4v_grown _ _ _ _ _) (HY7.out.oth (by decide) (by decide) (by decide)), ⟨two_list HQ.out.2.2.2.2.1 HQ.out.2.2.2.2.2.1 HO7.out.1 HE5.out.1 HO.out.1, HO7.out.2.1, ?_⟩, put4v_below (HBW.out.trans (HB7.out.mono HBW.out.size)) (by omega)⟩
      all_goals exact two_grow HD.out.rd.1 HE5.out.2 hkn HO7.out.2.2.1 HO7.out.2.2.2
  · obtain ⟨W, hW⟩ : ∃ W, W = put4v w3 w1.heap.size b3 y3 r3 := ⟨_, rfl⟩
    obtain ⟨tb, htb⟩ : ∃ tb, w1.heap.size = tb := ⟨_, rfl⟩
    have hP : P8 w1 W tb b3 y3 r3 H3 := by
      rw [hW, ← htb]
      exact ⟨put4v_blk HF.out rfl, HL3.out.oth (put4v_grown _ _ _ _ _) (HF.out.oth (by decide) (by decide) (by decide)), put4v_below HB3.out (Nat.le_refl _), Nat.le_refl _⟩
    have hW2 := hW
    unfold put4v at hW2
    rw [← hW2]
    have hz : Hid (w1.heap.size = tb) := htb
    rw [htb]
    clear hW hW2 htb z0 z1 z2 z3 f0 f1 f2 f3
    have HP : Hid (P8 w1 W tb b3 y3 r3 H3) := hP
    have HO : Hid (H3.list = insP (tl d kt) (k0, v0) ∧ H3.ok ∧ (∀ t', H3 = .one t' → (prs d kt).length ≤ (prs d t').length)) := HO3
    have HND : Hid (Nd W nd a n cap ps (.slice (some ⟨gk, offk, none⟩) n' cap')) := HD1.out.below hP.be (Nat.le_refl _)
    have HRK : Hid (RdK W (some ⟨gk, offk, none⟩) n' bs) := (HQ.out.1.below HW.out (Nat.le_refl _)).below hP.be (Nat.le_refl _)
    have HKS : Hid (Kids W d ts bs) := (HQ.out.2.2.1.below HW.out).below hP.be
    have HYB : Hid (Blk W (w.heap.size + 1) 59 [Value.pointer none, Value.string { data := #[] }, Value.string { data := #[] }, Value.pointer none]) := HY.out.below hP.be (by omega)
    have HBW : Hid (Below w.heap.size w W) := HW.out.trans (hP.be.mono (by omega))
    have hSW : w1.heap.size ≤ W.heap.size := hP.be.size
    have HTB : Hid (w.heap.size + 1 < tb ∧ tb < W.heap.size) := ⟨by have := hP.le; omega, hP.blk.lt⟩
    have t0 := hP.blk.cell (i := 0) rfl
    have t1 := hP.blk.cell (i := 1) rfl
    have t2 := hP.blk.cell (i := 2) rfl
    have t3 := hP.blk.cell (i := 3) rfl
    have d0 := HND.out.blk.cell (i := 0) rfl
    have d1 := HND.out.blk.cell (i := 1) rfl
    clear hP HO3 c0 c1 x0 x1 ck HD1 HX HY HL3 HB3 HF
    cases H3 with
    | one t3' =>
      obtain ⟨bb, hbb, hlies⟩ := HP.out.lies
      obtain ⟨rfl, hyy, rfl⟩ : b3 = bb ∧ y3 = (⟨#[]⟩, ⟨#[]⟩) ∧ r3 = none := by
        simp only [hv, one, Value.agg.injEq, Array.mk.injEq, List.cons.injEq, Value.pointer.injEq, Option.some.injEq, Addr.mk.injEq, Value.string.injEq, and_true] at hbb
        exact ⟨hbb.1, Prod.ext hbb.2.1 hbb.2.2.1, hbb.2.2.2⟩
      have HLT : Hid (Lies W d t3' b3) := hlies
      clear hbb hlies hyy
      go_wp2_with (go_at_call 42; refine (withKid_is W nd n cap n' cap' b3 k' a (some ⟨gk, offk, none⟩) ps bs HND.out HRK.out HQ.out.2.1 (by have := HNN.out; omega) (by have := HNN.out; have := HC.out; omega)).mono ?_; rintro e w5 ⟨nd5, a5, n5, cap5, bs5, rfl, HE5, HN5, HB5⟩;
                        have HY5 : Hid (Blk w5 (w.heap.size + 1) 59 [Value.pointer none, Value.string { data := #[] }, Value.string { data := #[] }, Value.pointer none]) := HYB.out.below HB5.out HYB.out.lt;
                        have y50 := HY5.out.cell (i := 0) rfl;
                        have y51 := HY5.out.cell (i := 1) rfl;
                        have y52 := HY5.out.cell (i := 2) rfl;
                        have y53 := HY5.out.cell (i := 3) rfl;
                        have g50 := HY5.out.free 0;
                        have g51 := HY5.out.free 1;
                        have g52 := HY5.out.free 2;
                        have g53 := HY5.out.free 3)
      have hb := put4_blk (nd := nd5) HY5.out
      refine bodyPost_ret (results_half rfl rfl hb) rfl ?_
      have hO : Oth w5 (w.heap.size + 1) := HY5.out.oth (by decide) (by decide) (by decide)
      have hg := put4_grown w5 (w.heap.size + 1) nd5
      have hk5 : Kids w5 d (ts.take k' ++ [t3'] ++ ts.drop (k' + 1)) bs5 := by
        rw [HE5.out]
        exact (((HKS.out.below HB5.out).take k').append (Kids.one (HLT.out.below HB5.out (Nat.le_refl _)))).append ((HKS.out.below HB5.out).drop (k' + 1))
      have hkt := HQ.out.2.2.2.2.2.1
      have hlt := (List.getElem?_eq_some_iff.1 hkt).1
      have hlen : (ts.take k' ++ [t3'] ++ ts.drop (k' + 1)).length = ps.length + 1 := by rw [← HQ.out.2.2.2.2.1]; simp; omega
      refine ⟨nd5, (⟨#[]⟩, ⟨#[]⟩), none, .one (ps, ts.take k' ++ [t3'] ++ ts.drop (k' + 1)), rfl, ⟨nd5, rfl, a, n, cap, a5, n5, cap5, bs5, HN5.out.1.oth hg hO, HC.out.2, HN5.out.2.1.oth hg hO, HN5.out.2.2, hk5.1, fun i kk b' h1 h2 => (hk5.2 i kk b' h1 h2).oth hg hO⟩, ⟨?_, ⟨⟨hlen, ?_⟩, ?_⟩, ?_⟩, ?_⟩
      · show inter ((ts.take k' ++ [t3'] ++ ts.drop (k' + 1)).map (tl d)) ps = _
        rw [List.map_append, List.map_append, List.map_take, List.map_drop]
        rw [show List.map (tl d) [t3'] = [tl d t3'] from rfl]
        rw [inter_set (by simpa using HQ.out.2.2.2.2.1) (kid_map hkt)]
        have e : tl d t3' = insP (tl d kt) (k0, v0) := HO.out.1
        rw [e]
      · intro kk hkk
        rw [List.mem_append, List.mem_append] at hkk
        rcases hkk with (hkk | hkk) | hkk
        · exact HQ.out.2.2.2.1 kk (List.mem_of_mem_take hkk)
        · rw [List.mem_singleton.1 hkk]
          have h1 := HO.out.2.1
          have h2 := HO.out.2.2 t3' rfl
          have h3 := HQ.out.2.2.2.2.2.2.2.2
          exact ⟨h1.1, by omega, h1.2⟩
        · exact HQ.out.2.2.2.1 kk (List.mem_of_mem_drop hkk)
      · show ps.length ≤ 7; rw [HD.out.rd.1]; exact HC.out.1
      · intro t' ht'; cases ht'; exact Nat.le_refl _
      · exact put4_below (HBW.out.trans (HB5.out.mono HBW.out.size)) (by omega)
    | two l m r =>
      obtain ⟨bl, br, hbb, hl1, hl2⟩ := HP.out.lies
      obtain ⟨rfl, rfl, rfl⟩ : b3 = bl ∧ y3 = m ∧ r3 = some ⟨br, 0, none⟩ := by
        simp only [hv, two, Value.agg.injEq, Array.mk.injEq, List.cons.injEq, Value.pointer.injEq, Option.some.injEq, Addr.mk.injEq, Value.string.injEq, and_true] at hbb
        exact ⟨hbb.1, Prod.ext hbb.2.1 hbb.2.2.1, hbb.2.2.2⟩
      have HLL : Hid (Lies W d l b3 ∧ Lies W d r br) := ⟨hl1, hl2⟩
      clear hbb hl1 hl2
      have HK11 : Hid (∀ W', Below W.heap.size W W' → (fun w' => w'.cell? ⟨nd, 0, none⟩ = some (.slice a n cap) ∧ w'.cell? ⟨nd, 1, none⟩ = some (.slice (some ⟨gk, offk, none⟩) n' cap') ∧ w'.cell? ⟨tb, 0, none⟩ = some (.pointer (some ⟨b3, 0, none⟩)) ∧ w'.cell? ⟨tb, 1, none⟩ = some (.string y3.1) ∧ w'.cell? ⟨tb, 2, none⟩ = some (.string y3.2) ∧ w'.cell? ⟨tb, 3, none⟩ = some (.pointer (some ⟨br, 0, none⟩))) W') := fun W' hW => ⟨(hW.cell (p := ⟨nd, 0, none⟩) HND.out.blk.lt).trans d0, (hW.cell (p := ⟨nd, 1, none⟩) HND.out.blk.lt).trans d1, (hW.cell (p := ⟨tb, 0, none⟩) HTB.out.2).trans t0, (hW.cell (p := ⟨tb, 1, none⟩) HTB.out.2).trans t1, (hW.cell (p := ⟨tb, 2, none⟩) HTB.out.2).trans t2, (hW.cell (p := ⟨tb, 3, none⟩) HTB.out.2).trans t3⟩
      have HK11s : Hid (∀ W' b y r, Below W.heap.size W W' → (fun w' => w'.cell? ⟨nd, 0, none⟩ = some (.slice a n cap) ∧ w'.cell? ⟨nd, 1, none⟩ = some (.slice (some ⟨gk, offk, none⟩) n' cap') ∧ w'.cell? ⟨tb, 0, none⟩ = some (.pointer (some ⟨b3, 0, none⟩)) ∧ w'.cell? ⟨tb, 1, none⟩ = some (.string y3.1) ∧ w'.cell? ⟨tb, 2, none⟩ = some (.string y3.2) ∧ w'.cell? ⟨tb, 3, none⟩ = some (.pointer (some ⟨br, 0, none⟩))) (put4v W' (w.heap.size + 1) b y r)) := fun W' b y r hW => by
        have hg := put4v_grown W' (w.heap.size + 1) b y r
        obtain ⟨h0, h1, h2, h3, h4, h5⟩ := HK11.out W' hW
        have hnl := HL.out
        have htl := HTB.out.1
        exact ⟨hg.cell h0 (by simp; omega), hg.cell h1 (by simp; omega), hg.cell h2 (by simp; omega), hg.cell h3 (by simp; omega), hg.cell h4 (by simp; omega), hg.cell h5 (by simp; omega)⟩
      have BP : Hid (Below W.heap.size W (W.alloc (Obj.cells #[Value.string y3.1, Value.string y3.2] 40)).drew) := ((Below.refl _ W).alloc (Nat.le_refl _) _).drew
      have BK : Hid (Below W.heap.size W (W.alloc (Obj.cells #[Value.pointer (some { block := b3, off := 0 }), Value.pointer (some { block := br, off := 0 })] 46)).drew) := ((Below.refl _ W).alloc (Nat.le_refl _) _).drew
      have BPK : Hid (Below W.heap.size W ((W.alloc (Obj.cells #[Value.string y3.1, Value.string y3.2] 40)).alloc (Obj.cells #[Value.pointer (some { block := b3, off := 0 }), Value.pointer (some { block := br, off := 0 })] 46)).drew) := (((Below.refl _ W).alloc (Nat.le_refl _) _).alloc (by simp) _).drew
      have BKP : Hid (Below W.heap.size W ((W.alloc (Obj.cells #[Value.pointer (some { block := b3, off := 0 }), Value.pointer (some { block := br, off := 0 })] 46)).alloc (Obj.cells #[Value.string y3.1, Value.string y3.2] 40)).drew) := (((Below.refl _ W).alloc (Nat.le_refl _) _).alloc (by simp) _).drew
      have RP1 : Hid (RdP (W.alloc (Obj.cells #[Value.string y3.1, Value.string y3.2] 40)).drew (some ⟨W.heap.size, 0, none⟩) 1 [y3]) := rdp_one (Blk.new W #[.string y3.1, .string y3.2] 40).drew
      have RP2 : Hid (RdP ((W.alloc (Obj.cells #[Value.string y3.1, Value.string y3.2] 40)).alloc (Obj.cells #[Value.pointer (some { block := b3, off := 0 }), Value.pointer (some { block := br, off := 0 })] 46)).drew (some ⟨W.heap.size, 0, none⟩) 1 [y3]) := rdp_one ((Blk.new W #[.string y3.1, .string y3.2] 40).alloc _).drew
      have RP3 : Hid (RdP ((W.alloc (Obj.cells #[Value.pointer (some { block := b3, off := 0 }), Value.pointer (some { block := br, off := 0 })] 46)).alloc (Obj.cells #[Value.string y3.1, Value.string y3.2] 40)).drew (some ⟨W.heap.size + 1, 0, none⟩) 1 [y3]) := by
        have e := Blk.new (W.alloc (Obj.cells #[Value.pointer (some { block := b3, off := 0 }), Value.pointer (some { block := br, off := 0 })] 46)) #[.string y3.1, .string y3.2] 40
        rw [World.size_alloc] at e
        exact rdp_one e.drew
      have RK2 : Hid (RdK ((W.alloc (Obj.cells #[Value.string y3.1, Value.string y3.2] 40)).alloc (Obj.cells #[Value.pointer (some { block := b3, off := 0 }), Value.pointer (some { block := br, off := 0 })] 46)).drew (some ⟨W.heap.size + 1, 0, none⟩) 2 [b3, br]) := by
        have e := Blk.new (W.alloc (Obj.cells #[Value.string y3.1, Value.string y3.2] 40)) #[kp b3, kp br] 46
        rw [World.size_alloc] at e
        exact rdk_two e.drew
      have RK3 : Hid (RdK ((W.alloc (Obj.cells #[Value.pointer (some { block := b3, off := 0 }), Value.pointer (some { block := br, off := 0 })] 46)).alloc (Obj.cells #[Value.string y3.1, Value.string y3.2] 40)).drew (some ⟨W.heap.size, 0, none⟩) 2 [b3, br]) := rdk_two ((Blk.new W #[kp b3, kp br] 46).alloc _).drew
      have HJ : Hid (IntKind.i64.wrap ((k' : Int) + 1) = ((k' + 1 : Nat) : Int)) := by show _ = _; have := HC.out; rw [IntKind.wrap_i64]; omega
      have H40a : Hid (Calls Try.prog 40 #[.slice a n cap, .int .i64 (k' : Int), .int .i64 (k' : Int), .slice (some ⟨W.heap.size, 0, none⟩) 1 1] (W.alloc (Obj.cells #[Value.string y3.1, Value.string y3.2] 40)).drew (SpP (W.alloc (Obj.cells #[Value.string y3.1, Value.string y3.2] 40)).drew k' k' n 1 ps [y3])) := spP (W.alloc (Obj.cells #[Value.string y3.1, Value.string y3.2] 40)).drew a n cap k' k' _ _ rfl rfl ps (some ⟨W.heap.size, 0, none⟩) 1 1 [y3] (HND.out.below BP.out (Nat.le_refl _)).rd HC.out.2 (Nat.le_refl _) hkn RP1.out (by have := HC.out; omega)
      have H40b : Hid (Calls Try.prog 40 #[.slice a n cap, .int .i64 (k' : Int), .int .i64 (k' : Int), .slice (some ⟨W.heap.size, 0, none⟩) 1 1] ((W.alloc (Obj.cells #[Value.string y3.1, Value.string y3.2] 40)).alloc (Obj.cells #[Value.pointer (some { block := b3, off := 0 }), Value.pointer (some { block := br, off := 0 })] 46)).drew (SpP ((W.alloc (Obj.cells #[Value.string y3.1, Value.string y3.2] 40)).alloc (Obj.cells #[Value.pointer (some { block := b3, off := 0 }), Value.pointer (some { block := br, off := 0 })] 46)).drew k' k' n 1 ps [y3])) := spP ((W.alloc (Obj.cells #[Value.string y3.1, Value.string y3.2] 40)).alloc (Obj.cells #[Value.pointer (some { block := b3, off := 0 }), Value.pointer (some { block := br, off := 0 })] 46)).drew a n cap k' k' _ _ rfl rfl ps (some ⟨W.heap.size, 0, none⟩) 1 1 [y3] (HND.out.below BPK.out (Nat.le_refl _)).rd HC.out.2 (Nat.le_refl _) hkn RP2.out (by have := HC.out; omega)
      have H40c : Hid (Calls Try.prog 40 #[.slice a n cap, .int .i64 (k' : Int), .int .i64 (k' : Int), .slice (some ⟨W.heap.size + 1, 0, none⟩) 1 1] ((W.alloc (Obj.cells #[Value.pointer (some { block := b3, off := 0 }), Value.pointer (some { block := br, off := 0 })] 46)).alloc (Obj.cells #[Value.string y3.1, Value.string y3.2] 40)).drew (SpP ((W.alloc (Obj.cells #[Value.pointer (some { block := b3, off := 0 }), Value.pointer (some { block := br, off := 0 })] 46)).alloc (Obj.cells #[Value.string y3.1, Value.string y3.2] 40)).drew k' k' n 1 ps [y3])) := spP ((W.alloc (Obj.cells #[Value.pointer (some { block := b3, off := 0 }), Value.pointer (some { block := br, off := 0 })] 46)).alloc (Obj.cells #[Value.string y3.1, Value.string y3.2] 40)).drew a n cap k' k' _ _ rfl rfl ps (some ⟨W.heap.size + 1, 0, none⟩) 1 1 [y3] (HND.out.below BKP.out (Nat.le_refl _)).rd HC.out.2 (Nat.le_refl _) hkn RP3.out (by have := HC.out; omega)
      go_wp2_with fail
      go_region_held_law (fun w' => w'.cell? ⟨nd, 0, none⟩ = some (.slice a n cap) ∧ w'.cell? ⟨nd, 1, none⟩ = some (.slice (some ⟨gk, offk, none⟩) n' cap') ∧ w'.cell? ⟨tb, 0, none⟩ = some (.pointer (some ⟨b3, 0, none⟩)) ∧ w'.cell? ⟨tb, 1, none⟩ = some (.string y3.1) ∧ w'.cell? ⟨tb, 2, none⟩ = some (.string y3.2) ∧ w'.cell? ⟨tb, 3, none⟩ = some (.pointer (some ⟨br, 0, none⟩)))
        (first | with_reducible exact HK11.out _ (Below.refl _ W).drew | with_reducible exact HK11.out _ BP.out | with_reducible exact HK11.out _ BK.out | with_reducible exact HK11.out _ BPK.out | with_reducible exact HK11.out _ BKP.out | with_reducible exact HK11.out _ HB5.out | with_reducible exact HK11.out _ (HB5.out.alloc HB5.out.size _) | with_reducible exact HK11.out _ HB6.out | with_reducible exact HK11.out _ HB7.out | exact HK11s.out _ _ _ _ HB7.out)
        (first
        | (go_at_call 40; (with_reducible refine Calls.mono H40a.out ?_); rintro e w5 ⟨a5, n5, cap5, R5, rfl, HE5, HR5, hB5⟩; have HB5 : Hid (Below W.heap.size W w5) := BP.out.trans (hB5.out.mono BP.out.size); have H45 : Hid (Calls Try.prog 45 #[.slice (some ⟨gk, offk, none⟩) n' cap', .int .i64 (k' : Int), .int .i64 (IntKind.i64.wrap ((k' : Int) + 1)), .slice (some ⟨w5.heap.size, 0, none⟩) 2 2] (w5.alloc (Obj.cells #[Value.pointer (some { block := b3, off := 0 }), Value.pointer (some { block := br, off := 0 })] 46)) (SpK (w5.alloc (Obj.cells #[Value.pointer (some { block := b3, off := 0 }), Value.pointer (some { block := br, off := 0 })] 46)) k' (k' + 1) n' 2 bs [b3, br])) := spK (w5.alloc (Obj.cells #[Value.pointer (some { block := b3, off := 0 }), Value.pointer (some { block := br, off := 0 })] 46)) (some ⟨gk, offk, none⟩) n' cap' k' (k' + 1) _ _ rfl HJ.out bs (some ⟨w5.heap.size, 0, none⟩) 2 2 [b3, br] (HRK.out.below (HB5.out.alloc HB5.out.size _) (Nat.le_refl _)) HQ.out.2.1 (by omega) (by have := HNN.out; omega) (rdk_two (Blk.new w5 #[kp b3, kp br] 46)) (by have := HNN.out; have := HC.out; omega); have H56 : Hid (∀ w6, Below (w5.alloc (Obj.cells #[Value.pointer (some { block := b3, off := 0 }), Value.pointer (some { block := br, off := 0 })] 46)).heap.size (w5.alloc (Obj.cells #[Value.pointer (some { block := b3, off := 0 }), Value.pointer (some { block := br, off := 0 })] 46)) w6 → Below w5.heap.size w5 w6) := fun w6 h => ((Below.refl _ w5).alloc (Nat.le_refl _) _).trans (h.mono (by simp)); clear hB5)
        | (go_at_call 40; (with_reducible refine Calls.mono H40b.out ?_); rintro e w5 ⟨a5, n5, cap5, R5, rfl, HE5, HR5, hB5⟩; have HB5 : Hid (Below W.heap.size W w5) := BPK.out.trans (hB5.out.mono BPK.out.size); have H45 : Hid (Calls Try.prog 45 #[.slice (some ⟨gk, offk, none⟩) n' cap', .int .i64 (k' : Int), .int .i64 (IntKind.i64.wrap ((k' : Int) + 1)), .slice (some ⟨W.heap.size + 1, 0, none⟩) 2 2] w5 (SpK w5 k' (k' + 1) n' 2 bs [b3, br])) := spK w5 (some ⟨gk, offk, none⟩) n' cap' k' (k' + 1) _ _ rfl HJ.out bs (some ⟨W.heap.size + 1, 0, none⟩) 2 2 [b3, br] (HRK.out.below HB5.out (Nat.le_refl _)) HQ.out.2.1 (by omega) (by have := HNN.out; omega) (RK2.out.below hB5.out (Nat.le_refl _)) (by have := HNN.out; have := HC.out; omega); have H56 : Hid (∀ w6, Below w5.heap.size w5 w6 → Below w5.heap.size w5 w6) := fun w6 h => h; clear hB5)
        | (go_at_call 40; (with_reducible refine Calls.mono H40c.out ?_); rintro e w5 ⟨a5, n5, cap5, R5, rfl, HE5, HR5, hB5⟩; have HB5 : Hid (Below W.heap.size W w5) := BKP.out.trans (hB5.out.mono BKP.out.size); have H45 : Hid (Calls Try.prog 45 #[.slice (some ⟨gk, offk, none⟩) n' cap', .int .i64 (k' : Int), .int .i64 (IntKind.i64.wrap ((k' : Int) + 1)), .slice (some ⟨W.heap.size, 0, none⟩) 2 2] w5 (SpK w5 k' (k' + 1) n' 2 bs [b3, br])) := spK w5 (some ⟨gk, offk, none⟩) n' cap' k' (k' + 1) _ _ rfl HJ.out bs (some ⟨W.heap.size, 0, none⟩) 2 2 [b3, br] (HRK.out.below HB5.out (Nat.le_refl _)) HQ.out.2.1 (by omega) (by have := HNN.out; omega) (RK3.out.below hB5.out (Nat.le_refl _)) (by have := HNN.out; have := HC.out; omega); have H56 : Hid (∀ w6, Below w5.heap.size w5 w6 → Below w5.heap.size w5 w6) := fun w6 h => h; clear hB5)
        | (go_at_call 45; (with_reducible refine Calls.mono H45.out ?_); rintro e w6 ⟨a6, n6, cap6, R6, rfl, HE6, HR6, hB6⟩; have HB56 : Hid (Below w5.heap.size w5 w6) := H56.out w6 hB6.out; have HB6 : Hid (Below W.heap.size W w6) := HB5.out.trans (HB56.out.mono HB5.out.size); clear hB6)
        | (go_at_call 44; refine (cut_node w6 d a5 a6 n5 cap5 n6 cap6 R5 (ts.take k' ++ [l, r] ++ ts.drop (k' + 1)) R6 (HR5.out.1.below HB56.out (Nat.le_refl _)) HR5.out.2 (by have := HE5.out.2; have := HC.out; omega) HR6.out.1 HR6.out.2 (two_len HQ.out.2.2.2.2.1 HQ.out.2.2.2.2.2.1 HE5.out.1) (two_kids HKS.out HLL.out.1 HLL.out.2 HB6.out HE6.out.1) (two_ok HQ.out.2.2.2.1 HO.out.2.1)).mono ?_; rintro e w7 ⟨v7, H7, rfl, HL7, HO7, hB7⟩; obtain ⟨b7, y7, r7, rfl⟩ := HL7.out.form; unfold hv; have HB7 : Hid (Below W.heap.size W w7) := HB6.out.trans (hB7.out.mono HB6.out.size); clear hB7;
            have HY7 : Hid (Blk w7 (w.heap.size + 1) 59 [Value.pointer none, Value.string { data := #[] }, Value.string { data := #[] }, Value.pointer none]) := HYB.out.below HB7.out HYB.out.lt;
            have y0 := HY7.out.cell (i := 0) rfl; have y1 := HY7.out.cell (i := 1) rfl; have y2 := HY7.out.cell (i := 2) rfl; have y33 := HY7.out.cell (i := 3) rfl;
            have f0 := HY7.out.free 0; have f1 := HY7.out.free 1; have f2 := HY7.out.free 2; have f3 := HY7.out.free 3))
      all_goals go_wp2
      all_goals refine bodyPost_ret (results_hv rfl rfl (put4v_blk (nd := b7) (y := y7) (r := r7) HY7.out rfl)) rfl ?_
      all_goals refine ⟨b7, y7, r7, H7, rfl, HL7.out.oth (put4v_grown _ _ _ _ _) (HY7.out.oth (by decide) (by decide) (by decide)), ⟨two_list HQ.out.2.2.2.2.1 HQ.out.2.2.2.2.2.1 HO7.out.1 HE5.out.1 HO.out.1, HO7.out.2.1, ?_⟩, put4v_below (HBW.out.trans (HB7.out.mono HBW.out.size)) (by omega)⟩
      all_goals exact two_grow HD.out.rd.1 HE5.out.2 hkn HO7.out.2.2.1 HO7.out.2.2.2
end Go.Proofs.Ytnagknlfboadkaa.Oct

/- Layer 7 (tree): 'spliced' of pairs, told as what may be appended to. -/
namespace Go.Proofs.Ytnagknlfboadkaa.Oct
open Go.RowKit
set_option maxRecDepth 100000 in
set_option maxHeartbeats 1000000 in
theorem splPB (w : World) (a : Option Addr) (n cap i j : Nat) (I J : Int) (hI : I = (i : Int)) (hJ : J = (j : Int)) (cs : List Value) (o : Option Addr) (q c : Nat) (qs : List Value) (h : Rd w 40 2 a n cs) (hac : Ad a cap) (hnc : n ≤ cap) (hij : i ≤ j) (hjn : j ≤ n) (ho : Rd w 40 2 o q qs) (hb : n + q ≤ 1000000) :
    Calls Try.prog 40 #[.slice a n cap, .int .i64 I, .int .i64 J, .slice o q c] w fun e w' => ∃ (a' : Option Addr) (n' cap' : Nat) (cs' : List Value), e = .returned (.slice a' n' cap') ∧ Hid (cs' = cs.take (i * 2) ++ qs ++ cs.drop (j * 2) ∧ n' = i + q + (n - j) ∧ n' ≤ cap' ∧ Ad a' cap') ∧ Hid (Bs 40 2 w.heap.size w' (.slice a' n' cap') n' cs') ∧ Hid (Below w.heap.size w w') := by
  subst hI; subst hJ
  obtain ⟨i0, hi0, hii⟩ := Option.map_eq_some_iff.1 infoP
  simp only [Prod.mk.injEq] at hii
  have HO : Hid (Rd w.drew 40 2 o q qs) := ho.below (Below.refl _ w).drew (Nat.le_refl _)
  have HN : Hid (n + q ≤ 1000000 ∧ i ≤ j ∧ j ≤ n ∧ n ≤ cap) := ⟨hb, hij, hjn, hnc⟩
  have HB1 : Hid (Bs 40 2 w.heap.size w.drew (.slice a i i) i (cs.take (i * 2))) := .inl ⟨a, rfl, (h.below (Below.refl _ w).drew (Nat.le_refl _)).take (by omega), by
    rcases hac with ⟨rfl, rfl⟩ | ⟨g, off, rfl⟩
    · exact .inl ⟨rfl, by omega⟩
    · exact .inr ⟨g, off, rfl⟩⟩
  have hby : i0.bytes ≤ 64 := by rw [hii.2.2]; omega
  rcases hac with ⟨rfl, rfl⟩ | ⟨g, off, rfl⟩
  · have hn0 : n = 0 := by omega
    subst hn0
    have hj0 : j = 0 := by omega
    subst hj0
    have hi0' : i = 0 := by omega
    subst hi0'
    have HD : Hid (∀ W, Rd W 40 2 none 0 (cs.drop (0 * 2))) := fun W => by
      have : cs = [] := List.eq_nil_of_length_eq_zero (by simpa using h.1)
      rw [this]; exact Rd.nil W 40 2 none
    obtain ⟨T1, hT1⟩ : ∃ T1, cs.take (0 * 2) = T1 := ⟨_, rfl⟩
    obtain ⟨T2, hT2⟩ : ∃ T2, cs.drop (0 * 2) = T2 := ⟨_, rfl⟩
    rw [hT1] at HB1 ⊢
    rw [hT2] at HD ⊢
    clear h hnc hij hjn ho hb hT1 hT2
    go_enter Try.func40, Try.ntmps40
    go_wp2
    go_region_held_law (fun _ => True) (trivial) (first
      | (go_at_call 48; refine (partP_nil w.drew).mono ?_; rintro e w2 ⟨rfl, rfl⟩)
      | (refine step_append_bs (by rfl) 13 rfl _ _ 27 rfl w.drew 40 i0 _ 2 w.heap.size Try.underlying27 hi0 hii.1 hii.2.1 hby rfl (by omega) (.slice none 0 0) 0 T1 HB1.out o q c qs rfl rfl HO.out (Nat.le_refl _) (by have := HN.out; omega) ?_; intro v3 w3 HO3 HB3; obtain ⟨a3, cap3, rfl, _⟩ := HO3.out.read)
      | (refine step_append_bs (by rfl) 17 rfl _ _ 27 rfl w3 40 i0 _ 2 w.heap.size Try.underlying27 hi0 hii.1 hii.2.1 hby rfl (by omega) _ _ _ HO3.out none 0 0 T2 rfl rfl (HD.out w3) HB3.out.size (by have := HN.out; omega) ?_; intro v4 w4 HO4 HB4; obtain ⟨a4, cap4, rfl, h4, _, h6⟩ := HO4.out.read))
    have e4 : 0 + q + 0 = q := by omega
    rw [e4] at h4 HO4
    go_wp2
    go_ret
    exact ⟨a4, q, cap4, _, rfl, ⟨rfl, by omega, h4, h6⟩, HO4, ((Below.refl _ w).drew.trans HB3.out).trans HB4.out⟩
  · have q1 : (0 : Int) ≤ (j : Int) := by omega
    have q2 : (j : Int) ≤ (n : Int) := by omega
    have q3 : (n : Int) ≤ (cap : Int) := by omega
    have q5 : i ≤ cap := by omega
    by_cases hcj : cap = j
    · have hjn' : j = n := by omega
      subst hcj
      subst hjn'
      have HD : Hid (∀ W, Rd W 40 2 (some ⟨g, off, none⟩) 0 (cs.drop (cap * 2))) := fun W => by
        rw [List.drop_eq_nil_of_le (by rw [h.1]; exact Nat.le_refl _)]; exact Rd.nil W 40 2 _
      obtain ⟨T1, hT1⟩ : ∃ T1, cs.take (i * 2) = T1 := ⟨_, rfl⟩
      obtain ⟨T2, hT2⟩ : ∃ T2, cs.drop (cap * 2) = T2 := ⟨_, rfl⟩
      rw [hT1] at HB1 ⊢
      rw [hT2] at HD ⊢
      clear h hnc hij hjn ho hb hT1 hT2
      go_enter Try.func40, Try.ntmps40
      go_wp2
      go_region_held_law (fun _ => True) (trivial) (first
        | (go_at_call 48; refine (partP_zero w.drew g off cap cap i q5).mono ?_; rintro e w2 ⟨rfl, rfl⟩)
        | (refine step_append_bs (by rfl) 13 rfl _ _ 27 rfl w.drew 40 i0 _ 2 w.heap.size Try.underlying27 hi0 hii.1 hii.2.1 hby rfl (by omega) (.slice (some ⟨g, off, none⟩) i i) i T1 HB1.out o q c qs rfl rfl HO.out (Nat.le_refl _) (by have := HN.out; omega) ?_; intro v3 w3 HO3 HB3; obtain ⟨a3, cap3, rfl, _⟩ := HO3.out.read)
        | (refine step_append_bs (by rfl) 17 rfl _ _ 27 rfl w3 40 i0 _ 2 w.heap.size Try.underlying27 hi0 hii.1 hii.2.1 hby rfl (by omega) _ _ _ HO3.out (some ⟨g, off, none⟩) 0 0 T2 rfl rfl (HD.out w3) HB3.out.size (by have := HN.out; omega) ?_; intro v4 w4 HO4 HB4; obtain ⟨a4, cap4, rfl, h4, _, h6⟩ := HO4.out.read))
      go_wp2
      go_ret
      exact ⟨a4, _, cap4, _, rfl, ⟨rfl, by omega, h4, h6⟩, HO4, ((Below.refl _ w).drew.trans HB3.out).trans HB4.out⟩
    · have HD : Hid (∀ W, Below w.heap.size w W → Rd W 40 2 (some ⟨g, off + j * 2, none⟩) (n - j) (cs.drop (j * 2))) := fun W hW => (h.below hW (Nat.le_refl _)).drop hjn
      have q4 : ¬ cap - j = 0 := by omega
      obtain ⟨T1, hT1⟩ : ∃ T1, cs.take (i * 2) = T1 := ⟨_, rfl⟩
      obtain ⟨T2, hT2⟩ : ∃ T2, cs.drop (j * 2) = T2 := ⟨_, rfl⟩
      rw [hT1] at HB1 ⊢
      rw [hT2] at HD ⊢
      clear h hnc hij hjn ho hb hT1 hT2 hcj
      go_enter Try.func40, Try.ntmps40
      go_wp2
      go_region_held_law (fun _ => True) (trivial) (first
        | (go_at_call 48; refine (partP_zero w.drew g off n cap i q5).mono ?_; rintro e w2 ⟨rfl, rfl⟩)
        | (refine step_append_bs (by rfl) 13 rfl _ _ 27 rfl w.drew 40 i0 _ 2 w.heap.size Try.underlying27 hi0 hii.1 hii.2.1 hby rfl (by omega) (.slice (some ⟨g, off, none⟩) i i) i T1 HB1.out o q c qs rfl rfl HO.out (Nat.le_refl _) (by have := HN.out; omega) ?_; intro v3 w3 HO3 HB3; obtain ⟨a3, cap3, rfl, _⟩ := HO3.out.read)
        | (refine step_append_bs (by rfl) 17 rfl _ _ 27 rfl w3 40 i0 _ 2 w.heap.size Try.underlying27 hi0 hii.1 hii.2.1 hby rfl (by omega) _ _ _ HO3.out (some ⟨g, off + j * 2, none⟩) (n - j) (cap - j) T2 rfl rfl (HD.out w3 ((Below.refl _ w).drew.trans HB3.out)) HB3.out.size (by have := HN.out; omega) ?_; intro v4 w4 HO4 HB4; obtain ⟨a4, cap4, rfl, h4, _, h6⟩ := HO4.out.read))
      go_wp2
      go_ret
      exact ⟨a4, _, cap4, _, rfl, ⟨rfl, rfl, h4, h6⟩, HO4, ((Below.refl _ w).drew.trans HB3.out).trans HB4.out⟩
end Go.Proofs.Ytnagknlfboadkaa.Oct

/- Layer 7 (tree): 'mended'. -/
namespace Go.Proofs.Ytnagknlfboadkaa.Oct
open Go.RowKit

/-- 'max(x, 0)' -/
theorem wpList_max0 {P : Program} {ops : Array Oper} {rest : List Oper} {o : Oper} {a : Act} {w : World} {Q : Exit → Act → World → Prop} (hgd : o.guard = none) (x : Operand) (ts : Array TypeId) (ho : o.op = .call { callee := .builtin .max, args := #[x, .const (.int .i64 0)], argTypes := ts })
    (I J : Int) (hx : a.eval x = .int .i64 I) (hJ : max I 0 = J) (h : wpList P ops Q rest (a.put o.dst (.int .i64 J)) w) : wpList P ops Q (o :: rest) a w := by
  refine wpList_plain hgd fun K hK => ?_
  have hr : (Builtin.max_ ts o.type #[.int .i64 I, .int .i64 0]).run P w = .ok (.int .i64 J) w := by
    subst hJ
    by_cases h0 : I ≤ 0
    · have e : max I 0 = 0 := by omega
      rw [e]
      by_cases h1 : I = 0
      · subst h1; simp [Builtin.max_, Builtin.max2]
      · have h2 : I < 0 := by omega
        simp [Builtin.max_, Builtin.max2, h2]
    · have e : max I 0 = I := by omega
      rw [e]
      have h2 : ¬ I < 0 := by omega
      simp [Builtin.max_, Builtin.max2, h2]
  have hc0 : a.eval (.const (.int .i64 0)) = .int .i64 0 := rfl
  unfold Oper.wp execOp
  simp only [ho, resolve, invoke, builtin, Sem.run_bind, Sem.run_pure, Result.andThen_ok, List.map_toArray, List.map_cons, List.map_nil, hx, hc0, hr]
  exact hK _ _ h
theorem bs_mono {e sz B B' : Nat} {w : World} {v : Value} {n : Nat} {cs : List Value} (h : Bs e sz B w v n cs) (hB : B' ≤ B) : Bs e sz B' w v n cs := by
  rcases h with h | ⟨h1, h2, h3⟩
  · exact .inl h
  · refine .inr ⟨h1, h2, ?_⟩
    rcases h3 with h3 | ⟨g, cap, cur, e, h4, h5⟩
    · exact .inl h3
    · exact .inr ⟨g, cap, cur, e, Nat.le_trans hB h4, h5⟩
theorem kid_bound {w : World} {d : Nat} {t : T d} {b : Nat} (h : Lies w d t b) (hw : WF d t) {a' : Option Addr} {n' cap' : Nat} (hc : w.cell? ⟨b, 1, none⟩ = some (.slice a' n' cap')) : n' ≤ (prs d t).length + 1 := by
  cases d with
  | zero =>
    obtain ⟨_, _, _, h1, _⟩ := h
    have e := hc.symm.trans (h1.blk.cell (i := 1) rfl)
    cases e
    omega
  | succ d =>
    obtain ⟨_, _, _, a3, n3, cap3, bs, h1, _, h3, h4, h5, _⟩ := h
    have e := hc.symm.trans (h1.blk.cell (i := 1) rfl)
    cases e
    have := hw.1
    show n' ≤ t.1.length + 1
    rw [← h3.1, h5]
    omega
/-- two kids that are one now -/
theorem mend_one {d : Nat} {w W8 w9 wA : World} {n n' n9 cap9 nA capA b8 i' : Nat} {a9 aA : Option Addr} {ps R9 : List Pr} {ts : List (T d)} {bs RA : List Nat} {t8 tL tR : T d} {pm : Pr} {Z : Nat} (hks : Kids W8 d ts bs) (hl8 : Lies W8 d t8 b8) (hb8 : Below w.heap.size w W8) (hb9 : Below W8.heap.size W8 w9) (hb9A : Below w9.heap.size w9 wA)
    (he9 : R9 = ps.take i' ++ [] ++ ps.drop (i' + 1) ∧ n9 = i' + 0 + (n - (i' + 1))) (hr9 : RdP w9 a9 n9 R9 ∧ Cap a9 n9 cap9) (heA : RA = bs.take i' ++ [b8] ++ bs.drop (i' + 2) ∧ nA = i' + 1 + (n' - (i' + 2))) (hrA : RdK wA aA nA RA ∧ Cap aA nA capA)
    (htl : ts[i']? = some tL ∧ ts[i' + 1]? = some tR ∧ ps[i']? = some pm) (hn2 : n' = n + 1 ∧ n ≤ 7 ∧ ts.length = ps.length + 1 ∧ ps.length = n) (ho8 : (Half.one t8).list = tl d tL ++ pm :: tl d tR ∧ (Half.one t8).ok ∧ (Z ≤ 7 → ∃ t, Half.one t8 = .one t ∧ (prs d t).length = Z) ∧ (7 < Z → ∃ x m z, Half.one t8 = .two x m z)) (hZ : 6 ≤ Z)
    {i : Nat} (hoth : ∀ (j : Nat) (k : T d), ts[j]? = some k → j ≠ i → WF d k ∧ 3 ≤ (prs d k).length ∧ (prs d k).length ≤ 7) (hii : i' < n ∧ (i = i' ∨ i = i' + 1)) :
    ∃ (nd2 : Nat) (t2 : T (d + 1)), Ending.returned (Value.pointer (some ⟨wA.heap.size, 0, none⟩)) = .returned (.pointer (some ⟨nd2, 0, none⟩)) ∧ Hid (Lies (wA.alloc (.cells #[.slice a9 n9 cap9, .slice aA nA capA] 67)) (d + 1) t2 nd2) ∧ Hid (tl (d + 1) t2 = inter (ts.map (tl d)) ps ∧ WF (d + 1) t2 ∧ t2.1.length ≤ ps.length ∧ ps.length ≤ t2.1.length + 1) ∧ Hid (Below w.heap.size w (wA.alloc (.cells #[.slice a9 n9 cap9, .slice aA nA capA] 67))) := by
  have hBA := hb9.trans (hb9A.mono hb9.size)
  have hN := (Below.refl wA.heap.size wA).alloc (Nat.le_refl _) (.cells #[.slice a9 n9 cap9, .slice aA nA capA] 67)
  have hlt := (List.getElem?_eq_some_iff.1 htl.2.1).1
  have hpt := (List.getElem?_eq_some_iff.1 htl.2.2).1
  have hK : Kids wA d (ts.take i' ++ [t8] ++ ts.drop (i' + 2)) RA := by
    rw [heA.1]
    have k := hks.below hBA
    exact ((k.take i').append (Kids.one (hl8.below hBA (Nat.le_refl _)))).append (k.drop (i' + 2))
  have hp9 : R9.length = ps.length - 1 := by rw [he9.1]; simp; omega
  have hw0 := hb8.trans (hBA.mono hb8.size)
  refine ⟨wA.heap.size, (R9, ts.take i' ++ [t8] ++ ts.drop (i' + 2)), rfl, ⟨a9, n9, cap9, aA, nA, capA, RA, ⟨Blk.new _ _ _, (hr9.1.below hb9A (Nat.le_refl _)).below hN (Nat.le_refl _)⟩, hr9.2, hrA.1.below hN (Nat.le_refl _), hrA.2, hK.1, (hK.below hN).2⟩, ⟨?_, ⟨?_, ?_⟩, ?_, ?_⟩, hw0.alloc hw0.size _⟩
  · show inter ((ts.take i' ++ [t8] ++ ts.drop (i' + 2)).map (tl d)) R9 = _
    rw [inter_pair (a := tl d tL) (b := tl d tR) (p := pm) (i := i') (by simpa using hn2.2.2.1) (kid_map htl.1) (kid_map htl.2.1) htl.2.2]
    have e : tl d t8 = tl d tL ++ pm :: tl d tR := ho8.1
    rw [← e, he9.1, List.append_nil, List.map_append, List.map_append, List.map_take, List.map_drop]
    rw [show List.map (tl d) [t8] = [tl d t8] from rfl]
    have hx : ((ts.map (tl d)).take i' ++ [tl d t8] ++ (ts.map (tl d)).drop (i' + 2))[i']? = some (tl d t8) := by
      rw [List.append_assoc, List.getElem?_append_right (by simp; omega)]
      simp [Nat.min_eq_left (show i' ≤ ts.length by omega)]
    rw [inter_at i' (tl d t8) (by simp; omega) hx]
    have q1 : ((ts.map (tl d)).take i' ++ [tl d t8] ++ (ts.map (tl d)).drop (i' + 2)).take i' = (ts.map (tl d)).take i' := by
      rw [List.append_assoc, List.take_append_of_le_length (by simp; omega), List.take_take, Nat.min_self]
    have q2 : ((ts.map (tl d)).take i' ++ [tl d t8] ++ (ts.map (tl d)).drop (i' + 2)).drop (i' + 1) = (ts.map (tl d)).drop (i' + 2) := by
      rw [List.drop_append, List.drop_eq_nil_of_le (by simp; omega)]
      simp [Nat.min_eq_left (show i' ≤ ts.length by omega)]
    have q3 : (ps.take i' ++ ps.drop (i' + 1)).take i' = ps.take i' := by
      rw [List.take_append_of_le_length (by simp; omega), List.take_take, Nat.min_self]
    have q4 : (ps.take i' ++ ps.drop (i' + 1)).drop i' = ps.drop (i' + 1) := by
      rw [List.drop_append, List.drop_eq_nil_of_le (by simp; omega)]
      simp [Nat.min_eq_left (Nat.le_of_lt hpt)]
    rw [q1, q2, q3, q4]
  · show (ts.take i' ++ [t8] ++ ts.drop (i' + 2)).length = R9.length + 1
    rw [hp9]; simp; omega
  · intro k hk
    rw [List.mem_append, List.mem_append] at hk
    rcases hk with (hk | hk) | hk
    · obtain ⟨j, hj, rfl⟩ := List.mem_iff_getElem.1 hk
      rw [List.length_take] at hj
      rw [List.getElem_take]
      exact hoth j _ (List.getElem?_eq_getElem (by omega)) (by omega)
    · rw [List.mem_singleton.1 hk]
      by_cases h7 : Z ≤ 7
      · obtain ⟨t, et, hz⟩ := ho8.2.2.1 h7
        have e2 : t8 = t := by injection et
        subst e2
        exact ⟨ho8.2.1.1, by rw [hz]; omega, ho8.2.1.2⟩
      · obtain ⟨_, _, _, et⟩ := ho8.2.2.2 (by omega)
        cases et
    · obtain ⟨j, hj, rfl⟩ := List.mem_iff_getElem.1 hk
      rw [List.length_drop] at hj
      rw [List.getElem_drop]
      exact hoth (i' + 2 + j) _ (List.getElem?_eq_getElem (by omega)) (by omega)
  · show R9.length ≤ ps.length; omega
  · show ps.length ≤ R9.length + 1; omega
/-- two kids that are two others now -/
theorem mend_two {d : Nat} {w W8 w9 wA : World} {n n' n9 cap9 nA capA b8 br i' : Nat} {a9 aA : Option Addr} {ps R9 : List Pr} {ts : List (T d)} {bs RA : List Nat} {l r tL tR : T d} {pm y8 : Pr} (hks : Kids W8 d ts bs) (hl8 : Lies W8 d l b8) (hr8 : Lies W8 d r br) (hb8 : Below w.heap.size w W8) (hb9 : Below W8.heap.size W8 w9) (hb9A : Below w9.heap.size w9 wA)
    (he9 : R9 = ps.take i' ++ [y8] ++ ps.drop (i' + 1) ∧ n9 = i' + 1 + (n - (i' + 1))) (hr9 : RdP w9 a9 n9 R9 ∧ Cap a9 n9 cap9) (heA : RA = bs.take i' ++ [b8, br] ++ bs.drop (i' + 2) ∧ nA = i' + 2 + (n' - (i' + 2))) (hrA : RdK wA aA nA RA ∧ Cap aA nA capA)
    (htl : ts[i']? = some tL ∧ ts[i' + 1]? = some tR ∧ ps[i']? = some pm) (hn2 : n' = n + 1 ∧ n ≤ 7 ∧ ts.length = ps.length + 1 ∧ ps.length = n) {X : Prop} (ho8 : (Half.two l y8 r).list = tl d tL ++ pm :: tl d tR ∧ (Half.two l y8 r).ok ∧ X)
    {i : Nat} (hoth : ∀ (j : Nat) (k : T d), ts[j]? = some k → j ≠ i → WF d k ∧ 3 ≤ (prs d k).length ∧ (prs d k).length ≤ 7) (hii : i' < n ∧ (i = i' ∨ i = i' + 1)) :
    ∃ (nd2 : Nat) (t2 : T (d + 1)), Ending.returned (Value.pointer (some ⟨wA.heap.size, 0, none⟩)) = .returned (.pointer (some ⟨nd2, 0, none⟩)) ∧ Hid (Lies (wA.alloc (.cells #[.slice a9 n9 cap9, .slice aA nA capA] 67)) (d + 1) t2 nd2) ∧ Hid (tl (d + 1) t2 = inter (ts.map (tl d)) ps ∧ WF (d + 1) t2 ∧ t2.1.length ≤ ps.length ∧ ps.length ≤ t2.1.length + 1) ∧ Hid (Below w.heap.size w (wA.alloc (.cells #[.slice a9 n9 cap9, .slice aA nA capA] 67))) := by
  have hBA := hb9.trans (hb9A.mono hb9.size)
  have hN := (Below.refl wA.heap.size wA).alloc (Nat.le_refl _) (.cells #[.slice a9 n9 cap9, .slice aA nA capA] 67)
  have hlt := (List.getElem?_eq_some_iff.1 htl.2.1).1
  have hpt := (List.getElem?_eq_some_iff.1 htl.2.2).1
  have hK : Kids wA d (ts.take i' ++ [l, r] ++ ts.drop (i' + 2)) RA := by
    rw [heA.1]
    have k := hks.below hBA
    exact ((k.take i').append ((Kids.one (hl8.below hBA (Nat.le_refl _))).append (Kids.one (hr8.below hBA (Nat.le_refl _))))).append (k.drop (i' + 2))
  have hp9 : R9.length = ps.length := by rw [he9.1]; simp; omega
  have hw0 := hb8.trans (hBA.mono hb8.size)
  refine ⟨wA.heap.size, (R9, ts.take i' ++ [l, r] ++ ts.drop (i' + 2)), rfl, ⟨a9, n9, cap9, aA, nA, capA, RA, ⟨Blk.new _ _ _, (hr9.1.below hb9A (Nat.le_refl _)).below hN (Nat.le_refl _)⟩, hr9.2, hrA.1.below hN (Nat.le_refl _), hrA.2, hK.1, (hK.below hN).2⟩, ⟨?_, ⟨?_, ?_⟩, ?_, ?_⟩, hw0.alloc hw0.size _⟩
  · show inter ((ts.take i' ++ [l, r] ++ ts.drop (i' + 2)).map (tl d)) R9 = _
    rw [inter_pair (a := tl d tL) (b := tl d tR) (p := pm) (i := i') (by simpa using hn2.2.2.1) (kid_map htl.1) (kid_map htl.2.1) htl.2.2]
    have e : tl d l ++ y8 :: tl d r = tl d tL ++ pm :: tl d tR := ho8.1
    rw [← e, he9.1, List.map_append, List.map_append, List.map_take, List.map_drop]
    rw [show List.map (tl d) [l, r] = [tl d l, tl d r] from rfl]
    have hmin : min i' ts.length = i' := Nat.min_eq_left (by omega)
    have hx : ((ts.map (tl d)).take i' ++ [tl d l, tl d r] ++ (ts.map (tl d)).drop (i' + 2))[i']? = some (tl d l) := by
      rw [List.append_assoc, List.getElem?_append_right (by simp; omega)]
      simp [hmin]
    have hx2 : ((ts.map (tl d)).take i' ++ [tl d l, tl d r] ++ (ts.map (tl d)).drop (i' + 2))[i' + 1]? = some (tl d r) := by
      rw [List.append_assoc, List.getElem?_append_right (by simp; omega)]
      simp [hmin, show i' + 1 - i' = 1 by omega]
    have hx3 : (ps.take i' ++ [y8] ++ ps.drop (i' + 1))[i']? = some y8 := by
      rw [List.append_assoc, List.getElem?_append_right (by simp; omega)]
      simp [Nat.min_eq_left (Nat.le_of_lt hpt)]
    rw [inter_pair (by simp; omega) hx hx2 hx3]
    have q1 : ((ts.map (tl d)).take i' ++ [tl d l, tl d r] ++ (ts.map (tl d)).drop (i' + 2)).take i' = (ts.map (tl d)).take i' := by
      rw [List.append_assoc, List.take_append_of_le_length (by simp; omega), List.take_take, Nat.min_self]
    have q2 : ((ts.map (tl d)).take i' ++ [tl d l, tl d r] ++ (ts.map (tl d)).drop (i' + 2)).drop (i' + 2) = (ts.map (tl d)).drop (i' + 2) := by
      rw [List.drop_append, List.drop_eq_nil_of_le (by simp; omega)]
      simp [hmin]
    have q3 : (ps.take i' ++ [y8] ++ ps.drop (i' + 1)).take i' = ps.take i' := by
      rw [List.append_assoc, List.take_append_of_le_length (by simp; omega), List.take_take, Nat.min_self]
    have q4 : (ps.take i' ++ [y8] ++ ps.drop (i' + 1)).drop (i' + 1) = ps.drop (i' + 1) := by
      rw [List.drop_append, List.drop_eq_nil_of_le (by simp; omega)]
      simp [Nat.min_eq_left (Nat.le_of_lt hpt)]
    rw [q1, q2, q3, q4]
  · show (ts.take i' ++ [l, r] ++ ts.drop (i' + 2)).length = R9.length + 1
    rw [hp9]; simp; omega
  · intro k hk
    rw [List.mem_append, List.mem_append] at hk
    rcases hk with (hk | hk) | hk
    · obtain ⟨j, hj, rfl⟩ := List.mem_iff_getElem.1 hk
      rw [List.length_take] at hj
      rw [List.getElem_take]
      exact hoth j _ (List.getElem?_eq_getElem (by omega)) (by omega)
    · rcases List.mem_cons.1 hk with rfl | hk
      · exact ho8.2.1.1
      · rw [List.mem_singleton.1 hk]; exact ho8.2.1.2
    · obtain ⟨j, hj, rfl⟩ := List.mem_iff_getElem.1 hk
      rw [List.length_drop] at hj
      rw [List.getElem_drop]
      exact hoth (i' + 2 + j) _ (List.getElem?_eq_getElem (by omega)) (by omega)
  · show R9.length ≤ ps.length; omega
  · show ps.length ≤ R9.length + 1; omega
/-- pairs with one more behind them, to be appended to -/
def Sp5 (w : World) (n : Nat) (ps : List Pr) (p : Pr) (e : Ending) (w' : World) : Prop := ∃ (a' : Option Addr) (n' cap' : Nat), e = .returned (.slice a' n' cap') ∧ Hid (n' = n + 1) ∧ Hid (Bs 40 2 w.heap.size w' (.slice a' n' cap') n' ((ps ++ [p]).flatMap pc)) ∧ Hid (Below w.heap.size w w')
theorem sp5 (w : World) (a : Option Addr) (n cap : Nat) (ps : List Pr) (o : Option Addr) (p : Pr) (c : Nat) (h : RdP w a n ps) (hc : Cap a n cap) (ho : RdP w o 1 [p]) (hb : n ≤ 1000) : Calls Try.prog 40 #[.slice a n cap, .int .i64 (n : Int), .int .i64 (n : Int), .slice o 1 c] w (Sp5 w n ps p) := by
  refine (splPB w a n cap n n _ _ rfl rfl _ o 1 c _ h.toRd hc.2 hc.1 (Nat.le_refl _) (Nat.le_refl _) ho.toRd (by omega)).mono ?_
  rintro e w' ⟨a', n', cap', cs', rfl, h1, h2, h3⟩
  refine ⟨a', n', cap', rfl, by show n' = n + 1; have := h1.out.2.1; omega, ?_, h3⟩
  have e := h2.out
  rw [h1.out.1, flat_take, flat_drop, ← List.flatMap_append, ← List.flatMap_append, ← h.1, List.take_length, List.drop_length, List.append_nil] at e
  exact e
set_option maxRecDepth 100000 in
set_option maxHeartbeats 2000000 in
theorem mended_is (d : Nat) (w : World) (nd n cap n' cap' i : Nat) (a a' : Option Addr) (ps : List Pr) (ts : List (T d)) (bs : List Nat) (h : Nd w nd a n cap ps (.slice a' n' cap')) (hc : Cap a n cap) (hk : RdK w a' n' bs) (hck : Cap a' n' cap') (hks : Kids w d ts bs) (hl : ts.length = ps.length + 1) (hn : 1 ≤ n ∧ n ≤ 7)
    (ki : T d) (hki : ts[i]? = some ki) (hkw : WF d ki ∧ 2 ≤ (prs d ki).length ∧ (prs d ki).length ≤ 7) (hoth : ∀ (j : Nat) (k : T d), ts[j]? = some k → j ≠ i → WF d k ∧ 3 ≤ (prs d k).length ∧ (prs d k).length ≤ 7) :
    Calls Try.prog 43 #[.pointer (some ⟨nd, 0, none⟩), .int .i64 (i : Int)] w fun e w' => ∃ (nd2 : Nat) (t2 : T (d + 1)), e = .returned (.pointer (some ⟨nd2, 0, none⟩)) ∧ Hid (Lies w' (d + 1) t2 nd2) ∧ Hid (tl (d + 1) t2 = inter (ts.map (tl d)) ps ∧ WF (d + 1) t2 ∧ t2.1.length ≤ ps.length ∧ ps.length ≤ t2.1.length + 1) ∧ Hid (Below w.heap.size w w') := by
  have hnn : n' = n + 1 := by rw [← hk.1, hks.1, hl, h.rd.1]
  have hit := (List.getElem?_eq_some_iff.1 hki).1
  have hib : i < bs.length := by rw [hks.1]; exact hit
  obtain ⟨gk, offk, rfl, hgk, hcell⟩ := hk.2 (by omega)
  have HLi : Hid (Lies w d ki bs[i]) := hks.2 i ki _ hki (List.getElem?_eq_getElem hib)
  have ck := hcell i _ (List.getElem?_eq_getElem hib)
  obtain ⟨ai, ni, capi, ai', ni', capi', hNi, hCi, _⟩ := HLi.out.node
  have ci := hNi.blk.cell (i := 0) rfl
  have c0 := h.blk.cell (i := 0) rfl
  have c1 := h.blk.cell (i := 1) rfl
  have HNI : Hid ((prs d ki).length = ni) := hNi.rd.1
  have HS : Hid (Nd w nd a n cap ps (.slice (some ⟨gk, offk, none⟩) n' cap') ∧ Cap a n cap ∧ RdK w (some ⟨gk, offk, none⟩) n' bs ∧ Cap (some ⟨gk, offk, none⟩) n' cap' ∧ Kids w d ts bs ∧ ts.length = ps.length + 1 ∧ (1 ≤ n ∧ n ≤ 7) ∧ n' = n + 1) := ⟨h, hc, hk, hck, hks, hl, hn, hnn⟩
  have HW : Hid (WF d ki ∧ 2 ≤ (prs d ki).length ∧ (prs d ki).length ≤ 7) := hkw
  have HO : Hid (∀ (j : Nat) (k : T d), ts[j]? = some k → j ≠ i → WF d k ∧ 3 ≤ (prs d k).length ∧ (prs d k).length ≤ 7) := hoth
  have HI : Hid (ts[i]? = some ki ∧ i < n') := ⟨hki, by rw [← hk.1]; exact hib⟩
  have q1 : (i : Int) < (n' : Int) := by have := HI.out.2; omega
  have q2 : (n' : Int) ≤ 8 := by omega
  generalize bs[i] = bi at *
  clear h hc hk hck hks hl hkw hoth hki hNi hCi hcell
  by_cases h3 : 3 ≤ ni
  · have HB : Hid (decide ((ni : Int) < 3) = false) := by show _ = _; simp; omega
    go_enter Try.func43, Try.ntmps43
    go_wp2_with (go_at_call 49; refine (small_is w bi ni capi ai false HB.out ci).mono ?_; rintro e w2 ⟨rfl, rfl⟩)
    go_ret
    obtain ⟨s1, s2, s3, s4, s5, s6, s7, s8⟩ := HS.out
    refine ⟨nd, (ps, ts), rfl, ⟨a, n, cap, _, n', cap', bs, s1, s2, s3, s4, s5.1, s5.2⟩, ⟨rfl, ⟨s6, fun k hk => ?_⟩, Nat.le_refl _, Nat.le_succ _⟩, Below.refl _ _⟩
    obtain ⟨j, hj, rfl⟩ := List.mem_iff_getElem.1 hk
    by_cases hji : j = i
    · subst hji
      have e := HI.out.1
      rw [List.getElem?_eq_getElem hj] at e
      cases e
      exact ⟨HW.out.1, by rw [HNI.out]; exact h3, HW.out.2.2⟩
    · exact HO.out j _ (List.getElem?_eq_getElem hj) hji
  · have HB : Hid (decide ((ni : Int) < 3) = true) := by show _ = _; simp; omega
    have hni : ni = 2 := by have := HNI.out; have := HW.out; omega
    clear hnn
    obtain ⟨i', hmax⟩ : ∃ i' : Nat, max ((i : Int) - 1) 0 = (i' : Int) := ⟨i - 1, by omega⟩
    have HMX : Hid (max ((i : Int) - 1) 0 = (i' : Int)) := hmax
    have HII : Hid (i' < n ∧ (i = i' ∨ i = i' + 1)) := by
      show _ ∧ _
      have := HI.out.2
      have := HS.out.2.2.2.2.2.2.2
      have := hn.1
      omega
    clear hmax
    go_enter Try.func43, Try.ntmps43
    go_wp2_with (first
      | (go_at_call 49; refine (small_is w bi ni capi ai true HB.out ci).mono ?_; rintro e w2 ⟨rfl, rfl⟩)
      | (with_reducible change wpList _ _ _ ({ dst := some 22, op := _, type := _, pos := _, after := _, guard := _ } :: _) _ _
         refine wpList_max0 rfl (.tmp 21) #[3, 3] rfl ((i : Int) - 1) (i' : Int) rfl HMX.out ?_))
    obtain ⟨s1, s2, s3, s4, s5, s6, s7, s8⟩ := HS.out
    have hlb : i' < bs.length := by rw [s3.1]; have := HII.out; omega
    have hrb : i' + 1 < bs.length := by rw [s3.1]; have := HII.out; omega
    have hlt : i' < ts.length := by rw [← s5.1]; exact hlb
    have hrt : i' + 1 < ts.length := by rw [← s5.1]; exact hrb
    have hpt : i' < ps.length := by rw [s1.rd.1]; exact HII.out.1
    obtain ⟨g9, o9, e9, _, hcell⟩ := s3.2 (by omega)
    cases e9
    have kl := hcell i' _ (List.getElem?_eq_getElem hlb)
    have kr := hcell (i' + 1) _ (List.getElem?_eq_getElem hrb)
    have HLL : Hid (Lies w d ts[i'] bs[i']) := s5.2 i' _ _ (List.getElem?_eq_getElem hlt) (List.getElem?_eq_getElem hlb)
    have HLR : Hid (Lies w d ts[i' + 1] bs[i' + 1]) := s5.2 (i' + 1) _ _ (List.getElem?_eq_getElem hrt) (List.getElem?_eq_getElem hrb)
    have HTL : Hid (ts[i']? = some ts[i'] ∧ ts[i' + 1]? = some ts[i' + 1] ∧ ps[i']? = some ps[i']) := ⟨List.getElem?_eq_getElem hlt, List.getElem?_eq_getElem hrt, List.getElem?_eq_getElem hpt⟩
    obtain ⟨g, off, ea, hgr, hpc⟩ := s1.rd.2 (by omega)
    subst ea
    have p0 := (hpc i' _ HTL.out.2.2).1
    have p1 := (hpc i' _ HTL.out.2.2).2
    have HGL : Hid (g < w.heap.size ∧ gk < w.heap.size) := ⟨hgr.lt, hgk.lt⟩
    generalize hlx : ts[i'] = tL at *
    generalize hrx : ts[i' + 1] = tR at *
    generalize hpx : ps[i'] = pm at *
    generalize hbl : bs[i'] = bL at *
    generalize hbr : bs[i' + 1] = bR at *
    obtain ⟨al, ln, capl, al', ln', capl', hNl, hCl, _⟩ := HLL.out.node
    obtain ⟨ar, rn, capr, ar', rn', capr', hNr, hCr, _⟩ := HLR.out.node
    have HNL : Hid (Nd w bL al ln capl (prs d tL) (.slice al' ln' capl') ∧ Cap al ln capl) := ⟨hNl, hCl⟩
    have HNR : Hid (Nd w bR ar rn capr (prs d tR) (.slice ar' rn' capr') ∧ Cap ar rn capr) := ⟨hNr, hCr⟩
    have HSZ : Hid ((WF d tL ∧ WF d tR) ∧ 6 ≤ ln + 1 + rn ∧ ln + 1 + rn ≤ 10) := by
      have hw := HW.out
      have hnl : (prs d tL).length = ln := hNl.rd.1
      have hnr : (prs d tR).length = rn := hNr.rd.1
      have hki := HI.out.1
      rcases HII.out.2 with e | e
      · have e1 : tL = ki := by rw [e] at hki; rw [HTL.out.1] at hki; exact Option.some.inj hki
        have := HO.out (i' + 1) tR HTL.out.2.1 (by omega)
        rw [← e1, hnl] at hw
        have hz := HNI.out
        rw [← e1, hnl] at hz
        exact ⟨⟨hw.1, this.1⟩, by omega, by omega⟩
      · have e1 : tR = ki := by rw [e] at hki; rw [HTL.out.2.1] at hki; exact Option.some.inj hki
        have := HO.out i' tL HTL.out.1 (by omega)
        rw [← e1, hnr] at hw
        have hz := HNI.out
        rw [← e1, hnr] at hz
        exact ⟨⟨this.1, hw.1⟩, by omega, by omega⟩
    have l0 := hNl.blk.cell (i := 0) rfl
    have l1 := hNl.blk.cell (i := 1) rfl
    have r0 := hNr.blk.cell (i := 0) rfl
    have r1 := hNr.blk.cell (i := 1) rfl
    have HLT : Hid (bL < w.heap.size ∧ bR < w.heap.size ∧ nd < w.heap.size) := ⟨hNl.blk.lt, hNr.blk.lt, s1.blk.lt⟩
    have z1 : (i' : Int) < (n' : Int) := by have := HII.out; omega
    have z2 : (i' : Int) + 1 < (n' : Int) := by have := HII.out; omega
    have z3 : ((i' : Int) + 1).toNat = i' + 1 := by omega
    have z4 : (i' : Int) < (n : Int) := by have := HII.out; omega
    have z5 : (n : Int) ≤ 7 := by omega
    clear s1 s2 s3 s4 s5 s6 s7 s8 hcell hpc hNl hNr hCl hCr hlx hrx hpx hbl hbr hgr ck ci
    go_quiet (fail)
    obtain ⟨W, hW⟩ : ∃ W, W = w.drewN nq := ⟨_, rfl⟩
    have HBW : Hid (Below w.heap.size w W) := by rw [hW]; exact below_drewN (Below.refl _ w) _
    have HKW : Hid (∀ W', Below w.heap.size w W' → (fun w' => w'.cell? ⟨bL, 0, none⟩ = some (.slice al ln capl) ∧ w'.cell? ⟨bR, 0, none⟩ = some (.slice ar rn capr) ∧ w'.cell? ⟨nd, 0, none⟩ = some (.slice (some ⟨g, off, none⟩) n cap) ∧ w'.cell? ⟨g, off + i' * 2, none⟩ = some (.string pm.1) ∧ w'.cell? ⟨g, off + i' * 2 + 1, none⟩ = some (.string pm.2) ∧ w'.cell? ⟨bL, 1, none⟩ = some (.slice al' ln' capl') ∧ w'.cell? ⟨bR, 1, none⟩ = some (.slice ar' rn' capr') ∧ w'.cell? ⟨nd, 1, none⟩ = some (.slice (some ⟨gk, offk, none⟩) n' cap')) W') := fun W' hb => ⟨(hb.cell (p := ⟨bL, 0, none⟩) HLT.out.1).trans l0, (hb.cell (p := ⟨bR, 0, none⟩) HLT.out.2.1).trans r0, (hb.cell (p := ⟨nd, 0, none⟩) HLT.out.2.2).trans c0, (hb.cell (p := ⟨g, _, none⟩) HGL.out.1).trans p0, (hb.cell (p := ⟨g, _, none⟩) HGL.out.1).trans p1, (hb.cell (p := ⟨bL, 1, none⟩) HLT.out.1).trans l1, (hb.cell (p := ⟨bR, 1, none⟩) HLT.out.2.1).trans r1, (hb.cell (p := ⟨nd, 1, none⟩) HLT.out.2.2).trans c1⟩
    rw [← hW]
    clear hW
    have HBP : Hid (Below w.heap.size w (W.alloc (Obj.cells #[Value.string pm.1, Value.string pm.2] 40)).drew) := (HBW.out.alloc HBW.out.size _).drew
    have HP40 : Hid (Calls Try.prog 40 #[.slice al ln capl, .int .i64 (ln : Int), .int .i64 (ln : Int), .slice (some ⟨W.heap.size, 0, none⟩) 1 1] (W.alloc (Obj.cells #[Value.string pm.1, Value.string pm.2] 40)).drew (Sp5 (W.alloc (Obj.cells #[Value.string pm.1, Value.string pm.2] 40)).drew ln (prs d tL) pm)) := sp5 _ al ln capl (prs d tL) _ pm 1 (HNL.out.1.below HBP.out (Nat.le_refl _)).rd HNL.out.2 (rdp_one (Blk.new W #[.string pm.1, .string pm.2] 40).drew) (by have := HSZ.out; omega)
    obtain ⟨i0, hi0, hii⟩ := Option.map_eq_some_iff.1 infoP
    simp only [Prod.mk.injEq] at hii
    have hby : i0.bytes ≤ 64 := by rw [hii.2.2]; omega
    go_wp2_with fail
    go_region_held_law (fun w' => w'.cell? ⟨bL, 0, none⟩ = some (.slice al ln capl) ∧ w'.cell? ⟨bR, 0, none⟩ = some (.slice ar rn capr) ∧ w'.cell? ⟨nd, 0, none⟩ = some (.slice (some ⟨g, off, none⟩) n cap) ∧ w'.cell? ⟨g, off + i' * 2, none⟩ = some (.string pm.1) ∧ w'.cell? ⟨g, off + i' * 2 + 1, none⟩ = some (.string pm.2) ∧ w'.cell? ⟨bL, 1, none⟩ = some (.slice al' ln' capl') ∧ w'.cell? ⟨bR, 1, none⟩ = some (.slice ar' rn' capr') ∧ w'.cell? ⟨nd, 1, none⟩ = some (.slice (some ⟨gk, offk, none⟩) n' cap'))
      (first | with_reducible exact HKW.out _ HBW.out.drew | with_reducible exact HKW.out _ HBP.out | with_reducible exact HKW.out _ HB5.out | with_reducible exact HKW.out _ HB6.out)
      (first
      | (go_at_call 40; (with_reducible refine Calls.mono HP40.out ?_); rintro e w5 ⟨a5, n5, cap5, rfl, HE5, HS5, hB5⟩; have HB5 : Hid (Below w.heap.size w w5) := HBP.out.trans (hB5.out.mono HBP.out.size); have HLE5 : Hid (W.heap.size ≤ w5.heap.size) := Nat.le_trans (by simp) hB5.out.size; have HS5' : Hid (Bs 40 2 W.heap.size w5 (.slice a5 n5 cap5) n5 ((prs d tL ++ [pm]).flatMap pc)) := bs_mono HS5.out (by simp); clear hB5)
      | (refine step_append_bs (by rfl) 65 rfl _ _ 27 rfl w5 40 i0 _ 2 W.heap.size Try.underlying27 hi0 hii.1 hii.2.1 hby rfl (by omega) _ _ _ HS5'.out ar rn capr ((prs d tR).flatMap pc) rfl rfl (HNR.out.1.below HB5.out (Nat.le_refl _)).rd.toRd HLE5.out (by have := HE5.out; have := HSZ.out; omega) ?_; intro v6 w6 HS6 hB6; obtain ⟨a6, cap6, rfl, h64, h65, h66⟩ := HS6.out.read; have HB6 : Hid (Below w.heap.size w w6) := HB5.out.trans (hB6.out.mono HBW.out.size)))
    have HPR : Hid (RdP w6 a6 (n5 + rn) (prs d tL ++ [pm] ++ prs d tR) ∧ Cap a6 (n5 + rn) cap6) := by
      refine ⟨?_, h64, h66⟩
      rw [← List.flatMap_append] at h65
      exact h65.toP
    have HKB : Hid (ln' + rn' ≤ 1000) := by
      have k1 := kid_bound HLL.out HSZ.out.1.1 l1
      have k2 := kid_bound HLR.out HSZ.out.1.2 r1
      have := HNL.out.1.rd.1
      have := HNR.out.1.rd.1
      have := HSZ.out.2
      show _ ≤ _
      omega
    have HM45 : Hid (Calls Try.prog 45 #[.slice al' ln' capl', .int .i64 (ln' : Int), .int .i64 (ln' : Int), .slice ar' rn' capr'] w6.drew (Mg d w6.drew tL tR)) := kids_merge w d tL tR bL bR HLL.out HLR.out al' ar' ln' capl' rn' capr' l1 r1 HKB.out w6.drew HB6.out.drew
    clear h64 h65 h66 HS6 HS5 HS5' HP40
    go_wp2_with fail
    go_region_held_law (fun w' => w'.cell? ⟨bL, 0, none⟩ = some (.slice al ln capl) ∧ w'.cell? ⟨bR, 0, none⟩ = some (.slice ar rn capr) ∧ w'.cell? ⟨nd, 0, none⟩ = some (.slice (some ⟨g, off, none⟩) n cap) ∧ w'.cell? ⟨g, off + i' * 2, none⟩ = some (.string pm.1) ∧ w'.cell? ⟨g, off + i' * 2 + 1, none⟩ = some (.string pm.2) ∧ w'.cell? ⟨bL, 1, none⟩ = some (.slice al' ln' capl') ∧ w'.cell? ⟨bR, 1, none⟩ = some (.slice ar' rn' capr') ∧ w'.cell? ⟨nd, 1, none⟩ = some (.slice (some ⟨gk, offk, none⟩) n' cap'))
      (first | with_reducible exact HKW.out _ HB6.out.drew | with_reducible exact HKW.out _ HB7.out)
      (first
      | (go_at_call 45; (with_reducible refine Calls.mono HM45.out ?_); rintro e w7 ⟨a7, n7, cap7, rfl, HK7, hB7⟩; have HB67 : Hid (Below w6.heap.size w6 w7) := ⟨hB7.out.os, hB7.out.tape, hB7.out.output, hB7.out.size, hB7.out.block⟩; have HB7 : Hid (Below w.heap.size w w7) := HB6.out.trans (HB67.out.mono HB6.out.size); clear hB7))
    go_wp2_with fail
    refine (cut_merge w7 d tL tR pm a6 a7 (n5 + rn) cap6 n7 cap7 (HPR.out.1.below HB67.out (Nat.le_refl _)) HPR.out.2 (by have := HE5.out; have := HSZ.out; omega) HK7.out HSZ.out.1.1 HSZ.out.1.2).mono ?_
    rintro e w8 ⟨b8, y8, r8, H8, rfl, HL8, HO8, HB78⟩
    unfold hv
    cases H8 with
    | one t8 =>
      obtain ⟨bb, hbb, hlies⟩ := HL8.out
      obtain ⟨rfl, hyy, rfl⟩ : b8 = bb ∧ y8 = (⟨#[]⟩, ⟨#[]⟩) ∧ r8 = none := by
        simp only [hv, one, Value.agg.injEq, Array.mk.injEq, List.cons.injEq, Value.pointer.injEq, Option.some.injEq, Addr.mk.injEq, Value.string.injEq, and_true] at hbb
        exact ⟨hbb.1, Prod.ext hbb.2.1 hbb.2.2.1, hbb.2.2.2⟩
      clear hbb hlies hyy
      go_wp2_with fail
      obtain ⟨W8, hW8⟩ : ∃ W8, W8 = w8.alloc (Obj.cells #[Value.pointer (some { block := b8, off := 0 }), Value.string y8.1, Value.string y8.2, Value.pointer none] 59) := ⟨_, rfl⟩
      obtain ⟨tb, htb⟩ : ∃ tb, w8.heap.size = tb := ⟨_, rfl⟩
      have HB8 : Hid (Below w.heap.size w W8) := by rw [hW8]; have k := HB7.out.trans (HB78.out.mono HB7.out.size); exact k.alloc k.size _
      have HTB : Hid (Blk W8 tb 59 [.pointer (some ⟨b8, 0, none⟩), .string y8.1, .string y8.2, .pointer none]) := by rw [hW8, ← htb]; exact Blk.new _ _ _
      have HL8' : Hid ((Half.one t8).lies W8 (hv b8 y8 none)) := by rw [hW8]; exact HL8.out.below ((Below.refl _ w8).alloc (Nat.le_refl _) _)
      rw [← hW8, htb]
      clear hW8 htb
      obtain ⟨s1, s2, s3, s4, s5, s6, s7, s8⟩ := HS.out
      have HRK : Hid (RdK W8 (some ⟨gk, offk, none⟩) n' bs) := s3.below HB8.out (Nat.le_refl _)
      have HKS : Hid (Kids W8 d ts bs) := s5.below HB8.out
      have HND : Hid (Nd W8 nd (some ⟨g, off, none⟩) n cap ps (.slice (some ⟨gk, offk, none⟩) n' cap')) := s1.below HB8.out (Nat.le_refl _)
      have HCK : Hid (Cap (some ⟨gk, offk, none⟩) n' cap') := s4
      have HC1 : Hid (Cap (some ⟨g, off, none⟩) n cap) := s2
      have HN2 : Hid (n' = n + 1 ∧ n ≤ 7 ∧ ts.length = ps.length + 1 ∧ ps.length = n) := ⟨s8, s7.2, s6, s1.rd.1⟩
      have t0 := HTB.out.cell (i := 0) rfl
      have t1 := HTB.out.cell (i := 1) rfl
      have t2 := HTB.out.cell (i := 2) rfl
      have t3 := HTB.out.cell (i := 3) rfl
      have e0 := HND.out.blk.cell (i := 0) rfl
      have e1 := HND.out.blk.cell (i := 1) rfl
      have HK9 : Hid (∀ W', Below W8.heap.size W8 W' → (fun w' => w'.cell? ⟨nd, 0, none⟩ = some (.slice (some ⟨g, off, none⟩) n cap) ∧ w'.cell? ⟨nd, 1, none⟩ = some (.slice (some ⟨gk, offk, none⟩) n' cap') ∧ w'.cell? ⟨tb, 0, none⟩ = some (.pointer (some ⟨b8, 0, none⟩)) ∧ w'.cell? ⟨tb, 1, none⟩ = some (.string y8.1) ∧ w'.cell? ⟨tb, 2, none⟩ = some (.string y8.2) ∧ w'.cell? ⟨tb, 3, none⟩ = some (.pointer none)) W') := fun W' hb => ⟨(hb.cell (p := ⟨nd, 0, none⟩) HND.out.blk.lt).trans e0, (hb.cell (p := ⟨nd, 1, none⟩) HND.out.blk.lt).trans e1, (hb.cell (p := ⟨tb, 0, none⟩) HTB.out.lt).trans t0, (hb.cell (p := ⟨tb, 1, none⟩) HTB.out.lt).trans t1, (hb.cell (p := ⟨tb, 2, none⟩) HTB.out.lt).trans t2, (hb.cell (p := ⟨tb, 3, none⟩) HTB.out.lt).trans t3⟩
      have HJ1 : Hid (IntKind.i64.wrap ((i' : Int) + 1) = ((i' + 1 : Nat) : Int)) := by show _ = _; have := HII.out; rw [IntKind.wrap_i64]; omega
      have HJ2 : Hid (IntKind.i64.wrap ((i' : Int) + 2) = ((i' + 2 : Nat) : Int)) := by show _ = _; have := HII.out; rw [IntKind.wrap_i64]; omega
      clear s1 s2 s3 s4 s5 s6 s7 s8 c0 c1 l0 l1 r0 r1 p0 p1 kl kr HKW HL8
      have HLT8 : Hid (Lies W8 d t8 b8) := by
        obtain ⟨bb, hbb, hlies⟩ := HL8'.out
        obtain rfl : b8 = bb := by
          simp only [hv, one, Value.agg.injEq, Array.mk.injEq, List.cons.injEq, Value.pointer.injEq, Option.some.injEq, Addr.mk.injEq, Value.string.injEq, and_true] at hbb
          exact hbb.1
        exact hlies
      have BA : Hid (Below W8.heap.size W8 (W8.alloc (Obj.cells #[Value.pointer (some { block := b8, off := 0 })] 46)).drew) := ((Below.refl _ W8).alloc (Nat.le_refl _) _).drew
      have B0 : Hid (Below W8.heap.size W8 W8.drew) := (Below.refl _ W8).drew
      have BB := BA
      have BC := BA
      have BD := BA
      have H40a : Hid (Calls Try.prog 40 #[.slice (some ⟨g, off, none⟩) n cap, .int .i64 (i' : Int), .int .i64 (IntKind.i64.wrap ((i' : Int) + 1)), .slice none 0 0] W8.drew (SpP W8.drew i' (i' + 1) n 0 ps [])) := spP W8.drew (some ⟨g, off, none⟩) n cap i' (i' + 1) _ _ rfl HJ1.out ps none 0 0 [] (HND.out.below (Below.refl _ W8).drew (Nat.le_refl _)).rd HC1.out (by omega) (by have := HII.out; omega) ⟨rfl, fun h => absurd h (by omega)⟩ (by have := HN2.out; omega)
      have H40b : Hid (Calls Try.prog 40 #[.slice (some ⟨g, off, none⟩) n cap, .int .i64 (i' : Int), .int .i64 (IntKind.i64.wrap ((i' : Int) + 1)), .slice none 0 0] (W8.alloc (Obj.cells #[Value.pointer (some { block := b8, off := 0 })] 46)).drew (SpP (W8.alloc (Obj.cells #[Value.pointer (some { block := b8, off := 0 })] 46)).drew i' (i' + 1) n 0 ps [])) := spP (W8.alloc (Obj.cells #[Value.pointer (some { block := b8, off := 0 })] 46)).drew (some ⟨g, off, none⟩) n cap i' (i' + 1) _ _ rfl HJ1.out ps none 0 0 [] (HND.out.below BA.out (Nat.le_refl _)).rd HC1.out (by omega) (by have := HII.out; omega) ⟨rfl, fun h => absurd h (by omega)⟩ (by have := HN2.out; omega)
      have RKb : Hid (RdK (W8.alloc (Obj.cells #[Value.pointer (some { block := b8, off := 0 })] 46)).drew (some ⟨W8.heap.size, 0, none⟩) 1 [b8]) := rdk_one (Blk.new W8 #[kp b8] 46).drew
      go_region_held_law (fun w' => w'.cell? ⟨nd, 0, none⟩ = some (.slice (some ⟨g, off, none⟩) n cap) ∧ w'.cell? ⟨nd, 1, none⟩ = some (.slice (some ⟨gk, offk, none⟩) n' cap') ∧ w'.cell? ⟨tb, 0, none⟩ = some (.pointer (some ⟨b8, 0, none⟩)) ∧ w'.cell? ⟨tb, 1, none⟩ = some (.string y8.1) ∧ w'.cell? ⟨tb, 2, none⟩ = some (.string y8.2) ∧ w'.cell? ⟨tb, 3, none⟩ = some (.pointer none))
        (first | with_reducible exact HK9.out _ (Below.refl _ W8).drew | with_reducible exact HK9.out _ BA.out | with_reducible exact HK9.out _ BB.out | with_reducible exact HK9.out _ BC.out | with_reducible exact HK9.out _ BD.out | with_reducible exact HK9.out _ HB9.out | with_reducible exact HK9.out _ (HB9.out.alloc HB9.out.size _) | with_reducible exact HK9.out _ HBA.out | with_reducible exact HK9.out _ (HBA.out.alloc HBA.out.size _))
        (first
        | (go_at_call 40; (with_reducible refine Calls.mono H40a.out ?_); rintro e w9 ⟨a9, n9, cap9, R9, rfl, HE9, HR9, hB9⟩; have HB9 : Hid (Below W8.heap.size W8 w9) := B0.out.trans (hB9.out.mono B0.out.size); have H45 : Hid (Calls Try.prog 45 #[.slice (some ⟨gk, offk, none⟩) n' cap', .int .i64 (i' : Int), .int .i64 (IntKind.i64.wrap ((i' : Int) + 2)), .slice (some ⟨w9.heap.size, 0, none⟩) 1 1] (w9.alloc (Obj.cells #[Value.pointer (some { block := b8, off := 0 })] 46)) (SpK (w9.alloc (Obj.cells #[Value.pointer (some { block := b8, off := 0 })] 46)) i' (i' + 2) n' 1 bs [b8])) := spK (w9.alloc (Obj.cells #[Value.pointer (some { block := b8, off := 0 })] 46)) (some ⟨gk, offk, none⟩) n' cap' i' (i' + 2) _ _ rfl HJ2.out bs (some ⟨w9.heap.size, 0, none⟩) 1 1 [b8] (HRK.out.below (HB9.out.alloc HB9.out.size _) (Nat.le_refl _)) HCK.out (by omega) (by have := HII.out; have := HN2.out; omega) (rdk_one (Blk.new w9 #[kp b8] 46)) (by have := HN2.out; omega); have H9A : Hid (∀ x, Below (w9.alloc (Obj.cells #[Value.pointer (some { block := b8, off := 0 })] 46)).heap.size (w9.alloc (Obj.cells #[Value.pointer (some { block := b8, off := 0 })] 46)) x → Below w9.heap.size w9 x) := fun x h => ((Below.refl _ w9).alloc (Nat.le_refl _) _).trans (h.mono (by simp)); clear hB9)
        | (go_at_call 40; (with_reducible refine Calls.mono H40b.out ?_); rintro e w9 ⟨a9, n9, cap9, R9, rfl, HE9, HR9, hB9⟩; have HB9 : Hid (Below W8.heap.size W8 w9) := BA.out.trans (hB9.out.mono BA.out.size); have H45 : Hid (Calls Try.prog 45 #[.slice (some ⟨gk, offk, none⟩) n' cap', .int .i64 (i' : Int), .int .i64 (IntKind.i64.wrap ((i' : Int) + 2)), .slice (some ⟨W8.heap.size, 0, none⟩) 1 1] w9 (SpK w9 i' (i' + 2) n' 1 bs [b8])) := spK w9 (some ⟨gk, offk, none⟩) n' cap' i' (i' + 2) _ _ rfl HJ2.out bs (some ⟨W8.heap.size, 0, none⟩) 1 1 [b8] (HRK.out.below HB9.out (Nat.le_refl _)) HCK.out (by omega) (by have := HII.out; have := HN2.out; omega) (RKb.out.below hB9.out (Nat.le_refl _)) (by have := HN2.out; omega); have H9A : Hid (∀ x, Below w9.heap.size w9 x → Below w9.heap.size w9 x) := fun x h => h; clear hB9)
        | (go_at_call 45; (with_reducible refine Calls.mono H45.out ?_); rintro e wA ⟨aA, nA, capA, RA, rfl, HEA, HRA, hBA⟩; have HB9A : Hid (Below w9.heap.size w9 wA) := H9A.out wA hBA.out; have HBA : Hid (Below W8.heap.size W8 wA) := HB9.out.trans (HB9A.out.mono HB9.out.size); clear hBA))
      all_goals go_wp2
      all_goals go_ret
      all_goals exact mend_one HKS.out HLT8.out HB8.out HB9.out HB9A.out HE9.out HR9.out HEA.out HRA.out HTL.out HN2.out HO8.out (by rw [HE5.out]; have := HSZ.out.2; omega) HO.out HII.out
    | two l m r =>
      obtain ⟨bl, br, hbb, _, _⟩ := HL8.out
      obtain ⟨rfl, rfl, rfl⟩ : b8 = bl ∧ y8 = m ∧ r8 = some ⟨br, 0, none⟩ := by
        simp only [hv, two, Value.agg.injEq, Array.mk.injEq, List.cons.injEq, Value.pointer.injEq, Option.some.injEq, Addr.mk.injEq, Value.string.injEq, and_true] at hbb
        exact ⟨hbb.1, Prod.ext hbb.2.1 hbb.2.2.1, hbb.2.2.2⟩
      clear hbb
      go_wp2_with fail
      obtain ⟨W8, hW8⟩ : ∃ W8, W8 = w8.alloc (Obj.cells #[Value.pointer (some { block := b8, off := 0 }), Value.string y8.1, Value.string y8.2, Value.pointer (some { block := br, off := 0 })] 59) := ⟨_, rfl⟩
      obtain ⟨tb, htb⟩ : ∃ tb, w8.heap.size = tb := ⟨_, rfl⟩
      have HB8 : Hid (Below w.heap.size w W8) := by rw [hW8]; have k := HB7.out.trans (HB78.out.mono HB7.out.size); exact k.alloc k.size _
      have HTB : Hid (Blk W8 tb 59 [.pointer (some ⟨b8, 0, none⟩), .string y8.1, .string y8.2, .pointer (some ⟨br, 0, none⟩)]) := by rw [hW8, ← htb]; exact Blk.new _ _ _
      have HL8' : Hid ((Half.two l y8 r).lies W8 (hv b8 y8 (some ⟨br, 0, none⟩))) := by rw [hW8]; exact HL8.out.below ((Below.refl _ w8).alloc (Nat.le_refl _) _)
      rw [← hW8, htb]
      clear hW8 htb
      obtain ⟨s1, s2, s3, s4, s5, s6, s7, s8⟩ := HS.out
      have HRK : Hid (RdK W8 (some ⟨gk, offk, none⟩) n' bs) := s3.below HB8.out (Nat.le_refl _)
      have HKS : Hid (Kids W8 d ts bs) := s5.below HB8.out
      have HND : Hid (Nd W8 nd (some ⟨g, off, none⟩) n cap ps (.slice (some ⟨gk, offk, none⟩) n' cap')) := s1.below HB8.out (Nat.le_refl _)
      have HCK : Hid (Cap (some ⟨gk, offk, none⟩) n' cap') := s4
      have HC1 : Hid (Cap (some ⟨g, off, none⟩) n cap) := s2
      have HN2 : Hid (n' = n + 1 ∧ n ≤ 7 ∧ ts.length = ps.length + 1 ∧ ps.length = n) := ⟨s8, s7.2, s6, s1.rd.1⟩
      have t0 := HTB.out.cell (i := 0) rfl
      have t1 := HTB.out.cell (i := 1) rfl
      have t2 := HTB.out.cell (i := 2) rfl
      have t3 := HTB.out.cell (i := 3) rfl
      have e0 := HND.out.blk.cell (i := 0) rfl
      have e1 := HND.out.blk.cell (i := 1) rfl
      have HK9 : Hid (∀ W', Below W8.heap.size W8 W' → (fun w' => w'.cell? ⟨nd, 0, none⟩ = some (.slice (some ⟨g, off, none⟩) n cap) ∧ w'.cell? ⟨nd, 1, none⟩ = some (.slice (some ⟨gk, offk, none⟩) n' cap') ∧ w'.cell? ⟨tb, 0, none⟩ = some (.pointer (some ⟨b8, 0, none⟩)) ∧ w'.cell? ⟨tb, 1, none⟩ = some (.string y8.1) ∧ w'.cell? ⟨tb, 2, none⟩ = some (.string y8.2) ∧ w'.cell? ⟨tb, 3, none⟩ = some (.pointer (some ⟨br, 0, none⟩))) W') := fun W' hb => ⟨(hb.cell (p := ⟨nd, 0, none⟩) HND.out.blk.lt).trans e0, (hb.cell (p := ⟨nd, 1, none⟩) HND.out.blk.lt).trans e1, (hb.cell (p := ⟨tb, 0, none⟩) HTB.out.lt).trans t0, (hb.cell (p := ⟨tb, 1, none⟩) HTB.out.lt).trans t1, (hb.cell (p := ⟨tb, 2, none⟩) HTB.out.lt).trans t2, (hb.cell (p := ⟨tb, 3, none⟩) HTB.out.lt).trans t3⟩
      have HJ1 : Hid (IntKind.i64.wrap ((i' : Int) + 1) = ((i' + 1 : Nat) : Int)) := by show _ = _; have := HII.out; rw [IntKind.wrap_i64]; omega
      have HJ2 : Hid (IntKind.i64.wrap ((i' : Int) + 2) = ((i' + 2 : Nat) : Int)) := by show _ = _; have := HII.out; rw [IntKind.wrap_i64]; omega
      clear s1 s2 s3 s4 s5 s6 s7 s8 c0 c1 l0 l1 r0 r1 p0 p1 kl kr HKW HL8
      have HLT8 : Hid (Lies W8 d l b8 ∧ Lies W8 d r br) := by
        obtain ⟨bb, cc, hbb, h1, h2⟩ := HL8'.out
        obtain ⟨rfl, rfl⟩ : b8 = bb ∧ br = cc := by
          simp only [hv, two, Value.agg.injEq, Array.mk.injEq, List.cons.injEq, Value.pointer.injEq, Option.some.injEq, Addr.mk.injEq, and_true, true_and] at hbb
          exact hbb
        exact ⟨h1, h2⟩
      have BA : Hid (Below W8.heap.size W8 (W8.alloc (Obj.cells #[Value.string y8.1, Value.string y8.2] 40)).drew) := ((Below.refl _ W8).alloc (Nat.le_refl _) _).drew
      have BB : Hid (Below W8.heap.size W8 (W8.alloc (Obj.cells #[Value.pointer (some { block := b8, off := 0 }), Value.pointer (some { block := br, off := 0 })] 46)).drew) := ((Below.refl _ W8).alloc (Nat.le_refl _) _).drew
      have BC : Hid (Below W8.heap.size W8 ((W8.alloc (Obj.cells #[Value.string y8.1, Value.string y8.2] 40)).alloc (Obj.cells #[Value.pointer (some { block := b8, off := 0 }), Value.pointer (some { block := br, off := 0 })] 46)).drew) := (((Below.refl _ W8).alloc (Nat.le_refl _) _).alloc (by simp) _).drew
      have BD : Hid (Below W8.heap.size W8 ((W8.alloc (Obj.cells #[Value.pointer (some { block := b8, off := 0 }), Value.pointer (some { block := br, off := 0 })] 46)).alloc (Obj.cells #[Value.string y8.1, Value.string y8.2] 40)).drew) := (((Below.refl _ W8).alloc (Nat.le_refl _) _).alloc (by simp) _).drew
      have RP1 : Hid (RdP (W8.alloc (Obj.cells #[Value.string y8.1, Value.string y8.2] 40)).drew (some ⟨W8.heap.size, 0, none⟩) 1 [y8]) := rdp_one (Blk.new W8 #[.string y8.1, .string y8.2] 40).drew
      have RP2 : Hid (RdP ((W8.alloc (Obj.cells #[Value.string y8.1, Value.string y8.2] 40)).alloc (Obj.cells #[Value.pointer (some { block := b8, off := 0 }), Value.pointer (some { block := br, off := 0 })] 46)).drew (some ⟨W8.heap.size, 0, none⟩) 1 [y8]) := rdp_one ((Blk.new W8 #[.string y8.1, .string y8.2] 40).alloc _).drew
      have RP3 : Hid (RdP ((W8.alloc (Obj.cells #[Value.pointer (some { block := b8, off := 0 }), Value.pointer (some { block := br, off := 0 })] 46)).alloc (Obj.cells #[Value.string y8.1, Value.string y8.2] 40)).drew (some ⟨W8.heap.size + 1, 0, none⟩) 1 [y8]) := by
        have e := Blk.new (W8.alloc (Obj.cells #[Value.pointer (some { block := b8, off := 0 }), Value.pointer (some { block := br, off := 0 })] 46)) #[.string y8.1, .string y8.2] 40
        rw [World.size_alloc] at e
        exact rdp_one e.drew
      have RK2 : Hid (RdK ((W8.alloc (Obj.cells #[Value.string y8.1, Value.string y8.2] 40)).alloc (Obj.cells #[Value.pointer (some { block := b8, off := 0 }), Value.pointer (some { block := br, off := 0 })] 46)).drew (some ⟨W8.heap.size + 1, 0, none⟩) 2 [b8, br]) := by
        have e := Blk.new (W8.alloc (Obj.cells #[Value.string y8.1, Value.string y8.2] 40)) #[kp b8, kp br] 46
        rw [World.size_alloc] at e
        exact rdk_two e.drew
      have RK3 : Hid (RdK ((W8.alloc (Obj.cells #[Value.pointer (some { block := b8, off := 0 }), Value.pointer (some { block := br, off := 0 })] 46)).alloc (Obj.cells #[Value.string y8.1, Value.string y8.2] 40)).drew (some ⟨W8.heap.size, 0, none⟩) 2 [b8, br]) := rdk_two ((Blk.new W8 #[kp b8, kp br] 46).alloc _).drew
      have H40a : Hid (Calls Try.prog 40 #[.slice (some ⟨g, off, none⟩) n cap, .int .i64 (i' : Int), .int .i64 (IntKind.i64.wrap ((i' : Int) + 1)), .slice (some ⟨W8.heap.size, 0, none⟩) 1 1] (W8.alloc (Obj.cells #[Value.string y8.1, Value.string y8.2] 40)).drew (SpP (W8.alloc (Obj.cells #[Value.string y8.1, Value.string y8.2] 40)).drew i' (i' + 1) n 1 ps [y8])) := spP (W8.alloc (Obj.cells #[Value.string y8.1, Value.string y8.2] 40)).drew (some ⟨g, off, none⟩) n cap i' (i' + 1) _ _ rfl HJ1.out ps (some ⟨W8.heap.size, 0, none⟩) 1 1 [y8] (HND.out.below BA.out (Nat.le_refl _)).rd HC1.out (by omega) (by have := HII.out; omega) RP1.out (by have := HN2.out; omega)
      have H40b : Hid (Calls Try.prog 40 #[.slice (some ⟨g, off, none⟩) n cap, .int .i64 (i' : Int), .int .i64 (IntKind.i64.wrap ((i' : Int) + 1)), .slice (some ⟨W8.heap.size, 0, none⟩) 1 1] ((W8.alloc (Obj.cells #[Value.string y8.1, Value.string y8.2] 40)).alloc (Obj.cells #[Value.pointer (some { block := b8, off := 0 }), Value.pointer (some { block := br, off := 0 })] 46)).drew (SpP ((W8.alloc (Obj.cells #[Value.string y8.1, Value.string y8.2] 40)).alloc (Obj.cells #[Value.pointer (some { block := b8, off := 0 }), Value.pointer (some { block := br, off := 0 })] 46)).drew i' (i' + 1) n 1 ps [y8])) := spP ((W8.alloc (Obj.cells #[Value.string y8.1, Value.string y8.2] 40)).alloc (Obj.cells #[Value.pointer (some { block := b8, off := 0 }), Value.pointer (some { block := br, off := 0 })] 46)).drew (some ⟨g, off, none⟩) n cap i' (i' + 1) _ _ rfl HJ1.out ps (some ⟨W8.heap.size, 0, none⟩) 1 1 [y8] (HND.out.below BC.out (Nat.le_refl _)).rd HC1.out (by omega) (by have := HII.out; omega) RP2.out (by have := HN2.out; omega)
      have H40c : Hid (Calls Try.prog 40 #[.slice (some ⟨g, off, none⟩) n cap, .int .i64 (i' : Int), .int .i64 (IntKind.i64.wrap ((i' : Int) + 1)), .slice (some ⟨W8.heap.size + 1, 0, none⟩) 1 1] ((W8.alloc (Obj.cells #[Value.pointer (some { block := b8, off := 0 }), Value.pointer (some { block := br, off := 0 })] 46)).alloc (Obj.cells #[Value.string y8.1, Value.string y8.2] 40)).drew (SpP ((W8.alloc (Obj.cells #[Value.pointer (some { block := b8, off := 0 }), Value.pointer (some { block := br, off := 0 })] 46)).alloc (Obj.cells #[Value.string y8.1, Value.string y8.2] 40)).drew i' (i' + 1) n 1 ps [y8])) := spP ((W8.alloc (Obj.cells #[Value.pointer (some { block := b8, off := 0 }), Value.pointer (some { block := br, off := 0 })] 46)).alloc (Obj.cells #[Value.string y8.1, Value.string y8.2] 40)).drew (some ⟨g, off, none⟩) n cap i' (i' + 1) _ _ rfl HJ1.out ps (some ⟨W8.heap.size + 1, 0, none⟩) 1 1 [y8] (HND.out.below BD.out (Nat.le_refl _)).rd HC1.out (by omega) (by have := HII.out; omega) RP3.out (by have := HN2.out; omega)
      go_region_held_law (fun w' => w'.cell? ⟨nd, 0, none⟩ = some (.slice (some ⟨g, off, none⟩) n cap) ∧ w'.cell? ⟨nd, 1, none⟩ = some (.slice (some ⟨gk, offk, none⟩) n' cap') ∧ w'.cell? ⟨tb, 0, none⟩ = some (.pointer (some ⟨b8, 0, none⟩)) ∧ w'.cell? ⟨tb, 1, none⟩ = some (.string y8.1) ∧ w'.cell? ⟨tb, 2, none⟩ = some (.string y8.2) ∧ w'.cell? ⟨tb, 3, none⟩ = some (.pointer (some ⟨br, 0, none⟩)))
        (first | with_reducible exact HK9.out _ (Below.refl _ W8).drew | with_reducible exact HK9.out _ BA.out | with_reducible exact HK9.out _ BB.out | with_reducible exact HK9.out _ BC.out | with_reducible exact HK9.out _ BD.out | with_reducible exact HK9.out _ HB9.out | with_reducible exact HK9.out _ (HB9.out.alloc HB9.out.size _) | with_reducible exact HK9.out _ HBA.out | with_reducible exact HK9.out _ (HBA.out.alloc HBA.out.size _))
        (first
        | (go_at_call 40; (with_reducible refine Calls.mono H40a.out ?_); rintro e w9 ⟨a9, n9, cap9, R9, rfl, HE9, HR9, hB9⟩; have HB9 : Hid (Below W8.heap.size W8 w9) := BA.out.trans (hB9.out.mono BA.out.size); have H45 : Hid (Calls Try.prog 45 #[.slice (some ⟨gk, offk, none⟩) n' cap', .int .i64 (i' : Int), .int .i64 (IntKind.i64.wrap ((i' : Int) + 2)), .slice (some ⟨w9.heap.size, 0, none⟩) 2 2] (w9.alloc (Obj.cells #[Value.pointer (some { block := b8, off := 0 }), Value.pointer (some { block := br, off := 0 })] 46)) (SpK (w9.alloc (Obj.cells #[Value.pointer (some { block := b8, off := 0 }), Value.pointer (some { block := br, off := 0 })] 46)) i' (i' + 2) n' 2 bs [b8, br])) := spK (w9.alloc (Obj.cells #[Value.pointer (some { block := b8, off := 0 }), Value.pointer (some { block := br, off := 0 })] 46)) (some ⟨gk, offk, none⟩) n' cap' i' (i' + 2) _ _ rfl HJ2.out bs (some ⟨w9.heap.size, 0, none⟩) 2 2 [b8, br] (HRK.out.below (HB9.out.alloc HB9.out.size _) (Nat.le_refl _)) HCK.out (by omega) (by have := HII.out; have := HN2.out; omega) (rdk_two (Blk.new w9 #[kp b8, kp br] 46)) (by have := HN2.out; omega); have H9A : Hid (∀ x, Below (w9.alloc (Obj.cells #[Value.pointer (some { block := b8, off := 0 }), Value.pointer (some { block := br, off := 0 })] 46)).heap.size (w9.alloc (Obj.cells #[Value.pointer (some { block := b8, off := 0 }), Value.pointer (some { block := br, off := 0 })] 46)) x → Below w9.heap.size w9 x) := fun x h => ((Below.refl _ w9).alloc (Nat.le_refl _) _).trans (h.mono (by simp)); clear hB9)
        | (go_at_call 40; (with_reducible refine Calls.mono H40b.out ?_); rintro e w9 ⟨a9, n9, cap9, R9, rfl, HE9, HR9, hB9⟩; have HB9 : Hid (Below W8.heap.size W8 w9) := BC.out.trans (hB9.out.mono BC.out.size); have H45 : Hid (Calls Try.prog 45 #[.slice (some ⟨gk, offk, none⟩) n' cap', .int .i64 (i' : Int), .int .i64 (IntKind.i64.wrap ((i' : Int) + 2)), .slice (some ⟨W8.heap.size + 1, 0, none⟩) 2 2] w9 (SpK w9 i' (i' + 2) n' 2 bs [b8, br])) := spK w9 (some ⟨gk, offk, none⟩) n' cap' i' (i' + 2) _ _ rfl HJ2.out bs (some ⟨W8.heap.size + 1, 0, none⟩) 2 2 [b8, br] (HRK.out.below HB9.out (Nat.le_refl _)) HCK.out (by omega) (by have := HII.out; have := HN2.out; omega) (RK2.out.below hB9.out (Nat.le_refl _)) (by have := HN2.out; omega); have H9A : Hid (∀ x, Below w9.heap.size w9 x → Below w9.heap.size w9 x) := fun x h => h; clear hB9)
        | (go_at_call 40; (with_reducible refine Calls.mono H40c.out ?_); rintro e w9 ⟨a9, n9, cap9, R9, rfl, HE9, HR9, hB9⟩; have HB9 : Hid (Below W8.heap.size W8 w9) := BD.out.trans (hB9.out.mono BD.out.size); have H45 : Hid (Calls Try.prog 45 #[.slice (some ⟨gk, offk, none⟩) n' cap', .int .i64 (i' : Int), .int .i64 (IntKind.i64.wrap ((i' : Int) + 2)), .slice (some ⟨W8.heap.size, 0, none⟩) 2 2] w9 (SpK w9 i' (i' + 2) n' 2 bs [b8, br])) := spK w9 (some ⟨gk, offk, none⟩) n' cap' i' (i' + 2) _ _ rfl HJ2.out bs (some ⟨W8.heap.size, 0, none⟩) 2 2 [b8, br] (HRK.out.below HB9.out (Nat.le_refl _)) HCK.out (by omega) (by have := HII.out; have := HN2.out; omega) (RK3.out.below hB9.out (Nat.le_refl _)) (by have := HN2.out; omega); have H9A : Hid (∀ x, Below w9.heap.size w9 x → Below w9.heap.size w9 x) := fun x h => h; clear hB9)
        | (go_at_call 45; (with_reducible refine Calls.mono H45.out ?_); rintro e wA ⟨aA, nA, capA, RA, rfl, HEA, HRA, hBA⟩; have HB9A : Hid (Below w9.heap.size w9 wA) := H9A.out wA hBA.out; have HBA : Hid (Below W8.heap.size W8 wA) := HB9.out.trans (HB9A.out.mono HB9.out.size); clear hBA))
      all_goals go_wp2
      all_goals go_ret
      all_goals exact mend_two HKS.out HLT8.out.1 HLT8.out.2 HB8.out HB9.out HB9A.out HE9.out HR9.out HEA.out HRA.out HTL.out HN2.out HO8.out HO.out HII.out
end Go.Proofs.Ytnagknlfboadkaa.Oct

/- Layer 7 (tree): 'put' into a tree of any depth. -/
namespace Go.Proofs.Ytnagknlfboadkaa.Oct
open Go.RowKit

theorem find_at (ps : List Pr) (key : ByteArray) (h : Mono ps key) : ∃ k, AtP ps key k := by
  induction ps with
  | nil => exact ⟨0, Nat.le_refl _, fun i x hi => absurd hi (by omega), fun i x _ hx => by simp at hx⟩
  | cons p ps ih =>
    cases hg : geS p.1 key with
    | true =>
      refine ⟨0, Nat.zero_le _, fun i x hi => absurd hi (by omega), fun i x _ hx => ?_⟩
      exact h 0 i p x (Nat.zero_le _) rfl hx hg
    | false =>
      obtain ⟨k, h1, h2, h3⟩ := ih (fun i j x y hij hx hy hgx => h (i + 1) (j + 1) x y (by omega) (by simpa using hx) (by simpa using hy) hgx)
      refine ⟨k + 1, by simpa using h1, fun i x hi hx => ?_, fun i x hi hx => ?_⟩
      · cases i with
        | zero => simp at hx; rw [← hx]; exact hg
        | succ i => exact h2 i x (by omega) (by simpa using hx)
      · cases i with
        | zero => omega
        | succ i => exact h3 i x (by omega) (by simpa using hx)
theorem put_all : ∀ d, PutC d
  | 0 => by
    intro w t0 nd x hL hG
    obtain ⟨t, ht0⟩ : ∃ t : List Pr, t = t0 := ⟨t0, rfl⟩
    subst ht0
    obtain ⟨a, n, cap, hN, hC⟩ := hL
    have hr : Ris t := hG.ris
    have hm := ris_mono hr x.1
    obtain ⟨k, ha⟩ := find_at t x.1 hm
    have hn : n ≤ 7 := by rw [← hN.rd.1]; exact hG.most
    cases hi : isP t x.1 k with
    | true =>
      refine (put_eq w nd n cap 0 0 a none t x k hN hm hn hC ha hi).mono ?_
      rintro e w' ⟨nd2, a2, n2, cap2, ps2, rfl, h1, h2, h3⟩
      have hlt : k < t.length := by
        cases hx : t[k]? with
        | some y => exact (List.getElem?_eq_some_iff.1 hx).1
        | none => simp only [isP, hx] at hi; cases hi
      have hl : ps2.length = t.length := by rw [h1.out]; simp; omega
      refine ⟨nd2, (⟨#[]⟩, ⟨#[]⟩), none, .one ps2, rfl, ⟨nd2, rfl, a2, n2, cap2, h2.out.1, h2.out.2⟩, ⟨?_, ⟨trivial, ?_⟩, ?_⟩, h3⟩
      · show ps2 = insP t x
        rw [h1.out, leaf_ins_is hr ha hi]
      · show ps2.length ≤ 7; rw [hl]; exact hG.most
      · intro t' ht; have : ps2 = t' := by injection ht
        subst this
        exact Nat.le_of_eq hl.symm
    | false =>
      refine (put_lf w nd n cap a t x k hN hm hn hC ha hi).mono ?_
      rintro e w' ⟨b, y, r, H, rfl, h1, h2, h3⟩
      exact ⟨b, y, r, H, rfl, h1, ⟨by rw [h2.out.1]; exact (leaf_ins_no hr ha hi).symm, h2.out.2⟩, h3⟩
  | d + 1 => by
    intro w t nd x hL hG
    obtain ⟨a, n, cap, a', n', cap', bs, hN, hC, hK, hCK, hbl, hkk⟩ := hL
    have hr : Ris (inter (t.2.map (tl d)) t.1) := hG.ris
    have hrp : Ris t.1 := ris_own hG.ris hG.wf.1
    have hm := ris_mono hrp x.1
    obtain ⟨k, ha⟩ := find_at t.1 x.1 hm
    have hn : n ≤ 7 := by rw [← hN.rd.1]; exact hG.most
    have hks : Kids w d t.2 bs := ⟨hbl, hkk⟩
    cases hi : isP t.1 x.1 k with
    | true =>
      refine (put_eq w nd n cap n' cap' a a' t.1 x k hN hm hn hC ha hi).mono ?_
      rintro e w' ⟨nd2, a2, n2, cap2, ps2, rfl, h1, h2, h3⟩
      obtain ⟨_, hat, _⟩ := ris_at hrp ha
      obtain ⟨y, hy, hyk, hsp, _⟩ := hat hi
      have hlt := (List.getElem?_eq_some_iff.1 hy).1
      have hl : ps2.length = t.1.length := by rw [h1.out]; simp; omega
      refine ⟨nd2, (⟨#[]⟩, ⟨#[]⟩), none, .one (ps2, t.2), rfl, ⟨nd2, rfl, a2, n2, cap2, a', n', cap', bs, h2.out.1, h2.out.2, hK.below h3.out (Nat.le_refl _), hCK, hbl, (hks.below h3.out).2⟩, ⟨?_, ⟨⟨by show t.2.length = ps2.length + 1; rw [hl]; exact hG.wf.1, hG.wf.2⟩, ?_⟩, ?_⟩, h3⟩
      · show inter (t.2.map (tl d)) ps2 = insP (inter (t.2.map (tl d)) t.1) x
        obtain ⟨A, B, e, hA, hB, hLA, hGB⟩ := node_is hG.wf.1 hr hy
        rw [e, insP_one hyk (by rw [← hyk]; exact hLA) (by rw [← hyk]; exact hGB), hA, hB, h1.out]
        have e1 : t.2.map (tl d) = (t.2.map (tl d)).take (k + 1) ++ (t.2.map (tl d)).drop (k + 1) := (List.take_append_drop _ _).symm
        have hwl := hG.wf.1
        refine (congrArg (fun l => inter l (t.1.take k ++ [x] ++ t.1.drop (k + 1))) e1).trans ?_
        rw [List.append_assoc, List.singleton_append]
        exact inter_join (by simp; omega) (by
          intro h0
          have := congrArg List.length h0
          simp at this; omega)
      · show ps2.length ≤ 7; rw [hl]; exact hG.most
      · intro t' ht; have : (ps2, t.2) = t' := by injection ht
        subst this
        exact Nat.le_of_eq hl.symm
    | false =>
      have hkl : k < t.2.length := by have := ha.1; have := hG.wf.1; omega
      have hkt : t.2[k]? = some t.2[k] := List.getElem?_eq_getElem hkl
      have hkb : bs[k]? = some bs[k] := List.getElem?_eq_getElem (by rw [hbl]; exact hkl)
      have hgk := hG.kid hkt
      refine (put_nd d (put_all d) w nd n cap n' cap' a a' t.1 t.2 bs x k bs[k] t.2[k] hN hm hn hC ha hi hK hCK hks hG.wf.2 hG.wf.1 hkt hkb hgk.1 hgk.2).mono ?_
      rintro e w' ⟨b, y, r, H, rfl, h1, h2, h3⟩
      refine ⟨b, y, r, H, rfl, h1, ⟨?_, h2.out.2⟩, h3⟩
      rw [h2.out.1]
      obtain ⟨A, B, e, hA, hB, hLA, hGB, _⟩ := node_at hG.wf.1 hr hrp ha hkt hi
      show _ = insP (inter (t.2.map (tl d)) t.1) x
      rw [e, insP_mid hLA hGB, hA, hB]
end Go.Proofs.Ytnagknlfboadkaa.Oct
