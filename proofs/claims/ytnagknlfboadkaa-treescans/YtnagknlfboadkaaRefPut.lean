/-
  Layer 7 (tree): the reference's Put and Delete.
-/
import Derived.Test.YtnagknlfboadkaaRef
import Derived.OwnWalk
namespace Go.Proofs.Ytnagknlfboadkaa.Oct
open Go.RowKit

theorem wpList_append_bs {P : Program} {ops : Array Oper} {rest : List Oper} {o : Oper} {a : Act} {Q : Exit → Act → World → Prop} (w : World) (hgd : o.guard = none) (s x : Operand) (t : TypeId)
    (hop : o.op = .call { callee := .builtin .append, args := #[s, x], argTypes := #[t, t] }) (e : TypeId) (i : TypeInfo) (z : Value) (sz B : Nat) (ht : P.underlying t = some (.slice e)) (hi : P.info? e = some i) (hz : i.zero = some z) (hs : i.size = sz) (hby : i.bytes ≤ 64) (hzs : z.cells.size = sz) (hsz : 0 < sz)
    (v : Value) (n : Nat) (cs : List Value) (h : Bs e sz B w v n cs) (ao : Option Addr) (q c : Nat) (qs : List Value) (hsv : a.eval s = v) (hx : a.eval x = .slice ao q c) (ho : Rd w e sz ao q qs) (hB : B ≤ w.heap.size) (hn : n + q ≤ 100000000000)
    (hk : ∀ v' w', Hid (Bs e sz B w' v' (n + q) (cs ++ qs)) → Hid (Below B w w') → wpList P ops Q rest (a.put o.dst v') w') : wpList P ops Q (o :: rest) a w :=
  wpList_plain hgd fun _ hK => by
    obtain ⟨v', w', hr, h2, h3⟩ := run_append_bs (P := P) w t o.type e i z sz B ht hi hz hs hby hzs hsz v n cs h ao q c qs ho hB hn
    unfold Oper.wp execOp
    simp only [hop, resolve, invoke, builtin, Sem.run_bind, Sem.run_pure, Result.andThen_ok, List.map_toArray, List.map_cons, List.map_nil, hsv, hx, hr]
    exact hK _ _ (hk v' w' h2 h3)
#print axioms wpList_append_bs
theorem ins_at {ps : List Pr} {x : Pr} {k : Nat} (h : Ris ps) (ha : AtP ps x.1 k) : insP ps x = ps.take k ++ [x] ++ ps.drop (if isP ps x.1 k = true then k + 1 else k) := by
  obtain ⟨h1, h2, h3⟩ := ris_at h ha
  cases hi : isP ps x.1 k with
  | true =>
    obtain ⟨y, _, hy, e, hG⟩ := h2 hi
    have : insP (ps.take k ++ y :: ps.drop (k + 1)) x = ps.take k ++ x :: ps.drop (k + 1) := insP_one hy h1 hG
    rw [← e] at this
    rw [this]; simp
  | false =>
    have hG := h3 hi
    have : insP (ps.take k ++ [] ++ ps.drop k) x = ps.take k ++ insP [] x ++ ps.drop k := insP_mid h1 hG
    rw [List.append_nil, List.take_append_drop] at this
    rw [this]; simp [insP, lo, Oct.hi]
theorem rem_at {ps : List Pr} {key : ByteArray} {k : Nat} (h : Ris ps) (ha : AtP ps key k) (hi : isP ps key k = true) : remP ps key = ps.take k ++ ps.drop (k + 1) := by
  obtain ⟨h1, h2, _⟩ := ris_at h ha
  obtain ⟨y, _, hy, e, hG⟩ := h2 hi
  subst hy
  have : remP (ps.take k ++ y :: ps.drop (k + 1)) y.1 = ps.take k ++ ps.drop (k + 1) := remP_one h1 hG
  rwa [← e] at this

/-- a list of the call's own -/
def Rows (w : World) (ps : List Pr) (e : Ending) (w' : World) : Prop := ∃ (a' : Option Addr) (n' cap' : Nat), e = .returned (.slice a' n' cap') ∧ Hid (RdP w' a' n' ps ∧ Cap a' n' cap') ∧ Hid (Below w.heap.size w w')
theorem Bs.alloc {e sz B : Nat} {w : World} {v : Value} {n : Nat} {cs : List Value} (h : Bs e sz B w v n cs) (o : Obj) : Bs e sz B (w.alloc o) v n cs := by
  rcases h with ⟨a, h1, h2, h3⟩ | ⟨h1, h2⟩
  · exact .inl ⟨a, h1, h2.below ((Below.refl w.heap.size w).alloc (Nat.le_refl _) o) (Nat.le_refl _), h3⟩
  · exact .inr ⟨h1, h2.alloc o⟩
theorem one_rd (w : World) (x : Pr) : Rd (w.alloc (.cells #[.string x.1, .string x.2] 40)) 40 2 (some ⟨w.heap.size, 0, none⟩) 1 ([x].flatMap pc) := (rdp_one (Blk.new w #[.string x.1, .string x.2] 40)).toRd
set_option maxRecDepth 100000 in
set_option maxHeartbeats 1000000 in
theorem rput_none (w : World) (ps : List Pr) (x : Pr) (h : RdP w none 0 ps) (ha : AtP ps x.1 0) (hi : isP ps x.1 0 = false) :
    Calls Try.prog 24 #[.slice none 0 0, .string x.1, .string x.2] w (Rows w (ps.take 0 ++ [x] ++ ps.drop 0)) := by
  obtain ⟨i0, hi0, hii⟩ := Option.map_eq_some_iff.1 infoP
  simp only [Prod.mk.injEq] at hii
  have hby : i0.bytes ≤ 64 := by rw [hii.2.2]; omega
  have HC : Hid (RdP w none 0 ps ∧ AtP ps x.1 0) := ⟨h, ha⟩
  have hps : ps = [] := List.eq_nil_of_length_eq_zero h.1
  have HS1 : Hid (∀ W, Below w.heap.size w W → Rd W 40 2 none 0 ((ps.take 0).flatMap pc)) := fun W _ => Rd.nil W 40 2 none
  have HS2 : Hid (∀ W, Below w.heap.size w W → Rd W 40 2 none 0 ((ps.drop 0).flatMap pc)) := fun W _ => by rw [hps]; exact Rd.nil W 40 2 none
  clear hps
  obtain ⟨k0, v0⟩ := x
  have HIS : Hid (isP ps k0 0 = false) := hi
  obtain ⟨T1, hT1⟩ : ∃ T1, (ps.take 0).flatMap pc = T1 := ⟨_, rfl⟩
  obtain ⟨T2, hT2⟩ : ∃ T2, (ps.drop 0).flatMap pc = T2 := ⟨_, rfl⟩
  rw [hT1] at HS1
  rw [hT2] at HS2
  have HTT : Hid (T1 ++ [(k0, v0)].flatMap pc ++ T2 = (ps.take 0 ++ [(k0, v0)] ++ ps.drop 0).flatMap pc) := by show _ = _; rw [← hT1, ← hT2]; simp
  generalize ps.take 0 ++ [(k0, v0)] ++ ps.drop 0 = PS at *
  clear hT1 hT2 h ha hi
  go_enter Try.func24, Try.ntmps24
  go_wp2_with (first
    | (go_at_call 36; refine (find_is w none 0 0 ps k0 0 HC.out.1 HC.out.2 (by omega)).mono ?_; rintro e w3 ⟨rfl, HB⟩; rw [HIS.out])
    | (at_builtin; refine wpList_append_bs _ rfl (.tmp 16) (.tmp 19) 27 rfl 40 i0 _ 2 w.heap.size Try.underlying27 hi0 hii.1 hii.2.1 hby rfl (by omega) (.slice (some ⟨w3.heap.size, 0, none⟩) 0 0) 0 [] (.inl ⟨_, rfl, Rd.nil _ _ _ _, .inr ⟨_, _, rfl⟩⟩) none 0 0 T1 rfl rfl (HS1.out _ (HB.out.alloc HB.out.size _)) (by have := HB.out.size; simp; omega) (by omega) ?_; intro v4 w4 HO4 HB4; rw [Nat.zero_add, List.nil_append] at HO4; have HW4 : Hid (Below w.heap.size w w4) := (HB.out.alloc HB.out.size _).trans HB4.out; obtain ⟨a4, cap4, rfl, _⟩ := HO4.out.read)
    | (at_builtin; refine wpList_append_bs _ rfl (.tmp 21) (.tmp 25) 27 rfl 40 i0 _ 2 w.heap.size Try.underlying27 hi0 hii.1 hii.2.1 hby rfl (by omega) _ _ _ (HO4.out.alloc _) (some ⟨w4.heap.size, 0, none⟩) 1 1 ([(k0, v0)].flatMap pc) rfl rfl (one_rd w4 (k0, v0)) (by have := HW4.out.size; simp; omega) (by omega) ?_; intro v5 w5 HO5 HB5; have HW5 : Hid (Below w.heap.size w w5) := (HW4.out.alloc HW4.out.size _).trans HB5.out; obtain ⟨a5, cap5, rfl, _⟩ := HO5.out.read)
    | (at_builtin; refine wpList_append_bs _ rfl (.tmp 30) (.tmp 33) 27 rfl 40 i0 _ 2 w.heap.size Try.underlying27 hi0 hii.1 hii.2.1 hby rfl (by omega) _ _ _ HO5.out none 0 0 T2 rfl rfl (HS2.out w5 HW5.out) HW5.out.size (by omega) ?_; intro v6 w6 HO6 HB6; have HW6 : Hid (Below w.heap.size w w6) := HW5.out.trans HB6.out; obtain ⟨a6, cap6, rfl, h6, h7, h8⟩ := HO6.out.read))
  go_ret
  exact ⟨a6, _, cap6, rfl, ⟨(show Rd w6 40 2 a6 _ _ by rw [← HTT.out]; exact h7).toP, h6, h8⟩, HW6⟩
#print axioms rput_none
set_option maxRecDepth 100000 in
set_option maxHeartbeats 1000000 in
theorem rput_full (w : World) (g off k : Nat) (ps : List Pr) (x : Pr) (h : RdP w (some ⟨g, off, none⟩) k ps) (ha : AtP ps x.1 k) (hi : isP ps x.1 k = false) (hn : k ≤ 100000) :
    Calls Try.prog 24 #[.slice (some ⟨g, off, none⟩) k k, .string x.1, .string x.2] w (Rows w (ps.take k ++ [x] ++ ps.drop k)) := by
  obtain ⟨i0, hi0, hii⟩ := Option.map_eq_some_iff.1 infoP
  simp only [Prod.mk.injEq] at hii
  have hby : i0.bytes ≤ 64 := by rw [hii.2.2]; omega
  have HC : Hid (RdP w (some ⟨g, off, none⟩) k ps ∧ AtP ps x.1 k ∧ k ≤ 100001) := ⟨h, ha, by omega⟩
  have HS1 : Hid (∀ W, Below w.heap.size w W → Rd W 40 2 (some ⟨g, off, none⟩) k ((ps.take k).flatMap pc)) := fun W hW => by
    have := (h.below hW (Nat.le_refl _)).toRd.take (i := k) (by omega)
    rwa [flat_take] at this
  have HS2 : Hid (∀ W, Below w.heap.size w W → Rd W 40 2 (some ⟨g, off, none⟩) 0 ((ps.drop k).flatMap pc)) := fun W hW => by
    rw [List.drop_eq_nil_of_le (by rw [h.1]; exact Nat.le_refl _)]; exact Rd.nil W 40 2 _
  obtain ⟨k0, v0⟩ := x
  have HIS : Hid (isP ps k0 k = false) := hi
  obtain ⟨T1, hT1⟩ : ∃ T1, (ps.take k).flatMap pc = T1 := ⟨_, rfl⟩
  obtain ⟨T2, hT2⟩ : ∃ T2, (ps.drop k).flatMap pc = T2 := ⟨_, rfl⟩
  rw [hT1] at HS1
  rw [hT2] at HS2
  have HTT : Hid (T1 ++ [(k0, v0)].flatMap pc ++ T2 = (ps.take k ++ [(k0, v0)] ++ ps.drop k).flatMap pc) := by show _ = _; rw [← hT1, ← hT2]; simp
  generalize ps.take k ++ [(k0, v0)] ++ ps.drop k = PS at *
  clear hT1 hT2 h ha hi
  have q3 : (0 : Int) ≤ (k : Int) := by omega
  have q4 : (k : Int) ≤ 100000 := by omega
  go_enter Try.func24, Try.ntmps24
  go_wp2_with (first
    | (go_at_call 36; refine (find_is w _ k k ps k0 k HC.out.1 HC.out.2.1 (by have := HC.out.2.2; omega)).mono ?_; rintro e w3 ⟨rfl, HB⟩; rw [HIS.out])
    | (at_builtin; refine wpList_append_bs _ rfl (.tmp 16) (.tmp 19) 27 rfl 40 i0 _ 2 w.heap.size Try.underlying27 hi0 hii.1 hii.2.1 hby rfl (by omega) (.slice (some ⟨w3.heap.size, 0, none⟩) 0 0) 0 [] (.inl ⟨_, rfl, Rd.nil _ _ _ _, .inr ⟨_, _, rfl⟩⟩) (some ⟨g, off, none⟩) k k T1 rfl rfl (HS1.out _ (HB.out.alloc HB.out.size _)) (by have := HB.out.size; simp; omega) (by have := HC.out; omega) ?_; intro v4 w4 HO4 HB4; rw [Nat.zero_add, List.nil_append] at HO4; have HW4 : Hid (Below w.heap.size w w4) := (HB.out.alloc HB.out.size _).trans HB4.out; obtain ⟨a4, cap4, rfl, _⟩ := HO4.out.read)
    | (at_builtin; refine wpList_append_bs _ rfl (.tmp 21) (.tmp 25) 27 rfl 40 i0 _ 2 w.heap.size Try.underlying27 hi0 hii.1 hii.2.1 hby rfl (by omega) _ _ _ (HO4.out.alloc _) (some ⟨w4.heap.size, 0, none⟩) 1 1 ([(k0, v0)].flatMap pc) rfl rfl (one_rd w4 (k0, v0)) (by have := HW4.out.size; simp; omega) (by have := HC.out; omega) ?_; intro v5 w5 HO5 HB5; have HW5 : Hid (Below w.heap.size w w5) := (HW4.out.alloc HW4.out.size _).trans HB5.out; obtain ⟨a5, cap5, rfl, _⟩ := HO5.out.read)
    | (at_builtin; refine wpList_append_bs _ rfl (.tmp 30) (.tmp 33) 27 rfl 40 i0 _ 2 w.heap.size Try.underlying27 hi0 hii.1 hii.2.1 hby rfl (by omega) _ _ _ HO5.out (some ⟨g, off, none⟩) 0 0 T2 rfl rfl (HS2.out w5 HW5.out) HW5.out.size (by have := HC.out; omega) ?_; intro v6 w6 HO6 HB6; have HW6 : Hid (Below w.heap.size w w6) := HW5.out.trans HB6.out; obtain ⟨a6, cap6, rfl, h6, h7, h8⟩ := HO6.out.read))
  go_ret
  exact ⟨a6, _, cap6, rfl, ⟨(show Rd w6 40 2 a6 _ _ by rw [← HTT.out]; exact h7).toP, h6, h8⟩, HW6⟩
#print axioms rput_full
set_option maxRecDepth 100000 in
set_option maxHeartbeats 1000000 in
theorem rput_some (w : World) (g off n cap k : Nat) (ps : List Pr) (x : Pr) (h : RdP w (some ⟨g, off, none⟩) n ps) (hc : n ≤ cap) (ha : AtP ps x.1 k) (hi : isP ps x.1 k = false) (hjn : k ≤ n) (hcj : ¬ cap = k) (hn : n ≤ 100000) :
    Calls Try.prog 24 #[.slice (some ⟨g, off, none⟩) n cap, .string x.1, .string x.2] w (Rows w (ps.take k ++ [x] ++ ps.drop k)) := by
  obtain ⟨i0, hi0, hii⟩ := Option.map_eq_some_iff.1 infoP
  simp only [Prod.mk.injEq] at hii
  have hby : i0.bytes ≤ 64 := by rw [hii.2.2]; omega
  have HC : Hid (RdP w (some ⟨g, off, none⟩) n ps ∧ AtP ps x.1 k ∧ n ≤ 100001) := ⟨h, ha, by omega⟩
  have HS1 : Hid (∀ W, Below w.heap.size w W → Rd W 40 2 (some ⟨g, off, none⟩) k ((ps.take k).flatMap pc)) := fun W hW => by
    have := (h.below hW (Nat.le_refl _)).toRd.take (i := k) (by omega)
    rwa [flat_take] at this
  have HS2 : Hid (∀ W, Below w.heap.size w W → Rd W 40 2 (some ⟨g, off + k * 2, none⟩) (n - k) ((ps.drop k).flatMap pc)) := fun W hW => by
    have := (h.below hW (Nat.le_refl _)).toRd.drop (j := k) hjn
    rwa [flat_drop] at this
  obtain ⟨k0, v0⟩ := x
  have HIS : Hid (isP ps k0 k = false) := hi
  obtain ⟨T1, hT1⟩ : ∃ T1, (ps.take k).flatMap pc = T1 := ⟨_, rfl⟩
  obtain ⟨T2, hT2⟩ : ∃ T2, (ps.drop k).flatMap pc = T2 := ⟨_, rfl⟩
  rw [hT1] at HS1
  rw [hT2] at HS2
  have HTT : Hid (T1 ++ [(k0, v0)].flatMap pc ++ T2 = (ps.take k ++ [(k0, v0)] ++ ps.drop k).flatMap pc) := by show _ = _; rw [← hT1, ← hT2]; simp
  generalize ps.take k ++ [(k0, v0)] ++ ps.drop k = PS at *
  clear hT1 hT2 h ha hi
  have q1 : (k : Int) ≤ (n : Int) := by omega
  have q2 : (n : Int) ≤ (cap : Int) := by omega
  have q3 : (0 : Int) ≤ (k : Int) := by omega
  have q4 : (n : Int) ≤ 100000 := by omega
  have q5 : ¬ cap - k = 0 := by omega
  have q6 : (k : Int) ≤ (cap : Int) := by omega
  go_enter Try.func24, Try.ntmps24
  go_wp2_with (first
    | (go_at_call 36; refine (find_is w _ n cap ps k0 k HC.out.1 HC.out.2.1 (by have := HC.out.2.2; omega)).mono ?_; rintro e w3 ⟨rfl, HB⟩; rw [HIS.out])
    | (at_builtin; refine wpList_append_bs _ rfl (.tmp 16) (.tmp 19) 27 rfl 40 i0 _ 2 w.heap.size Try.underlying27 hi0 hii.1 hii.2.1 hby rfl (by omega) (.slice (some ⟨w3.heap.size, 0, none⟩) 0 0) 0 [] (.inl ⟨_, rfl, Rd.nil _ _ _ _, .inr ⟨_, _, rfl⟩⟩) (some ⟨g, off, none⟩) k cap T1 rfl rfl (HS1.out _ (HB.out.alloc HB.out.size _)) (by have := HB.out.size; simp; omega) (by have := HC.out; omega) ?_; intro v4 w4 HO4 HB4; rw [Nat.zero_add, List.nil_append] at HO4; have HW4 : Hid (Below w.heap.size w w4) := (HB.out.alloc HB.out.size _).trans HB4.out; obtain ⟨a4, cap4, rfl, _⟩ := HO4.out.read)
    | (at_builtin; refine wpList_append_bs _ rfl (.tmp 21) (.tmp 25) 27 rfl 40 i0 _ 2 w.heap.size Try.underlying27 hi0 hii.1 hii.2.1 hby rfl (by omega) _ _ _ (HO4.out.alloc _) (some ⟨w4.heap.size, 0, none⟩) 1 1 ([(k0, v0)].flatMap pc) rfl rfl (one_rd w4 (k0, v0)) (by have := HW4.out.size; simp; omega) (by have := HC.out; omega) ?_; intro v5 w5 HO5 HB5; have HW5 : Hid (Below w.heap.size w w5) := (HW4.out.alloc HW4.out.size _).trans HB5.out; obtain ⟨a5, cap5, rfl, _⟩ := HO5.out.read)
    | (at_builtin; refine wpList_append_bs _ rfl (.tmp 30) (.tmp 33) 27 rfl 40 i0 _ 2 w.heap.size Try.underlying27 hi0 hii.1 hii.2.1 hby rfl (by omega) _ _ _ HO5.out (some ⟨g, off + k * 2, none⟩) (n - k) (cap - k) T2 rfl rfl (HS2.out w5 HW5.out) HW5.out.size (by have := HC.out; omega) ?_; intro v6 w6 HO6 HB6; have HW6 : Hid (Below w.heap.size w w6) := HW5.out.trans HB6.out; obtain ⟨a6, cap6, rfl, h6, h7, h8⟩ := HO6.out.read))
  go_ret
  exact ⟨a6, _, cap6, rfl, ⟨(show Rd w6 40 2 a6 _ _ by rw [← HTT.out]; exact h7).toP, h6, h8⟩, HW6⟩
#print axioms rput_some
set_option maxRecDepth 100000 in
set_option maxHeartbeats 1000000 in
theorem rput_full1 (w : World) (g off k : Nat) (ps : List Pr) (x : Pr) (h : RdP w (some ⟨g, off, none⟩) (k + 1) ps) (ha : AtP ps x.1 k) (hi : isP ps x.1 k = true) (hn : k ≤ 100000) :
    Calls Try.prog 24 #[.slice (some ⟨g, off, none⟩) (k + 1) (k + 1), .string x.1, .string x.2] w (Rows w (ps.take k ++ [x] ++ ps.drop (k + 1))) := by
  obtain ⟨i0, hi0, hii⟩ := Option.map_eq_some_iff.1 infoP
  simp only [Prod.mk.injEq] at hii
  have hby : i0.bytes ≤ 64 := by rw [hii.2.2]; omega
  have HC : Hid (RdP w (some ⟨g, off, none⟩) (k + 1) ps ∧ AtP ps x.1 k ∧ (k + 1) ≤ 100001) := ⟨h, ha, by omega⟩
  have HS1 : Hid (∀ W, Below w.heap.size w W → Rd W 40 2 (some ⟨g, off, none⟩) k ((ps.take k).flatMap pc)) := fun W hW => by
    have := (h.below hW (Nat.le_refl _)).toRd.take (i := k) (by omega)
    rwa [flat_take] at this
  have HS2 : Hid (∀ W, Below w.heap.size w W → Rd W 40 2 (some ⟨g, off, none⟩) 0 ((ps.drop (k + 1)).flatMap pc)) := fun W hW => by
    rw [List.drop_eq_nil_of_le (by rw [h.1]; exact Nat.le_refl _)]; exact Rd.nil W 40 2 _
  obtain ⟨k0, v0⟩ := x
  have HIS : Hid (isP ps k0 k = true) := hi
  obtain ⟨T1, hT1⟩ : ∃ T1, (ps.take k).flatMap pc = T1 := ⟨_, rfl⟩
  obtain ⟨T2, hT2⟩ : ∃ T2, (ps.drop (k + 1)).flatMap pc = T2 := ⟨_, rfl⟩
  rw [hT1] at HS1
  rw [hT2] at HS2
  have HTT : Hid (T1 ++ [(k0, v0)].flatMap pc ++ T2 = (ps.take k ++ [(k0, v0)] ++ ps.drop (k + 1)).flatMap pc) := by show _ = _; rw [← hT1, ← hT2]; simp
  generalize ps.take k ++ [(k0, v0)] ++ ps.drop (k + 1) = PS at *
  clear hT1 hT2 h ha hi
  have q3 : (0 : Int) ≤ (k : Int) := by omega
  have q4 : (k : Int) ≤ 100000 := by omega
  have q7 : (k : Int) ≤ (k : Int) + 1 := by omega
  have q8 : (0 : Int) ≤ (k : Int) + 1 := by omega
  go_enter Try.func24, Try.ntmps24
  go_wp2_with (first
    | (go_at_call 36; refine (find_is w _ (k + 1) (k + 1) ps k0 k HC.out.1 HC.out.2.1 (by have := HC.out.2.2; omega)).mono ?_; rintro e w3 ⟨rfl, HB⟩; rw [HIS.out])
    | (at_builtin; refine wpList_append_bs _ rfl (.tmp 16) (.tmp 19) 27 rfl 40 i0 _ 2 w.heap.size Try.underlying27 hi0 hii.1 hii.2.1 hby rfl (by omega) (.slice (some ⟨w3.heap.size, 0, none⟩) 0 0) 0 [] (.inl ⟨_, rfl, Rd.nil _ _ _ _, .inr ⟨_, _, rfl⟩⟩) (some ⟨g, off, none⟩) k (k + 1) T1 rfl rfl (HS1.out _ (HB.out.alloc HB.out.size _)) (by have := HB.out.size; simp; omega) (by have := HC.out; omega) ?_; intro v4 w4 HO4 HB4; rw [Nat.zero_add, List.nil_append] at HO4; have HW4 : Hid (Below w.heap.size w w4) := (HB.out.alloc HB.out.size _).trans HB4.out; obtain ⟨a4, cap4, rfl, _⟩ := HO4.out.read)
    | (at_builtin; refine wpList_append_bs _ rfl (.tmp 21) (.tmp 25) 27 rfl 40 i0 _ 2 w.heap.size Try.underlying27 hi0 hii.1 hii.2.1 hby rfl (by omega) _ _ _ (HO4.out.alloc _) (some ⟨w4.heap.size, 0, none⟩) 1 1 ([(k0, v0)].flatMap pc) rfl rfl (one_rd w4 (k0, v0)) (by have := HW4.out.size; simp; omega) (by have := HC.out; omega) ?_; intro v5 w5 HO5 HB5; have HW5 : Hid (Below w.heap.size w w5) := (HW4.out.alloc HW4.out.size _).trans HB5.out; obtain ⟨a5, cap5, rfl, _⟩ := HO5.out.read)
    | (at_builtin; refine wpList_append_bs _ rfl (.tmp 30) (.tmp 33) 27 rfl 40 i0 _ 2 w.heap.size Try.underlying27 hi0 hii.1 hii.2.1 hby rfl (by omega) _ _ _ HO5.out (some ⟨g, off, none⟩) 0 0 T2 rfl rfl (HS2.out w5 HW5.out) HW5.out.size (by have := HC.out; omega) ?_; intro v6 w6 HO6 HB6; have HW6 : Hid (Below w.heap.size w w6) := HW5.out.trans HB6.out; obtain ⟨a6, cap6, rfl, h6, h7, h8⟩ := HO6.out.read))
  go_ret
  exact ⟨a6, _, cap6, rfl, ⟨(show Rd w6 40 2 a6 _ _ by rw [← HTT.out]; exact h7).toP, h6, h8⟩, HW6⟩
#print axioms rput_full1
set_option maxRecDepth 100000 in
set_option maxHeartbeats 1000000 in
theorem rput_some1 (w : World) (g off n cap k : Nat) (ps : List Pr) (x : Pr) (h : RdP w (some ⟨g, off, none⟩) n ps) (hc : n ≤ cap) (ha : AtP ps x.1 k) (hi : isP ps x.1 k = true) (hjn : (k + 1) ≤ n) (hcj : ¬ cap = (k + 1)) (hn : n ≤ 100000) :
    Calls Try.prog 24 #[.slice (some ⟨g, off, none⟩) n cap, .string x.1, .string x.2] w (Rows w (ps.take k ++ [x] ++ ps.drop (k + 1))) := by
  obtain ⟨i0, hi0, hii⟩ := Option.map_eq_some_iff.1 infoP
  simp only [Prod.mk.injEq] at hii
  have hby : i0.bytes ≤ 64 := by rw [hii.2.2]; omega
  have HC : Hid (RdP w (some ⟨g, off, none⟩) n ps ∧ AtP ps x.1 k ∧ n ≤ 100001) := ⟨h, ha, by omega⟩
  have HS1 : Hid (∀ W, Below w.heap.size w W → Rd W 40 2 (some ⟨g, off, none⟩) k ((ps.take k).flatMap pc)) := fun W hW => by
    have := (h.below hW (Nat.le_refl _)).toRd.take (i := k) (by omega)
    rwa [flat_take] at this
  have HS2 : Hid (∀ W, Below w.heap.size w W → Rd W 40 2 (some ⟨g, off + (k + 1) * 2, none⟩) (n - (k + 1)) ((ps.drop (k + 1)).flatMap pc)) := fun W hW => by
    have := (h.below hW (Nat.le_refl _)).toRd.drop (j := (k + 1)) hjn
    rwa [flat_drop] at this
  obtain ⟨k0, v0⟩ := x
  have HIS : Hid (isP ps k0 k = true) := hi
  obtain ⟨T1, hT1⟩ : ∃ T1, (ps.take k).flatMap pc = T1 := ⟨_, rfl⟩
  obtain ⟨T2, hT2⟩ : ∃ T2, (ps.drop (k + 1)).flatMap pc = T2 := ⟨_, rfl⟩
  rw [hT1] at HS1
  rw [hT2] at HS2
  have HTT : Hid (T1 ++ [(k0, v0)].flatMap pc ++ T2 = (ps.take k ++ [(k0, v0)] ++ ps.drop (k + 1)).flatMap pc) := by show _ = _; rw [← hT1, ← hT2]; simp
  generalize ps.take k ++ [(k0, v0)] ++ ps.drop (k + 1) = PS at *
  clear hT1 hT2 h ha hi
  have q1 : (k : Int) ≤ (n : Int) := by omega
  have q2 : (n : Int) ≤ (cap : Int) := by omega
  have q3 : (0 : Int) ≤ (k : Int) := by omega
  have q4 : (n : Int) ≤ 100000 := by omega
  have q5 : ¬ cap - (k + 1) = 0 := by omega
  have q6 : (k : Int) ≤ (cap : Int) := by omega
  have q7 : (k : Int) + 1 ≤ (n : Int) := by omega
  have q8 : (0 : Int) ≤ (k : Int) + 1 := by omega
  go_enter Try.func24, Try.ntmps24
  go_wp2_with (first
    | (go_at_call 36; refine (find_is w _ n cap ps k0 k HC.out.1 HC.out.2.1 (by have := HC.out.2.2; omega)).mono ?_; rintro e w3 ⟨rfl, HB⟩; rw [HIS.out])
    | (at_builtin; refine wpList_append_bs _ rfl (.tmp 16) (.tmp 19) 27 rfl 40 i0 _ 2 w.heap.size Try.underlying27 hi0 hii.1 hii.2.1 hby rfl (by omega) (.slice (some ⟨w3.heap.size, 0, none⟩) 0 0) 0 [] (.inl ⟨_, rfl, Rd.nil _ _ _ _, .inr ⟨_, _, rfl⟩⟩) (some ⟨g, off, none⟩) k cap T1 rfl rfl (HS1.out _ (HB.out.alloc HB.out.size _)) (by have := HB.out.size; simp; omega) (by have := HC.out; omega) ?_; intro v4 w4 HO4 HB4; rw [Nat.zero_add, List.nil_append] at HO4; have HW4 : Hid (Below w.heap.size w w4) := (HB.out.alloc HB.out.size _).trans HB4.out; obtain ⟨a4, cap4, rfl, _⟩ := HO4.out.read)
    | (at_builtin; refine wpList_append_bs _ rfl (.tmp 21) (.tmp 25) 27 rfl 40 i0 _ 2 w.heap.size Try.underlying27 hi0 hii.1 hii.2.1 hby rfl (by omega) _ _ _ (HO4.out.alloc _) (some ⟨w4.heap.size, 0, none⟩) 1 1 ([(k0, v0)].flatMap pc) rfl rfl (one_rd w4 (k0, v0)) (by have := HW4.out.size; simp; omega) (by have := HC.out; omega) ?_; intro v5 w5 HO5 HB5; have HW5 : Hid (Below w.heap.size w w5) := (HW4.out.alloc HW4.out.size _).trans HB5.out; obtain ⟨a5, cap5, rfl, _⟩ := HO5.out.read)
    | (at_builtin; refine wpList_append_bs _ rfl (.tmp 30) (.tmp 33) 27 rfl 40 i0 _ 2 w.heap.size Try.underlying27 hi0 hii.1 hii.2.1 hby rfl (by omega) _ _ _ HO5.out (some ⟨g, off + (k + 1) * 2, none⟩) (n - (k + 1)) (cap - (k + 1)) T2 rfl rfl (HS2.out w5 HW5.out) HW5.out.size (by have := HC.out; omega) ?_; intro v6 w6 HO6 HB6; have HW6 : Hid (Below w.heap.size w w6) := HW5.out.trans HB6.out; obtain ⟨a6, cap6, rfl, h6, h7, h8⟩ := HO6.out.read))
  have e6 : k + 1 + (n - (k + 1)) = n := by omega
  rw [e6] at h6 h7
  go_ret
  exact ⟨a6, _, cap6, rfl, ⟨(show Rd w6 40 2 a6 _ _ by rw [← HTT.out]; exact h7).toP, h6, h8⟩, HW6⟩
#print axioms rput_some1
theorem rput_is (w : World) (a : Option Addr) (n cap : Nat) (ps : List Pr) (x : Pr) (h : RdP w a n ps) (hc : Cap a n cap) (hr : Ris ps) (hn : n ≤ 100000) : Calls Try.prog 24 #[.slice a n cap, .string x.1, .string x.2] w (Rows w (insP ps x)) := by
  obtain ⟨k, ha⟩ := find_at ps x.1 (ris_mono hr x.1)
  have hia := ins_at hr ha
  have hkn : k ≤ n := by rw [← h.1]; exact ha.1
  rw [hia]
  cases hi : isP ps x.1 k with
  | false =>
    rw [if_neg (by simp)]
    rcases hc with ⟨hc1, ⟨rfl, rfl⟩ | ⟨g, off, rfl⟩⟩
    · have hn0 : n = 0 := by omega
      subst hn0
      have hk0 : k = 0 := by omega
      subst hk0
      exact rput_none w ps x h ha hi
    · by_cases hcj : cap = k
      · subst hcj
        have : n = cap := by omega
        subst this
        exact rput_full w g off n ps x h ha hi hn
      · exact rput_some w g off n cap k ps x h hc1 ha hi hkn hcj hn
  | true =>
    rw [if_pos rfl]
    obtain ⟨y, hy, _⟩ := eqs_is hr ha hi
    have hkn' : k < n := by rw [← h.1]; exact (List.getElem?_eq_some_iff.1 hy).1
    rcases hc with ⟨hc1, ⟨rfl, rfl⟩ | ⟨g, off, rfl⟩⟩
    · omega
    · by_cases hcj : cap = k + 1
      · subst hcj
        have : n = k + 1 := by omega
        subst this
        exact rput_full1 w g off k ps x h ha hi (by omega)
      · exact rput_some1 w g off n cap k ps x h hc1 ha hi hkn' hcj hn
#print axioms rput_is
end Go.Proofs.Ytnagknlfboadkaa.Oct
