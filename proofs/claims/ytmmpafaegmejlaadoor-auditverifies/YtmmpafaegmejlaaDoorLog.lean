/-
  Layer 19 (audit): a log in memory: New, Head, Entries, Load.
-/
import Derived.Test.YtmmpafaegmejlaaDoorLgr
namespace Go.Proofs.YtmmpafaegmejlaaDoor.Oct
open Go.RowKit Sha
set_option linter.unusedSimpArgs false
set_option linter.unusedVariables false

/-- a chain's head as a value -/
abbrev fnH (c : Nat) : Value := .func (.func 37) #[.pointer (some ⟨c, 0, none⟩)] #[]
/-- a log in memory -/
structure Lg (w : World) (B L c : Nat) (v : Value) (l : List En) : Prop where
  lg : Blk w L 53 [.pointer (some ⟨c, 0, none⟩), fnH c]
  ch : Blk w c 58 [v]
  row : OwE w B v l
  sz : ∀ e ∈ l, e.sz
  bl : B ≤ L
  bc : B ≤ c
  ne : L ≠ c
  nl : v.ownBlock ≠ some L
  nc : v.ownBlock ≠ some c
  len : l.length ≤ 5000
theorem Lg.below {w w' : World} {B L c : Nat} {v : Value} {l : List En} (h : Lg w B L c v l) (hb : Below w.heap.size w w') : Lg w' B L c v l :=
  ⟨h.lg.below hb h.lg.lt, h.ch.below hb h.ch.lt, h.row.below hb, h.sz, h.bl, h.bc, h.ne, h.nl, h.nc, h.len⟩
theorem Lg.same {w w' : World} {B L c : Nat} {v : Value} {l : List En} (h : Lg w B L c v l) (h1 : w'.heap[L]? = w.heap[L]?) (h2 : w'.heap[c]? = w.heap[c]?) (h3 : ∀ g, v.ownBlock = some g → w'.heap[g]? = w.heap[g]?) : Lg w' B L c v l :=
  ⟨h1.trans h.lg, h2.trans h.ch, h.row.same h3, h.sz, h.bl, h.bc, h.ne, h.nl, h.nc, h.len⟩
theorem Lg.chain {w : World} {B L c : Nat} {v : Value} {l : List En} (h : Lg w B L c v l) : Ch w c l := ⟨v, h.ch, h.row.esr, by have := h.len; omega, h.sz⟩
theorem run_build53 (c : Nat) (W : World) : (Instr.build 53 #[(0, .pointer (some ⟨c, 0, none⟩)), (1, fnH c)]).run Tryd.prog W = .ok (.agg #[.pointer (some ⟨c, 0, none⟩), fnH c]) W := by kernel_rfl
set_option maxRecDepth 100000 in
theorem logOf_is {w : World} {B : Nat} {v : Value} {l : List En} (h : OwE w B v l) (hz : ∀ e ∈ l, e.sz) (hl : l.length ≤ 5000) (hB : B ≤ w.heap.size) : Calls Tryd.prog 25 #[.agg #[v]] w fun e w' => ∃ L c, e = .returned (.pointer (some ⟨L, 0, none⟩)) ∧ Hid (Lg w' B L c v l ∧ w.heap.size ≤ L ∧ w.heap.size ≤ c) ∧ Below w.heap.size w w' := by
  obtain ⟨c, hc⟩ : ∃ c, w.heap.size = c := ⟨_, rfl⟩
  obtain ⟨A, hA⟩ : ∃ A, w.alloc (.cells #[v] 58) = A := ⟨_, rfl⟩
  obtain ⟨L, hL⟩ : ∃ L, A.heap.size = L := ⟨_, rfl⟩
  obtain ⟨A2, hA2⟩ : ∃ A2, A.alloc (.cells #[.pointer (some ⟨c, 0, none⟩), fnH c] 53) = A2 := ⟨_, rfl⟩
  have hb1 : Below w.heap.size w A := by rw [← hA]; exact below_al _ _
  have hb2 : Below A.heap.size A A2 := by rw [← hA2]; exact below_al _ _
  have hcb : Blk A c 58 [v] := by rw [← hA, ← hc]; exact Blk.new w _ _
  have hLb : Blk A2 L 53 [.pointer (some ⟨c, 0, none⟩), fnH c] := by rw [← hA2, ← hL]; exact Blk.new A _ _
  have hcl := hcb.lt
  have HF : Hid (Lg A2 B L c v l ∧ Below w.heap.size w A2 ∧ w.heap.size ≤ L ∧ w.heap.size ≤ c) := by
    refine ⟨⟨hLb, hcb.below hb2 hcb.lt, (h.below hb1).below hb2, hz, by omega, by omega, by omega, fun e => ?_, fun e => ?_, hl⟩, below_tr hb1 hb2, by omega, by omega⟩
    · have := (h.lt e).2; omega
    · have := (h.lt e).2; omega
  have hbu := run_build53 c
  clear h hz hl hB hb1 hb2 hcb hLb hcl
  go_enter Tryd.func25, Tryd.ntmps25
  go_wp2
  go_ret
  exact ⟨L, c, rfl, ⟨HF.out.1, HF.out.2.2.1, HF.out.2.2.2⟩, HF.out.2.1⟩
#print axioms logOf_is
set_option maxRecDepth 100000 in
theorem new_log (w : World) : Calls Tryd.prog 11 #[] w fun e w' => ∃ L c, e = .returned (.pointer (some ⟨L, 0, none⟩)) ∧ Hid (Lg w' w.heap.size L c (.slice none 0 0) []) ∧ Below w.heap.size w w' := by
  go_enter Tryd.func11, Tryd.ntmps11
  go_wp2_with fail
  refine (logOf_is (OwE.nil w w.heap.size) (by simp) (by simp) (Nat.le_refl _)).mono ?_
  rintro e W ⟨L, c, rfl, hh, hb⟩
  have HF : Hid (Lg W w.heap.size L c (.slice none 0 0) [] ∧ Below w.heap.size w W) := ⟨hh.out.1, hb⟩
  clear hh hb
  go_wp2
  go_ret
  exact ⟨L, c, rfl, HF.out.1, HF.out.2⟩
#print axioms new_log
set_option maxRecDepth 100000 in
theorem made_is {w : World} {B L c : Nat} {v : Value} {l : List En} (h : Lg w B L c v l) : Calls Tryd.prog 27 #[.pointer (some ⟨L, 0, none⟩)] w fun e w' => e = .returned (.bool true) ∧ w = w' := by
  have c0 := h.lg.cell (i := 0) rfl
  clear h
  go_enter Tryd.func27, Tryd.ntmps27
  go_wp2
  go_ret
  exact ⟨rfl, rfl⟩
set_option maxRecDepth 100000 in
theorem entries_is {w : World} {B L c : Nat} {v : Value} {l : List En} (h : Lg w B L c v l) : Calls Tryd.prog 13 #[.pointer (some ⟨L, 0, none⟩)] w fun e w' => ∃ v', e = .returned v' ∧ Hid (OwE w' w.heap.size v' l) ∧ Below w.heap.size w w' := by
  have H : Hid (Lg w B L c v l) := h
  have c0 := h.lg.cell (i := 0) rfl
  have c1 := h.ch.cell (i := 0) rfl
  clear h
  go_enter Tryd.func13, Tryd.ntmps13
  go_wp2_with fail
  refine (made_is H.out).mono ?_
  rintro e X ⟨rfl, rfl⟩
  go_wp2_with fail
  refine (clone_is H.out.row.esr (by have := H.out.len; omega)).mono ?_
  rintro e W ⟨v', rfl, ho, hb⟩
  have HF : Hid (OwE W w.heap.size v' l ∧ Below w.heap.size w W) := ⟨ho.out, hb⟩
  clear ho hb
  go_wp2
  go_ret
  exact ⟨_, rfl, HF.out.1, HF.out.2⟩
#print axioms entries_is
set_option maxRecDepth 100000 in
theorem headL_is {w : World} {B L c : Nat} {v : Value} {l : List En} (h : Lg w B L c v l) (hk : KT w) (hs : ST w) (D : List UInt8) (hD : hdE l = D) : Calls Tryd.prog 16 #[.pointer (some ⟨L, 0, none⟩)] w fun e w' => e = .returned (.agg (U D).toArray) ∧ Below w.heap.size w w' := by
  obtain ⟨Z, hZ, HZ⟩ := zero35
  obtain ⟨r, hr⟩ : ∃ r, w.heap.size = r := ⟨_, rfl⟩
  obtain ⟨A, hA⟩ : ∃ A, w.alloc (.cells Z.toArray 35) = A := ⟨_, rfl⟩
  have hb1 : Below w.heap.size w A := by rw [← hA]; exact below_al _ _
  have hrb : Blk A r 35 Z := by rw [← hA, ← hr]; exact Blk.new w _ _
  have H : Hid (Lg A B L c v l ∧ Below w.heap.size w A ∧ Blk A r 35 Z ∧ KT A ∧ ST A ∧ w.heap.size ≤ r ∧ hdE l = D ∧ D.length = 32) := ⟨h.below hb1, hb1, hrb, hk.below hb1, hs.below hb1, by omega, hD, by rw [← hD]; exact hdE_len l⟩
  have c1 := H.out.1.lg.cell (i := 1) rfl
  clear h hk hs hD hb1 hrb
  go_enter Tryd.func16, Tryd.ntmps16
  go_wp2_with fail
  refine (made_is H.out.1).mono ?_
  rintro e X ⟨rfl, rfl⟩
  go_wp2_with fail
  refine (head_is H.out.1.chain H.out.2.2.2.1 H.out.2.2.2.2.1 D H.out.2.2.2.2.2.2.1).mono ?_
  rintro e W ⟨rfl, hb⟩
  have H2 : Hid (Below w.heap.size w W ∧ Blk W r 35 Z) := ⟨below_tr H.out.2.1 hb, H.out.2.2.1.below hb H.out.2.2.1.lt⟩
  clear hb hA hr
  go_wp2_with (with_reducible change wpList _ _ _ ({ dst := none, op := Op.store 35 _ _, type := _, pos := _, after := _, guard := _ } :: _) _ _; refine Hid.out ?_)
  show wpList _ _ _ _ _ _
  refine wpList_store_blk rfl 35 (.tmp 2) (.tmp 11) rfl r 0 35 Z (U D) rfl rfl H2.out.2 (by rw [HZ.out, U_length, H.out.2.2.2.2.2.2.2, zb_length]; exact Nat.le_refl _) (by rw [U_length, H.out.2.2.2.2.2.2.2]; exact size35) (U_one _) ?_
  intro W7 hx7 hg7
  have H8 : Hid (Below w.heap.size w W7 ∧ Blk W7 r 35 (U D)) := ⟨below_gr H2.out.1 hg7.out H.out.2.2.2.2.2.1, blk_all hx7.out (by rw [HZ.out, U_length, H.out.2.2.2.2.2.2.2, zb_length])⟩
  clear hx7 hg7
  go_wp2
  exact ret_c rfl rfl rfl H8.out.2 Tryd.underlying35 rfl (by rw [U_length, H.out.2.2.2.2.2.2.2]; exact size35) ⟨rfl, H8.out.1⟩
#print axioms headL_is
def LoadP (w : World) (l : List En) (e : Ending) (w' : World) : Prop :=
  ((∃ i, i < l.length ∧ ¬ okAt l i) ∧ e = .returned (.tuple #[.pointer none, iv 80]) ∧ Below w.heap.size w w') ∨
  ((∀ i, i < l.length → okAt l i) ∧ ∃ L c v, e = .returned (.tuple #[.pointer (some ⟨L, 0, none⟩), iv 0]) ∧ Lg w' w.heap.size L c v l ∧ Below w.heap.size w w')
set_option maxRecDepth 100000 in
theorem load_is {w : World} {v : Value} {l : List En} (h : EsR w v l) (hz : ∀ e ∈ l, e.sz) (hl : l.length ≤ 5000) (hk : KT w) (hs : ST w) : Calls Tryd.prog 12 #[v] w (LoadP w l) := by
  have H : Hid (EsR w v l ∧ (∀ e ∈ l, e.sz) ∧ l.length ≤ 5000 ∧ KT w ∧ ST w) := ⟨h, hz, hl, hk, hs⟩
  clear h hz hl hk hs
  go_enter Tryd.func12, Tryd.ntmps12
  go_wp2_with fail
  refine (verify_is H.out.1 H.out.2.1 (by have := H.out.2.2.1; omega) H.out.2.2.2.1 H.out.2.2.2.2).mono ?_
  rintro e W ⟨k, rfl, hv, hb⟩
  rcases hv.out with ⟨rfl, ha⟩ | ⟨i, rfl, h1, h2, h3⟩
  · have H2 : Hid ((∀ i, i < l.length → okAt l i) ∧ Below w.heap.size w W ∧ EsR W v l) := ⟨ha, hb, H.out.1.below hb⟩
    clear ha hb hv
    go_wp2_with fail
    refine (clone_is H2.out.2.2 (by have := H.out.2.2.1; omega)).mono ?_
    rintro e W2 ⟨v', rfl, ho, hb⟩
    obtain ⟨av, cv, hv'⟩ : ∃ a c, v' = .slice a l.length c := by
      obtain ⟨_, a, c, h, _⟩ := ho.out.esr
      exact ⟨a, c, h⟩
    subst hv'
    have H3 : Hid (OwE W2 W.heap.size (.slice av l.length cv) l ∧ Below w.heap.size w W2 ∧ W.heap.size ≤ W2.heap.size ∧ w.heap.size ≤ W.heap.size) := ⟨ho.out, below_tr H2.out.2.1 hb, hb.size, H2.out.2.1.size⟩
    clear ho hb
    go_wp2_with fail
    refine (logOf_is (H3.out.1.mono H3.out.2.2.2) H.out.2.1 H.out.2.2.1 (Nat.le_trans H3.out.2.2.2 H3.out.2.2.1)).mono ?_
    rintro e W3 ⟨L, c, rfl, hh, hb⟩
    have H4 : Hid (Lg W3 w.heap.size L c (.slice av l.length cv) l ∧ Below w.heap.size w W3) := ⟨hh.out.1, below_tr H3.out.2.1 hb⟩
    clear hh hb
    go_wp2
    go_ret2
    exact Or.inr ⟨H2.out.1, L, c, _, rfl, H4.out.1, H4.out.2⟩
  · have H2 : Hid ((∃ i, i < l.length ∧ ¬ okAt l i) ∧ Below w.heap.size w W) := ⟨⟨i, h1, h2⟩, hb⟩
    have q : (0 : Int) ≤ (i : Int) := by omega
    clear h1 h2 h3 hb hv
    go_wp2
    go_ret2
    exact Or.inl ⟨H2.out.1, rfl, H2.out.2⟩
#print axioms load_is
end Go.Proofs.YtmmpafaegmejlaaDoor.Oct
