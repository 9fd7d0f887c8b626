/-
  Layer 7 (tree): what 'from' tells of a tree, as lists; the way out behind many ranges.
-/
import Derived.Test.YtnagknlfboadkaaReg7
import Derived.Test.YtnagknlfboadkaaScan
import Derived.Test.YtnagknlfboadkaaMapTop
namespace Go.Proofs.Ytnagknlfboadkaa.Oct
open Go.RowKit Go.Shelf

/-- the pairs from a key on -/
def ge (key : ByteArray) (L : List Pr) : List Pr := L.filter (fun x => geS x.1 key)
theorem ge_app (key : ByteArray) (A B : List Pr) : ge key (A ++ B) = ge key A ++ ge key B := List.filter_append ..
theorem ge_L {key : ByteArray} {A : List Pr} (h : AllL key A) : ge key A = [] := List.filter_eq_nil_iff.2 fun x hx => by rw [geS_eq, h x hx]; simp
theorem ge_leaf {ps : List Pr} {key : ByteArray} {k : Nat} (h : AtP ps key k) : ge key ps = ps.drop k := by
  have e : ge key (ps.take k ++ ps.drop k) = ps.drop k := by
    rw [ge_app]
    have h1 : ge key (ps.take k) = [] := List.filter_eq_nil_iff.2 fun x hx => by
      obtain ⟨i, hi, rfl⟩ := List.mem_iff_getElem.1 hx
      have hik : i < k := by rw [List.length_take] at hi; omega
      have hip : i < ps.length := by rw [List.length_take] at hi; omega
      rw [List.getElem_take, h.2.1 i _ hik (List.getElem?_eq_getElem hip)]; simp
    have h2 : ge key (ps.drop k) = ps.drop k := List.filter_eq_self.2 fun x hx => by
      obtain ⟨i, hi, rfl⟩ := List.mem_iff_getElem.1 hx
      have hip : k + i < ps.length := by rw [List.length_drop] at hi; omega
      rw [List.getElem_drop]
      exact h.2.2 (k + i) _ (by omega) (List.getElem?_eq_getElem hip)
    rw [h1, h2]; rfl
  rwa [List.take_append_drop] at e
/-- how many pairs are told ahead of a kid -/
def Offs (key : ByteArray) (ls : List (List Pr)) (ps : List Pr) (i : Nat) : Nat := (ge key (upp (ls.take i) (ps.take i))).length
section
variable {ls : List (List Pr)} {ps : List Pr} {key : ByteArray} {i : Nat} {l : List Pr}
theorem ge_split (hl : ls.length = ps.length + 1) (hi : ls[i]? = some l) : ge key (inter ls ps) = ge key (upp (ls.take i) (ps.take i)) ++ ge key l ++ ge key (dn (ps.drop i) (ls.drop (i + 1))) := by
  rw [inter_at i l hl hi, ge_app, ge_app]
theorem ge_kid (hl : ls.length = ps.length + 1) (hi : ls[i]? = some l) {s : Nat} {x : Pr} (hx : (ge key l)[s]? = some x) : (ge key (inter ls ps))[Offs key ls ps i + s]? = some x := by
  have hs := (List.getElem?_eq_some_iff.1 hx).1
  rw [ge_split hl hi, List.append_assoc, List.getElem?_append_right (by unfold Offs; omega), List.getElem?_append_left (by unfold Offs; omega)]
  rw [show Offs key ls ps i + s - (ge key (upp (ls.take i) (ps.take i))).length = s by unfold Offs; omega]
  exact hx
theorem dn_at {p : Pr} (hl : ls.length = ps.length + 1) (hp : ps[i]? = some p) : ∃ r, dn (ps.drop i) (ls.drop (i + 1)) = p :: r := by
  have hip := (List.getElem?_eq_some_iff.1 hp).1
  have h1 : ps.drop i = p :: ps.drop (i + 1) := by
    rw [List.drop_eq_getElem_cons hip]
    rw [List.getElem?_eq_getElem hip] at hp
    rw [Option.some.inj hp]
  have h2 : ls.drop (i + 1) = ls[i + 1]'(by omega) :: ls.drop (i + 1 + 1) := List.drop_eq_getElem_cons (by omega)
  rw [h1, h2]
  unfold dn
  rw [List.zipWith_cons_cons, List.flatten_cons]
  exact ⟨_, rfl⟩
theorem ge_pair {p : Pr} (hl : ls.length = ps.length + 1) (hi : ls[i]? = some l) (hp : ps[i]? = some p) (hg : geS p.1 key = true) : (ge key (inter ls ps))[Offs key ls ps i + (ge key l).length]? = some p := by
  obtain ⟨r, hr⟩ := dn_at hl hp
  have hlen : (ge key (upp (ls.take i) (ps.take i)) ++ ge key l).length = Offs key ls ps i + (ge key l).length := by rw [List.length_append]; rfl
  rw [ge_split hl hi, List.getElem?_append_right (by omega), hlen, Nat.sub_self, hr]
  unfold ge
  rw [List.filter_cons, if_pos hg]
  rfl
theorem offs_next {p : Pr} (hl : ls.length = ps.length + 1) (hi : ls[i]? = some l) (hp : ps[i]? = some p) (hg : geS p.1 key = true) : Offs key ls ps (i + 1) = Offs key ls ps i + (ge key l).length + 1 := by
  have hip := (List.getElem?_eq_some_iff.1 hp).1
  unfold Offs
  rw [List.take_add_one, List.take_add_one, hi, hp, upp_app (by rw [List.length_take, List.length_take]; omega), ge_app, List.length_append]
  have : ge key (upp [l] [p]) = ge key l ++ [p] := by
    have e : upp [l] [p] = l ++ [p] := by simp [upp]
    rw [e, ge_app]
    unfold ge
    rw [List.filter_cons, if_pos hg]; rfl
  show _ + (ge key (upp [l] [p])).length = _
  rw [this]; simp; omega
theorem offs_end (hl : ls.length = ps.length + 1) (hi : ls[ps.length]? = some l) : (ge key (inter ls ps)).length = Offs key ls ps ps.length + (ge key l).length := by
  rw [ge_split hl hi, List.length_append, List.length_append, List.drop_length]
  have : dn [] (ls.drop (ps.length + 1)) = [] := by simp [dn]
  rw [this]; rfl
theorem offs_first (hl : ls.length = ps.length + 1) (hr : Ris (inter ls ps)) {k : Nat} (ha : AtP ps key k) : Offs key ls ps k = 0 := by
  have hk := ha.1
  have hkl : k < ls.length := by omega
  have e := inter_at (ps := ps) k (ls[k]) hl (List.getElem?_eq_getElem hkl)
  rw [e] at hr
  have hL : AllL key (ps.take k) := by
    intro x hx
    obtain ⟨i, hi, rfl⟩ := List.mem_iff_getElem.1 hx
    have hik : i < k := by rw [List.length_take] at hi; omega
    have hip : i < ps.length := by omega
    have := ha.2.1 i _ hik (List.getElem?_eq_getElem hip)
    rw [geS_eq] at this
    rw [List.getElem_take]
    simpa using this
  unfold Offs
  rw [ge_L (upp_L (by rw [List.length_take, List.length_take]; omega) hr.left.left hL)]; rfl
end
#print axioms offs_first
/-- what a tree may lie in -/
def Kept (A0 A : World) : Prop := ∀ b e, (e = 40 ∨ e = 46 ∨ e = 67) → RowT A0 e b → A.heap[b]? = A0.heap[b]?
theorem cell_same {A0 A : World} {g off : Nat} (h : A.heap[g]? = A0.heap[g]?) : A.cell? ⟨g, off, none⟩ = A0.cell? ⟨g, off, none⟩ := by
  simp only [World.cell?, h]
theorem RdP.fix {A0 A : World} {a : Option Addr} {n : Nat} {ps : List Pr} (h : RdP A0 a n ps) (hk : Kept A0 A) : RdP A a n ps := by
  refine ⟨h.1, fun hp => ?_⟩
  obtain ⟨g, off, e, h1, h2⟩ := h.2 hp
  have hs := hk g 40 (.inl rfl) h1
  exact ⟨g, off, e, h1.same hs, fun k x hk => ⟨(cell_same hs).trans (h2 k x hk).1, (cell_same hs).trans (h2 k x hk).2⟩⟩
theorem RdK.fix {A0 A : World} {a : Option Addr} {n : Nat} {bs : List Nat} (h : RdK A0 a n bs) (hk : Kept A0 A) : RdK A a n bs := by
  refine ⟨h.1, fun hp => ?_⟩
  obtain ⟨g, off, e, h1, h2⟩ := h.2 hp
  have hs := hk g 46 (.inr (.inl rfl)) h1
  exact ⟨g, off, e, h1.same hs, fun k x hk => (cell_same hs).trans (h2 k x hk)⟩
theorem Nd.fix {A0 A : World} {nd : Nat} {a : Option Addr} {n cap : Nat} {ps : List Pr} {kv : Value} (h : Nd A0 nd a n cap ps kv) (hk : Kept A0 A) : Nd A nd a n cap ps kv :=
  ⟨(hk nd 67 (.inr (.inr rfl)) h.blk.row).trans h.blk, h.rd.fix hk⟩
#print axioms Nd.fix
def mark (m : Nat) : Deferred := { target := .collected m, args := #[] }
/-- a return behind many ranges -/
theorem ret_marks {n : Nat} {tmps : Array Value} {R : Ending → World → Prop} {D : Nat} {I : World → Prop} (hI : ∀ A B, I A → BelowR D A B → I B) (hR : ∀ A v, I A → R (.returned v) A) :
    ∀ (ms : List Nat) (w : World), I w → ms.Nodup → (∀ m ∈ ms, D ≤ m ∧ w.heap[m]? = some (.deferred (some []))) → LeavesInM Fence.wide n Try.prog Try.f37 tmps R (ms.map mark) .returning w
  | [], w, hw, _, _ => ⟨_, results_none rfl _ _ _, hR _ _ hw⟩
  | m :: ms, w, hw, hn, hm => by
    have h1 := hm m List.mem_cons_self
    refine ⟨by simp, .inl ⟨_, _, rfl, run_takeDeferred h1.2, ?_⟩⟩
    refine ret_marks hI hR ms _ (hI _ _ hw (belowR_putObj _ h1.1 h1.2 def_row)) (List.nodup_cons.1 hn).2 fun m' hm' => ?_
    have h2 := hm m' (List.mem_cons_of_mem _ hm')
    refine ⟨h2.1, (World.putObj_heap_other ?_).trans h2.2⟩
    rintro rfl
    exact (List.nodup_cons.1 hn).1 hm'
#print axioms ret_marks
end Go.Proofs.Ytnagknlfboadkaa.Oct
