/-
  Layer 12 (deps): numbers by names, and the rows above, in memory and as lists.
-/
import Derived.Test.YtijkpkcopjkhkaaWebReg16
namespace Go.Proofs.Ytijkpkcopjkhkaa.Oct
open Go.RowKit

/-! ### numbers by names -/
def NM (w : World) (b : Nat) (ks : List Hs) : Prop := ∃ es : List Ent, HM w b es ∧ es.map (·.k) = ks ∧ ∀ (i : Nat) (e : Ent), es[i]? = some e → e.v = .int .i64 (i : Int)
section
variable {w w' : World} {b : Nat} {ks : List Hs} {h : Hs}
theorem NM.lt (hm : NM w b ks) : b < w.heap.size := by obtain ⟨es, h1, _⟩ := hm; exact h1.lt
theorem NM.same (hm : NM w b ks) (hs : w'.heap[b]? = w.heap[b]?) : NM w' b ks := by obtain ⟨es, h1, h2⟩ := hm; exact ⟨es, h1.same hs, h2⟩
theorem NM.alloc (hm : NM w b ks) (o : Obj) : NM (w.alloc o) b ks := hm.same (Below.heap_alloc w o b hm.lt)
theorem NM.made (w : World) : NM (w.alloc (.map #[] 0)) w.heap.size [] := ⟨[], HM.made w, rfl, by simp⟩
theorem run_make68 (n : Nat) (W : World) : (Instr.makeMap 68 (some (.int .i64 (n : Int)))).run Try.prog W = .ok (.map (some W.heap.size)) (W.alloc (.map #[] 0)) := by
  simp [Instr.makeMap, run_underlying Try.underlying68, asInt, Result.andThen]
  rfl
theorem zero3 (W : World) : (zeroValue 3).run Try.prog W = .ok (.int .i64 0) W := by kernel_rfl
theorem NM.put (hm : NM w b ks) (hl : h.length = 32) (hno : h ∉ ks) : ∃ w', (Instr.mapUpdate 68 (.map (some b)) (.agg (U h).toArray) (.int .i64 (ks.length : Int))).run Try.prog w = .ok () w' ∧ NM w' b (ks ++ [h]) ∧ w.grownBy w' (some b) ∧ w'.heap.size = w.heap.size := by
  obtain ⟨es, h1, h2, h3⟩ := hm
  obtain ⟨w', nb, r1, r2, r3, r4⟩ := h1.put (t := 68) (E := 3) Try.underlying68 hl (.int .i64 (ks.length : Int))
  refine ⟨w', r1, ⟨_, r2, ?_, ?_⟩, r3, r4⟩
  · unfold hputE
    rw [isSome_hlook, h2]
    simp only [hno, decide_false, Bool.false_eq_true, if_false]
    simp [h2]
  · intro i e he
    unfold hputE at he
    rw [isSome_hlook, h2] at he
    simp only [hno, decide_false, Bool.false_eq_true, if_false] at he
    by_cases hi : i < es.length
    · rw [List.getElem?_append_left hi] at he; exact h3 i e he
    · rw [List.getElem?_append_right (by omega)] at he
      have hl2 : es.length = ks.length := by rw [← h2]; simp
      cases hj : i - es.length with
      | zero =>
        rw [hj] at he
        simp at he
        subst he
        have : i = ks.length := by omega
        rw [this]
      | succ j => rw [hj] at he; simp at he
theorem NM.look (hm : NM w b ks) (hl : h.length = 32) {k : Nat} (hk : ks[k]? = some h) : (Instr.lookup 68 (.map (some b)) (.agg (U h).toArray) false).run Try.prog w = .ok (.int .i64 (k : Int)) w := by
  obtain ⟨es, h1, h2, h3⟩ := hm
  have hnd : (es.map (·.k)).Nodup := by obtain ⟨c, _, _, _, h4, _⟩ := h1; exact h4
  rw [← h2, List.getElem?_map] at hk
  obtain ⟨e, he, hek⟩ := Option.map_eq_some_iff.1 hk
  have hlk := hlook_mem hnd (List.mem_of_getElem? he)
  rw [hek] at hlk
  have := h1.look (t := 68) (E := 3) Try.underlying68 hl false (zero3 w)
  rw [hlk] at this
  have e2 : lkv false (some e) (.int .i64 0) = .int .i64 (k : Int) := by simp [lkv, h3 k e he]
  rw [e2] at this
  exact this
end
section
variable {ops : Array Oper} {rest : List Oper} {o : Oper} {a : Act} {w : World} {Q : Exit → Act → World → Prop}
theorem wpList_nput (hg : o.guard = none) (m x v : Operand) (hop : o.op = Op.mapUpdate 68 m x v) (b : Nat) (ks : List Hs) (h : Hs) (hm : a.eval m = .map (some b)) (hx : a.eval x = .agg (U h).toArray) (hvv : a.eval v = .int .i64 (ks.length : Int))
    (hs : NM w b ks) (hl : h.length = 32) (hno : h ∉ ks) (hK : ∀ w', NM w' b (ks ++ [h]) → w.grownBy w' (some b) → w'.heap.size = w.heap.size → wpList Try.prog ops Q rest (a.put o.dst undef) w') : wpList Try.prog ops Q (o :: rest) a w := by
  refine wpList_plain hg fun K' hK' => ?_
  obtain ⟨w', hrun, r1, r2, r3⟩ := hs.put hl hno
  unfold Oper.wp
  simp [execOp, hop, hm, hx, hvv, hrun, Result.andThen]
  exact hK' _ _ (hK w' r1 r2 r3)
theorem wpList_nlook (hg : o.guard = none) (m x : Operand) (hop : o.op = Op.lookup 68 m x false) (b : Nat) (ks : List Hs) (h : Hs) (k : Nat) (hm : a.eval m = .map (some b)) (hx : a.eval x = .agg (U h).toArray)
    (hs : NM w b ks) (hl : h.length = 32) (hk : ks[k]? = some h) (hK : wpList Try.prog ops Q rest (a.put o.dst (.int .i64 (k : Int))) w) : wpList Try.prog ops Q (o :: rest) a w := by
  refine wpList_plain hg fun K' hK' => ?_
  unfold Oper.wp
  simp [execOp, hop, hm, hx, hs.look hl hk, Result.andThen]
  exact hK' _ _ hK
end

/-! ### the rows above -/
structure AbM (w : World) (B ga : Nat) (L : List Value) (xs : List (List Nat)) : Prop where
  blk : Blk w ga 56 L
  len : L.length = xs.length
  rows : ∀ (k : Nat) (v : Value) (x : List Nat), L[k]? = some v → xs[k]? = some x → w.ownsRow B 3 1 v x.length (IV x)
  apart : ∀ (i j : Nat) (v u : Value), i ≠ j → L[i]? = some v → L[j]? = some u → v.ownBlock = none ∨ v.ownBlock ≠ u.ownBlock
section
variable {w w' : World} {B ga : Nat} {L : List Value} {xs : List (List Nat)}
theorem AbM.partner (h : AbM w B ga L xs) {k : Nat} {v : Value} (hv : L[k]? = some v) : ∃ x, xs[k]? = some x := by
  have := (List.getElem?_eq_some_iff.1 hv).1
  exact ⟨_, List.getElem?_eq_getElem (by rw [← h.len]; exact this)⟩
theorem AbM.kept {row : Option Nat} (h : AbM w B ga L xs) (hg : w.grownBy w' row) (hne : some ga ≠ row) (hr : ∀ v ∈ L, v.ownBlock = none ∨ v.ownBlock ≠ row) : AbM w' B ga L xs :=
  ⟨h.blk.kept hg hne, h.len, fun k v x hv hx => (h.rows k v x hv hx).kept hg (hr v (List.mem_of_getElem? hv)), h.apart⟩
theorem AbM.below (h : AbM w B ga L xs) (hb : Below w.heap.size w w') : AbM w' B ga L xs := by
  refine h.kept (row := none) ⟨hb.os, hb.tape, hb.output, hb.size, fun k hk _ => hb.block k hk⟩ (by simp) (fun v _ => ?_)
  cases v.ownBlock with
  | none => exact .inl rfl
  | some g => exact .inr (by simp)
/-- a block ahead of all rows is written -/
theorem AbM.wrote (h : AbM w B ga L xs) {g : Nat} (hg : w.grownBy w' (some g)) (hne : g ≠ ga) (hB : g < B) : AbM w' B ga L xs := by
  refine h.kept hg (by simpa using fun e => hne e.symm) (fun v hv => ?_)
  obtain ⟨k, hk⟩ := List.getElem?_of_mem hv
  obtain ⟨x, hx⟩ := h.partner hk
  have hl := (h.rows k v x hk hx).lt
  cases e : v.ownBlock with
  | none => exact .inl rfl
  | some g' =>
    have := (hl g' e).1
    refine .inr ?_
    simp only [ne_eq, Option.some.injEq]
    omega
theorem AbM.new (w : World) (B ga n : Nat) (hb : Blk w ga 56 (List.replicate n (.slice none 0 0))) : AbM w B ga (List.replicate n (.slice none 0 0)) (List.replicate n []) := by
  refine ⟨hb, by simp, fun k v x hv hx => ?_, fun i j v u _ hv _ => ?_⟩
  · obtain rfl := List.eq_of_mem_replicate (List.mem_of_getElem? hv)
    obtain rfl := List.eq_of_mem_replicate (List.mem_of_getElem? hx)
    exact World.ownsRow_nil _ _ _ _
  · obtain rfl := List.eq_of_mem_replicate (List.mem_of_getElem? hv)
    exact .inl rfl
theorem AbM.put {A w1 : World} {k m : Nat} {v v' : Value} {x : List Nat} {o : Obj} (h : AbM A B ga L xs) (hv : L[k]? = some v) (hx : xs[k]? = some x) (hgB : ga < B)
    (r1 : w1.ownsRow B 3 1 v' (x.length + 1) (IV (x ++ [m]))) (r2 : (A.drew.alloc o).grownBy w1 v.ownBlock) (r3 : v'.ownBlock = v.ownBlock ∨ v'.ownBlock = some (A.heap.size + 1)) :
    AbM (w1.setCell ⟨ga, k, none⟩ v') B ga (L.set k v') (xs.set k (x ++ [m])) := by
  have hal : Below A.heap.size A (A.drew.alloc o) := (⟨rfl, rfl, rfl, Nat.le_refl _, fun _ _ => rfl⟩ : Below A.heap.size A A.drew).alloc (Nat.le_refl _) o
  have hA1 : AbM (A.drew.alloc o) B ga L xs := h.below hal
  have hvr := h.rows k v x hv hx
  have hga : some ga ≠ v.ownBlock := fun e => by have := (hvr.lt ga e.symm).1; omega
  have hb1 : Blk w1 ga 56 L := hA1.blk.kept r2 hga
  have hset := grown_setCell w1 ga k v'
  have hkl := (List.getElem?_eq_some_iff.1 hv).1
  have lt' : ∀ (j : Nat) (u : Value), L[j]? = some u → ∀ g, u.ownBlock = some g → B ≤ g ∧ g < A.heap.size := fun j u hu g e => by
    obtain ⟨y, hy⟩ := h.partner hu
    exact (h.rows j u y hu hy).lt g e
  refine ⟨by simpa using hb1.set k v', by simp [h.len], fun j u y hu hy => ?_, fun i j a b hij ha hb => ?_⟩
  · by_cases hjk : j = k
    · subst hjk
      rw [List.getElem?_set_self (by simpa using hkl)] at hu
      rw [List.getElem?_set_self (by rw [← h.len]; exact hkl)] at hy
      simp only [Option.some.injEq] at hu hy
      subst hu hy
      have := r1.kept hset (by
        cases e : v'.ownBlock with
        | none => exact .inl rfl
        | some g => refine .inr ?_; have := (r1.lt g e).1; simp only [ne_eq, Option.some.injEq]; omega)
      simpa using this
    · rw [List.getElem?_set_ne (by omega)] at hu hy
      have h1 := (hA1.rows j u y hu hy).kept r2 (h.apart j k u v hjk hu hv)
      refine h1.kept hset ?_
      cases e : u.ownBlock with
      | none => exact .inl rfl
      | some g => refine .inr ?_; have := (lt' j u hu g e).1; simp only [ne_eq, Option.some.injEq]; omega
  · by_cases hik : i = k
    · subst hik
      rw [List.getElem?_set_self (by simpa using hkl)] at ha
      rw [List.getElem?_set_ne (by omega)] at hb
      simp only [Option.some.injEq] at ha
      subst ha
      rcases r3 with e | e
      · rw [e]; exact h.apart i j v b hij hv hb
      · refine .inr ?_
        rw [e]
        intro e2
        have := (lt' j b hb _ e2.symm).2
        omega
    · rw [List.getElem?_set_ne (by omega)] at ha
      by_cases hjk : j = k
      · subst hjk
        rw [List.getElem?_set_self (by simpa using hkl)] at hb
        simp only [Option.some.injEq] at hb
        subst hb
        rcases r3 with e | e
        · rw [e]; exact h.apart i j a v hij ha hv
        · cases e2 : a.ownBlock with
          | none => exact .inl rfl
          | some g =>
            refine .inr ?_
            rw [e]
            have := (lt' i a ha g e2).2
            simp only [ne_eq, Option.some.injEq]; omega
      · rw [List.getElem?_set_ne (by omega)] at hb
        exact h.apart i j a b hij ha hb
end
#print axioms AbM.put

/-! ### as lists -/
def numOf (ns : List Hs) (h : Hs) : Nat := ns.idxOf h
theorem numOf_at {ns : List Hs} {h : Hs} (hm : h ∈ ns) : ns[numOf ns h]? = some h := by
  unfold numOf
  rw [List.getElem?_eq_getElem (List.idxOf_lt_length_of_mem hm)]
  simp
/-- a number put behind the row of each of some hashes -/
def aboveI (ns : List Hs) (m : Nat) (xs : List (List Nat)) (ds : List Hs) : List (List Nat) := ds.foldl (fun xs d => xs.set (numOf ns d) (xs.getD (numOf ns d) [] ++ [m])) xs
def webA (ns : List Hs) (l : List It) : List (List Nat) := l.foldl (fun xs x => aboveI ns (numOf ns x.name) xs x.deps) (List.replicate ns.length [])
def webW (ns : List Hs) (l : List It) : List Nat := l.foldl (fun wt x => wt.set (numOf ns x.name) x.deps.length) (List.replicate ns.length 0)
theorem webA_take (ns : List Hs) (l : List It) (i : Nat) (x : It) (h : l[i]? = some x) : webA ns (l.take (i + 1)) = aboveI ns (numOf ns x.name) (webA ns (l.take i)) x.deps := by
  unfold webA
  rw [List.take_add_one, h, List.foldl_append]; rfl
theorem webW_take (ns : List Hs) (l : List It) (i : Nat) (x : It) (h : l[i]? = some x) : webW ns (l.take (i + 1)) = (webW ns (l.take i)).set (numOf ns x.name) x.deps.length := by
  unfold webW
  rw [List.take_add_one, h, List.foldl_append]; rfl
theorem aboveI_take (ns : List Hs) (m : Nat) (xs : List (List Nat)) (ds : List Hs) (j : Nat) (d : Hs) (h : ds[j]? = some d) :
    aboveI ns m xs (ds.take (j + 1)) = (aboveI ns m xs (ds.take j)).set (numOf ns d) ((aboveI ns m xs (ds.take j)).getD (numOf ns d) [] ++ [m]) := by
  unfold aboveI
  rw [List.take_add_one, h, List.foldl_append]; rfl
theorem aboveI_length (ns : List Hs) (m : Nat) : ∀ (ds : List Hs) (xs : List (List Nat)), (aboveI ns m xs ds).length = xs.length
  | [], _ => rfl
  | d :: ds, xs => by
    show (aboveI ns m _ ds).length = _
    rw [aboveI_length ns m ds]; simp
theorem webA_length (ns : List Hs) (l : List It) : (webA ns l).length = ns.length := by
  have key : ∀ (l : List It) (xs : List (List Nat)), (l.foldl (fun xs x => aboveI ns (numOf ns x.name) xs x.deps) xs).length = xs.length := by
    intro l
    induction l with
    | nil => intro xs; rfl
    | cons x l ih => intro xs; rw [List.foldl_cons, ih, aboveI_length]
  unfold webA
  rw [key]; simp
theorem webW_length (ns : List Hs) (l : List It) : (webW ns l).length = ns.length := by
  have key : ∀ (l : List It) (xs : List Nat), (l.foldl (fun wt x => wt.set (numOf ns x.name) x.deps.length) xs).length = xs.length := by
    intro l
    induction l with
    | nil => intro xs; rfl
    | cons x l ih => intro xs; rw [List.foldl_cons, ih]; simp
  unfold webW
  rw [key]; simp
/-- no row is longer than there are hashes -/
theorem aboveI_bound (ns : List Hs) (m : Nat) {N : Nat} : ∀ (ds : List Hs) (xs : List (List Nat)), (∀ x ∈ xs, x.length ≤ N) → ∀ x ∈ aboveI ns m xs ds, x.length ≤ N + ds.length
  | [], xs, h => by simpa [aboveI] using h
  | d :: ds, xs, h => by
    intro x hx
    have := aboveI_bound ns m (N := N + 1) ds (xs.set (numOf ns d) (xs.getD (numOf ns d) [] ++ [m])) (fun y hy => by
      rcases List.mem_or_eq_of_mem_set hy with hy | rfl
      · have := h y hy; omega
      · simp only [List.length_append, List.length_singleton]
        have : (xs.getD (numOf ns d) []).length ≤ N := by
          rw [List.getD_eq_getElem?_getD]
          cases e : xs[numOf ns d]? with
          | none => simp
          | some y => exact h y (List.mem_of_getElem? e)
        omega) x hx
    simp only [List.length_cons]; omega
theorem webA_bound (ns : List Hs) : ∀ (l : List It), ∀ x ∈ webA ns l, x.length ≤ many l := by
  intro l
  have key : ∀ (l : List It) (N : Nat) (xs : List (List Nat)), (∀ x ∈ xs, x.length ≤ N) → ∀ x ∈ l.foldl (fun xs x => aboveI ns (numOf ns x.name) xs x.deps) xs, x.length ≤ N + many l := by
    intro l
    induction l with
    | nil => intro N xs h; simpa [many] using h
    | cons y l ih =>
      intro N xs h x hx
      rw [List.foldl_cons] at hx
      have := ih (N + y.deps.length) _ (aboveI_bound ns (numOf ns y.name) y.deps xs h) x hx
      simp only [many, List.map_cons, List.sum_cons] at this ⊢
      omega
  have := key l 0 (List.replicate ns.length []) (fun x hx => by obtain rfl := List.eq_of_mem_replicate hx; simp)
  simpa [webA] using this
end Go.Proofs.Ytijkpkcopjkhkaa.Oct
