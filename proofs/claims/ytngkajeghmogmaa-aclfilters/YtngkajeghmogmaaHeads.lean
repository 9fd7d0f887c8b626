/-
  Layer 17 (acl): what the first pieces of a text make together; the closure of 'heads'.
-/
import Derived.Test.YtngkajeghmogmaaPath
namespace Go.Proofs.Ytngkajeghmogmaa.Oct
open Go.RowKit Go.Shelf
attribute [local go_sem] Oper.semAt_some

/-- pieces with slashes between -/
def join : List (List UInt8) → List UInt8
  | [] => []
  | [p] => p
  | p :: q :: r => p ++ 47 :: join (q :: r)
theorem join_cons {p : List UInt8} {ps : List (List UInt8)} (h : ps ≠ []) : join (p :: ps) = p ++ 47 :: join ps := by
  cases ps with
  | nil => exact absurd rfl h
  | cons q r => rfl
theorem join_append : ∀ {ps qs : List (List UInt8)}, ps ≠ [] → qs ≠ [] → join (ps ++ qs) = join ps ++ 47 :: join qs
  | [], _, h, _ => absurd rfl h
  | [p], qs, _, h => by rw [List.singleton_append, join_cons h]; rfl
  | p :: q :: r, qs, _, h => by
    have ih := join_append (ps := q :: r) (qs := qs) (by simp) h
    rw [List.cons_append, join_cons (by simp), ih, show join (p :: q :: r) = p ++ 47 :: join (q :: r) from rfl]
    simp
theorem join_split : ∀ l : List UInt8, join (split l) = l
  | [] => rfl
  | c :: r => by
    have ih := join_split r
    unfold split
    split
    · rename_i hc
      rw [join_cons (split_ne r), ih, hc]; rfl
    · cases hs : split r with
      | nil => exact absurd hs (split_ne r)
      | cons q qs =>
        rw [hs] at ih
        cases qs with
        | nil => simp only [join] at ih ⊢; rw [ih]
        | cons q2 qs => simp only [join] at ih ⊢; rw [List.cons_append, ih]
theorem split_join : ∀ {ps : List (List UInt8)}, ps ≠ [] → (∀ p ∈ ps, 47 ∉ p) → split (join ps) = ps
  | [], h, _ => absurd rfl h
  | [p], _, h => split_none (h p (by simp))
  | p :: q :: r, _, h => by
    have ih := split_join (ps := q :: r) (by simp) (fun x hx => h x (by simp [hx]))
    rw [join_cons (by simp), split_one _ (h p (by simp)), ih]
/-- the first t pieces together -/
def headOf (l : List UInt8) (t : Nat) : List UInt8 := join ((split l).take t)
theorem headOf_zero (l : List UInt8) : headOf l 0 = [] := rfl
theorem headOf_all (l : List UInt8) : headOf l (split l).length = l := by rw [headOf, List.take_length, join_split]
theorem take_ne {α : Type} {l : List α} {t : Nat} (h : l ≠ []) : l.take (t + 1) ≠ [] := by
  cases l with
  | nil => exact absurd rfl h
  | cons a r => simp
theorem headOf_first (l p : List UInt8) (h : (split l)[0]? = some p) : headOf l 1 = p := by
  obtain ⟨h1, e⟩ := List.getElem?_eq_some_iff.1 h
  rw [headOf, List.take_succ_eq_append_getElem h1, e]; rfl
theorem headOf_next (l p : List UInt8) (t : Nat) (h : (split l)[t + 1]? = some p) : headOf l (t + 2) = headOf l (t + 1) ++ 47 :: p := by
  obtain ⟨h1, e⟩ := List.getElem?_eq_some_iff.1 h
  rw [headOf, List.take_succ_eq_append_getElem h1, e, join_append (take_ne (split_ne l)) (by simp)]; rfl
theorem headOf_prefix (l : List UInt8) (t : Nat) (h : t < (split l).length) : headOf l (t + 1) <+: l := by
  by_cases he : t + 1 = (split l).length
  · rw [he, headOf_all]; exact List.prefix_refl _
  · have e := List.take_append_drop (t + 1) (split l)
    have hd : (split l).drop (t + 1) ≠ [] := by
      intro h0
      have := congrArg List.length h0
      simp at this; omega
    have ej := join_append (take_ne (t := t) (split_ne l)) hd
    rw [e, join_split] at ej
    exact ⟨_, ej.symm⟩
theorem headOf_take (l : List UInt8) (t : Nat) (h : t < (split l).length) : l.take (headOf l (t + 1)).length = headOf l (t + 1) := by
  obtain ⟨r, hr⟩ := headOf_prefix l t h
  revert hr
  generalize headOf l (t + 1) = h
  intro hr
  subst hr
  simp
theorem headOf_le (l : List UInt8) (t : Nat) (h : t < (split l).length) : (headOf l (t + 1)).length ≤ l.length := (headOf_prefix l t h).length_le

/-- the paths that the first piece, the first two pieces .. make -/
def hdl (s : ByteArray) : List ByteArray := if isPath s.data.toList = true then (List.range (split s.data.toList).length).map (fun t => mkS (headOf s.data.toList (t + 1))) else []
theorem hdl_yes {s : ByteArray} (h : isPath s.data.toList = true) : (hdl s).length = (pcs s).length := by simp [hdl, h, pcs]
theorem hdl_no {s : ByteArray} (h : isPath s.data.toList = false) : hdl s = [] := by simp [hdl, h]
theorem hdl_at {s x : ByteArray} (h : isPath s.data.toList = true) {t : Nat} (hx : (pcs s)[t]? = some x) {e : Nat} (he : e = (headOf s.data.toList (t + 1)).length) : (hdl s)[t]? = some (s.extract 0 e) := by
  have hl := (List.getElem?_eq_some_iff.1 hx).1
  rw [pcs_len] at hl
  have e2 : s.extract 0 e = mkS (headOf s.data.toList (t + 1)) := by
    rw [← mkS_list (s.extract 0 e), Lib.extract_data, List.drop_zero, Nat.sub_zero, he, headOf_take _ _ hl]
  rw [e2, hdl, if_pos h]
  simp [hl]
#print axioms hdl_at

theorem pcs_at {s x : ByteArray} {t : Nat} (h : (pcs s)[t]? = some x) : (split s.data.toList)[t]? = some x.data.toList := by
  rw [pcs, List.getElem?_map] at h
  obtain ⟨p, hp, rfl⟩ := Option.map_eq_some_iff.1 h
  rw [hp, mkS_data]
theorem heads_is (s : ByteArray) (w : World) : Calls Try.prog 31 #[.string s] w fun e w' => e = .returned (.func (.func 51) #[] #[.pointer (some ⟨w.heap.size, 0, none⟩)]) ∧ w' = w.alloc (.cells #[.string s] 9) := by
  go_enter Try.func31, Try.ntmps31
  go_wp2
  go_ret
  exact ⟨rfl, rfl⟩
theorem YieldAt.deep {m : Nat} (m' : Nat) {P : Program} {l : Nat} {args : Array Value} {W : World} {R : Ending → World → Prop} (h : YieldAt Fence.wide m P l args W R) : YieldAt Fence.wide m' P l args W R := by
  obtain ⟨fn, tmps, asg, bdy, hy, h1, h2⟩ := h
  exact ⟨fn, tmps, asg, bdy, hy, h1, fun c cs _ => h2 c cs (room_wide _)⟩

theorem boxed_set {A : World} {b : Nat} {t : TypeId} {v : Value} (h : A.heap[b]? = some (.cells #[v] t)) (u : Value) : (A.setCell ⟨b, 0, none⟩ u).heap[b]? = some (.cells #[u] t) := Boxed.set u h
theorem said_bool {e : Ending} {p q : Prop} (h : (e = .returned (.bool true) ∧ p) ∨ (e = .returned (.bool false) ∧ q)) : ∃ v : Bool, e = .returned (.bool v) ∧ Hid ((v = true ∧ p) ∨ (v = false ∧ q)) := by
  rcases h with ⟨h, hp⟩ | ⟨h, hq⟩
  · exact ⟨true, h, .inl ⟨rfl, hp⟩⟩
  · exact ⟨false, h, .inr ⟨rfl, hq⟩⟩
theorem heads_end {m₀ D : Nat} {A A1 C : World} (hD : m₀ + 2 ≤ D) (h1 : Held (m₀ + 2) A A1) (h2 : Held m₀ A1.drew C) : Held D A C :=
  (h1.mono hD).trans ((show Held m₀ A1 C from h2).mono (by omega))
theorem heads_keep {m₀ b : Nat} {A1 C : World} {o : Obj} (h2 : Held m₀ A1.drew C) (h : A1.heap[b]? = some o) (hb : m₀ ≤ b) : C.heap[b]? = some o :=
  ((show Held m₀ A1 C from h2).2 b (Array.getElem?_eq_some_iff.1 h).1 hb).trans h
/-- between two rounds of the loop within 'heads' -/
def HInv (s : ByteArray) (J : Nat → World → Prop) (m₀ : Nat) (yv : Value) (t : Nat) (A : World) : Prop :=
  J t A ∧ A.heap[m₀]? = some (.cells #[yv] 39) ∧ A.heap[m₀ + 1]? = some (.cells #[.int .i64 ((headOf s.data.toList t).length : Int)] 3)

set_option maxRecDepth 100000 in
set_option maxHeartbeats 2000000 in
theorem heads1_in (d l1 Bp : Nat) (s : ByteArray) (hs : s.size ≤ 140737488355328) (m₀ : Nat) (J : Nat → World → Prop) (Jx : World → Prop)
    (hJb : ∀ t A B, J t A → Below m₀ A B → J t B) (hJxb : ∀ A B, Jx A → Below m₀ A B → Jx B) (hJ : ∀ t A, J t A → A.cell? ⟨Bp, 0, none⟩ = some (.string s) ∧ m₀ ≤ A.heap.size)
    (hY : ∀ t x A, J t A → (hdl s)[t]? = some x → YieldAt Fence.wide 0 Try.prog l1 #[.string x] A fun e B => Held m₀ A B ∧ ((e = .returned (.bool true) ∧ J (t + 1) B) ∨ (e = .returned (.bool false) ∧ Jx B)))
    (W : World) (hW : W.heap.size = m₀) (h0 : J 0 W) :
    CallsIn Fence.wide d Try.prog 51 #[.func (.yield l1) #[] #[], .pointer (some ⟨Bp, 0, none⟩)] W fun e B => (∃ v, e = .returned v) ∧ (J (hdl s).length B ∨ Jx B) := by
  refine callsIn_of_wp_marks Try.func51 rfl trivial ?_ rfl
  simp only [Try.ntmps51, List.size_toArray, List.length_cons, List.length_nil, Nat.reduceAdd, Nat.reduceSub, Array.replicate_succ, Array.replicate_zero, List.push_toArray, List.append_toArray, List.nil_append, List.cons_append]
  have HN : Hid (s.size ≤ 140737488355328) := hs
  have hJ0 := hJb 0 W ((W.alloc (.cells #[.func (.yield l1) #[] #[]] 39)).alloc (.cells #[.int .i64 0] 3)) h0 (((Below.refl _ W).alloc (by omega) _).alloc (by simp; omega) _)
  have hc0 := (hJ 0 _ hJ0).1
  cases hp : isPath s.data.toList with
  | false =>
    have HP : Hid (isPath s.data.toList = false) := hp
    clear hp hs
    gi_wp2_with (refine ⟨trivial, (fun h => by cases h), ?_⟩; gi_at_call 52; refine (callsIn_wide.2 (parts_no s HP.out _ HN.out)).mono ?_; rintro e w1 ⟨rfl, hB1⟩; have HB1 := hB1; clear hB1)
    have hS1 : m₀ + 2 ≤ w1.heap.size := by have := HB1.size; simp at this; omega
    have hB1 : Below m₀ W w1 := (((Below.refl _ W).alloc (by omega) _).alloc (by simp; omega) _).trans (HB1.mono (by simp; omega))
    refine rangeLeave (X := Empty) (gf := 59) (lb := #[]) rfl (enters_of Try.func59 (by kernel_rfl) rfl) (fun _ x => x.elim) (fun _ x => x.elim) []
      J (fun _ _ => False) (fun t A B h hb => hJb t A B h (hb.mono (by omega))) (fun _ _ _ h _ => h) (hJb 0 W w1 h0 hB1) (fun _ x => x.elim) (fun _ x => x.elim) (fun _ x => x.elim) ?iter ?done ?stop
    case iter =>
      intro J' Jx' A hS hB hJ'b hJx'b hJ'I hY' h0'
      refine (nothing_in _ _ A).mono ?_
      rintro e B ⟨h, rfl⟩
      exact ⟨h, .inl h0'⟩
    case done =>
      rintro A hJA hK
      gi_wp2
      refine ⟨by simp, .inl ⟨_, _, rfl, run_takeDeferred hK, ?_⟩⟩
      refine ⟨_, results_none rfl _ _ _, ⟨_, rfl⟩, .inl ?_⟩
      rw [hdl_no HP.out]
      exact hJb _ _ _ hJA (below_putObj _ A _ _ (by omega))
    case stop => rintro c A h; exact h.elim
  | true =>
    have HP : Hid (isPath s.data.toList = true) := hp
    clear hp hs
    gi_wp2_with (refine ⟨trivial, (fun h => by cases h), ?_⟩; gi_at_call 52; refine (callsIn_wide.2 (parts_yes s HP.out _ HN.out)).mono ?_; rintro e W3 ⟨b, rfl, HB, HLE, HSZ, hB3⟩)
    have hS3 : m₀ + 2 ≤ b := by have := HLE.out; simp at this; omega
    have hB0 : Below m₀ W W3 := (((Below.refl _ W).alloc (by omega) _).alloc (by simp; omega) _).trans (hB3.mono (by simp; omega))
    have hy3 : W3.heap[m₀]? = some (.cells #[.func (.yield l1) #[] #[]] 39) := by
      rw [hB3.block m₀ (by simp; omega), ← hW]
      exact (Below.heap_alloc _ _ _ (by simp)).trans (World.alloc_heap_new W _)
    have he3 : W3.heap[m₀ + 1]? = some (.cells #[.int .i64 0] 3) := by
      have e := World.alloc_heap_new (W.alloc (.cells #[.func (.yield l1) #[] #[]] 39)) (.cells #[.int .i64 0] 3)
      rw [World.size_alloc, hW] at e
      rw [hB3.block (m₀ + 1) (by simp; omega)]
      exact e
    clear hB3 hJ0 hc0 HLE
    refine rangeLeave (gf := 53) (lb := #[.pointer (some ⟨b, 0, none⟩)]) rfl (enters_of Try.func53 (by kernel_rfl) rfl) encP (fun _ _ => rfl) (pcs s)
      (HInv s J m₀ (.func (.yield l1) #[] #[])) (fun c A => c = .ret ∧ Jx A) ?hI ?hIx ⟨hJb 0 W W3 h0 hB0, hy3, he3⟩
      (fun t x => { tmps := #[.func (.yield l1) #[] #[], .pointer (some ⟨Bp, 0, none⟩), .pointer (some ⟨m₀, 0, none⟩), .pointer (some ⟨m₀ + 1, 0, none⟩), .int .i64 (t : Int), .string x, .string s, .func (.func 53) #[] #[.pointer (some ⟨b, 0, none⟩)], .int .i64 (t : Int), .string x, undef, undef, undef, undef, undef, undef, undef, undef, undef, undef, undef, undef, undef, undef], defers := [] }) ?assign ?body ?iter ?done ?stop
    case hI =>
      rintro t A B ⟨h1, h2, h3⟩ hb
      rw [HSZ.out] at hb
      exact ⟨hJb t A B h1 (hb.mono (by omega)), (hb.block _ (by omega)).trans h2, (hb.block _ (by omega)).trans h3⟩
    case hIx =>
      rintro c A B ⟨h1, h2⟩ hb
      rw [HSZ.out] at hb
      exact ⟨h1, hJxb A B h2 (hb.mono (by omega))⟩
    case assign =>
      intro t x A K hK
      dsimp only [encP]
      gi_wp2
      exact hK
    case body =>
      rintro t x A ⟨h1, h2, h3⟩ hx hlt
      have hmx : Try.prog.follows .mixedOrders = true := by kernel_rfl
      obtain ⟨X, hX⟩ : ∃ X, x.size = X := ⟨_, rfl⟩
      obtain ⟨n, hsn⟩ : ∃ n, s.size = n := ⟨_, rfl⟩
      obtain ⟨E, hE⟩ : ∃ E, (headOf s.data.toList t).length = E := ⟨_, rfl⟩
      obtain ⟨E', hE'⟩ : ∃ E', (headOf s.data.toList (t + 1)).length = E' := ⟨_, rfl⟩
      have htl : t < (split s.data.toList).length := by have := (List.getElem?_eq_some_iff.1 hx).1; rwa [pcs_len] at this
      have hle : E' ≤ n := by have := headOf_le s.data.toList t htl; rw [hE', ← size_list, hsn] at this; exact this
      have hstep : E' = E + (if 0 < t then 1 else 0) + X := by
        have hxa := pcs_at hx
        cases t with
        | zero =>
          have e := congrArg List.length (headOf_first _ _ hxa)
          rw [hE', ← size_list, hX] at e
          rw [← hE, headOf_zero, e]; simp
        | succ k =>
          have e := congrArg List.length (headOf_next _ _ k hxa)
          rw [hE', List.length_append, hE, List.length_cons, ← size_list, hX] at e
          simp; omega
      have HAT : Hid ((hdl s)[t]? = some (s.extract 0 E')) := hdl_at HP.out hx hE'.symm
      have HE' : Hid ((headOf s.data.toList (t + 1)).length = E') := hE'
      have HLT : Hid (W3.heap.size + 1 < A.heap.size) := hlt
      have HJA : Hid (J t A) := h1
      have HYA : Hid (A.heap[m₀]? = some (.cells #[.func (.yield l1) #[] #[]] 39)) := h2
      rw [hE] at h3
      have HEA : Hid (A.heap[m₀ + 1]? = some (.cells #[.int .i64 (E : Int)] 3)) := h3
      have hcE := cell_one h3
      have hfE : A.frozen? ⟨m₀ + 1, 0, none⟩ = false := Boxed.frozen (t := 3) (v := .int .i64 (E : Int)) h3
      have hn : n ≤ 140737488355328 := by have := HN.out; omega
      have HS0 : Hid (s.size = n) := hsn
      clear hx hlt h1 h2 h3 htl hE hE'
      by_cases ht : t = 0
      · subst ht
        have hEX : (E : Int) + (X : Int) = (E' : Int) := by simp at hstep; omega
        have q1 : (E' : Int) ≤ n := by omega
        have q2 : (n : Int) ≤ 140737488355328 := by omega
        have q3 : (E : Int) ≤ n := by omega
        clear hstep hle hn
        gi_wp2
        obtain ⟨A1, hA1⟩ : ∃ A1, A1 = A.setCell ⟨m₀ + 1, 0, none⟩ (.int .i64 (E' : Int)) := ⟨_, rfl⟩
        rw [← hA1]
        have HB1 : Hid (Below m₀ A A1) := by rw [hA1]; exact (Below.refl _ A).setCell (p := ⟨m₀ + 1, 0, none⟩) (by simp) _
        have hh1 : A1.heap[m₀ + 1]? = some (.cells #[.int .i64 (E' : Int)] 3) := by rw [hA1]; exact boxed_set HEA.out _
        have HH1 : Hid (Held (m₀ + 2) A A1) := by rw [hA1]; exact Held.setCell A _ (by omega) _
        have hh0 : A1.heap[m₀]? = some (.cells #[.func (.yield l1) #[] #[]] 39) := by rw [hA1]; exact Boxed.other (t := 39) HYA.out (by omega) _
        have HC1 : Hid (A1.heap[m₀ + 1]? = some (.cells #[.int .i64 (E' : Int)] 3)) := hh1
        have HC0 : Hid (A1.heap[m₀]? = some (.cells #[.func (.yield l1) #[] #[]] 39)) := hh0
        have HW1 : Hid (A1.drew.heap = A1.heap) := rfl
        have hJ1 : J 0 A1.drew := hJb _ _ _ HJA.out ⟨HB1.out.os, HB1.out.tape, HB1.out.output, HB1.out.size, HB1.out.block⟩
        have hcp : A1.cell? ⟨Bp, 0, none⟩ = some (.string s) := (hJ _ A1.drew hJ1).1
        have hcy := cell_one hh0
        have hce := cell_one hh1
        obtain ⟨fn, tmps, asg, bdy, hy, hR⟩ := YieldAt.deep (d - 1 - 1 - 1) (hY _ _ A1.drew hJ1 HAT.out)
        clear hA1 hh0 hh1 hJ1 hcE hfE
        gi_region_with_o (refine ⟨(fun h => by cases h), hR.mono ?_⟩; rintro e C ⟨hH, hD⟩; obtain ⟨v, rfl, HD⟩ := said_bool hD; have HH2 : Hid (Held m₀ A1.drew C) := hH; clear hD hH)
        all_goals clear hy hR
        all_goals rcases HD.out with ⟨rfl, hJ3⟩ | ⟨rfl, hJ3⟩
        all_goals clear HD
        all_goals gi_wp2
        all_goals first
          | exact ⟨⟨hJ3, heads_keep HH2.out HC0.out (Nat.le_refl _), by rw [HE'.out]; exact heads_keep HH2.out HC1.out (by omega)⟩, heads_end (by have := HSZ.out; omega) HH1.out HH2.out⟩
          | exact ⟨⟨rfl, hJ3⟩, heads_end (by have := HSZ.out; omega) HH1.out HH2.out⟩
      · have hEX : (E : Int) + 1 + (X : Int) = (E' : Int) := by rw [if_pos (by omega)] at hstep; omega
        have q0 : (0 : Int) < (t : Int) := by omega
        have q1 : (E' : Int) ≤ n := by omega
        have q2 : (n : Int) ≤ 140737488355328 := by omega
        have q3 : (E : Int) + 1 ≤ n := by omega
        clear hstep hle hn ht
        gi_wp2
        obtain ⟨A1, hA1⟩ : ∃ A1, A1 = (A.setCell ⟨m₀ + 1, 0, none⟩ (.int .i64 ((E : Int) + 1))).setCell ⟨m₀ + 1, 0, none⟩ (.int .i64 (E' : Int)) := ⟨_, rfl⟩
        rw [← hA1]
        have HB1 : Hid (Below m₀ A A1) := by rw [hA1]; exact ((Below.refl _ A).setCell (p := ⟨m₀ + 1, 0, none⟩) (by simp) _).setCell (p := ⟨m₀ + 1, 0, none⟩) (by simp) _
        have hh1 : A1.heap[m₀ + 1]? = some (.cells #[.int .i64 (E' : Int)] 3) := by rw [hA1]; exact boxed_set (boxed_set HEA.out _) _
        have HH1 : Hid (Held (m₀ + 2) A A1) := by rw [hA1]; exact (Held.setCell A _ (by omega) _).trans (Held.setCell _ _ (by omega) _)
        have hh0 : A1.heap[m₀]? = some (.cells #[.func (.yield l1) #[] #[]] 39) := by rw [hA1]; exact Boxed.other (Boxed.other (t := 39) HYA.out (by omega) _) (by omega) _
        have HC1 : Hid (A1.heap[m₀ + 1]? = some (.cells #[.int .i64 (E' : Int)] 3)) := hh1
        have HC0 : Hid (A1.heap[m₀]? = some (.cells #[.func (.yield l1) #[] #[]] 39)) := hh0
        have HW1 : Hid (A1.drew.heap = A1.heap) := rfl
        have hJ1 : J t A1.drew := hJb _ _ _ HJA.out ⟨HB1.out.os, HB1.out.tape, HB1.out.output, HB1.out.size, HB1.out.block⟩
        have hcp : A1.cell? ⟨Bp, 0, none⟩ = some (.string s) := (hJ _ A1.drew hJ1).1
        have hcy := cell_one hh0
        have hce := cell_one hh1
        obtain ⟨fn, tmps, asg, bdy, hy, hR⟩ := YieldAt.deep (d - 1 - 1 - 1) (hY _ _ A1.drew hJ1 HAT.out)
        clear hA1 hh0 hh1 hJ1 hcE hfE
        gi_region_with_o (refine ⟨(fun h => by cases h), hR.mono ?_⟩; rintro e C ⟨hH, hD⟩; obtain ⟨v, rfl, HD⟩ := said_bool hD; have HH2 : Hid (Held m₀ A1.drew C) := hH; clear hD hH)
        all_goals clear hy hR
        all_goals rcases HD.out with ⟨rfl, hJ3⟩ | ⟨rfl, hJ3⟩
        all_goals clear HD
        all_goals gi_wp2
        all_goals first
          | exact ⟨⟨hJ3, heads_keep HH2.out HC0.out (Nat.le_refl _), by rw [HE'.out]; exact heads_keep HH2.out HC1.out (by omega)⟩, heads_end (by have := HSZ.out; omega) HH1.out HH2.out⟩
          | exact ⟨⟨rfl, hJ3⟩, heads_end (by have := HSZ.out; omega) HH1.out HH2.out⟩
    case iter =>
      intro J' Jx' A hS hB hJ'b hJx'b hJ'I hY' h0'
      refine pieces1_in _ _ _ s HN.out J' Jx' (fun t A k hj => hJ'b t A _ hj (below_drewN _ A k)) (fun t x A hj hx => (hY' t x A hj hx).mono (fun e B h => h.2)) A ?_ h0'
      exact cell_one ((hB.block _ (by have := HSZ.out; omega)).trans HB.out)
    case done =>
      rintro A ⟨hJA, -, -⟩ hK
      gi_wp2
      refine ⟨by simp, .inl ⟨_, _, rfl, run_takeDeferred hK, ?_⟩⟩
      refine ⟨_, results_none rfl _ _ _, ⟨_, rfl⟩, .inl ?_⟩
      rw [hdl_yes HP.out]
      exact hJb _ _ _ hJA (below_putObj _ A _ _ (by have := HSZ.out; omega))
    case stop =>
      rintro c A ⟨rfl, hJA⟩ hK
      gi_wp2
      refine ⟨by simp, .inl ⟨_, _, rfl, run_takeDeferred hK, ?_⟩⟩
      refine ⟨_, results_none rfl _ _ _, ⟨_, rfl⟩, .inr ?_⟩
      exact hJxb _ _ hJA (below_putObj _ A _ _ (by have := HSZ.out; omega))
#print axioms heads1_in
end Go.Proofs.Ytngkajeghmogmaa.Oct
