/-
  Layer 20 (review): a board in memory; isMade, isOpen, find, findOpen, New.
-/
import Derived.Test.YtaecigpjcbjcbaaPss
namespace Go.Proofs.Ytaecigpjcbjcbaa.Oct
open Go.RowKit
set_option linter.unusedSimpArgs false

/-- what is kept but for the blocks of S -/
structure Keep (S : Nat → Prop) (w w' : World) : Prop where
  os : w'.os = w.os
  tape : w'.tape = w.tape
  output : w'.output = w.output
  size : w.heap.size ≤ w'.heap.size
  block : ∀ k, k < w.heap.size → ¬ S k → w'.heap[k]? = w.heap[k]?
theorem Keep.refl (S : Nat → Prop) (w : World) : Keep S w w := ⟨rfl, rfl, rfl, Nat.le_refl _, fun _ _ _ => rfl⟩
theorem Keep.trans {S T : Nat → Prop} {w w1 w2 : World} (h : Keep S w w1) (k : Keep T w1 w2) (hs : ∀ j, T j → j < w.heap.size → S j) : Keep S w w2 :=
  ⟨k.os.trans h.os, k.tape.trans h.tape, k.output.trans h.output, Nat.le_trans h.size k.size, fun j hj hn => (k.block j (Nat.lt_of_lt_of_le hj h.size) (fun ht => hn (hs j ht hj))).trans (h.block j hj hn)⟩
theorem Keep.grown {S : Nat → Prop} {w w' : World} {b : Nat} (h : w.grownBy w' (some b)) (hb : S b) : Keep S w w' := ⟨h.os, h.tape, h.output, h.size, fun k hk hn => h.block k hk (fun e => hn (by cases e; exact hb))⟩
theorem Keep.grownO {S : Nat → Prop} {w w' : World} {r : Option Nat} (h : w.grownBy w' r) (hb : ∀ b, r = some b → S b) : Keep S w w' := ⟨h.os, h.tape, h.output, h.size, fun k hk hn => h.block k hk (fun e => hn (hb k e.symm))⟩
theorem Keep.below {S : Nat → Prop} {w w' : World} (h : Below w.heap.size w w') : Keep S w w' := ⟨h.os, h.tape, h.output, h.size, fun k hk _ => h.block k hk⟩
theorem Keep.toBelow {S : Nat → Prop} {B : Nat} {w w' : World} (h : Keep S w w') (hB : B ≤ w.heap.size) (hs : ∀ k, S k → B ≤ k) : Below B w w' :=
  ⟨h.os, h.tape, h.output, h.size, fun k hk => h.block k (by omega) (fun e => by have := hs k e; omega)⟩
theorem Keep.mono {S T : Nat → Prop} {w w' : World} (h : Keep S w w') (hs : ∀ j, j < w.heap.size → S j → T j) : Keep T w w' := ⟨h.os, h.tape, h.output, h.size, fun k hk hn => h.block k hk (fun e => hn (hs k hk e))⟩
theorem Keep.drew {S : Nat → Prop} {w w' : World} (h : Keep S w w') : Keep S w w'.drew := ⟨h.os, h.tape, h.output, h.size, h.block⟩
theorem Keep.blk {S : Nat → Prop} {w w' : World} (h : Keep S w w') {b : Nat} {t : TypeId} {L : List Value} (hb : Blk w b t L) (hn : ¬ S b) : Blk w' b t L := (h.block b hb.lt hn).trans hb

/-- a proposal, a board: what they have, and where it lies -/
structure Pr where
  author : BA
  channel : BA
  patch : Hs
  vb : Nat
  votes : List (Hs × Int)
  tv : Value
  talk : List (BA × BA)
def Pr.cells (p : Pr) : List Value := .string p.author :: .string p.channel :: (U p.patch ++ [.map (some p.vb), p.tv])
def votesKv (l : List (Hs × Int)) : Kv := l.map fun r => (r.1, iv r.2)
def talkC (l : List (BA × BA)) : List Value := l.flatMap fun x => [.string x.1, .string x.2]
structure Br where
  pv : Value
  ov : Value
  props : List Pr
  opn : List Nat
def Pr.bl (p : Pr) : List Nat := p.vb :: p.tv.ownBlock.toList
def Br.bl (M : Br) (b : Nat) : List Nat := b :: (M.pv.ownBlock.toList ++ (M.ov.ownBlock.toList ++ M.props.flatMap Pr.bl))
def propC (l : List Pr) : List Value := l.flatMap Pr.cells
def opnC (l : List Nat) : List Value := l.map fun n : Nat => iv (n : Int)
structure PrAt (w : World) (p : Pr) (K : Nat) : Prop where
  patch : p.patch.length = 32
  votes : MP w p.vb (votesKv p.votes)
  nvotes : p.votes.length ≤ K
  talk : Ow w 50 2 p.tv p.talk.length (talkC p.talk)
  ntalk : p.talk.length ≤ 32
/-- a board stands at block b -/
structure BAt (w : World) (b : Nat) (M : Br) (K : Nat) : Prop where
  blk : Blk w b 70 [.bool true, M.pv, M.ov]
  prow : Ow w 87 36 M.pv M.props.length (propC M.props)
  orow : Ow w 3 1 M.ov M.opn.length (opnC M.opn)
  each : ∀ p ∈ M.props, PrAt w p K
  apart : (M.bl b).Nodup
  nprops : M.props.length ≤ K
  nopn : M.opn.length ≤ 64
  opn : ∀ k ∈ M.opn, 1 ≤ k ∧ k ≤ M.props.length
  few : K ≤ 1000
/-- what a call leaves -/
def BAfter (w : World) (b : Nat) (M M' : Br) (w' : World) : Prop := (∀ k ∈ M'.bl b, k ∈ M.bl b ∨ w.heap.size ≤ k) ∧ Keep (fun k => k ∈ M.bl b) w w'
section
variable {w w' : World} {b K : Nat} {M : Br}
theorem PrAt.same {p : Pr} (h : PrAt w p K) (hs : ∀ k ∈ p.bl, w'.heap[k]? = w.heap[k]?) : PrAt w' p K :=
  ⟨h.patch, h.votes.same (hs _ (by simp [Pr.bl])), h.nvotes, h.talk.same (fun g hg => hs g (by simp [Pr.bl, hg])), h.ntalk⟩
theorem PrAt.lt {p : Pr} (h : PrAt w p K) : ∀ k ∈ p.bl, k < w.heap.size := by
  intro k hk
  simp only [Pr.bl, List.mem_cons, Option.mem_toList] at hk
  rcases hk with rfl | hk
  · exact h.votes.lt
  · exact h.talk.lt hk
theorem BAt.lt (h : BAt w b M K) : ∀ k ∈ M.bl b, k < w.heap.size := by
  intro k hk
  simp only [Br.bl, List.mem_cons, List.mem_append, Option.mem_toList, List.mem_flatMap] at hk
  rcases hk with rfl | hk | hk | ⟨p, hp, hk⟩
  · exact h.blk.lt
  · exact h.prow.lt hk
  · exact h.orow.lt hk
  · exact (h.each p hp).lt k hk
theorem BAt.same (h : BAt w b M K) (hs : ∀ k ∈ M.bl b, w'.heap[k]? = w.heap[k]?) : BAt w' b M K := by
  refine ⟨(hs b (by simp [Br.bl])).trans h.blk, h.prow.same (fun g hg => hs g (by simp [Br.bl, hg])), h.orow.same (fun g hg => hs g (by simp [Br.bl, hg])), fun p hp => (h.each p hp).same (fun k hk => hs k ?_), h.apart, h.nprops, h.nopn, h.opn, h.few⟩
  simp only [Br.bl, List.mem_cons, List.mem_append, List.mem_flatMap]
  exact .inr (.inr (.inr ⟨p, hp, hk⟩))
theorem BAt.below (h : BAt w b M K) (hb : Below w.heap.size w w') : BAt w' b M K := h.same fun k hk => hb.block k (h.lt k hk)
theorem BAt.keep {S : Nat → Prop} (h : BAt w b M K) (hk : Keep S w w') (hS : ∀ k ∈ M.bl b, ¬ S k) : BAt w' b M K := h.same fun k hm => hk.block k (h.lt k hm) (hS k hm)
theorem BAfter.refl (w : World) (b : Nat) (M : Br) : BAfter w b M M w := ⟨fun _ hk => .inl hk, Keep.refl _ w⟩
theorem BAfter.same (hb : Below w.heap.size w w') : BAfter w b M M w' := ⟨fun _ hk => .inl hk, Keep.below hb⟩
theorem BAfter.first {w1 : World} {M' : Br} (hb : Below w.heap.size w w1) (h : BAfter w1 b M M' w') : BAfter w b M M' w' :=
  ⟨fun k hk => (h.1 k hk).imp id (fun e => Nat.le_trans hb.size e), (Keep.below hb).trans h.2 (fun _ hj _ => hj)⟩
theorem BAfter.then {w1 : World} {M' : Br} (h : BAfter w b M M' w1) (hb : Below w1.heap.size w1 w') : BAfter w b M M' w' :=
  ⟨h.1, h.2.trans (Keep.below (S := fun k => k ∈ M.bl b) hb) (fun _ hj _ => hj)⟩
theorem BAfter.trans {w1 w2 : World} {M1 M2 : Br} (h : BAfter w b M M1 w1) (k : BAfter w1 b M1 M2 w2) : BAfter w b M M2 w2 := by
  refine ⟨fun j hj => ?_, h.2.trans k.2 (fun j hj hl => ?_)⟩
  · rcases k.1 j hj with h1 | h1
    · exact h.1 j h1
    · exact .inr (Nat.le_trans h.2.size h1)
  · rcases h.1 j hj with h1 | h1
    · exact h1
    · omega
/-- what lies elsewhere stays -/
theorem BAfter.below {B : Nat} {M' : Br} (h : BAfter w b M M' w') (hB : B ≤ w.heap.size) (hm : ∀ k ∈ M.bl b, B ≤ k) : Below B w w' ∧ ∀ k ∈ M'.bl b, B ≤ k :=
  ⟨h.2.toBelow hB hm, fun k hk => (h.1 k hk).elim (hm k) (fun e => Nat.le_trans hB e)⟩
end
theorem Pr.length {p : Pr} (h : p.patch.length = 32) : p.cells.length = 36 := by simp [Pr.cells, U_length, h]
theorem propC_length : ∀ {l : List Pr}, (∀ p ∈ l, p.patch.length = 32) → (propC l).length = l.length * 36
  | [], _ => rfl
  | p :: l, h => by
    have h1 := propC_length (l := l) (fun q hq => h q (by simp [hq]))
    have h2 := Pr.length (h p (by simp))
    simp only [propC, List.flatMap_cons, List.length_append, List.length_cons] at *
    omega
theorem propC_at : ∀ {l : List Pr}, (∀ p ∈ l, p.patch.length = 32) → ∀ (i : Nat) (p : Pr), l[i]? = some p → ∀ j, j < 36 → (propC l)[i * 36 + j]? = p.cells[j]?
  | [], _, i, p, hp, j, _ => by simp at hp
  | x :: l, h, 0, p, hp, j, hj => by
    simp at hp; subst hp
    simp only [propC, List.flatMap_cons, Nat.zero_mul, Nat.zero_add]
    rw [List.getElem?_append_left (by rw [Pr.length (h x (by simp))]; exact hj)]
  | x :: l, h, i + 1, p, hp, j, hj => by
    have ih := propC_at (l := l) (fun q hq => h q (by simp [hq])) i p (by simpa using hp) j hj
    simp only [propC, List.flatMap_cons] at *
    have hx := Pr.length (h x (by simp))
    rw [List.getElem?_append_right (by rw [hx]; omega), hx, show (i + 1) * 36 + j - 36 = i * 36 + j by omega]
    exact ih
theorem Pr.tail {p : Pr} (h : p.patch.length = 32) (k : Nat) : p.cells[34 + k]? = [Value.map (some p.vb), p.tv][k]? := by
  simp only [Pr.cells]
  rw [show 34 + k = (32 + k) + 1 + 1 by omega, List.getElem?_cons_succ, List.getElem?_cons_succ, List.getElem?_append_right (by rw [U_length, h]; omega), U_length, h]
  congr 1; omega
/-- where a proposal lies -/
def PAt (w : World) (g o : Nat) (p : Pr) : Prop := g < w.heap.size ∧ w.rangeAt g o p.cells
theorem BAt.prop {w : World} {b K : Nat} {M : Br} (h : BAt w b M K) {i : Nat} {p : Pr} (hp : M.props[i]? = some p) :
    ∃ g c, M.pv = .slice (some ⟨g, 0, none⟩) M.props.length c ∧ M.pv.ownBlock = some g ∧ M.props.length ≤ c ∧ PAt w g (i * 36) p := by
  have hi : i < M.props.length := (List.getElem?_eq_some_iff.1 hp).1
  obtain ⟨a, cap, hv, hn, _, hlen, hr⟩ := h.prow.read
  obtain ⟨g, rfl, hg, hlt, hra⟩ := hr (by omega)
  refine ⟨g, cap, hv, hg, hn, hlt, fun j v hj => ?_⟩
  have hpl : ∀ q ∈ M.props, q.patch.length = 32 := fun q hq => (h.each q hq).patch
  have hj36 : j < 36 := by
    have := (List.getElem?_eq_some_iff.1 hj).1
    rwa [Pr.length (hpl p (List.mem_of_getElem? hp))] at this
  have := hra (i * 36 + j) v (by rw [propC_at hpl i p hp j hj36]; exact hj)
  rwa [Nat.zero_add] at this
theorem PAt.cell {w : World} {g o : Nat} {p : Pr} (h : PAt w g o p) (hl : p.patch.length = 32) :
    w.cell? ⟨g, o, none⟩ = some (.string p.author) ∧ w.cell? ⟨g, o + 1, none⟩ = some (.string p.channel) ∧ w.rangeAt g (o + 2) (U p.patch) ∧ w.cell? ⟨g, o + 34, none⟩ = some (.map (some p.vb)) ∧ w.cell? ⟨g, o + 35, none⟩ = some p.tv := by
  refine ⟨h.2 0 _ rfl, h.2 1 _ rfl, fun j v hj => ?_, h.2 34 _ (Pr.tail hl 0), h.2 35 _ (Pr.tail hl 1)⟩
  rw [Nat.add_assoc, Nat.add_comm 2 j]
  refine h.2 (j + 2) v ?_
  simp only [Pr.cells]
  rw [List.getElem?_cons_succ, List.getElem?_cons_succ, List.getElem?_append_left (List.getElem?_eq_some_iff.1 hj).1]
  exact hj
set_option maxRecDepth 100000 in
theorem made_is {w : World} {b : Nat} {pv ov : Value} (h : Blk w b 70 [.bool true, pv, ov]) : Calls Try.prog 36 #[.pointer (some ⟨b, 0, none⟩)] w fun e w' => e = .returned (.bool true) ∧ w = w' := by
  have c1 : w.cell? ⟨b, 0, none⟩ = some (.bool true) := h.cell rfl
  clear h
  go_enter Try.func36, Try.ntmps36
  go_wp2
  go_ret
  exact ⟨rfl, rfl⟩
set_option maxRecDepth 100000 in
theorem made_nil (w : World) : Calls Try.prog 36 #[.pointer none] w fun e w' => e = .returned (.bool false) ∧ w = w' := by
  go_enter Try.func36, Try.ntmps36
  go_wp2
  go_ret
  exact ⟨rfl, rfl⟩
set_option maxRecDepth 100000 in
theorem made_zero {w : World} {b : Nat} {pv ov : Value} (h : Blk w b 70 [.bool false, pv, ov]) : Calls Try.prog 36 #[.pointer (some ⟨b, 0, none⟩)] w fun e w' => e = .returned (.bool false) ∧ w = w' := by
  have c1 : w.cell? ⟨b, 0, none⟩ = some (.bool false) := h.cell rfl
  clear h
  go_enter Try.func36, Try.ntmps36
  go_wp2
  go_ret
  exact ⟨rfl, rfl⟩
/-- is a number among these? -/
def hasN (l : List Nat) (x : Int) : Bool := l.any fun k => x == (k : Int)
/-- numbers that are read -/
def Nums (w : World) (a : Option Addr) (n : Nat) (l : List Nat) : Prop :=
  l.length = n ∧ (0 < n → ∃ b off, a = some ⟨b, off, none⟩ ∧ b < w.heap.size ∧ ∀ (i x : Nat), l[i]? = some x → w.cell? ⟨b, off + i, none⟩ = some (iv (x : Int)))
theorem Ow.nums {w : World} {v : Value} {n : Nat} {l : List Nat} (h : Ow w 3 1 v n (opnC l)) : ∃ a c, v = .slice a n c ∧ n ≤ c ∧ Nums w a n l := by
  obtain ⟨a, cap, hv, hn, _, hlen, hr⟩ := h.read
  refine ⟨a, cap, hv, hn, by simpa [opnC] using hlen, fun hp => ?_⟩
  obtain ⟨g, rfl, _, hlt, hra⟩ := hr hp
  refine ⟨g, 0, rfl, hlt, fun i x hx => hra i _ ?_⟩
  simp [opnC, hx]
theorem Nums.below {w w' : World} {a : Option Addr} {n : Nat} {l : List Nat} (h : Nums w a n l) (hb : Below w.heap.size w w') : Nums w' a n l := by
  refine ⟨h.1, fun hp => ?_⟩
  obtain ⟨b, off, e1, e2, e3⟩ := h.2 hp
  exact ⟨b, off, e1, Nat.lt_of_lt_of_le e2 hb.size, fun i c hc => (hb.cell (p := ⟨b, off + i, none⟩) e2).trans (e3 i c hc)⟩
set_option maxRecDepth 100000 in
theorem index_is (x : Int) (l : List Nat) (a : Option Addr) (n cp : Nat) (w : World) (hl : Nums w a n l) (hn : n ≤ 140737488355328) :
    Calls Try.prog 57 #[.slice a n cp, iv x] w fun e w' => ∃ k : Int, e = .returned (iv k) ∧ (decide (0 ≤ k)) = hasN l x ∧ w = w' := by
  have HL : Hid (Nums w a n l) := hl
  have qn : (n : Int) ≤ 140737488355328 := by omega
  clear hl hn
  go_enter Try.func57, Try.ntmps57
  go_wp2
  go_loopw [8] (fun u wr => ∃ i : Nat, u = iv i ∧ Hid (i ≤ n ∧ hasN (l.take i) x = false ∧ w = wr)) (fun u _ => n - (intOf u).toNat)
  case atStart => exact ⟨0, rfl, Nat.zero_le _, rfl, rfl⟩
  case round =>
    obtain ⟨i, rfl, HI⟩ := hrel
    obtain ⟨h1, h2, rfl⟩ := HI.out
    by_cases hi : i = n
    · have q1 : (n : Int) ≤ (i : Int) := by omega
      have HF : Hid (hasN l x = false) := by
        show _ = _
        rw [hi, ← HL.out.1, List.take_length] at h2
        exact h2
      clear h1 h2 hi HI
      go_wp2
      go_ret
      exact ⟨-1, rfl, by rw [HF.out]; rfl, rfl⟩
    · have q1 : (i : Int) < (n : Int) := by omega
      have HI2 : Hid (i < n) := by show _ < _; omega
      obtain ⟨b, off, ha, _, hc⟩ := HL.out.2 (by omega)
      subst ha
      obtain ⟨y, hy⟩ : ∃ y, l[i]? = some y := ⟨_, List.getElem?_eq_getElem (by rw [HL.out.1]; omega)⟩
      have c0 := hc i y hy
      have HX : Hid (l[i]? = some y) := hy
      clear h1 hi hy hc
      cases he : (x == (y : Int))
      · have HN : Hid (hasN (l.take (i + 1)) x = false) := by
          show _ = _
          rw [List.take_add_one, HX.out]
          unfold hasN at *
          rw [List.any_append, h2]
          simpa using he
        clear h2 HI
        go_wp2
        refine ⟨⟨i + 1, by simp, HI2.out, HN.out, by first | rfl | trivial⟩, ?_⟩
        have := HI2.out
        simp only [intOf]
        omega
      · have HY : Hid (hasN l x = true) := by
          show _ = _
          unfold hasN
          rw [List.any_eq_true]
          exact ⟨y, List.mem_of_getElem? HX.out, he⟩
        clear h2 HI
        go_wp2
        go_ret
        exact ⟨(i : Int), rfl, by rw [HY.out]; simp, rfl⟩
theorem contains_is (x : Int) (l : List Nat) (a : Option Addr) (n cp : Nat) (w : World) (hl : Nums w a n l) (hn : n ≤ 140737488355328) :
    Calls Try.prog 54 #[.slice a n cp, iv x] w fun e w' => e = .returned (.bool (hasN l x)) ∧ w = w' := by
  have HI := index_is x l a n cp w hl hn
  clear hl hn
  go_enter Try.func54, Try.ntmps54
  go_wp2_with fail
  refine HI.mono ?_
  rintro e w1 ⟨k, rfl, hk, rfl⟩
  have HK : Hid (decide (0 ≤ k) = hasN l x) := hk
  clear HI hk
  go_wp2
  go_ret
  exact ⟨by rw [← HK.out]; rfl, rfl⟩
set_option maxRecDepth 100000 in
theorem isOpen_is {w : World} {b K : Nat} {M : Br} (h : BAt w b M K) (x : Int) : Calls Try.prog 40 #[.pointer (some ⟨b, 0, none⟩), iv x] w fun e w' => e = .returned (.bool (hasN M.opn x)) ∧ w = w' := by
  obtain ⟨a, c, hv, hn, hN⟩ := h.orow.nums
  have c2 : w.cell? ⟨b, 2, none⟩ = some (.slice a M.opn.length c) := by rw [← hv]; exact h.blk.cell rfl
  have HC := contains_is x M.opn a M.opn.length c w hN (by have := h.nopn; omega)
  clear h hv hn hN
  generalize hasN M.opn x = r at HC ⊢
  generalize M.opn.length = m at *
  go_enter Try.func40, Try.ntmps40
  go_wp2_with fail
  refine HC.mono ?_
  rintro e w1 ⟨rfl, rfl⟩
  clear HC
  go_wp2
  go_ret
  exact ⟨rfl, rfl⟩
#print axioms isOpen_is
end Go.Proofs.Ytaecigpjcbjcbaa.Oct
