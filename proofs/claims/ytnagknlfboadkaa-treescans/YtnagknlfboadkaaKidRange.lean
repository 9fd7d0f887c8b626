/-
  Layer 7 (tree): the range over a kid's iterator within the closure of 'from'.
-/
import Derived.Test.YtnagknlfboadkaaFromPure
namespace Go.Proofs.Ytnagknlfboadkaa.Oct
open Go.RowKit Go.Shelf
attribute [local go_sem] Oper.semAt_some

def FromC (d : Nat) : Prop := ∀ (dp l1 Bn Bk nd : Nat) (t : T d) (key : ByteArray) (A0 : World), Lies A0 d t nd → Good d t → ∀ (m₀ : Nat) (J : Nat → World → Prop) (Jx : World → Prop),
    (∀ s A B, J s A → BelowR m₀ A B → J s B) → (∀ A B, Jx A → BelowR m₀ A B → Jx B) →
    (∀ A, Jx A → A.cell? ⟨Bn, 0, none⟩ = some (.pointer (some ⟨nd, 0, none⟩)) ∧ Kept A0 A) →
    (∀ s A, J s A → A.cell? ⟨Bn, 0, none⟩ = some (.pointer (some ⟨nd, 0, none⟩)) ∧ A.cell? ⟨Bk, 0, none⟩ = some (.string key) ∧ Kept A0 A ∧ m₀ ≤ A.heap.size) →
    (∀ s x A, J s A → (ge key (tl d t))[s]? = some x → YieldAt Fence.wide 0 Try.prog l1 (encQ x) A fun e B => Held m₀ A B ∧ ((e = .returned (.bool true) ∧ J (s + 1) B) ∨ (e = .returned (.bool false) ∧ Jx B))) →
    ∀ (W : World), W.heap.size = m₀ → J 0 W →
    CallsIn Fence.wide dp Try.prog 37 #[.func (.yield l1) #[] #[], .pointer (some ⟨Bn, 0, none⟩), .pointer (some ⟨Bk, 0, none⟩)] W fun e B => (∃ v, e = .returned v) ∧ (J (ge key (tl d t)).length B ∨ Jx B)

def Marked (ms : List Nat) (A : World) : Prop := ∀ m ∈ ms, A.heap[m]? = some (.deferred (some []))
theorem Marked.held {ms : List Nat} {A B : World} {m₀ : Nat} (h : Marked ms A) (hH : Held m₀ A B) (hm : ∀ m ∈ ms, m₀ ≤ m) : Marked ms B := fun m hmm => hH.obj (h m hmm) def_row (hm m hmm)
theorem Marked.below {ms : List Nat} {A B : World} {D : Nat} (h : Marked ms A) (hb : Below D A B) (hm : ∀ m ∈ ms, m < D) : Marked ms B := fun m hmm => (hb.block _ (hm m hmm)).trans (h m hmm)
/-- between two rounds of the range over a kid's iterator -/
structure KInv (J : Nat → World → Prop) (o m₀ l1 b0 kb : Nat) (key : ByteArray) (ms : List Nat) (s : Nat) (A : World) : Prop where
  j : J (o + s) A
  y : A.heap[m₀]? = some (.cells #[.func (.yield l1) #[] #[]] 42)
  n : A.heap[b0]? = some (.cells #[.pointer (some ⟨kb, 0, none⟩)] 46)
  k : A.heap[b0 + 1]? = some (.cells #[.string key] 9)
  mr : Marked ms A
structure KOut (Jx : World → Prop) (b0 kb : Nat) (ms : List Nat) (c : Code) (A : World) : Prop where
  ret : c = .ret
  j : Jx A
  n : A.heap[b0]? = some (.cells #[.pointer (some ⟨kb, 0, none⟩)] 46)
  mr : Marked ms A

set_option maxRecDepth 100000 in
set_option maxHeartbeats 2000000 in
theorem kid_range {Q : Exit → Act → World → Prop} {y0 y1 y2 y4 y5 y6 y7 y8 y9 y10 y11 y12 y13 y14 y15 y16 y17 y18 y19 y20 y21 y22 y23 y24 y25 y26 y27 y28 y29 y30 y31 y32 y33 y34 y35 y36 y37 y39 y40 y41 y42 y43 y44 y45 y46 y47 y48 y49 y50 y51 y52 y53 y54 y55 y56 y57 y58 y59 y60 y61 y62 y63 y64 y65 y66 y67 y68 y69 y70 y71 y72 y73 : Value} {ds : List Deferred} {w1 : World} {dp l1 m₀ b0 kb d o : Nat} (t : T d) (key : ByteArray) (A0 : World) (hl0 : Lies A0 d t kb) (hg : Good d t) (IH : FromC d) (J : Nat → World → Prop) (Jx : World → Prop) (ms : List Nat)
    (hJb : ∀ s A B, J s A → BelowR m₀ A B → J s B) (hJxb : ∀ A B, Jx A → BelowR m₀ A B → Jx B) (hL : ∀ s A, J s A → Kept A0 A) (hLx : ∀ A, Jx A → Kept A0 A)
    (hY : ∀ s x A, J (o + s) A → (ge key (tl d t))[s]? = some x → YieldAt Fence.wide 0 Try.prog l1 (encQ x) A fun e B => Held m₀ A B ∧ ((e = .returned (.bool true) ∧ J (o + s + 1) B) ∨ (e = .returned (.bool false) ∧ Jx B)))
    (hb0 : m₀ < b0) (hsz : w1.heap.size = b0 + 2) (hm : ∀ m ∈ ms, m₀ ≤ m ∧ m < b0) (h0 : KInv J o m₀ l1 b0 kb key ms 0 w1)
    (hdone : ∀ A, J (o + (ge key (tl d t)).length) A → A.heap[m₀]? = some (.cells #[.func (.yield l1) #[] #[]] 42) → Marked (w1.heap.size :: ms) A → Q .normal { tmps := #[y0, y1, y2, .pointer (some ⟨m₀, 0, none⟩), y4, y5, y6, y7, y8, y9, y10, y11, y12, y13, y14, y15, y16, y17, y18, y19, y20, y21, y22, y23, y24, y25, y26, y27, y28, y29, y30, y31, y32, y33, y34, y35, y36, y37, .func (.func 37) #[] #[.pointer (some ⟨b0, 0, none⟩), .pointer (some ⟨b0 + 1, 0, none⟩)], y39, y40, y41, y42, y43, y44, y45, y46, y47, y48, y49, y50, y51, y52, y53, y54, y55, y56, y57, y58, y59, y60, y61, y62, y63, y64, y65, y66, y67, y68, y69, y70, y71, y72, y73], defers := mark w1.heap.size :: ds } A)
    (hstop : ∀ A, Jx A → Marked (w1.heap.size :: ms) A → Q .ret { tmps := #[y0, y1, y2, .pointer (some ⟨m₀, 0, none⟩), y4, y5, y6, y7, y8, y9, y10, y11, y12, y13, y14, y15, y16, y17, y18, y19, y20, y21, y22, y23, y24, y25, y26, y27, y28, y29, y30, y31, y32, y33, y34, y35, y36, y37, .func (.func 37) #[] #[.pointer (some ⟨b0, 0, none⟩), .pointer (some ⟨b0 + 1, 0, none⟩)], y39, y40, y41, y42, y43, y44, y45, y46, y47, y48, y49, y50, y51, y52, y53, y54, y55, y56, y57, y58, y59, y60, y61, y62, y63, y64, y65, y66, y67, y68, y69, y70, y71, y72, y73], defers := mark w1.heap.size :: ds } A) :
    (Code.rangeFunc (Operand.tmp 38) #[39, 40] (Code.seq (Code.region 8 #[{ dst := some 7, op := Op.assign (Operand.tmp 39), type := 9, pos := "node.go:72", after := #[], guard := none }] false) (Code.region 9 #[{ dst := some 8, op := Op.assign (Operand.tmp 40), type := 9, pos := "node.go:72", after := #[], guard := none }] false)) (Code.block 3 (Code.seq (Code.region 10 #[{ dst := some 41, op := Op.load 42 (Operand.tmp 3), type := 42, pos := "node.go:73", after := #[], guard := none }, { dst := some 42, op := Op.move (Operand.tmp 7), type := 9, pos := "node.go:73", after := #[], guard := none }, { dst := some 43, op := Op.move (Operand.tmp 8), type := 9, pos := "node.go:73", after := #[], guard := none }, { dst := some 44, op := Op.call { callee := Callee.value (Operand.tmp 41), args := #[Operand.tmp 42, Operand.tmp 43], argTypes := #[9, 9] }, type := 4, pos := "node.go:73", after := #[{ on := 0, ground := Ground.data }, { on := 1, ground := Ground.data }, { on := 2, ground := Ground.data }], guard := none }, { dst := some 45, op := Op.unOp UnOp.not 4 (Operand.tmp 44), type := 4, pos := "node.go:73", after := #[{ on := 3, ground := Ground.data }], guard := none }] false) (Code.cond (Operand.tmp 45) Code.ret Code.skip)))).wpIn Fence.wide dp Try.prog Q { tmps := #[y0, y1, y2, .pointer (some ⟨m₀, 0, none⟩), y4, y5, y6, y7, y8, y9, y10, y11, y12, y13, y14, y15, y16, y17, y18, y19, y20, y21, y22, y23, y24, y25, y26, y27, y28, y29, y30, y31, y32, y33, y34, y35, y36, y37, .func (.func 37) #[] #[.pointer (some ⟨b0, 0, none⟩), .pointer (some ⟨b0 + 1, 0, none⟩)], y39, y40, y41, y42, y43, y44, y45, y46, y47, y48, y49, y50, y51, y52, y53, y54, y55, y56, y57, y58, y59, y60, y61, y62, y63, y64, y65, y66, y67, y68, y69, y70, y71, y72, y73], defers := ds } w1 := by
  refine rangeLeave (gf := 37) (lb := #[.pointer (some ⟨b0, 0, none⟩), .pointer (some ⟨b0 + 1, 0, none⟩)]) rfl (enters_of Try.func37 (by kernel_rfl) rfl) (fun _ x => encQ x) (fun _ _ => rfl) (ge key (tl d t))
    (KInv J o m₀ l1 b0 kb key ms) (KOut Jx b0 kb ms) ?hI ?hIx h0
    (fun _ x => { tmps := #[y0, y1, y2, .pointer (some ⟨m₀, 0, none⟩), y4, y5, y6, .string x.1, .string x.2, y9, y10, y11, y12, y13, y14, y15, y16, y17, y18, y19, y20, y21, y22, y23, y24, y25, y26, y27, y28, y29, y30, y31, y32, y33, y34, y35, y36, y37, .func (.func 37) #[] #[.pointer (some ⟨b0, 0, none⟩), .pointer (some ⟨b0 + 1, 0, none⟩)], .string x.1, .string x.2, y41, y42, y43, y44, y45, y46, y47, y48, y49, y50, y51, y52, y53, y54, y55, y56, y57, y58, y59, y60, y61, y62, y63, y64, y65, y66, y67, y68, y69, y70, y71, y72, y73], defers := [] }) ?assign ?body ?iter ?done ?stop
  case hI =>
    rintro s A B h hb
    rw [hsz] at hb
    exact ⟨hJb _ A B h.j (hb.mono (by omega)), (hb.below.block _ (by omega)).trans h.y, (hb.below.block _ (by omega)).trans h.n, (hb.below.block _ (by omega)).trans h.k, h.mr.below hb.below fun m hmm => by have := hm m hmm; omega⟩
  case hIx =>
    rintro c A B h hb
    rw [hsz] at hb
    exact ⟨h.ret, hJxb A B h.j (hb.mono (by omega)), (hb.below.block _ (by omega)).trans h.n, h.mr.below hb.below fun m hmm => by have := hm m hmm; omega⟩
  case assign =>
    intro s x A K hK
    dsimp only [encQ]
    gi_wp2
    exact hK
  case body =>
    rintro s x A h hx hlt
    have HI : Hid (KInv J o m₀ l1 b0 kb key ms s A) := h
    have cy := cell_one h.y
    obtain ⟨fn, tmps, asg, bdy, hy, hR⟩ : YieldAt Fence.wide (dp - 1 - 1 - 1) Try.prog l1 #[.string x.1, .string x.2] A fun e B => Held m₀ A B ∧ ((e = .returned (.bool true) ∧ J (o + s + 1) B) ∨ (e = .returned (.bool false) ∧ Jx B)) := YieldAt.deep _ (hY s x A h.j hx)
    have HX : Hid (∀ B, Held m₀ A B → B.heap[m₀]? = some (.cells #[.func (.yield l1) #[] #[]] 42) ∧ B.heap[b0]? = some (.cells #[.pointer (some ⟨kb, 0, none⟩)] 46) ∧ B.heap[b0 + 1]? = some (.cells #[.string key] 9) ∧ Marked ms B ∧ Held w1.heap.size A B) := fun B hB =>
      ⟨hB.box HI.out.y (by decide) (Nat.le_refl _), hB.box HI.out.n (by decide) (by omega), hB.box HI.out.k (by decide) (by omega), HI.out.mr.held hB (fun m hmm => (hm m hmm).1), hB.mono (by omega)⟩
    clear hx hlt h
    gi_wp2
    refine ⟨(fun h => by cases h), hR.mono ?_⟩
    rintro e B ⟨hH, ⟨rfl, hJ3⟩ | ⟨rfl, hJ3⟩⟩
    · have HJ3 : Hid (J (o + s + 1) B ∧ Held m₀ A B) := ⟨hJ3, hH⟩
      clear hy hR hJ3 hH cy
      gi_wp2
      have hx := HX.out B HJ3.out.2
      exact ⟨⟨HJ3.out.1, hx.1, hx.2.1, hx.2.2.1, hx.2.2.2.1⟩, hx.2.2.2.2⟩
    · have HJ3 : Hid (Jx B ∧ Held m₀ A B) := ⟨hJ3, hH⟩
      clear hy hR hJ3 hH cy
      gi_wp2
      have hx := HX.out B HJ3.out.2
      exact ⟨⟨rfl, HJ3.out.1, hx.2.1, hx.2.2.2.1⟩, hx.2.2.2.2⟩
  case iter =>
    intro J' Jx' A hS hB hJ'b hJx'b hJ'I hJ'X hY' h0'
    refine IH _ _ _ _ kb t key A0 hl0 hg (w1.heap.size + 2) J' Jx' hJ'b hJx'b ?_ ?_ (fun s x A hj hx => YieldAt.deep 0 (hY' s x A hj hx)) A hS h0'
    · intro A hA
      obtain ⟨⟨c, hc⟩, _⟩ := hJ'X A hA
      exact ⟨cell_one hc.n, hLx _ hc.j⟩
    · intro s A hA
      obtain ⟨hI, hsz⟩ := hJ'I s A hA
      exact ⟨cell_one hI.n, cell_one hI.k, hL _ _ hI.j, hsz⟩
  case done =>
    rintro A h hK
    exact hdone A h.j h.y fun m hmm => by
      rcases List.mem_cons.1 hmm with rfl | hmm
      · exact hK
      · exact h.mr m hmm
  case stop =>
    rintro c A h hK
    obtain rfl := h.ret
    clear hsz
    gi_wp2
    exact hstop A h.j fun m hmm => by
      rcases List.mem_cons.1 hmm with rfl | hmm
      · exact hK
      · exact h.mr m hmm
#print axioms kid_range
end Go.Proofs.Ytnagknlfboadkaa.Oct
