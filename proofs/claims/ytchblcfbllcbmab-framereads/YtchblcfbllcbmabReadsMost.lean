/-
  Layer 4 (frame): the law on frames read.
-/
import Derived.Test.YtchblcfbllcbmabReadsLaw
import Derived.Test.YtchblcfbllcbmabAllO
namespace Go.Proofs.Ytchblcfbllcbmab.Oct
open Go.RowKit Go.Shelf
attribute [local go_sem] Oper.semAt_some

theorem upon_wide {P : Program} {n : Nat} {o : Oper} {a : Act} {Q : Exit → Act → World → Prop} {K : Act → World → Prop} (r : Result Next) (h : o.upon P a K Q r) : o.uponIn Fence.wide n P a K Q r := by
  cases r with
  | ok x w' =>
    cases x with
    | value v => exact h
    | skip => exact h
    | defer d => exact h
    | enter f args =>
      refine ⟨fun e => (by cases e), callsIn_wide.2 (Calls.mono h ?_)⟩
      intro e w2 he
      cases e with
      | returned v => exact he
      | panicked c => exact he
      | outgrown => exact he
    | row nm args =>
      refine ⟨fun e => (by cases e), fun c cs _ => ?_⟩
      obtain ⟨v, w2, r1, r2⟩ := h c cs
      exact ⟨v, w2, r1, (stepsIn_wide (P := P)).2 r2⟩
    | _ => exact h.elim
  | halt x w' =>
    cases x with
    | panic v => exact h
    | _ => exact h.elim
theorem wpListIn_append_in {P : Program} {d : Nat} (w : World) {ops : Array Oper} {rest : List Oper} {o : Oper} {a : Act} {Q : Exit → Act → World → Prop} (hgd : o.guard = none) (s x : Operand) (t : TypeId)
    (ho : o.op = .call { callee := .builtin .append, args := #[s, x], argTypes := #[t, t] })
    (base : Nat) (e : TypeId) (i : TypeInfo) (ht : P.underlying t = some (.slice e)) (hi : P.info? e = some i) (hz : i.zero = some (.int .u8 0)) (hsize : i.size = 1) (hby : i.bytes = 1)
    (v : Value) (r : List UInt8) (n : Nat) (hn : r.length = n) (hs : a.eval s = v) (hown : w.ownsRow base e 1 v n (U r)) (ao : Option Addr) (m c : Nat) (l : List UInt8) (hx : a.eval x = .slice ao m c) (hin : In w ao m c l)
    (hbytes : n + m ≤ 140737488355328) (hbase : base ≤ w.heap.size)
    (h : ∀ v' w', Own e base w' v' (r ++ l) → w.grownBy w' v.ownBlock → wpListIn Fence.wide d P ops Q rest (a.put o.dst v') w') : wpListIn Fence.wide d P ops Q (o :: rest) a w := by
  refine wpListIn_plain hgd fun K hK => ?_
  have h1 : Oper.wp P o a w K Q := wp_append_in w s x t ho base e i ht hi hz hsize hby v r n hn hs hown ao m c l hx hin hbytes hbase fun v' w' h1 h2 => hK _ _ (h v' w' h1 h2)
  unfold Oper.wpIn
  refine ⟨fun _ _ => trivial, ?_⟩
  rw [Oper.semAt_plain Fence.wide _ _ (by rw [ho]; intro c hc'; cases hc')]
  exact upon_wide _ h1

theorem each_some3 (g : Nat) (W : World) : (binOp .eql 32 (.func (.func 17) #[] #[.pointer (some ⟨g, 0, none⟩)]) .nilFunc).run Try.prog W = .ok (.bool false) W := by
  have h0 : ∀ d : Nat, (Op.equalIn (d + 1) 32 (.func (.func 17) #[] #[.pointer (some ⟨g, 0, none⟩)]) .nilFunc).run Try.prog W = .ok false W := fun d => by simp [Op.equalIn, run_underlying Try.underlying32]
  have h : (Op.equal 32 (.func (.func 17) #[] #[.pointer (some ⟨g, 0, none⟩)]) .nilFunc).run Try.prog W = .ok false W := h0 9999
  simp [binOp, h]
def ansM (l : List UInt8) : Nat := if errOf l = 0 then num4 l else 0
def ansR (l : List UInt8) : Nat := if errOf l = 0 then num4 l + 12 else 0
def ansB (l : List UInt8) : List UInt8 := if errOf l = 0 then bodyOf l else []
theorem unframe_any (l : List UInt8) (a : Option Addr) (n cp M R E : Nat) (w : World) (hl : In w a n cp l) (hM : ansM l = M) (hR : ansR l = R) (hE : errOf l = E) :
    Calls Try.prog 7 #[.slice a n cp] w fun e w' => ∃ a' c, e = .returned (.tuple #[.slice a' M c, .int .i64 (R : Int), .int .i64 (E : Int)]) ∧ Hid (In w' a' M c (ansB l)) ∧ Hid (Below w.heap.size w w') := by
  by_cases h : errOf l = 0
  · have hg := good_of h
    have hn := hl.1
    obtain ⟨b, off, rfl, -, -⟩ := hl.2.2.2.2 (by omega)
    refine (unframe_ok l b off n cp (num4 l) w hl h rfl).mono ?_
    rintro e w' ⟨a', c, rfl, hi, hb⟩
    subst hM hR hE
    refine ⟨a', c, ?_, ?_, hb⟩
    · simp [ansM, ansR, h]
    · simp only [ansM, ansB, h, if_true]; exact hi
  · refine (unframe_none l a n cp w hl h).mono ?_
    rintro e w' ⟨rfl, k, rfl⟩
    subst hM hR hE
    refine ⟨none, 0, ?_, ?_, ⟨rfl, rfl, rfl, Nat.le_refl _, fun _ _ => rfl⟩⟩
    · simp [ansM, ansR, h]
    · simp only [ansM, ansB, h, if_false]; exact In.nil _
theorem refUnframe_any (l : List UInt8) (a : Option Addr) (n cp M R E : Nat) (w : World) (hl : In w a n cp l) (hM : ansM l = M) (hR : ansR l = R) (hE : errOf l = E) :
    Calls Try.prog 8 #[.slice a n cp] w fun e w' => ∃ a' c, e = .returned (.tuple #[.slice a' M c, .int .i64 (R : Int), .int .i64 (E : Int)]) ∧ Hid (In w' a' M c (ansB l)) ∧ Hid (Below w.heap.size w w') := by
  by_cases h : errOf l = 0
  · have hg := good_of h
    have hn := hl.1
    obtain ⟨b, off, rfl, -, -⟩ := hl.2.2.2.2 (by omega)
    refine (refUnframe_ok l b off n cp (num4 l) w hl h rfl).mono ?_
    rintro e w' ⟨a', c, rfl, ho, hb⟩
    subst hM hR hE
    refine ⟨a', c, ?_, ?_, hb⟩
    · simp [ansM, ansR, h]
    · simp only [ansM, ansB, h, if_true]
      obtain ⟨a2, c2, e2, hin, -⟩ := own_in ho.out (by rw [bodyOf_length h]; omega)
      rw [bodyOf_length h] at e2 hin
      cases e2
      exact hin
  · refine (refUnframe_none l a n cp w hl h).mono ?_
    rintro e w' ⟨rfl, k, rfl⟩
    subst hM hR hE
    refine ⟨none, 0, ?_, ?_, ⟨rfl, rfl, rfl, Nat.le_refl _, fun _ _ => rfl⟩⟩
    · simp [ansM, ansR, h]
    · simp only [ansM, ansB, h, if_false]; exact In.nil _

theorem lies_putX {L : List UInt8} {n m₀ s l : Nat} (hl : l < m₀) {x : Handed} {A : World} {o : Obj} (h : LiesO L n m₀ s x A) : LiesO L n m₀ s x (A.putObj l o) := by
  obtain ⟨h1, k1, k2⟩ := h
  refine ⟨h1, k1, ?_⟩
  rcases k2 with k2 | ⟨g, c, cur, e1, e2, e3, r⟩
  · exact .inl k2
  · exact .inr ⟨g, c, cur, e1, e2, (World.putObj_heap_other (by omega)).trans e3, r⟩
def isDefer3 : Op → Bool
  | .defer _ => true
  | _ => false
theorem nodefer_of3 {ops : Array Oper} (h : ops.all (fun o => !isDefer3 o.op) = true) : ∀ (i : Nat) (o : Oper), ops[i]? = some o → ∀ c, o.op ≠ Op.defer c := by
  intro i o ho c hc
  have hm := Array.mem_of_getElem? ho
  have := (Array.all_eq_true_iff_forall_mem.1 h) o hm
  rw [hc] at this
  cases this
theorem xor_85 (x : UInt8) : bits BinOp.xor IntKind.u8 (x.toNat : Int) 85 = ((x ^^^ 85).toNat : Int) := by
  rw [show (85 : Int) = ((85 : Nat) : Int) from rfl, u8_xor_nat _ _ x.toNat_lt (by omega), UInt8.toNat_xor]
  rfl
/-- the bytes that were handed out have been turned, and nothing else -/
def RelX (B : Nat) (x : Handed) (A2 wr : World) : Prop := Below B A2 wr ∧ HeldX 0 x A2 wr ∧ ∃ k, k.length = x.m ∧ Own 5 B wr (.slice x.a x.m x.c) k
theorem held_putX {m₀ l : Nat} {x : Handed} (hl : l < m₀) {A B : World} {o o' : Obj} (h : HeldX m₀ x (A.putObj l o) B) : HeldX m₀ x A (B.putObj l o') := by
  obtain ⟨h1, h2⟩ := h
  simp only [World.putObj_size] at h1 h2
  refine ⟨by simpa using h1, fun b hb hm hx => ?_⟩
  exact (World.putObj_heap_other (by omega)).trans ((h2 b hb hm hx).trans (World.putObj_heap_other (by omega)))
/-- what stands between two rounds of the law's loop -/
def ReadInv (l : List UInt8) (T : Nat) (w5 : World) (s : Nat) (A : World) : Prop := ∃ i, i ≤ T ∧ s = ps l i ∧ A.heap[w5.heap.size]? = some (.cells #[.int .i64 (i : Int)] 3) ∧ A.heap[w5.heap.size + 1]? = some (.cells #[.int .i64 (s : Int)] 3) ∧ Below w5.heap.size w5 A ∧ w5.heap.size + 2 ≤ A.heap.size

theorem leaves_last3 {w A w9 : World} {d : Nat} {tm : Array Value} (HBA : Below w.heap.size w A) (h3 : Below A.heap.size A w9) (hd : w.heap.size < d) (hdA : A.heap[d]? = some (.deferred (some []))) (hR : A.heap[w.heap.size]? = some (.cells #[.bool false] 4)) (h2 : tm[2]? = some (.pointer (some ⟨w.heap.size, 0, none⟩))) :
    LeavesInM Fence.wide 9 Try.prog Try.f3 tm (fun e w' => e = .returned (.bool true) ∧ Below w.heap.size w w') [{ target := .collected d, args := #[] }] .returning (w9.setCell ⟨w.heap.size, 0, none⟩ (.bool true)) := by
  have e1 : w9.heap[d]? = some (.deferred (some [])) := (h3.block d (lt_of_block hdA)).trans hdA
  have e2 : w9.heap[w.heap.size]? = some (.cells #[.bool false] 4) := (h3.block _ (lt_of_block hR)).trans hR
  have e3 : (w9.setCell ⟨w.heap.size, 0, none⟩ (.bool true)).heap[d]? = some (.deferred (some [])) := (heap_setCell_other w9 ⟨w.heap.size, 0, none⟩ d _ (by show d ≠ w.heap.size; omega)).trans e1
  have e4 : (w9.setCell ⟨w.heap.size, 0, none⟩ (.bool true)).heap[w.heap.size]? = some (.cells #[.bool true] 4) := heap_setCell_same w9 w.heap.size 0 #[.bool false] 4 (.bool true) e2
  refine ⟨by simp, .inl ⟨_, _, rfl, run_takeDeferred e3, ?_⟩⟩
  have e5 : ((w9.setCell ⟨w.heap.size, 0, none⟩ (.bool true)).putObj d (.deferred none)).heap[w.heap.size]? = some (.cells #[.bool true] 4) := (World.putObj_heap_other (by omega)).trans e4
  refine ⟨_, results_bool3 h2 (cell_one e5), rfl, ?_⟩
  have k1 : Below w.heap.size w w9 := HBA.trans (h3.mono HBA.size)
  exact (k1.setCell (p := ⟨w.heap.size, 0, none⟩) (by show w.heap.size ≤ w.heap.size; omega) _).trans (below_putObj _ _ _ _ (by omega))

set_option maxRecDepth 100000 in
set_option maxHeartbeats 4000000 in
theorem reads_most (l : List UInt8) (a : Option Addr) (n cp : Nat) (w : World) (hl : In w a n cp l) (hn : n ≤ 100000) :
    Calls Try.prog 3 #[.slice a n cp] w fun e w' => e = .returned (.bool true) ∧ Below w.heap.size w w' := by
  have q1 : (n : Int) ≤ (100000 : Int) := by omega
  have HL : Hid (In w a n cp l) := hl
  have HLL : Hid (l.length = n) := hl.1
  have HN : Hid (n ≤ 100000) := hn
  clear hn hl
  obtain ⟨i0, hi, hz0, hz1, hz2⟩ := info_parts info5
  obtain ⟨M, hM⟩ : ∃ M, ansM l = M := ⟨_, rfl⟩
  obtain ⟨R, hR⟩ : ∃ R, ansR l = R := ⟨_, rfl⟩
  obtain ⟨E, hE⟩ : ∃ E, errOf l = E := ⟨_, rfl⟩
  have HM : Hid (ansM l = M) := hM
  have HR : Hid (ansR l = R) := hR
  have HE : Hid (errOf l = E) := hE
  clear hM hR hE
  obtain ⟨w0, hw0⟩ : ∃ w0, w0 = w.alloc (.cells #[.bool false] 4) := ⟨_, rfl⟩
  have HS0 : Hid (w0.heap.size = w.heap.size + 1) := by show _ = _; rw [hw0]; simp
  have HB0 : Hid (Below w.heap.size w w0) := by rw [hw0]; exact (Below.refl _ w).alloc (Nat.le_refl _) _
  have HX0 : Hid (w0.heap[w.heap.size]? = some (.cells #[.bool false] 4)) := by show _ = _; rw [hw0]; exact heap_alloc_new w _
  have H0 : Hid ((w0.alloc (.cells #[] 5)).ownsRow w0.heap.size 5 1 (.slice (some ⟨w0.heap.size, 0, none⟩) 0 0) 0 (U [])) := World.ownsRow_made w0 #[] 0 (Nat.le_refl _) (by unfold maxLen; omega) rfl
  have HB1 : Hid (Below w0.heap.size w0 (w0.alloc (.cells #[] 5))) := (Below.refl _ _).alloc (Nat.le_refl _) _
  refine (callsIn_wide (n := 9)).1 ?_
  refine callsIn_of_wp_marks Try.func3 rfl trivial ?_ rfl
  simp only [Try.ntmps3, List.size_toArray, List.length_cons, List.length_nil, Nat.reduceAdd, Nat.reduceSub, Array.replicate_succ, Array.replicate_zero, List.push_toArray, List.append_toArray, List.nil_append, List.cons_append]
  have hes := each_some3
  gi_wp2_with (first
    | (with_reducible change wpListIn _ _ _ _ _ ({ dst := some 23, op := _, type := _, pos := _, after := _, guard := _ } :: _) _ _
       rw [← hw0]
       refine wpListIn_append_in _ rfl (.tmp 21) (.tmp 22) 22 rfl w0.heap.size 5 i0 Try.underlying22 hi hz0 hz1 hz2 _ [] 0 rfl (by rw [HS0.out]; rfl) H0.out a n cp l rfl (HL.out.below (HB0.out.trans (HB1.out.mono (by rw [HS0.out]; omega)))) (by have := HN.out; omega) HB1.out.size ?_
       intro v1 w1 ho1 hg1
       have HO1 : Hid (Own 5 w0.heap.size w1 v1 l) := ho1
       have HG1 : Hid (Below w0.heap.size w0 w1) := HB1.out.grown hg1 HB1.out.size (by intro b hb; simp [Value.ownBlock] at hb; omega)
       clear ho1 hg1
       obtain ⟨ag, cg, hv1, hin1, -⟩ := own_in HO1.out (by rw [HLL.out]; have := HN.out; omega)
       rw [HLL.out] at hv1 hin1
       subst hv1
       have HI1 : Hid (In w1 ag n cg l) := hin1
       clear hin1)
    | (refine ⟨trivial, ?_⟩; gi_at_call 7; refine (callsIn_wide.2 (unframe_any l ag n cg M R E w1 HI1.out HM.out HR.out HE.out)).mono ?_; rintro e w2 ⟨a2, c2, rfl, HI2, HB2⟩)
    | (refine ⟨trivial, ?_⟩; gi_at_call 8; refine (callsIn_wide.2 (refUnframe_any l a n cp M R E w2 (HL.out.below (HB0.out.trans ((HG1.out.mono (by rw [HS0.out]; omega)).trans (HB2.out.mono (by have h1 := HG1.out.size; have h2 := HS0.out; omega))))) HM.out HR.out HE.out)).mono ?_; rintro e w3 ⟨a3, c3, rfl, HI3, HB3⟩; obtain ⟨SS, hSS⟩ : ∃ S : ByteArray, S = ⟨(ansB l).toArray⟩ := ⟨_, rfl⟩; have k1 : (convert 22 9 (.slice a2 M c2)).run Try.prog w3 = .ok (.string SS) w3 := (by rw [hSS]; exact string_in Try.underlying22 Try.underlying5 Try.underlying9 (HI2.out.below HB3.out)); have k2 : (convert 22 9 (.slice a3 M c3)).run Try.prog w3 = .ok (.string SS) w3 := (by rw [hSS]; exact string_in Try.underlying22 Try.underlying5 Try.underlying9 HI3.out); clear hSS)
    | (refine ⟨trivial, ?_⟩; gi_at_call 9; refine (callsIn_wide.2 (refAll_is l a n cp w3 (HL.out.below (HB0.out.trans ((HG1.out.mono (by rw [HS0.out]; omega)).trans ((HB2.out.mono (by have h1 := HG1.out.size; have h2 := HS0.out; omega)).trans (HB3.out.mono (by have h1 := HG1.out.size; have h2 := HS0.out; have h3 := HB2.out.size; omega)))))) (by have := HN.out; omega))).mono ?_; rintro e w4 ⟨T, sT, ao, co, vs, rfl, HRA, HEND⟩; have HI4 : Hid (In (w4.alloc (.cells #[.slice ao T co] 29)) ag n cg l) := (((HI1.out.below HB2.out).below HB3.out).below HRA.out.below).below ((Below.refl _ w4).alloc (Nat.le_refl _) _))
    | (refine ⟨trivial, ?_⟩; gi_at_call 10; refine (callsIn_wide.2 (all_is l ag n cg (w4.alloc (.cells #[.slice ao T co] 29)) HI4.out (by have := HN.out; omega))).mono ?_; rintro e w5 ⟨g, a5, c5, rfl, HG5, HC5, HI5, HB5⟩)
    | fail)
  obtain ⟨W3, hW3⟩ : ∃ W3, W3 = (w5.alloc (.cells #[.int .i64 0] 3)).alloc (.cells #[.int .i64 0] 3) := ⟨_, rfl⟩
  have HS3 : Hid (W3.heap.size = w5.heap.size + 2) := by show _ = _; rw [hW3]; simp
  have HN3 : Hid (W3.heap[w5.heap.size]? = some (.cells #[.int .i64 0] 3)) := by show _ = _; rw [hW3]; exact (Below.heap_alloc _ _ _ (by simp)).trans (heap_alloc_new w5 _)
  have HN4 : Hid (W3.heap[w5.heap.size + 1]? = some (.cells #[.int .i64 0] 3)) := by
    show _ = _
    have e := heap_alloc_new (w5.alloc (.cells #[.int .i64 0] 3)) (.cells #[.int .i64 0] 3)
    rw [World.size_alloc] at e
    rw [hW3]; exact e
  have HB6 : Hid (Below w5.heap.size w5 W3) := by rw [hW3]; exact ((Below.refl _ w5).alloc (Nat.le_refl _) _).alloc (by simp) _
  rw [← hW3]
  clear hW3
  have HGG : Hid (g < w5.heap.size) := HG5.out.2
  have HZ1 : Hid (w.heap.size + 1 ≤ w1.heap.size ∧ w1.heap.size ≤ w2.heap.size ∧ w2.heap.size ≤ w3.heap.size ∧ w3.heap.size ≤ w4.heap.size ∧ w4.heap.size + 1 ≤ w5.heap.size) := by
    have h1 := HG1.out.size
    have h2 := HS0.out
    have h3 := HB5.out.size
    rw [World.size_alloc] at h3
    exact ⟨by omega, HB2.out.size, HB3.out.size, HRA.out.below.size, h3⟩
  have HW4 : Hid (Below w3.heap.size w3 w5) := by
    have h := HZ1.out
    exact HRA.out.below.trans (((Below.refl _ w4).alloc (by omega) _).trans (HB5.out.mono (by rw [World.size_alloc]; omega)))
  have HW3 : Hid (Below w1.heap.size w1 w5) := by
    have h := HZ1.out
    exact HB2.out.trans ((HB3.out.mono (by omega)).trans (HW4.out.mono (by omega)))
  have HW0 : Hid (Below w.heap.size w w5) := by
    have h := HZ1.out
    have h2 := HS0.out
    exact HB0.out.trans ((HG1.out.mono (by omega)).trans (HW3.out.mono (by omega)))
  have HRB : Hid (w5.heap[w.heap.size]? = some (.cells #[.bool false] 4)) := by
    have h := HZ1.out
    have h2 := HS0.out
    exact (HW3.out.block _ (by omega)).trans ((HG1.out.block _ (by omega)).trans HX0.out)
  have HWT : Hid (w5.heap[w4.heap.size]? = some (.cells #[.slice ao T co] 29)) := (HB5.out.block _ (by rw [World.size_alloc]; omega)).trans (heap_alloc_new w4 _)
  refine' rangeOverX (gf := 17) (lb := #[.pointer (some ⟨g, 0, none⟩)]) rfl (enters_of Try.func17 (by kernel_rfl) rfl) (fun x : Handed => #[.int .i64 (x.at_ : Int), .slice x.a x.m x.c]) (fun _ => rfl) (fun s x => s + x.m + 12)
    (fun s x A => LiesO l n (W3.heap.size + 2) s x A) (fun x A B => HeldX (W3.heap.size + 2) x A B) (fun s => s ≤ n ∧ errOf (l.drop s) ≠ 0) (ReadInv l T w5) ?inv (fun x A B o o' h => held_putX (by omega) h) (fun s x A o h => lies_putX (by omega) h) ?start _ ?assign ?body ?iter ?done
  case inv =>
    rintro s A B ⟨i, h1, h2, h3, h4, h5, h6⟩ hb
    rw [HS3.out] at hb
    exact ⟨i, h1, h2, (hb.block _ (by omega)).trans h3, (hb.block _ (by omega)).trans h4, h5.trans (hb.mono (by omega)), Nat.le_trans h6 hb.size⟩
  case start =>
    exact ⟨0, Nat.zero_le _, rfl, HN3.out, HN4.out, HB6.out, by rw [HS3.out]; exact Nat.le_refl _⟩
  case assign =>
    intro x A K hK
    gi_wp2
    exact hK
  case iter =>
    intro J W' hS' hB' hJb hJI hY hJ0
    exact all1_inO (9 - 1) _ g a5 n c5 l (by have h1 := HN.out; omega) (W3.heap.size + 2) J hJb (fun s A hj => by
        obtain ⟨⟨i, h1, h2, h3, h4, h5, h6⟩, h7⟩ := hJI s A hj
        exact ⟨(h5.cell (p := ⟨g, 0, none⟩) HGG.out).trans HC5.out, HI5.out.below h5, h7⟩)
      (fun s x A hj hp => YieldAt.deep 0 (hY s x A hj hp)) W' hS' hJ0
  case body =>
    rintro s x A ⟨i, hiT, hs, hbx, hbs, hbel, hsz⟩ ⟨⟨hat, he, hm, hle⟩, hox⟩ hlt
    have hit : i < T := by
      by_cases e : i = T
      · subst e; rw [hs, ← HRA.out.pos] at he; exact absurd he HEND.out
      · omega
    have hz := HZ1.out
    have h3s := HS3.out
    obtain ⟨Ar, mr, Cr, hvi, hor⟩ := HRA.out.each i hit
    rw [← hs] at hor
    have hbl := bodyOf_length he
    have hlm : (bodyOf (l.drop s)).length = x.m := by rw [hbl, hm]
    obtain ⟨gw, cgw, hve, hgw2⟩ : ∃ gw c', (Value.slice ao T co) = .slice (some ⟨gw, 0, none⟩) T c' ∧ gw < w4.heap.size := by
      rcases HRA.out.row.2 with ⟨_, h0⟩ | ⟨g', c', cur, e1, e2, e3, _⟩
      · omega
      · exact ⟨g', c', e1, lt_of_block e3⟩
    cases hve
    have hB45 : Below w4.heap.size w4 w5 := ((Below.refl _ w4).alloc (Nat.le_refl _) _).trans (HB5.out.mono (by rw [World.size_alloc]; omega))
    have hB4A : Below w4.heap.size w4 A := hB45.trans (hbel.mono (by omega))
    have cR : A.cell? ⟨gw, i, none⟩ = some (.slice Ar mr Cr) := (hB4A.cell (p := ⟨gw, i, none⟩) hgw2).trans ((World.ownsRow.cellAt HRA.out.row i (by omega)).trans hvi)
    have cI := (cell_box hbx).1
    have cS := (cell_box hbs).1
    have cW : A.cell? ⟨w4.heap.size, 0, none⟩ = some (.slice (some ⟨gw, 0, none⟩) T co) := cell_one ((hbel.block _ (by omega)).trans HWT.out)
    obtain ⟨SX, hSX⟩ : ∃ S : ByteArray, S = ⟨(bodyOf (l.drop s)).toArray⟩ := ⟨_, rfl⟩
    have hinx : In A x.a x.m x.c (bodyOf (l.drop s)) := by
      obtain ⟨a7, c7, e7, h7, -⟩ := own_in hox (by rw [hlm]; have := HN.out; omega)
      rw [hlm] at e7 h7; cases e7; exact h7
    have hinr : In A Ar mr Cr (bodyOf (l.drop s)) := by
      obtain ⟨a7, c7, e7, h7, -⟩ := own_in hor (by rw [hlm]; have := HN.out; omega)
      cases e7; exact h7.below hB4A
    have j1 : (convert 22 9 (.slice x.a x.m x.c)).run Try.prog A.drew = .ok (.string SX) A.drew := by rw [hSX]; exact string_in Try.underlying22 Try.underlying5 Try.underlying9 (show In A.drew _ _ _ _ from hinx)
    have j2 : (convert 22 9 (.slice Ar mr Cr)).run Try.prog A.drew = .ok (.string SX) A.drew := by rw [hSX]; exact string_in Try.underlying22 Try.underlying5 Try.underlying9 (show In A.drew _ _ _ _ from hinr)
    have q5 : (i : Int) < (T : Int) := by omega
    have q6 : (x.at_ : Int) = (s : Int) := by omega
    have hmx : Try.prog.follows .mixedOrders = true := by kernel_rfl
    have HOX : Hid (Own 5 (W3.heap.size + 2) A (.slice x.a x.m x.c) (bodyOf (l.drop s))) := hox
    have HLT3 : Hid (W3.heap.size + 1 < A.heap.size) := hlt
    clear k1 k2
    gi_wp2
    refine region_round (fun W => W.cell? ⟨w5.heap.size, 0, none⟩ = some (.int .i64 (i : Int)) ∧ W.cell? ⟨w5.heap.size + 1, 0, none⟩ = some (.int .i64 (s : Int)) ∧ W.cell? ⟨w4.heap.size, 0, none⟩ = some (.slice (some ⟨gw, 0, none⟩) T co) ∧ W.cell? ⟨gw, i, none⟩ = some (.slice Ar mr Cr) ∧ (convert 22 9 (.slice x.a x.m x.c)).run Try.prog W = .ok (.string SX) W ∧ (convert 22 9 (.slice Ar mr Cr)).run Try.prog W = .ok (.string SX) W) hmx (nodefer_of3 (by kernel_rfl)) (by rintro ⟨_, _, h⟩; cases h.1) ?_
    have hS : A.drew.cell? ⟨w5.heap.size, 0, none⟩ = some (.int .i64 (i : Int)) ∧ A.drew.cell? ⟨w5.heap.size + 1, 0, none⟩ = some (.int .i64 (s : Int)) ∧ A.drew.cell? ⟨w4.heap.size, 0, none⟩ = some (.slice (some ⟨gw, 0, none⟩) T co) ∧ A.drew.cell? ⟨gw, i, none⟩ = some (.slice Ar mr Cr) ∧ (convert 22 9 (.slice x.a x.m x.c)).run Try.prog A.drew = .ok (.string SX) A.drew ∧ (convert 22 9 (.slice Ar mr Cr)).run Try.prog A.drew = .ok (.string SX) A.drew := ⟨cI, cS, cW, cR, j1, j2⟩
    refine wpAnyH_take (i := 0) (oi := { dst := some 60, op := Op.load 3 (Operand.tmp 12), type := 3, pos := "law.go:60", after := #[], guard := none }) (v := .int .i64 (i : Int)) rfl (by kernel_rfl) (by kernel_rfl) (by kernel_rfl) (fun _ _ _ h => h) (Or.inl ⟨by rfl, ?y0⟩) hS ?_
    case y0 =>
      intro W hW
      obtain ⟨s1, s2, s3, s4, s5, s6⟩ := hW
      go_simp
    simp only [Act.put, List.setIfInBounds_toArray, List.set_cons_zero, List.set_cons_succ]
    refine wpAnyH_take (i := 1) (oi := { dst := some 61, op := Op.load 29 (Operand.tmp 10), type := 29, pos := "law.go:60", after := #[], guard := none }) (v := .slice (some ⟨gw, 0, none⟩) T co) rfl (by kernel_rfl) (by kernel_rfl) (by kernel_rfl) (fun _ _ _ h => h) (Or.inl ⟨by rfl, ?y1⟩) hS ?_
    case y1 =>
      intro W hW
      obtain ⟨s1, s2, s3, s4, s5, s6⟩ := hW
      go_simp
    simp only [Act.put, List.setIfInBounds_toArray, List.set_cons_zero, List.set_cons_succ]
    refine wpAnyH_take (i := 2) (oi := { dst := some 62, op := Op.call { callee := Callee.builtin Builtin.len, args := #[Operand.tmp 61], argTypes := #[29] }, type := 3, pos := "law.go:60", after := #[{ on := 1, ground := Ground.data }], guard := none }) (v := .int .i64 (T : Int)) rfl (by kernel_rfl) (by kernel_rfl) (by kernel_rfl) (fun _ _ _ h => h) (Or.inl ⟨by rfl, ?y2⟩) hS ?_
    case y2 =>
      intro W hW
      obtain ⟨s1, s2, s3, s4, s5, s6⟩ := hW
      go_simp
    simp only [Act.put, List.setIfInBounds_toArray, List.set_cons_zero, List.set_cons_succ]
    refine wpAnyH_take (i := 3) (oi := { dst := some 63, op := Op.binOp BinOp.geq 3 (Operand.tmp 60) (Operand.tmp 62) 3, type := 4, pos := "law.go:60", after := #[{ on := 0, ground := Ground.data }, { on := 2, ground := Ground.data }], guard := none }) (v := .bool false) rfl (by kernel_rfl) (by kernel_rfl) (by kernel_rfl) (fun _ _ _ h => h) (Or.inl ⟨by rfl, ?y3⟩) hS ?_
    case y3 =>
      intro W hW
      obtain ⟨s1, s2, s3, s4, s5, s6⟩ := hW
      go_simp
    simp only [Act.put, List.setIfInBounds_toArray, List.set_cons_zero, List.set_cons_succ]
    refine wpAnyH_take (i := 4) (oi := { dst := some 64, op := Op.move (Operand.tmp 63), type := 4, pos := "law.go:60", after := #[{ on := 3, ground := Ground.data }], guard := none }) (v := .bool false) rfl (by kernel_rfl) (by kernel_rfl) (by kernel_rfl) (fun _ _ _ h => h) (Or.inl ⟨by rfl, ?y4⟩) hS ?_
    case y4 =>
      intro W hW
      obtain ⟨s1, s2, s3, s4, s5, s6⟩ := hW
      go_simp
    simp only [Act.put, List.setIfInBounds_toArray, List.set_cons_zero, List.set_cons_succ]
    refine wpAnyH_take (i := 5) (oi := { dst := some 65, op := Op.move (Operand.tmp 14), type := 3, pos := "law.go:60", after := #[{ on := 4, ground := Ground.guard }], guard := some (4, false) }) (v := .int .i64 (x.at_ : Int)) rfl (by kernel_rfl) (by kernel_rfl) (by kernel_rfl) (fun _ _ _ h => h) (Or.inl ⟨by rfl, ?y5⟩) hS ?_
    case y5 =>
      intro W hW
      obtain ⟨s1, s2, s3, s4, s5, s6⟩ := hW
      go_simp
    simp only [Act.put, List.setIfInBounds_toArray, List.set_cons_zero, List.set_cons_succ]
    refine wpAnyH_take (i := 6) (oi := { dst := some 66, op := Op.load 3 (Operand.tmp 13), type := 3, pos := "law.go:60", after := #[{ on := 4, ground := Ground.guard }], guard := some (4, false) }) (v := .int .i64 (s : Int)) rfl (by kernel_rfl) (by kernel_rfl) (by kernel_rfl) (fun _ _ _ h => h) (Or.inl ⟨by rfl, ?y6⟩) hS ?_
    case y6 =>
      intro W hW
      obtain ⟨s1, s2, s3, s4, s5, s6⟩ := hW
      go_simp
    simp only [Act.put, List.setIfInBounds_toArray, List.set_cons_zero, List.set_cons_succ]
    refine wpAnyH_take (i := 7) (oi := { dst := some 67, op := Op.binOp BinOp.neq 3 (Operand.tmp 65) (Operand.tmp 66) 3, type := 4, pos := "law.go:60", after := #[{ on := 5, ground := Ground.data }, { on := 6, ground := Ground.data }, { on := 4, ground := Ground.guard }], guard := some (4, false) }) (v := .bool false) rfl (by kernel_rfl) (by kernel_rfl) (by kernel_rfl) (fun _ _ _ h => h) (Or.inl ⟨by rfl, ?y7⟩) hS ?_
    case y7 =>
      intro W hW
      obtain ⟨s1, s2, s3, s4, s5, s6⟩ := hW
      go_simp
    simp only [Act.put, List.setIfInBounds_toArray, List.set_cons_zero, List.set_cons_succ]
    refine wpAnyH_take (i := 8) (oi := { dst := some 68, op := Op.pick (Operand.tmp 64) (Operand.const (Value.bool true)) (Operand.tmp 67), type := 4, pos := "law.go:60", after := #[{ on := 4, ground := Ground.data }, { on := 7, ground := Ground.data }], guard := none }) (v := .bool false) rfl (by kernel_rfl) (by kernel_rfl) (by kernel_rfl) (fun _ _ _ h => h) (Or.inl ⟨by rfl, ?y8⟩) hS ?_
    case y8 =>
      intro W hW
      obtain ⟨s1, s2, s3, s4, s5, s6⟩ := hW
      go_simp
    simp only [Act.put, List.setIfInBounds_toArray, List.set_cons_zero, List.set_cons_succ]
    refine wpAnyH_take (i := 9) (oi := { dst := some 69, op := Op.move (Operand.tmp 68), type := 4, pos := "law.go:60", after := #[{ on := 8, ground := Ground.data }, { on := 4, ground := Ground.chain }], guard := none }) (v := .bool false) rfl (by kernel_rfl) (by kernel_rfl) (by kernel_rfl) (fun _ _ _ h => h) (Or.inl ⟨by rfl, ?y9⟩) hS ?_
    case y9 =>
      intro W hW
      obtain ⟨s1, s2, s3, s4, s5, s6⟩ := hW
      go_simp
    simp only [Act.put, List.setIfInBounds_toArray, List.set_cons_zero, List.set_cons_succ]
    refine wpAnyH_take (i := 10) (oi := { dst := some 70, op := Op.move (Operand.tmp 15), type := 22, pos := "law.go:60", after := #[{ on := 9, ground := Ground.guard }], guard := some (9, false) }) (v := .slice x.a x.m x.c) rfl (by kernel_rfl) (by kernel_rfl) (by kernel_rfl) (fun _ _ _ h => h) (Or.inl ⟨by rfl, ?y10⟩) hS ?_
    case y10 =>
      intro W hW
      obtain ⟨s1, s2, s3, s4, s5, s6⟩ := hW
      go_simp
    simp only [Act.put, List.setIfInBounds_toArray, List.set_cons_zero, List.set_cons_succ]
    refine wpAnyH_take (i := 11) (oi := { dst := some 71, op := Op.convert 22 9 (Operand.tmp 70), type := 9, pos := "law.go:60", after := #[{ on := 10, ground := Ground.data }, { on := 9, ground := Ground.guard }], guard := some (9, false) }) (v := .string SX) rfl (by kernel_rfl) (by kernel_rfl) (by kernel_rfl) (fun _ _ _ h => h) (Or.inl ⟨by rfl, ?y11⟩) hS ?_
    case y11 =>
      intro W hW
      obtain ⟨s1, s2, s3, s4, s5, s6⟩ := hW
      go_simp
    simp only [Act.put, List.setIfInBounds_toArray, List.set_cons_zero, List.set_cons_succ]
    refine wpAnyH_take (i := 12) (oi := { dst := some 72, op := Op.load 29 (Operand.tmp 10), type := 29, pos := "law.go:60", after := #[{ on := 9, ground := Ground.guard }], guard := some (9, false) }) (v := .slice (some ⟨gw, 0, none⟩) T co) rfl (by kernel_rfl) (by kernel_rfl) (by kernel_rfl) (fun _ _ _ h => h) (Or.inl ⟨by rfl, ?y12⟩) hS ?_
    case y12 =>
      intro W hW
      obtain ⟨s1, s2, s3, s4, s5, s6⟩ := hW
      go_simp
    simp only [Act.put, List.setIfInBounds_toArray, List.set_cons_zero, List.set_cons_succ]
    refine wpAnyH_take (i := 13) (oi := { dst := some 73, op := Op.load 3 (Operand.tmp 12), type := 3, pos := "law.go:60", after := #[{ on := 9, ground := Ground.guard }], guard := some (9, false) }) (v := .int .i64 (i : Int)) rfl (by kernel_rfl) (by kernel_rfl) (by kernel_rfl) (fun _ _ _ h => h) (Or.inl ⟨by rfl, ?y13⟩) hS ?_
    case y13 =>
      intro W hW
      obtain ⟨s1, s2, s3, s4, s5, s6⟩ := hW
      go_simp
    simp only [Act.put, List.setIfInBounds_toArray, List.set_cons_zero, List.set_cons_succ]
    refine wpAnyH_take (i := 14) (oi := { dst := some 74, op := Op.indexAddr 29 (Operand.tmp 72) (Operand.tmp 73), type := 0, pos := "law.go:60", after := #[{ on := 12, ground := Ground.data }, { on := 13, ground := Ground.data }, { on := 9, ground := Ground.guard }], guard := some (9, false) }) (v := .pointer (some ⟨gw, i, none⟩)) rfl (by kernel_rfl) (by kernel_rfl) (by kernel_rfl) (fun _ _ _ h => h) (Or.inl ⟨by rfl, ?y14⟩) hS ?_
    case y14 =>
      intro W hW
      obtain ⟨s1, s2, s3, s4, s5, s6⟩ := hW
      go_simp
    simp only [Act.put, List.setIfInBounds_toArray, List.set_cons_zero, List.set_cons_succ]
    refine wpAnyH_take (i := 15) (oi := { dst := some 75, op := Op.load 22 (Operand.tmp 74), type := 22, pos := "law.go:60", after := #[{ on := 14, ground := Ground.data }, { on := 9, ground := Ground.guard }], guard := some (9, false) }) (v := .slice Ar mr Cr) rfl (by kernel_rfl) (by kernel_rfl) (by kernel_rfl) (fun _ _ _ h => h) (Or.inl ⟨by rfl, ?y15⟩) hS ?_
    case y15 =>
      intro W hW
      obtain ⟨s1, s2, s3, s4, s5, s6⟩ := hW
      go_simp
    simp only [Act.put, List.setIfInBounds_toArray, List.set_cons_zero, List.set_cons_succ]
    refine wpAnyH_take (i := 16) (oi := { dst := some 76, op := Op.convert 22 9 (Operand.tmp 75), type := 9, pos := "law.go:60", after := #[{ on := 15, ground := Ground.data }, { on := 9, ground := Ground.guard }], guard := some (9, false) }) (v := .string SX) rfl (by kernel_rfl) (by kernel_rfl) (by kernel_rfl) (fun _ _ _ h => h) (Or.inl ⟨by rfl, ?y16⟩) hS ?_
    case y16 =>
      intro W hW
      obtain ⟨s1, s2, s3, s4, s5, s6⟩ := hW
      go_simp
    simp only [Act.put, List.setIfInBounds_toArray, List.set_cons_zero, List.set_cons_succ]
    refine wpAnyH_take (i := 17) (oi := { dst := some 77, op := Op.binOp BinOp.neq 9 (Operand.tmp 71) (Operand.tmp 76) 9, type := 4, pos := "law.go:60", after := #[{ on := 11, ground := Ground.data }, { on := 16, ground := Ground.data }, { on := 9, ground := Ground.guard }], guard := some (9, false) }) (v := .bool false) rfl (by kernel_rfl) (by kernel_rfl) (by kernel_rfl) (fun _ _ _ h => h) (Or.inl ⟨by rfl, ?y17⟩) hS ?_
    case y17 =>
      intro W hW
      obtain ⟨s1, s2, s3, s4, s5, s6⟩ := hW
      go_simp
    simp only [Act.put, List.setIfInBounds_toArray, List.set_cons_zero, List.set_cons_succ]
    refine wpAnyH_take (i := 18) (oi := { dst := some 78, op := Op.pick (Operand.tmp 69) (Operand.const (Value.bool true)) (Operand.tmp 77), type := 4, pos := "law.go:60", after := #[{ on := 9, ground := Ground.data }, { on := 17, ground := Ground.data }], guard := none }) (v := .bool false) rfl (by kernel_rfl) (by kernel_rfl) (by kernel_rfl) (fun _ _ _ h => h) (Or.inl ⟨by rfl, ?y18⟩) hS ?_
    case y18 =>
      intro W hW
      obtain ⟨s1, s2, s3, s4, s5, s6⟩ := hW
      go_simp
    simp only [Act.put, List.setIfInBounds_toArray, List.set_cons_zero, List.set_cons_succ]
    refine wpAnyH_done (by kernel_rfl) ?_ _
    obtain ⟨s', hs'⟩ : ∃ s', s' = s + x.m + 12 := ⟨_, rfl⟩
    have r1 : (s : Int) + ((x.m : Int) + 12) = (s' : Int) := by omega
    have r2 : (s' : Int) ≤ 100000 := by have := HN.out; omega
    have r3 : (x.m : Int) ≤ 100000 := by have := HN.out; omega
    have r4 : (i : Int) ≤ 100000 := by have h1 := HRA.out.few; have h2 := HRA.out.le; have h3 := HN.out; omega
    have fI := (cell_box hbx).2
    have fS := (cell_box hbs).2
    have HPS : Hid (s' = ps l (i + 1)) := by show _ = ps l i + num4 (l.drop (ps l i)) + 12; rw [← hs, hm]; exact hs'
    have HFA : Hid (i + 1 ≤ T ∧ w5.heap.size + 2 ≤ A.heap.size) := ⟨hit, hsz⟩
    have HBEL : Hid (Below w5.heap.size w5 A) := hbel
    have HBX : Hid (A.heap[w5.heap.size]? = some (.cells #[.int .i64 (i : Int)] 3)) := hbx
    have HBS : Hid (A.heap[w5.heap.size + 1]? = some (.cells #[.int .i64 (s : Int)] 3)) := hbs
    have HLM : Hid ((bodyOf (l.drop s)).length = x.m) := hlm
    clear hS j1 j2 hinx hinr hSX hbx hbs hbel hsz hlm hbl he hm hle hvi hor hB45 hB4A cR cW hox hit q5 q6 hat hs hgw2 hlt hiT
    gi_wp2_with fail
    obtain ⟨A1, hA1⟩ : ∃ A1, A1 = A.setCell ⟨w5.heap.size + 1, 0, none⟩ (.int .i64 ((s : Int) + (x.m : Int) + 12)) := ⟨_, rfl⟩
    obtain ⟨A2, hA2⟩ : ∃ A2, A2 = (A1.setCell ⟨w5.heap.size, 0, none⟩ (.int .i64 ((i : Int) + 1))).drew := ⟨_, rfl⟩
    rw [← hA1, ← hA2]
    have p1 : ∀ b, b ≠ w5.heap.size + 1 → A1.heap[b]? = A.heap[b]? := fun b hb => by rw [hA1]; exact heap_setCell_other A ⟨w5.heap.size + 1, 0, none⟩ b _ hb
    have p2 : ∀ b, b ≠ w5.heap.size → A2.heap[b]? = A1.heap[b]? := fun b hb => by rw [hA2]; exact heap_setCell_other A1 ⟨w5.heap.size, 0, none⟩ b _ hb
    have p3 : A1.heap[w5.heap.size + 1]? = some (.cells #[.int .i64 ((s : Int) + (x.m : Int) + 12)] 3) := by rw [hA1]; exact heap_setCell_same A (w5.heap.size + 1) 0 #[.int .i64 (s : Int)] 3 _ HBS.out
    have p4 : A2.heap[w5.heap.size]? = some (.cells #[.int .i64 ((i + 1 : Nat) : Int)] 3) := by
      rw [hA2]
      exact heap_setCell_same A1 w5.heap.size 0 #[.int .i64 (i : Int)] 3 (.int .i64 ((i : Int) + 1)) ((p1 _ (by omega)).trans HBX.out)
    have HC2 : Hid (A2.heap[w5.heap.size + 1]? = some (.cells #[.int .i64 (s' : Int)] 3)) := by
      show _ = _
      rw [p2 _ (by omega), p3, show (s : Int) + (x.m : Int) + 12 = (s' : Int) by omega]
    have HC1 : Hid (A2.heap[w5.heap.size]? = some (.cells #[.int .i64 ((i + 1 : Nat) : Int)] 3)) := p4
    have HO2 : Hid (∀ b, b ≠ w5.heap.size → b ≠ w5.heap.size + 1 → A2.heap[b]? = A.heap[b]?) := fun b h1 h2 => (p2 b h1).trans (p1 b h2)
    have HZ2 : Hid (A2.heap.size = A.heap.size) := by show _ = _; rw [hA2, hA1]; simp
    have HE2 : Hid (Below w5.heap.size w5 A2) := by
      rw [hA2, hA1]
      exact ((HBEL.out.setCell (p := ⟨w5.heap.size + 1, 0, none⟩) (by show w5.heap.size ≤ w5.heap.size + 1; omega) _).setCell (p := ⟨w5.heap.size, 0, none⟩) (by show w5.heap.size ≤ w5.heap.size; omega) _).trans (below_drewN _ _ 1)
    have HRX : Hid (RelX (W3.heap.size + 2) x A2 A2) := by
      refine ⟨Below.refl _ _, ⟨Nat.le_refl _, fun _ _ _ _ => rfl⟩, bodyOf (l.drop s), HLM.out, ?_⟩
      obtain ⟨k1, k2⟩ := HOX.out
      refine ⟨k1, ?_⟩
      rcases k2 with k2 | ⟨gg, c, cur, e1, e2, e3, r⟩
      · exact .inl k2
      · exact .inr ⟨gg, c, cur, e1, e2, (HO2.out gg (by omega) (by omega)).trans e3, r⟩
    clear hA1 hA2 p1 p2 p3 p4 cI cS fI fS r1 r2
    gi_loopw [88] (fun j wr => ∃ t : Nat, j = .int .i64 t ∧ t ≤ x.m ∧ Hid (RelX (W3.heap.size + 2) x A2 wr)) (fun j _ => x.m - (intOf j).toNat)
    case atStart => exact ⟨0, rfl, Nat.zero_le _, HRX⟩
    case round =>
      obtain ⟨t, rfl, ht, hrx⟩ := hrel
      by_cases hlt : t = x.m
      · have u1 : (x.m : Int) ≤ (t : Int) := by omega
        gi_wp2
        obtain ⟨hbw, hhx, -⟩ := hrx.out
        have hfa := HFA.out
        have hb2 : ∀ b, b < W3.heap.size + 2 → wr.heap[b]? = A2.heap[b]? := fun b hb => hbw.block b hb
        refine ⟨⟨i + 1, hfa.1, by rw [← HPS.out, hs'], (hb2 _ (by omega)).trans HC1.out, ?_, HE2.out.trans (hbw.mono (by omega)), ?_⟩, ⟨?_, fun b hb hm hx => ?_⟩, ?_, ?_⟩
        · rw [← hs']; exact (hb2 _ (by omega)).trans HC2.out
        · have := hbw.size; have := HZ2.out; omega
        · have := hbw.size; have := HZ2.out; omega
        · exact (hhx.2 b (by rw [HZ2.out]; exact hb) (Nat.zero_le _) hx).trans (HO2.out b (by omega) (by omega))
        · exact (hb2 _ (by omega)).trans (HO2.out _ (by omega) (by omega))
        · exact (hb2 _ (by omega)).trans (HO2.out _ (by omega) (by omega))
      · have u1 : (t : Int) < (x.m : Int) := by omega
        have HT : Hid (t < x.m) := by show _ < _; omega
        obtain ⟨hbw, hhx, k, hkl, hok⟩ := hrx.out
        obtain ⟨gx, hxa, hgx⟩ := own_far hkl hok (by omega) (by omega)
        rw [hxa] at hok
        obtain ⟨d1, d2, -, hset⟩ := own_set hok hkl t (by omega)
        have hset1 := hset (k[t] ^^^ 85)
        have hx85 := xor_85 k[t]
        generalize k[t] = y at d1 hset1 hx85
        generalize y ^^^ 85 = z at hset1 hx85
        have HNX : Hid (RelX (W3.heap.size + 2) x A2 (wr.setCell ⟨gx, t, none⟩ (.int .u8 (z.toNat : Int)))) := by
          refine ⟨hbw.setCell (p := ⟨gx, t, none⟩) hgx _, ⟨by simpa using hhx.1, fun b hb hm hx => ?_⟩, k.set t z, by rw [List.length_set]; exact hkl, by rw [hxa]; exact hset1⟩
          exact (heap_setCell_other wr ⟨gx, t, none⟩ b _ (hx ⟨gx, 0, none⟩ (by have := HT.out; omega) hxa)).trans (hhx.2 b hb hm hx)
        clear hset hset1 hlt hbw hhx hok hrx hkl
        gi_wp2
        refine ⟨⟨t + 1, by go_num, HT.out, HNX⟩, ?_⟩
        have := HT.out
        simp only [intOf]
        omega
  case done =>
    rintro s A ⟨i, hiT, hs, hbx, hbs, hbel, hsz⟩ ⟨hsn, hne⟩ hKD
    subst hs
    have hi : i = T := by
      by_cases e : i = T
      · exact e
      · exact absurd (HRA.out.good i (by omega)) hne
    subst hi
    have hz := HZ1.out
    have h3s := HS3.out
    have cI := (cell_box hbx).1
    have cW : A.cell? ⟨w4.heap.size, 0, none⟩ = some (.slice ao i co) := cell_one ((hbel.block _ (by omega)).trans HWT.out)
    have HBA : Hid (Below w.heap.size w A) := HW0.out.trans (hbel.mono (by omega))
    have HR5 : Hid (A.heap[w.heap.size]? = some (.cells #[.bool false] 4)) := (hbel.block _ (by omega)).trans HRB.out
    have HKD : Hid (A.heap[W3.heap.size]? = some (.deferred (some []))) := hKD
    obtain ⟨SL, hSL⟩ : ∃ S : ByteArray, S = ⟨l.toArray⟩ := ⟨_, rfl⟩
    have k3 : (convert 22 9 (.slice ag n cg)).run Try.prog A = .ok (.string SL) A := by rw [hSL]; exact string_in Try.underlying22 Try.underlying5 Try.underlying9 ((HI1.out.below HW3.out).below (hbel.mono (Nat.le_refl _)))
    have k4 : (convert 22 9 (.slice a n cp)).run Try.prog A = .ok (.string SL) A := by rw [hSL]; exact string_in Try.underlying22 Try.underlying5 Try.underlying9 (HL.out.below HBA.out)
    clear hSL hbx hbs hbel hsz hne hKD k1 k2
    gi_wp2_with (first
      | (refine ⟨trivial, ?_⟩; gi_at_call 6; refine (callsIn_wide.2 (lives_is A)).mono ?_; rintro e w9 ⟨rfl, hb9⟩; have HB9 : Hid (Below A.heap.size A w9) := hb9; have HR9 : Hid (w9.heap[w.heap.size]? = some (.cells #[.bool false] 4)) := (hb9.block _ (lt_of_block HR5.out)).trans HR5.out; have c9 := (cell_box HR9.out).1; have f9 := (cell_box HR9.out).2; clear hb9)
      | fail)
    exact leaves_last3 HBA.out HB9.out (by omega) (by rw [← h3s]; exact HKD.out) HR5.out rfl
theorem reads (l : List UInt8) (a : Option Addr) (n cp : Nat) (w : World) (hl : In w a n cp l) :
    Calls Try.prog 3 #[.slice a n cp] w fun e w' => e = .returned (.bool true) ∧ Below w.heap.size w w' := by
  by_cases h : 100000 < n
  · exact reads_long a n cp w h
  · exact reads_most l a n cp w hl (by omega)
#print axioms reads
end Go.Proofs.Ytchblcfbllcbmab.Oct
