/-
  Layer 19 (audit): entries, rows of them, and an entry that is handed back.
  Layer 19 (audit): Digest.
  Layer 19 (audit): the end and the head of a chain.
  Layer 19 (audit): the entry that makes a chain.
  Layer 19 (audit): next.
  Layer 19 (audit): digests and entries held against each other.
-/
import Derived.Test.YtmmpafaegmejlaaDoorORef
import Derived.Test.YtmmpafaegmejlaaDoorRefIs
import Derived.Laws.ResultCell
import Derived.Maps.AppendAt
import Derived.Deep.MidRow
import Derived.Deep.RegionHeld
import Derived.Deep.RegionHeldLaw
import Derived.ChangeKeysEq
import Derived.Laws.StructEq
/- Layer 19 (audit): entries, rows of them, and an entry that is handed back. -/
namespace Go.Proofs.YtmmpafaegmejlaaDoor.Oct
open Go.RowKit Sha
set_option linter.unusedSimpArgs false
set_option linter.unusedVariables false

abbrev iv (n : Int) : Value := .int .i64 n
abbrev BA := ByteArray
abbrev e0 : BA := ⟨#[]⟩
theorem toList_d (s : BA) : s.toList = s.data.toList := ByteArray.toList_eq s
theorem ba_ext {s t : BA} (h : s.data.toList = t.data.toList) : s = t := by
  have : s.data = t.data := Array.toList_inj.1 h
  cases s; cases t; simpa using this
theorem below_al (w : World) (o : Obj) : Below w.heap.size w (w.alloc o) := (Below.refl _ w).alloc (Nat.le_refl _) o
theorem below_tr {w w1 w2 : World} (h : Below w.heap.size w w1) (k : Below w1.heap.size w1 w2) : Below w.heap.size w w2 := h.trans (k.mono h.size)
theorem below_gr {w w1 w2 : World} {g : Nat} (h : Below w.heap.size w w1) (k : w1.grownBy w2 (some g)) (hg : w.heap.size ≤ g) : Below w.heap.size w w2 := by
  obtain ⟨a1, a2, a3, a4, a5⟩ := k
  obtain ⟨b1, b2, b3, b4, b5⟩ := h
  exact ⟨a1.trans b1, a2.trans b2, a3.trans b3, Nat.le_trans b4 a4, fun k hk => (a5 k (Nat.lt_of_lt_of_le hk b4) (by simp; omega)).trans (b5 k hk)⟩
theorem rangeAt_same {w w' : World} {b o : Nat} {cs : List Value} (h : w.rangeAt b o cs) (hs : w'.heap[b]? = w.heap[b]?) : w'.rangeAt b o cs :=
  fun j v hj => (World.cell?_of_block (a := ⟨b, o + j, none⟩) hs).trans (h j v hj)
theorem Blk.range0 {w : World} {b : Nat} {t : TypeId} {L : List Value} (h : Blk w b t L) : w.rangeAt b 0 L := fun j v hj => by rw [Nat.zero_add]; exact h.cell hj
/-- an entry -/
structure En where
  seq : Int
  tick : Int
  who : BA
  what : BA
  prev : List UInt8
def En.cells (e : En) : List Value := iv e.seq :: iv e.tick :: .string e.who :: .string e.what :: U e.prev
def En.ok (e : En) : Prop := e.prev.length = 32 ∧ e.seq ≤ 9223372036854775807 ∧ e.tick ≤ 9223372036854775807 ∧ e.who.size ≤ 140737488355328 ∧ e.what.size ≤ 140737488355328
theorem En.len {e : En} (h : e.ok) : e.cells.length = 36 := by unfold En.cells; simp [U_length, h.1]
theorem En.one (e : En) : ∀ v ∈ e.cells, v.oneCell' = true := by
  intro v hv
  unfold En.cells at hv
  simp only [List.mem_cons] at hv
  rcases hv with rfl | rfl | rfl | rfl | hv
  · rfl
  · rfl
  · rfl
  · rfl
  · exact U_one _ v hv
/-- the empty entry -/
def zE : En := ⟨0, 0, e0, e0, List.replicate 32 0⟩
theorem zE_ok : zE.ok := by
  refine ⟨by simp [zE], by decide, by decide, by decide, by decide⟩
theorem size37 : (Tryd.prog.info? 37).map (·.size) = some 36 := by kernel_rfl
theorem info37 {e : En} (h : e.ok) : (Tryd.prog.info? 37).map (·.size) = some e.cells.length := by rw [En.len h]; exact size37
theorem size35 : (Tryd.prog.info? 35).map (·.size) = some 32 := by kernel_rfl
theorem built37 : Tryd.prog.built 37 [] = some zE.cells.toArray := by kernel_rfl
theorem zero37 : ∃ Z : List Value, (∀ W, (zeroValue 37).run Tryd.prog W = .ok (.agg Z.toArray) W) ∧ Hid (Z = zE.cells) := ⟨zE.cells, fun W => by kernel_rfl, rfl⟩
theorem zero35 : ∃ Z : List Value, (∀ W, (zeroValue 35).run Tryd.prog W = .ok (.agg Z.toArray) W) ∧ Hid (Z = zb 32) := ⟨zb 32, fun W => by kernel_rfl, rfl⟩
theorem ret_c {R : Ending → World → Prop} {fn : Func} {pt : Tmp} {ty : TypeId} {a : Act} {w : World} {g : Nat} {X : List Value} {d : TypeDesc} (hr : fn.results = #[.cell pt ty]) (hd : a.defers = []) (hp : a.tmps.getD pt undef = .pointer (some ⟨g, 0, none⟩))
    (hb : Blk w g ty X) (hu : Tryd.prog.underlying ty = some d) (hrow : d.isRow = true) (hi : (Tryd.prog.info? ty).map (·.size) = some X.length) (hR : R (.returned (.agg X.toArray)) w) : bodyPost Tryd.prog fn R .ret a w := by
  have hl := run_loadVar_mid (P := Tryd.prog) w g 0 ty X _ hb.range0 hu hrow hi
  refine bodyPost_ret (v := .agg X.toArray) ?_ hd hR
  simp only [results, hr]
  simp [Sem.run_bind, Array.getD] at hp ⊢
  simp [hp, asAddr, hl, Result.andThen]
theorem ret_cu {R : Ending → World → Prop} {fn : Func} {pt u : Tmp} {ty : TypeId} {a : Act} {w : World} {g : Nat} {X : List Value} {d : TypeDesc} (hr : fn.results = #[.cell pt ty, .tmp u]) (hd : a.defers = []) (hp : a.tmps.getD pt undef = .pointer (some ⟨g, 0, none⟩))
    (hb : Blk w g ty X) (hu : Tryd.prog.underlying ty = some d) (hrow : d.isRow = true) (hi : (Tryd.prog.info? ty).map (·.size) = some X.length) (hR : R (.returned (.tuple #[.agg X.toArray, a.tmps.getD u undef])) w) : bodyPost Tryd.prog fn R .ret a w := by
  have hl := run_loadVar_mid (P := Tryd.prog) w g 0 ty X _ hb.range0 hu hrow hi
  refine bodyPost_ret (v := .tuple #[.agg X.toArray, a.tmps.getD u undef]) ?_ hd hR
  rw [results_cell_tmp hr, hp]
  simp [asAddr, hl, Result.andThen]
theorem blk_all {w : World} {b : Nat} {t : TypeId} {L cs : List Value} (h : Blk w b t (L.take 0 ++ cs ++ L.drop (0 + cs.length))) (hl : L.length = cs.length) : Blk w b t cs := by
  rw [List.take_zero, List.nil_append, List.drop_of_length_le (by omega), List.append_nil] at h
  exact h
/-- many entries as cells -/
def cellsE (l : List En) : List Value := l.flatMap En.cells
/-- entries that can be read -/
def EsR (w : World) (v : Value) (l : List En) : Prop :=
  (∀ e ∈ l, e.ok) ∧ ∃ a cap, v = .slice a l.length cap ∧ l.length ≤ cap ∧ cap ≤ maxLen ∧ (0 < l.length → ∃ b off, a = some ⟨b, off, none⟩ ∧ b < w.heap.size ∧ ∀ i e, l[i]? = some e → w.rangeAt b (off + i * 36) e.cells)
theorem EsR.below {w w' : World} {v : Value} {l : List En} (h : EsR w v l) (hb : Below w.heap.size w w') : EsR w' v l := by
  obtain ⟨h1, a, cap, h2, h3, h4, h5⟩ := h
  refine ⟨h1, a, cap, h2, h3, h4, fun hp => ?_⟩
  obtain ⟨b, off, e1, e2, e3⟩ := h5 hp
  exact ⟨b, off, e1, Nat.lt_of_lt_of_le e2 hb.size, fun i e he => rangeAt_same (e3 i e he) (hb.block b e2)⟩
theorem EsR.nil (w : World) : EsR w (.slice none 0 0) [] := ⟨by simp, none, 0, rfl, Nat.le_refl _, by unfold maxLen; omega, fun h => absurd h (by simp)⟩
/-- a chain in memory -/
def En.sz (e : En) : Prop := e.who.size + e.what.size ≤ 400000000
def Ch (w : World) (c : Nat) (l : List En) : Prop := ∃ v, Blk w c 58 [v] ∧ EsR w v l ∧ l.length ≤ 1000000 ∧ ∀ e ∈ l, e.sz
theorem Ch.below {w w' : World} {c : Nat} {l : List En} (h : Ch w c l) (hb : Below w.heap.size w w') : Ch w' c l := by
  obtain ⟨v, h1, h2, h3⟩ := h
  exact ⟨v, h1.below hb h1.lt, h2.below hb, h3⟩
/-- the last entry -/
def lastE (l : List En) : En := l.getLast?.getD zE
/-- what an entry's digest is of -/
def dgB (e : En) : List UInt8 := enc (max e.seq 0).toNat ++ enc (max e.tick 0).toNat ++ (enc e.who.size ++ e.who.data.toList) ++ (enc e.what.size ++ e.what.data.toList) ++ e.prev
def dgE (e : En) : List UInt8 := sum (dgB e)
theorem dgE_len (e : En) : (dgE e).length = 32 := sum_length _
def hdE (l : List En) : List UInt8 := if l = [] then List.replicate 32 0 else dgE (lastE l)
theorem hdE_len (l : List En) : (hdE l).length = 32 := by
  unfold hdE
  split
  · simp
  · exact dgE_len _
end Go.Proofs.YtmmpafaegmejlaaDoor.Oct

/- Layer 19 (audit): Digest. -/
namespace Go.Proofs.YtmmpafaegmejlaaDoor.Oct
open Go.RowKit Sha
set_option linter.unusedSimpArgs false
set_option linter.unusedVariables false

theorem in_mid {w : World} {b o : Nat} {t : TypeId} {L : List Value} {l : List UInt8} (h : Blk w b t L) (hl : (L.drop o).take l.length = U l) (hn : l.length ≤ 140737488355328) : In w (some ⟨b, o, none⟩) l.length l.length l := by
  refine ⟨rfl, Nat.le_refl _, hn, by simp, fun _ => ⟨b, o, rfl, h.lt, fun i c hc => ?_⟩⟩
  have hr := h.range o l.length
  rw [hl] at hr
  refine hr i _ ?_
  simp [U, hc]
theorem slice35 (b : Nat) (W : World) : (Instr.sliceAt 35 (.pointer (some ⟨b, 4, none⟩)) none none none).run Tryd.prog W = .ok (.slice (some ⟨b, 4, none⟩) 32 32) W := by kernel_rfl
theorem u8info : ∃ i, Tryd.prog.info? 5 = some i ∧ i.zero = some (.int .u8 0) ∧ i.size = 1 ∧ i.bytes = 1 := by
  have h : (Tryd.prog.info? 5).map (fun i => (i.zero, i.size, i.bytes)) = some (some (.int .u8 0), 1, 1) := by kernel_rfl
  obtain ⟨i, hi, he⟩ := Option.map_eq_some_iff.1 h
  simp only [Prod.mk.injEq] at he
  exact ⟨i, hi, he.1, he.2.1, he.2.2⟩
set_option maxRecDepth 100000 in
set_option maxHeartbeats 2000000 in
theorem digest_is (e : En) (he : e.ok) (hz : e.who.size + e.what.size ≤ 400000000) (D : List UInt8) (hD : dgE e = D) (w : World) (hk : KT w) (hs : ST w) : Calls Tryd.prog 20 #[.agg e.cells.toArray] w fun r w' => r = .returned (.agg (U D).toArray) ∧ Below w.heap.size w w' := by
  obtain ⟨Z, hZ, HZ⟩ := zero35
  obtain ⟨i0, hi, hz0, hz1, hz2⟩ := u8info
  obtain ⟨b, hb⟩ : ∃ b, w.heap.size = b := ⟨_, rfl⟩
  obtain ⟨C, hC⟩ : ∃ C, e.cells = C := ⟨_, rfl⟩
  obtain ⟨A1, hA1⟩ : ∃ A, w.alloc (.cells C.toArray 37) = A := ⟨_, rfl⟩
  obtain ⟨r, hr⟩ : ∃ r, A1.heap.size = r := ⟨_, rfl⟩
  obtain ⟨A, hA⟩ : ∃ A, A1.alloc (.cells Z.toArray 35) = A := ⟨_, rfl⟩
  have hB1 : Below w.heap.size w A1 := by rw [← hA1]; exact below_al _ _
  have hB2 : Below A1.heap.size A1 A := by rw [← hA]; exact below_al _ _
  have hBA := below_tr hB1 hB2
  have h1 : Blk A1 b 37 C := by rw [← hA1, ← hb]; exact Blk.new w _ _
  have h2 : Blk A b 37 C := h1.below hB2 h1.lt
  have h3 : Blk A r 35 Z := by rw [← hA, ← hr]; exact Blk.new A1 _ _
  have HA : Hid (Below w.heap.size w A ∧ Blk A b 37 C ∧ Blk A r 35 Z ∧ KT A ∧ ST A ∧ w.heap.size ≤ r) := ⟨hBA, h2, h3, hk.below hBA, hs.below hBA, by have := hB1.size; omega⟩
  obtain ⟨S, hS⟩ : ∃ S, max e.seq 0 = S := ⟨_, rfl⟩
  obtain ⟨T, hT⟩ : ∃ S, max e.tick 0 = S := ⟨_, rfl⟩
  have c0 : A.cell? ⟨b, 0, none⟩ = some (iv e.seq) := h2.cell (by rw [← hC]; rfl)
  have c1 : A.cell? ⟨b, 1, none⟩ = some (iv e.tick) := h2.cell (by rw [← hC]; rfl)
  have HE : Hid (e.ok ∧ e.cells = C ∧ max e.seq 0 = S ∧ max e.tick 0 = T ∧ e.who.size + e.what.size ≤ 400000000 ∧ dgE e = D ∧ D.length = 32) := ⟨he, hC, hS, hT, hz, hD, by rw [← hD]; exact dgE_len e⟩
  have q1 : 0 ≤ S := by omega
  have q2 : S ≤ 9223372036854775807 := by have := he.2.1; omega
  have q3 : 0 ≤ T := by omega
  have q4 : T ≤ 9223372036854775807 := by have := he.2.2.1; omega
  rw [hC]
  clear hB1 hB2 hBA h1 h2 h3 hk hs he hz hD hC
  go_enter Tryd.func20, Tryd.ntmps20
  go_wp2_with fail
  refine (put none 0 0 [] S A (In.nil A) q1 (by omega)).mono ?_
  rintro x W1 ⟨rfl, ho, hb1⟩
  rw [List.nil_append] at ho
  obtain ⟨n1, hn1⟩ : ∃ n, (enc S.toNat).length = n := ⟨_, rfl⟩
  obtain ⟨l1, hl1⟩ : ∃ l, enc S.toNat = l := ⟨_, rfl⟩
  have hz1' : n1 ≤ 10 := by rw [← hn1]; exact enc_le _ (by omega)
  have H1 : Hid (Below A.heap.size A W1 ∧ In W1 (some ⟨A.heap.size, 0, none⟩) n1 n1 l1 ∧ n1 ≤ 10 ∧ l1 = enc S.toNat ∧ l1.length = n1) := by
    refine ⟨hb1, ?_, hz1', hl1.symm, by rw [← hl1, hn1]⟩
    rw [Nat.zero_add, hn1, hl1] at ho
    have e : l1.length = n1 := by rw [← hl1, hn1]
    rw [← e] at ho ⊢
    exact ho.toIn (by omega)
  have c2 : W1.cell? ⟨b, 1, none⟩ = some (iv e.tick) := (hb1.cell (p := ⟨b, 1, none⟩) HA.out.2.1.lt).trans c1
  rw [Nat.zero_add, hn1]
  clear ho hb1 hn1 hl1 hz1' c0 c1 hA1 hA hr hb
  go_wp2_with fail
  refine (put _ n1 n1 l1 T W1 H1.out.2.1 q3 (by omega)).mono ?_
  rintro x W2 ⟨rfl, ho, hb2⟩
  obtain ⟨n2, hn2⟩ : ∃ n, n1 + (enc T.toNat).length = n := ⟨_, rfl⟩
  obtain ⟨l2, hl2⟩ : ∃ l, l1 ++ enc T.toNat = l := ⟨_, rfl⟩
  have hz2' : n2 ≤ 20 := by have := enc_le T.toNat (by omega); have := H1.out.2.2.1; omega
  have H2 : Hid (Below A.heap.size A W2 ∧ In W2 (some ⟨W1.heap.size, 0, none⟩) n2 n2 l2 ∧ n2 ≤ 20 ∧ l2 = l1 ++ enc T.toNat) := by
    refine ⟨below_tr H1.out.1 hb2, ?_, hz2', hl2.symm⟩
    have e : l2.length = n2 := by rw [← hl2, List.length_append, H1.out.2.2.2.2, hn2]
    rw [hn2, hl2, ← e] at ho
    rw [← e]
    exact ho.toIn (by omega)
  have c3 : W2.cell? ⟨b, 2, none⟩ = some (.string e.who) := (H2.out.1.cell (p := ⟨b, 2, none⟩) HA.out.2.1.lt).trans (HA.out.2.1.cell (by rw [← HE.out.2.1]; rfl))
  rw [hn2]
  clear ho hb2 hn2 hl2 hz2' c2
  go_wp2_with fail
  refine (putText _ n2 n2 l2 e.who W2 H2.out.2.1 (by have := H2.out.2.2.1; have := HE.out.2.2.2.2.1; omega)).mono ?_
  rintro x W3 ⟨g3, cp3, rfl, hg3, hl3, hc3, ho, hb3⟩
  obtain ⟨l3, hl3'⟩ : ∃ l, l2 ++ enc e.who.size ++ e.who.data.toList = l := ⟨_, rfl⟩
  rw [hl3'] at ho ⊢
  have hz3 : l3.length ≤ 30 + e.who.size := by
    rw [← hl3', List.length_append, List.length_append, H2.out.2.1.1]
    have := enc_le e.who.size (by have := HE.out.2.2.2.2.1; omega)
    have := H2.out.2.2.1
    have h3 : e.who.data.toList.length = e.who.size := rfl
    omega
  obtain ⟨n3, hn3⟩ : ∃ n, l3.length = n := ⟨_, rfl⟩
  have H3 : Hid (Below A.heap.size A W3 ∧ In W3 (some ⟨g3, 0, none⟩) n3 cp3 l3 ∧ n3 ≤ 30 + e.who.size ∧ l3 = l2 ++ enc e.who.size ++ e.who.data.toList) := by
    refine ⟨below_tr H2.out.1 hb3, ?_, by omega, hl3'.symm⟩
    rw [← hn3]
    exact ho.toIn (by have := HE.out.2.2.2.2.1; omega)
  have c4 : W3.cell? ⟨b, 3, none⟩ = some (.string e.what) := (H3.out.1.cell (p := ⟨b, 3, none⟩) HA.out.2.1.lt).trans (HA.out.2.1.cell (by rw [← HE.out.2.1]; rfl))
  rw [hn3]
  clear ho hb3 hn3 hl3' hz3 c3 hg3 hl3 hc3
  go_wp2_with fail
  refine (putText _ n3 cp3 l3 e.what W3 H3.out.2.1 (by have := H3.out.2.2.1; have := HE.out.2.2.2.2.1; omega)).mono ?_
  rintro x W4 ⟨g4, cp4, rfl, hg4, hl4, hc4, ho, hb4⟩
  obtain ⟨l4, hl4'⟩ : ∃ l, l3 ++ enc e.what.size ++ e.what.data.toList = l := ⟨_, rfl⟩
  rw [hl4'] at ho ⊢
  have hz4 : l4.length ≤ 40 + e.who.size + e.what.size := by
    rw [← hl4', List.length_append, List.length_append, H3.out.2.1.1]
    have := enc_le e.what.size (by have := HE.out.2.2.2.2.1; omega)
    have := H3.out.2.2.1
    have h3 : e.what.data.toList.length = e.what.size := rfl
    omega
  obtain ⟨n4, hn4⟩ : ∃ n, l4.length = n := ⟨_, rfl⟩
  have H4 : Hid (Below A.heap.size A W4 ∧ W4.ownsRow W3.heap.size 5 1 (.slice (some ⟨g4, 0, none⟩) n4 cp4) n4 (U l4) ∧ n4 ≤ 40 + e.who.size + e.what.size ∧ l4 = l3 ++ enc e.what.size ++ e.what.data.toList ∧ l4.length = n4 ∧ W3.heap.size ≤ W4.heap.size ∧ A.heap.size ≤ W3.heap.size) := by
    refine ⟨below_tr H3.out.1 hb4, ?_, by omega, hl4'.symm, hn4, hb4.size, H3.out.1.size⟩
    rw [← hn4]
    exact ho
  have H4b : Hid (Blk W4 b 37 C ∧ Blk W4 r 35 Z ∧ KT W4 ∧ ST W4) := ⟨HA.out.2.1.below H4.out.1 HA.out.2.1.lt, HA.out.2.2.1.below H4.out.1 HA.out.2.2.1.lt, HA.out.2.2.2.1.below H4.out.1, HA.out.2.2.2.2.1.below H4.out.1⟩
  have hsl := slice35 b
  rw [hn4]
  clear ho hb4 hn4 hl4' hz4 c4 hg4 hl4 hc4
  go_wp2_with (with_reducible change wpList _ _ _ ({ dst := some 26, op := _, type := _, pos := _, after := _, guard := _ } :: _) _ _; refine Hid.out ?_)
  show wpList _ _ _ _ _ _
  refine wpList_append_in _ rfl (.tmp 23) (.tmp 25) 60 rfl W3.heap.size 5 i0 Tryd.underlying60 hi hz0 hz1 hz2 _ l4 n4 H4.out.2.2.2.2.1 rfl H4.out.2.1 (some ⟨b, 4, none⟩) 32 32 e.prev rfl ?_ (by have := H4.out.2.2.1; have := HE.out.2.2.2.2.1; omega) H4.out.2.2.2.2.2.1 ?_
  · have := in_mid (o := 4) (l := e.prev) H4b.out.1 (by rw [← HE.out.2.1]; show (U e.prev).take _ = _; rw [List.take_of_length_le (by rw [U_length]; exact Nat.le_refl _)]) (by rw [HE.out.1.1]; omega)
    rw [HE.out.1.1] at this
    exact this
  intro v5 W5 ho5 hg5
  have b45 : Below W3.heap.size W4 W5 := ((Below.refl _ W4).mono H4.out.2.2.2.2.2.1).grown hg5 H4.out.2.2.2.2.2.1 (fun j hj => by cases hj; rcases H4.out.2.1.2 with ⟨h, _⟩ | ⟨g, cp, cur, h, hB, _⟩ <;> cases h; exact hB)
  have b5 : Below A.heap.size A W5 := H4.out.1.trans (b45.mono H4.out.2.2.2.2.2.2)
  have H5 : Hid (Below w.heap.size w W5 ∧ Blk W5 r 35 Z ∧ KT W5 ∧ ST W5 ∧ w.heap.size ≤ r) := ⟨below_tr HA.out.1 b5, HA.out.2.2.1.below b5 HA.out.2.2.1.lt, HA.out.2.2.2.1.below b5, HA.out.2.2.2.2.1.below b5, HA.out.2.2.2.2.2⟩
  have eL : l4 ++ e.prev = dgB e := by
    unfold dgB
    rw [HE.out.2.2.1, HE.out.2.2.2.1, H4.out.2.2.2.1, H3.out.2.2.2, H2.out.2.2.2, H1.out.2.2.2.1]
    simp only [List.append_assoc]
  have hp5 : 0 < (l4 ++ e.prev).length := by rw [List.length_append, HE.out.1.1]; omega
  obtain ⟨g5, cp5, rfl, _⟩ := ho5.shape hp5
  have hin5 := ho5.toIn (by rw [List.length_append, HE.out.1.1, H4.out.2.2.2.2.1]; have := H4.out.2.2.1; have := HE.out.2.2.2.2.1; omega)
  obtain ⟨n5, hn5⟩ : ∃ n, (l4 ++ e.prev).length = n := ⟨_, rfl⟩
  rw [hn5] at hin5 ⊢
  have H6 : Hid (In W5 (some ⟨g5, 0, none⟩) n5 cp5 (l4 ++ e.prev) ∧ n5 < 900000000000 ∧ sum (l4 ++ e.prev) = D) := by
    refine ⟨hin5, ?_, by rw [eL]; exact HE.out.2.2.2.2.2.1⟩
    rw [← hn5, List.length_append, HE.out.1.1, H4.out.2.2.2.2.1]
    have := H4.out.2.2.1; have := HE.out.2.2.2.2.1
    omega
  clear ho5 hg5 b45 b5 eL hp5 hin5 hn5 H4b H4 H3 H2 H1
  go_wp2_with fail
  refine (sum_is' _ D H6.out.2.2 _ n5 cp5 W5 H5.out.2.2.1 H5.out.2.2.2.1 H6.out.1 H6.out.2.1).mono ?_
  rintro x W6 ⟨rfl, hb6⟩
  have H7 : Hid (Below w.heap.size w W6 ∧ Blk W6 r 35 Z) := ⟨below_tr H5.out.1 hb6.out, H5.out.2.1.below hb6.out H5.out.2.1.lt⟩
  clear hb6 H6
  go_wp2_with (with_reducible change wpList _ _ _ ({ dst := none, op := Op.store 35 _ _, type := _, pos := _, after := _, guard := _ } :: _) _ _; refine Hid.out ?_)
  show wpList _ _ _ _ _ _
  refine wpList_store_blk rfl 35 (.tmp 2) (.tmp 27) rfl r 0 35 Z (U D) rfl rfl H7.out.2 (by rw [HZ.out, U_length, HE.out.2.2.2.2.2.2, zb_length]; exact Nat.le_refl _) (by rw [U_length, HE.out.2.2.2.2.2.2]; exact size35) (U_one _) ?_
  intro W7 hx7 hg7
  have H8 : Hid (Below w.heap.size w W7 ∧ Blk W7 r 35 (U D)) := ⟨below_gr H7.out.1 hg7.out H5.out.2.2.2.2, blk_all hx7.out (by rw [HZ.out, U_length, HE.out.2.2.2.2.2.2, zb_length])⟩
  clear hx7 hg7
  go_wp2
  refine ret_c rfl rfl rfl H8.out.2 Tryd.underlying35 rfl (by rw [U_length, HE.out.2.2.2.2.2.2]; exact size35) ⟨rfl, H8.out.1⟩
end Go.Proofs.YtmmpafaegmejlaaDoor.Oct

/- Layer 19 (audit): the end and the head of a chain. -/
namespace Go.Proofs.YtmmpafaegmejlaaDoor.Oct
open Go.RowKit Sha
set_option linter.unusedSimpArgs false
set_option linter.unusedVariables false

theorem step_stB {ops : Array Oper} {o : Oper} {a : Act} {w : World} {K : Act → World → Prop} {Q : Exit → Act → World → Prop} {E : Prop} (hw : Region.wanted o (yielded ops a.tmps) = true) (t : TypeId) (x y : Operand) (hop : o.op = .store t x y) (b : Nat) (cs : List Value) (T : TypeId) (L : List Value) (hx : a.eval x = .pointer (some ⟨b, 0, none⟩)) (hy : a.eval y = .agg cs.toArray) (hb : Blk w b T L) (hkl : L.length = cs.length)
    (hi : (Tryd.prog.info? t).map (·.size) = some cs.length) (h1 : ∀ v ∈ cs, v.oneCell' = true) (hk : ∀ V, Hid (Blk V b T cs) → Hid (w.grownBy V (some b)) → K (a.put o.dst undef) V) : if Region.wanted o (yielded ops a.tmps) = true then Oper.wp Tryd.prog o a w K Q else E := by
  rw [if_pos hw]
  refine wp_store_mid t x y hop b 0 cs.toArray hx hy (by simpa using hb.there 0 cs.length (by omega)) (by simpa using hi) (all_oneCell_toArray h1) ?_
  have e := Blk.setCells cs 0 w L hb (by omega)
  refine hk _ ?_ e.2
  have h2 := blk_all e.1 hkl
  show Blk _ _ _ _
  simpa using h2
theorem zb_is (n : Nat) : zb n = U (List.replicate n 0) := by unfold zb U; simp
set_option maxRecDepth 100000 in
set_option maxHeartbeats 4000000 in
theorem end3 {Q : Exit → Act → World → Prop} {x1 x3 x4 x5 x6 x7 x8 x9 x10 x11 x12 x13 x14 x15 x16 x17 x18 x19 x20 x21 : Value} {ds : List Deferred} {A : World} {c r b off k cap : Nat} {x : En} {Z : List Value}
    (HL : Hid (c < A.heap.size ∧ some c ≠ some r ∧ b < A.heap.size ∧ some b ≠ some r)) (c0 : A.cell? ⟨c, 0, none⟩ = some (.slice (some ⟨b, off, none⟩) (k + 1) cap)) (HR : Hid (A.rangeAt b (off + k * 36) x.cells)) (HX : Hid x.ok) (HZ : Hid (Blk A r 37 Z ∧ Z.length = x.cells.length)) (HK : Hid ((k : Int) ≤ 1000000))
    (hQ : ∀ V1, Blk V1 r 37 x.cells → A.grownBy V1 (some r) → Q .normal { tmps := #[.pointer (some ⟨c, 0, none⟩), x1, .pointer (some ⟨r, 0, none⟩), x3, x4, x5, x6, x7, x8, x9, .pointer (some ⟨c, 0, none⟩), .pointer (some ⟨c, 0, none⟩), .pointer (some ⟨c, 0, none⟩), .slice (some ⟨b, off, none⟩) (k + 1) cap, .pointer (some ⟨c, 0, none⟩), .pointer (some ⟨c, 0, none⟩), .pointer (some ⟨c, 0, none⟩), .slice (some ⟨b, off, none⟩) (k + 1) cap, iv ((k : Int) + 1), iv (k : Int), .pointer (some ⟨b, off + k * 36, none⟩), .agg x.cells.toArray], defers := ds } V1) :
    (Code.region 3 #[{ dst := some 10, op := Op.move (Operand.tmp 0), type := 51, pos := "chain.go:13", after := #[], guard := none }, { dst := some 11, op := Op.nilCheck (Operand.tmp 10), type := 0, pos := "chain.go:13", after := #[{ on := 0, ground := Ground.data }], guard := none }, { dst := some 12, op := Op.fieldAddr 58 (Operand.tmp 11) 0, type := 0, pos := "chain.go:13", after := #[{ on := 1, ground := Ground.data }], guard := none }, { dst := some 13, op := Op.load 27 (Operand.tmp 12), type := 27, pos := "chain.go:13", after := #[{ on := 2, ground := Ground.data }], guard := none }, { dst := some 14, op := Op.move (Operand.tmp 0), type := 51, pos := "chain.go:13", after := #[], guard := none }, { dst := some 15, op := Op.nilCheck (Operand.tmp 14), type := 0, pos := "chain.go:13", after := #[{ on := 4, ground := Ground.data }], guard := none }, { dst := some 16, op := Op.fieldAddr 58 (Operand.tmp 15) 0, type := 0, pos := "chain.go:13", after := #[{ on := 5, ground := Ground.data }], guard := none }, { dst := some 17, op := Op.load 27 (Operand.tmp 16), type := 27, pos := "chain.go:13", after := #[{ on := 6, ground := Ground.data }], guard := none }, { dst := some 18, op := Op.call { callee := Callee.builtin Builtin.len, args := #[Operand.tmp 17], argTypes := #[27] }, type := 3, pos := "chain.go:13", after := #[{ on := 7, ground := Ground.data }], guard := none }, { dst := some 19, op := Op.binOp BinOp.sub 3 (Operand.tmp 18) (Operand.const (Value.int IntKind.i64 1)) 3, type := 3, pos := "chain.go:13", after := #[{ on := 8, ground := Ground.data }], guard := none }, { dst := some 20, op := Op.indexAddr 27 (Operand.tmp 13) (Operand.tmp 19), type := 0, pos := "chain.go:13", after := #[{ on := 3, ground := Ground.data }, { on := 9, ground := Ground.data }], guard := none }, { dst := some 21, op := Op.load 37 (Operand.tmp 20), type := 37, pos := "chain.go:13", after := #[{ on := 10, ground := Ground.data }], guard := none }, { dst := none, op := Op.store 37 (Operand.tmp 2) (Operand.tmp 21), type := 0, pos := "chain.go:13", after := #[{ on := 11, ground := Ground.data }, { on := 0, ground := Ground.phase }, { on := 1, ground := Ground.phase }, { on := 2, ground := Ground.phase }, { on := 3, ground := Ground.phase }, { on := 4, ground := Ground.phase }, { on := 5, ground := Ground.phase }, { on := 6, ground := Ground.phase }, { on := 7, ground := Ground.phase }, { on := 8, ground := Ground.phase }, { on := 9, ground := Ground.phase }, { on := 10, ground := Ground.phase }, { on := 11, ground := Ground.phase }], guard := none }] true).wp Tryd.prog Q { tmps := #[.pointer (some ⟨c, 0, none⟩), x1, .pointer (some ⟨r, 0, none⟩), x3, x4, x5, x6, x7, x8, x9, x10, x11, x12, x13, x14, x15, x16, x17, x18, x19, x20, x21], defers := ds } A := by
  refine Code.wp_mono (Q := fun x a' w' => match x with | .normal => Q .normal a' w' | _ => False) (by intro x a' w' h; cases x <;> first | exact h | exact h.elim) ?_
  refine wp_region_held (S := fun V => A.grownBy V (some r)) (by kernel_rfl) ?_
  have hS0 : Hid (A.grownBy A.drew (some r)) := grown_drewN A 1 _
  change wpAnyH Tryd.prog .any _ _ (fun V => A.grownBy V (some r)) 13 (Array.replicate 13 false) _ A.drew
  obtain ⟨V0, hV0⟩ : ∃ V0, A.drew = V0 := ⟨_, rfl⟩
  rw [hV0]
  rw [hV0] at hS0
  have hZ0 : Hid (Blk V0 r 37 Z) := by rw [← hV0]; exact HZ.out.1
  clear hV0
  refine wpAnyH_take (i := 0) (oi := { dst := some 10, op := Op.move (Operand.tmp 0), type := 51, pos := "chain.go:13", after := #[], guard := none }) (v := .pointer (some ⟨c, 0, none⟩)) rfl (by kernel_rfl) (by kernel_rfl) (by kernel_rfl) (fun _ _ _ h => h.elim) (Or.inl ⟨by rfl, ?y1⟩) hS0.out ?_
  case y1 =>
    intro V hV
    go_simp
  simp only [Act.put, List.setIfInBounds_toArray, List.set_cons_zero, List.set_cons_succ]
  refine wpAnyH_take (i := 1) (oi := { dst := some 11, op := Op.nilCheck (Operand.tmp 10), type := 0, pos := "chain.go:13", after := #[{ on := 0, ground := Ground.data }], guard := none }) (v := .pointer (some ⟨c, 0, none⟩)) rfl (by kernel_rfl) (by kernel_rfl) (by kernel_rfl) (fun _ _ _ h => h.elim) (Or.inl ⟨by rfl, ?y2⟩) hS0.out ?_
  case y2 =>
    intro V hV
    go_simp
  simp only [Act.put, List.setIfInBounds_toArray, List.set_cons_zero, List.set_cons_succ]
  refine wpAnyH_take (i := 2) (oi := { dst := some 12, op := Op.fieldAddr 58 (Operand.tmp 11) 0, type := 0, pos := "chain.go:13", after := #[{ on := 1, ground := Ground.data }], guard := none }) (v := .pointer (some ⟨c, 0, none⟩)) rfl (by kernel_rfl) (by kernel_rfl) (by kernel_rfl) (fun _ _ _ h => h.elim) (Or.inl ⟨by rfl, ?y3⟩) hS0.out ?_
  case y3 =>
    intro V hV
    go_simp
  simp only [Act.put, List.setIfInBounds_toArray, List.set_cons_zero, List.set_cons_succ]
  refine wpAnyH_take (i := 3) (oi := { dst := some 13, op := Op.load 27 (Operand.tmp 12), type := 27, pos := "chain.go:13", after := #[{ on := 2, ground := Ground.data }], guard := none }) (v := .slice (some ⟨b, off, none⟩) (k + 1) cap) rfl (by kernel_rfl) (by kernel_rfl) (by kernel_rfl) (fun _ _ _ h => h.elim) (Or.inl ⟨by rfl, ?y4⟩) hS0.out ?_
  case y4 =>
    intro V hV
    have hc : V.cell? ⟨c, 0, none⟩ = some (.slice (some ⟨b, off, none⟩) (k + 1) cap) := (World.cell?_of_block (a := ⟨c, 0, none⟩) ((show A.grownBy V (some r) from hV).block c HL.out.1 HL.out.2.1)).trans c0
    go_simp
  simp only [Act.put, List.setIfInBounds_toArray, List.set_cons_zero, List.set_cons_succ]
  refine wpAnyH_take (i := 4) (oi := { dst := some 14, op := Op.move (Operand.tmp 0), type := 51, pos := "chain.go:13", after := #[], guard := none }) (v := .pointer (some ⟨c, 0, none⟩)) rfl (by kernel_rfl) (by kernel_rfl) (by kernel_rfl) (fun _ _ _ h => h.elim) (Or.inl ⟨by rfl, ?y5⟩) hS0.out ?_
  case y5 =>
    intro V hV
    go_simp
  simp only [Act.put, List.setIfInBounds_toArray, List.set_cons_zero, List.set_cons_succ]
  refine wpAnyH_take (i := 5) (oi := { dst := some 15, op := Op.nilCheck (Operand.tmp 14), type := 0, pos := "chain.go:13", after := #[{ on := 4, ground := Ground.data }], guard := none }) (v := .pointer (some ⟨c, 0, none⟩)) rfl (by kernel_rfl) (by kernel_rfl) (by kernel_rfl) (fun _ _ _ h => h.elim) (Or.inl ⟨by rfl, ?y6⟩) hS0.out ?_
  case y6 =>
    intro V hV
    go_simp
  simp only [Act.put, List.setIfInBounds_toArray, List.set_cons_zero, List.set_cons_succ]
  refine wpAnyH_take (i := 6) (oi := { dst := some 16, op := Op.fieldAddr 58 (Operand.tmp 15) 0, type := 0, pos := "chain.go:13", after := #[{ on := 5, ground := Ground.data }], guard := none }) (v := .pointer (some ⟨c, 0, none⟩)) rfl (by kernel_rfl) (by kernel_rfl) (by kernel_rfl) (fun _ _ _ h => h.elim) (Or.inl ⟨by rfl, ?y7⟩) hS0.out ?_
  case y7 =>
    intro V hV
    go_simp
  simp only [Act.put, List.setIfInBounds_toArray, List.set_cons_zero, List.set_cons_succ]
  refine wpAnyH_take (i := 7) (oi := { dst := some 17, op := Op.load 27 (Operand.tmp 16), type := 27, pos := "chain.go:13", after := #[{ on := 6, ground := Ground.data }], guard := none }) (v := .slice (some ⟨b, off, none⟩) (k + 1) cap) rfl (by kernel_rfl) (by kernel_rfl) (by kernel_rfl) (fun _ _ _ h => h.elim) (Or.inl ⟨by rfl, ?y8⟩) hS0.out ?_
  case y8 =>
    intro V hV
    have hc : V.cell? ⟨c, 0, none⟩ = some (.slice (some ⟨b, off, none⟩) (k + 1) cap) := (World.cell?_of_block (a := ⟨c, 0, none⟩) ((show A.grownBy V (some r) from hV).block c HL.out.1 HL.out.2.1)).trans c0
    go_simp
  simp only [Act.put, List.setIfInBounds_toArray, List.set_cons_zero, List.set_cons_succ]
  refine wpAnyH_take (i := 8) (oi := { dst := some 18, op := Op.call { callee := Callee.builtin Builtin.len, args := #[Operand.tmp 17], argTypes := #[27] }, type := 3, pos := "chain.go:13", after := #[{ on := 7, ground := Ground.data }], guard := none }) (v := iv ((k : Int) + 1)) rfl (by kernel_rfl) (by kernel_rfl) (by kernel_rfl) (fun _ _ _ h => h.elim) (Or.inl ⟨by rfl, ?y9⟩) hS0.out ?_
  case y9 =>
    intro V hV
    go_simp
  simp only [Act.put, List.setIfInBounds_toArray, List.set_cons_zero, List.set_cons_succ]
  refine wpAnyH_take (i := 9) (oi := { dst := some 19, op := Op.binOp BinOp.sub 3 (Operand.tmp 18) (Operand.const (Value.int IntKind.i64 1)) 3, type := 3, pos := "chain.go:13", after := #[{ on := 8, ground := Ground.data }], guard := none }) (v := iv (k : Int)) rfl (by kernel_rfl) (by kernel_rfl) (by kernel_rfl) (fun _ _ _ h => h.elim) (Or.inl ⟨by rfl, ?y10⟩) hS0.out ?_
  case y10 =>
    intro V hV
    have q1 := HK.out
    have q2 : IntKind.i64.wrap (k : Int) = (k : Int) := by rw [IntKind.wrap_i64]; omega
    go_simp
  simp only [Act.put, List.setIfInBounds_toArray, List.set_cons_zero, List.set_cons_succ]
  refine wpAnyH_take (i := 10) (oi := { dst := some 20, op := Op.indexAddr 27 (Operand.tmp 13) (Operand.tmp 19), type := 0, pos := "chain.go:13", after := #[{ on := 3, ground := Ground.data }, { on := 9, ground := Ground.data }], guard := none }) (v := .pointer (some ⟨b, off + k * 36, none⟩)) rfl (by kernel_rfl) (by kernel_rfl) (by kernel_rfl) (fun _ _ _ h => h.elim) (Or.inl ⟨by rfl, ?y11⟩) hS0.out ?_
  case y11 =>
    intro V hV
    have q1 := HK.out
    have q2 : (k : Int) < (k : Int) + 1 := by omega
    go_simp
  simp only [Act.put, List.setIfInBounds_toArray, List.set_cons_zero, List.set_cons_succ]
  refine wpAnyH_take (i := 11) (oi := { dst := some 21, op := Op.load 37 (Operand.tmp 20), type := 37, pos := "chain.go:13", after := #[{ on := 10, ground := Ground.data }], guard := none }) (v := .agg x.cells.toArray) rfl (by kernel_rfl) (by kernel_rfl) (by kernel_rfl) (fun _ _ _ h => h.elim) (yieldsIf_load_mid (by rfl) _ _ rfl _ _ rfl (x.cells) _ (fun V hV => rangeAt_same (HR.out) ((show A.grownBy V (some r) from hV).block _ (HL.out.2.2.1) (HL.out.2.2.2))) Tryd.underlying37 rfl (info37 HX.out)) hS0.out ?_
  simp only [Act.put, List.setIfInBounds_toArray, List.set_cons_zero, List.set_cons_succ]
  refine wpAnyH_ready (rs := [12]) (by kernel_rfl) (by simp) (AllReadyH.cons (i := 12) (o := { dst := none, op := Op.store 37 (Operand.tmp 2) (Operand.tmp 21), type := 0, pos := "chain.go:13", after := #[{ on := 11, ground := Ground.data }, { on := 0, ground := Ground.phase }, { on := 1, ground := Ground.phase }, { on := 2, ground := Ground.phase }, { on := 3, ground := Ground.phase }, { on := 4, ground := Ground.phase }, { on := 5, ground := Ground.phase }, { on := 6, ground := Ground.phase }, { on := 7, ground := Ground.phase }, { on := 8, ground := Ground.phase }, { on := 9, ground := Ground.phase }, { on := 10, ground := Ground.phase }, { on := 11, ground := Ground.phase }], guard := none }) rfl ?_ AllReadyH.nil)
  · intro K1 hK1
    refine step_stB (by rfl) 37 (.tmp 2) (.tmp 21) rfl r x.cells 37 Z rfl rfl hZ0.out HZ.out.2 (info37 HX.out) (En.one x) ?_
    intro V1 hX1 hg1
    have hS1 : Hid (A.grownBy V1 (some r)) := grown_tr hS0.out hg1.out
    clear hg1
    refine hK1.out _ _ hS1.out ?_
    clear hK1
    intro _
    try simp only [Act.put, List.setIfInBounds_toArray, List.set_cons_zero, List.set_cons_succ]
    refine wpAnyH_done (by kernel_rfl) ?_ _
    exact hQ V1 hX1.out hS1.out
theorem last_get {l : List En} {k : Nat} (h : l.length = k + 1) : l[k]? = some (lastE l) := by
  unfold lastE
  rw [List.getLast?_eq_getElem?, h, Nat.add_sub_cancel]
  have hk : k < l.length := by omega
  rw [List.getElem?_eq_getElem hk]
  rfl
theorem last_mem {l : List En} (h : l ≠ []) : lastE l ∈ l := by
  cases hl : l.length with
  | zero => exact absurd (List.eq_nil_of_length_eq_zero hl) h
  | succ k => exact List.mem_of_getElem? (last_get hl)
set_option maxRecDepth 100000 in
set_option maxHeartbeats 1000000 in
theorem end_is {w : World} {c : Nat} {l : List En} (h : Ch w c l) : Calls Tryd.prog 38 #[.pointer (some ⟨c, 0, none⟩)] w fun e w' => e = .returned (.agg (lastE l).cells.toArray) ∧ Below w.heap.size w w' := by
  obtain ⟨v, hc, ⟨hok, a, cap, rfl, hle, hcap, hr⟩, hn, hsz⟩ := h
  obtain ⟨Z, hZ, HZ⟩ := zero37
  obtain ⟨r, hr0⟩ : ∃ b, w.heap.size = b := ⟨_, rfl⟩
  obtain ⟨A, hA⟩ : ∃ A, w.alloc (.cells Z.toArray 37) = A := ⟨_, rfl⟩
  have hB : Below w.heap.size w A := by rw [← hA]; exact below_al _ _
  have hZA : Blk A r 37 Z := by rw [← hA, ← hr0]; exact Blk.new w _ _
  have hcA := hc.below hB hc.lt
  have c0 := hcA.cell (i := 0) rfl
  have HA : Hid (Below w.heap.size w A ∧ Blk A r 37 Z ∧ w.heap.size ≤ r ∧ c < w.heap.size ∧ Z = zE.cells) := ⟨hB, hZA, by omega, hc.lt, HZ.out⟩
  clear hB hZA hcA hc hsz HZ
  cases hl : l.length with
  | zero =>
    obtain rfl := List.eq_nil_of_length_eq_zero hl
    have HBL := built37
    clear hok hle hcap hr hn hl
    go_enter Tryd.func38, Tryd.ntmps38
    go_wp2_with (with_reducible change wpList _ _ _ ({ dst := some 9, op := _, type := _, pos := _, after := _, guard := _ } :: _) _ _; refine Hid.out ?_)
    show wpList _ _ _ _ _ _
    refine wpList_built rfl 37 _ rfl zE.cells.toArray (by rw [← HBL]; simp) ?_
    go_wp2_with (with_reducible change wpList _ _ _ ({ dst := none, op := Op.store 37 _ _, type := _, pos := _, after := _, guard := _ } :: _) _ _; refine Hid.out ?_)
    show wpList _ _ _ _ _ _
    refine wpList_store_blk rfl 37 (.tmp 2) (.tmp 9) rfl r 0 37 Z zE.cells rfl rfl HA.out.2.1 (by rw [HA.out.2.2.2.2]; omega) (info37 zE_ok) (En.one _) ?_
    intro W1 hx hg
    have H1 : Hid (Blk W1 r 37 zE.cells ∧ Below w.heap.size w W1) := ⟨blk_all hx.out (by rw [HA.out.2.2.2.2]), below_gr HA.out.1 hg.out HA.out.2.2.1⟩
    clear hx hg hA hr0
    go_wp2
    exact ret_c rfl rfl rfl H1.out.1 Tryd.underlying37 rfl (info37 zE_ok) ⟨rfl, H1.out.2⟩
  | succ k =>
    obtain ⟨b, off, rfl, hb, he⟩ := hr (by omega)
    obtain ⟨x, hx⟩ : ∃ x, lastE l = x := ⟨_, rfl⟩
    have hgk := last_get hl
    rw [hx] at hgk
    have HX : Hid (x.ok ∧ A.rangeAt b (off + k * 36) x.cells ∧ b < A.heap.size ∧ b < w.heap.size ∧ (k : Int) ≤ 1000000 ∧ lastE l = x) := ⟨hok x (List.mem_of_getElem? hgk), rangeAt_same (he k x hgk) (HA.out.1.block b hb), Nat.lt_of_lt_of_le hb HA.out.1.size, hb, by omega, hx⟩
    have qk : (k : Int) ≤ 1000000 := by omega
    rw [hl] at c0
    rw [hx]
    clear hok hle hcap hr hn hl hb he hgk hx
    go_enter Tryd.func38, Tryd.ntmps38
    go_wp2_with fail
    refine end3 (x := x) (k := k) (b := b) (off := off) (cap := cap) ⟨Nat.lt_of_lt_of_le HA.out.2.2.2.1 HA.out.1.size, by simp; have := HA.out.2.2.1; have := HA.out.2.2.2.1; omega, HX.out.2.2.1, by simp; have := HA.out.2.2.1; have := HX.out.2.2.2.1; omega⟩ c0 HX.out.2.1 HX.out.1 ⟨HA.out.2.1, by rw [HA.out.2.2.2.2, En.len zE_ok, En.len HX.out.1]⟩ HX.out.2.2.2.2.1 ?_
    intro W1 hx hg
    have H1 : Hid (Blk W1 r 37 x.cells ∧ Below w.heap.size w W1) := ⟨hx, below_gr HA.out.1 hg HA.out.2.2.1⟩
    clear hx hg hA hr0 c0
    go_wp2
    exact ret_c rfl rfl rfl H1.out.1 Tryd.underlying37 rfl (info37 HX.out.1) ⟨rfl, H1.out.2⟩
set_option maxRecDepth 100000 in
set_option maxHeartbeats 1000000 in
theorem head_is {w : World} {c : Nat} {l : List En} (h : Ch w c l) (hk : KT w) (hs : ST w) (D : List UInt8) (hD : hdE l = D) : Calls Tryd.prog 37 #[.pointer (some ⟨c, 0, none⟩)] w fun e w' => e = .returned (.agg (U D).toArray) ∧ Below w.heap.size w w' := by
  have HCh : Hid (Ch w c l) := h
  obtain ⟨v, hc, ⟨hok, a, cap, rfl, hle, hcap, hr⟩, hn, hsz⟩ := h
  obtain ⟨Z, hZ, HZ⟩ := zero35
  obtain ⟨r, hr0⟩ : ∃ b, w.heap.size = b := ⟨_, rfl⟩
  obtain ⟨A, hA⟩ : ∃ A, w.alloc (.cells Z.toArray 35) = A := ⟨_, rfl⟩
  have hB : Below w.heap.size w A := by rw [← hA]; exact below_al _ _
  have hZA : Blk A r 35 Z := by rw [← hA, ← hr0]; exact Blk.new w _ _
  have hcA := hc.below hB hc.lt
  have c0 := hcA.cell (i := 0) rfl
  have hDl : D.length = 32 := by rw [← hD]; exact hdE_len l
  have HA : Hid (Below w.heap.size w A ∧ Blk A r 35 Z ∧ w.heap.size ≤ r ∧ Z = zb 32 ∧ KT A ∧ ST A ∧ Ch A c l ∧ D.length = 32) := ⟨hB, hZA, by omega, HZ.out, hk.below hB, hs.below hB, HCh.out.below hB, hDl⟩
  clear hB hZA hcA hc HZ hk hs HCh hDl
  cases hl : l.length with
  | zero =>
    obtain rfl := List.eq_nil_of_length_eq_zero hl
    have HBL : Hid (Tryd.prog.built 35 [] = some (U D).toArray) := by show _ = _; rw [← hD]; exact built35.trans (congrArg (fun z : List Value => some z.toArray) (zb_is 32))
    clear hok hle hcap hr hn hl hD
    go_enter Tryd.func37, Tryd.ntmps37
    go_wp2_with (with_reducible change wpList _ _ _ ({ dst := some 9, op := _, type := _, pos := _, after := _, guard := _ } :: _) _ _; refine Hid.out ?_)
    show wpList _ _ _ _ _ _
    refine wpList_built rfl 35 _ rfl (U D).toArray (by rw [← HBL.out]; simp) ?_
    go_wp2_with (with_reducible change wpList _ _ _ ({ dst := none, op := Op.store 35 _ _, type := _, pos := _, after := _, guard := _ } :: _) _ _; refine Hid.out ?_)
    show wpList _ _ _ _ _ _
    refine wpList_store_blk rfl 35 (.tmp 2) (.tmp 9) rfl r 0 35 Z (U D) rfl rfl HA.out.2.1 (by rw [HA.out.2.2.2.1, U_length, HA.out.2.2.2.2.2.2.2, zb_length]; exact Nat.le_refl _) (by rw [U_length, HA.out.2.2.2.2.2.2.2]; exact size35) (U_one _) ?_
    intro W1 hx hg
    have H1 : Hid (Blk W1 r 35 (U D) ∧ Below w.heap.size w W1) := ⟨blk_all hx.out (by rw [HA.out.2.2.2.1, U_length, HA.out.2.2.2.2.2.2.2, zb_length]), below_gr HA.out.1 hg.out HA.out.2.2.1⟩
    clear hx hg hA hr0
    go_wp2
    exact ret_c rfl rfl rfl H1.out.1 Tryd.underlying35 rfl (by rw [U_length, HA.out.2.2.2.2.2.2.2]; exact size35) ⟨rfl, H1.out.2⟩
  | succ k =>
    have hne : l ≠ [] := by intro e; rw [e] at hl; cases hl
    have HX : Hid ((lastE l).ok ∧ (lastE l).sz ∧ dgE (lastE l) = D) := ⟨hok _ (last_mem hne), hsz _ (last_mem hne), by rw [← hD]; unfold hdE; rw [if_neg hne]⟩
    have qk : (k : Int) ≤ 1000000 := by omega
    rw [hl] at c0
    clear hok hle hcap hr hn hl hsz hne hD
    go_enter Tryd.func37, Tryd.ntmps37
    go_wp2_with fail
    refine (end_is HA.out.2.2.2.2.2.2.1).mono ?_
    rintro e W1 ⟨rfl, hb⟩
    have H1 : Hid (Below w.heap.size w W1 ∧ Blk W1 r 35 Z ∧ KT W1 ∧ ST W1) := ⟨below_tr HA.out.1 hb, HA.out.2.1.below hb HA.out.2.1.lt, HA.out.2.2.2.2.1.below hb, HA.out.2.2.2.2.2.1.below hb⟩
    obtain ⟨x, hx⟩ : ∃ x, lastE l = x := ⟨_, rfl⟩
    rw [hx] at HX ⊢
    clear hb hA hr0 hx c0
    go_wp2_with fail
    refine (digest_is x HX.out.1 HX.out.2.1 D HX.out.2.2 W1 H1.out.2.2.1 H1.out.2.2.2).mono ?_
    rintro e W2 ⟨rfl, hb⟩
    have H2 : Hid (Below w.heap.size w W2 ∧ Blk W2 r 35 Z) := ⟨below_tr H1.out.1 hb, H1.out.2.1.below hb H1.out.2.1.lt⟩
    clear hb
    go_wp2_with (with_reducible change wpList _ _ _ ({ dst := none, op := Op.store 35 _ _, type := _, pos := _, after := _, guard := _ } :: _) _ _; refine Hid.out ?_)
    show wpList _ _ _ _ _ _
    refine wpList_store_blk rfl 35 (.tmp 2) (.tmp 12) rfl r 0 35 Z (U D) rfl rfl H2.out.2 (by rw [HA.out.2.2.2.1, U_length, HA.out.2.2.2.2.2.2.2, zb_length]; exact Nat.le_refl _) (by rw [U_length, HA.out.2.2.2.2.2.2.2]; exact size35) (U_one _) ?_
    intro W3 hx hg
    have H3 : Hid (Blk W3 r 35 (U D) ∧ Below w.heap.size w W3) := ⟨blk_all hx.out (by rw [HA.out.2.2.2.1, U_length, HA.out.2.2.2.2.2.2.2, zb_length]), below_gr H2.out.1 hg.out HA.out.2.2.1⟩
    clear hx hg
    go_wp2
    exact ret_c rfl rfl rfl H3.out.1 Tryd.underlying35 rfl (by rw [U_length, HA.out.2.2.2.2.2.2.2]; exact size35) ⟨rfl, H3.out.2⟩
end Go.Proofs.YtmmpafaegmejlaaDoor.Oct

/- Layer 19 (audit): the entry that makes a chain. -/
namespace Go.Proofs.YtmmpafaegmejlaaDoor.Oct
open Go.RowKit Sha
set_option linter.unusedSimpArgs false
set_option linter.unusedVariables false

theorem uncons {α : Type} {n : Nat} {l : List α} (h : l.length = n + 1) : ∃ a t, l = a :: t ∧ t.length = n := by
  cases l with
  | nil => cases h
  | cons a t => exact ⟨a, t, rfl, by simpa using h⟩
theorem len32 {α : Type} {l : List α} (h : l.length = 32) : ∃ a0 a1 a2 a3 a4 a5 a6 a7 a8 a9 a10 a11 a12 a13 a14 a15 a16 a17 a18 a19 a20 a21 a22 a23 a24 a25 a26 a27 a28 a29 a30 a31, l = [a0, a1, a2, a3, a4, a5, a6, a7, a8, a9, a10, a11, a12, a13, a14, a15, a16, a17, a18, a19, a20, a21, a22, a23, a24, a25, a26, a27, a28, a29, a30, a31] := by
  obtain ⟨a0, l0, rfl, h0⟩ := uncons h
  obtain ⟨a1, l1, rfl, h1⟩ := uncons h0
  obtain ⟨a2, l2, rfl, h2⟩ := uncons h1
  obtain ⟨a3, l3, rfl, h3⟩ := uncons h2
  obtain ⟨a4, l4, rfl, h4⟩ := uncons h3
  obtain ⟨a5, l5, rfl, h5⟩ := uncons h4
  obtain ⟨a6, l6, rfl, h6⟩ := uncons h5
  obtain ⟨a7, l7, rfl, h7⟩ := uncons h6
  obtain ⟨a8, l8, rfl, h8⟩ := uncons h7
  obtain ⟨a9, l9, rfl, h9⟩ := uncons h8
  obtain ⟨a10, l10, rfl, h10⟩ := uncons h9
  obtain ⟨a11, l11, rfl, h11⟩ := uncons h10
  obtain ⟨a12, l12, rfl, h12⟩ := uncons h11
  obtain ⟨a13, l13, rfl, h13⟩ := uncons h12
  obtain ⟨a14, l14, rfl, h14⟩ := uncons h13
  obtain ⟨a15, l15, rfl, h15⟩ := uncons h14
  obtain ⟨a16, l16, rfl, h16⟩ := uncons h15
  obtain ⟨a17, l17, rfl, h17⟩ := uncons h16
  obtain ⟨a18, l18, rfl, h18⟩ := uncons h17
  obtain ⟨a19, l19, rfl, h19⟩ := uncons h18
  obtain ⟨a20, l20, rfl, h20⟩ := uncons h19
  obtain ⟨a21, l21, rfl, h21⟩ := uncons h20
  obtain ⟨a22, l22, rfl, h22⟩ := uncons h21
  obtain ⟨a23, l23, rfl, h23⟩ := uncons h22
  obtain ⟨a24, l24, rfl, h24⟩ := uncons h23
  obtain ⟨a25, l25, rfl, h25⟩ := uncons h24
  obtain ⟨a26, l26, rfl, h26⟩ := uncons h25
  obtain ⟨a27, l27, rfl, h27⟩ := uncons h26
  obtain ⟨a28, l28, rfl, h28⟩ := uncons h27
  obtain ⟨a29, l29, rfl, h29⟩ := uncons h28
  obtain ⟨a30, l30, rfl, h30⟩ := uncons h29
  obtain ⟨a31, l31, rfl, h31⟩ := uncons h30
  obtain rfl := List.eq_nil_of_length_eq_zero h31
  exact ⟨a0, a1, a2, a3, a4, a5, a6, a7, a8, a9, a10, a11, a12, a13, a14, a15, a16, a17, a18, a19, a20, a21, a22, a23, a24, a25, a26, a27, a28, a29, a30, a31, rfl⟩
set_option maxRecDepth 100000 in
theorem run_build37 (s t : Int) (p q : BA) (h : List UInt8) (hl : h.length = 32) (W : World) : (Instr.build 37 #[(0, iv s), (1, iv t), (2, .string p), (3, .string q), (4, .agg (U h).toArray)]).run Tryd.prog W = .ok (.agg (En.mk s t p q h).cells.toArray) W := by
  obtain ⟨a0, a1, a2, a3, a4, a5, a6, a7, a8, a9, a10, a11, a12, a13, a14, a15, a16, a17, a18, a19, a20, a21, a22, a23, a24, a25, a26, a27, a28, a29, a30, a31, rfl⟩ := len32 hl
  kernel_rfl
set_option maxRecDepth 100000 in
theorem field37 (e : En) (he : e.ok) (W : World) : (Instr.field 37 (.agg e.cells.toArray) 1).run Tryd.prog W = .ok (iv e.tick) W := by
  obtain ⟨s, t, p, q, h⟩ := e
  obtain ⟨a0, a1, a2, a3, a4, a5, a6, a7, a8, a9, a10, a11, a12, a13, a14, a15, a16, a17, a18, a19, a20, a21, a22, a23, a24, a25, a26, a27, a28, a29, a30, a31, rfl⟩ := len32 he.1
  kernel_rfl
/-- the entry that makes a chain with it behind, or the error -/
def nxE (l : List En) (tick : Int) (who what : BA) : En × Int :=
  if tick < (lastE l).tick ∨ 1099511627776 < tick then (zE, 2)
  else if 16 < who.size ∨ 512 < what.size ∨ 4096 ≤ l.length then (zE, 3)
  else (⟨(l.length : Int) + 1, tick, who, what, hdE l⟩, 0)
theorem yl_build5 {o : Oper} {a : Act} (V : World) (t : TypeId) (x0 x1 x2 x3 x4 : Operand) (u0 u1 u2 u3 u4 v : Value) (hop : o.op = .build t #[(0, x0), (1, x1), (2, x2), (3, x3), (4, x4)]) (h0 : a.eval x0 = u0) (h1 : a.eval x1 = u1) (h2 : a.eval x2 = u2) (h3 : a.eval x3 = u3) (h4 : a.eval x4 = u4)
    (hrun : ∀ W, (Instr.build t #[(0, u0), (1, u1), (2, u2), (3, u3), (4, u4)]).run Tryd.prog W = .ok v W) : (execOp a.eval o).run Tryd.prog V = .ok (.value v) V := by
  unfold execOp
  simp [hop, h0, h1, h2, h3, h4, hrun, Result.andThen]
theorem gr_below {w w' : World} {r : Option Nat} (h : Below w.heap.size w w') : w.grownBy w' r := ⟨h.os, h.tape, h.output, h.size, fun k hk _ => h.block k hk⟩
set_option maxRecDepth 100000 in
set_option maxHeartbeats 4000000 in
theorem nx5 {Q : Exit → Act → World → Prop} {x4 x5 x6 x7 x9 x10 x11 x12 x13 x14 x15 x16 x17 x18 x19 x20 x21 x22 x23 x24 x25 x26 x27 x28 x29 x30 x31 x32 x33 x34 x35 x36 x37 x38 x39 x40 x41 x42 x43 x44 x45 x46 x47 x48 x49 x50 : Value} {ds : List Deferred} {A : World} {c r n cap : Nat} {sa : Option Addr} {tick : Int} {who what : BA} {D : List UInt8} {Z : List Value}
    (HL : Hid (c < A.heap.size ∧ some c ≠ some r)) (c0 : A.cell? ⟨c, 0, none⟩ = some (.slice sa n cap)) (HD : Hid (D.length = 32)) (HX : Hid ((En.mk ((n : Int) + 1) tick who what D).ok ∧ Z.length = (En.mk ((n : Int) + 1) tick who what D).cells.length)) (HZ : Hid (Blk A r 37 Z)) (HK : Hid ((n : Int) ≤ 1000000)) (HHD : Hid (∀ V, A.grownBy V (some r) → Blk V r 37 Z → Calls Tryd.prog 37 #[.pointer (some ⟨c, 0, none⟩)] V fun e V2 => e = .returned (.agg (U D).toArray) ∧ Below V.heap.size V V2))
    (hQ : ∀ V1, Blk V1 r 37 (En.mk ((n : Int) + 1) tick who what D).cells → A.grownBy V1 (some r) → Q .normal { tmps := #[.pointer (some ⟨c, 0, none⟩), iv tick, .string who, .string what, x4, x5, x6, x7, .pointer (some ⟨r, 0, none⟩), iv 0, x10, x11, x12, x13, x14, x15, x16, x17, x18, x19, x20, x21, x22, x23, x24, x25, x26, x27, x28, x29, x30, x31, x32, x33, x34, x35, x36, x37, x38, .pointer (some ⟨c, 0, none⟩), .pointer (some ⟨c, 0, none⟩), .pointer (some ⟨c, 0, none⟩), .slice sa n cap, iv (n : Int), iv ((n : Int) + 1), iv tick, .string who, .string what, .pointer (some ⟨c, 0, none⟩), .agg (U D).toArray, .agg (En.mk ((n : Int) + 1) tick who what D).cells.toArray], defers := ds } V1) :
    (Code.region 5 #[{ dst := some 39, op := Op.move (Operand.tmp 0), type := 51, pos := "chain.go:32", after := #[], guard := none }, { dst := some 40, op := Op.nilCheck (Operand.tmp 39), type := 0, pos := "chain.go:32", after := #[{ on := 0, ground := Ground.data }], guard := none }, { dst := some 41, op := Op.fieldAddr 58 (Operand.tmp 40) 0, type := 0, pos := "chain.go:32", after := #[{ on := 1, ground := Ground.data }], guard := none }, { dst := some 42, op := Op.load 27 (Operand.tmp 41), type := 27, pos := "chain.go:32", after := #[{ on := 2, ground := Ground.data }], guard := none }, { dst := some 43, op := Op.call { callee := Callee.builtin Builtin.len, args := #[Operand.tmp 42], argTypes := #[27] }, type := 3, pos := "chain.go:32", after := #[{ on := 3, ground := Ground.data }], guard := none }, { dst := some 44, op := Op.binOp BinOp.add 3 (Operand.tmp 43) (Operand.const (Value.int IntKind.i64 1)) 3, type := 3, pos := "chain.go:32", after := #[{ on := 4, ground := Ground.data }], guard := none }, { dst := some 45, op := Op.move (Operand.tmp 1), type := 3, pos := "chain.go:32", after := #[], guard := none }, { dst := some 46, op := Op.move (Operand.tmp 2), type := 9, pos := "chain.go:32", after := #[], guard := none }, { dst := some 47, op := Op.move (Operand.tmp 3), type := 9, pos := "chain.go:32", after := #[], guard := none }, { dst := some 48, op := Op.move (Operand.tmp 0), type := 51, pos := "chain.go:32", after := #[], guard := none }, { dst := some 49, op := Op.call { callee := Callee.value (Operand.func 37), args := #[Operand.tmp 48], argTypes := #[51] }, type := 35, pos := "chain.go:32", after := #[{ on := 9, ground := Ground.data }], guard := none }, { dst := some 50, op := Op.build 37 #[(0, Operand.tmp 44), (1, Operand.tmp 45), (2, Operand.tmp 46), (3, Operand.tmp 47), (4, Operand.tmp 49)], type := 37, pos := "chain.go:32", after := #[{ on := 5, ground := Ground.data }, { on := 6, ground := Ground.data }, { on := 7, ground := Ground.data }, { on := 8, ground := Ground.data }, { on := 10, ground := Ground.data }], guard := none }, { dst := none, op := Op.store 37 (Operand.tmp 8) (Operand.tmp 50), type := 0, pos := "chain.go:32", after := #[{ on := 11, ground := Ground.data }, { on := 10, ground := Ground.chain }, { on := 0, ground := Ground.phase }, { on := 1, ground := Ground.phase }, { on := 2, ground := Ground.phase }, { on := 3, ground := Ground.phase }, { on := 4, ground := Ground.phase }, { on := 5, ground := Ground.phase }, { on := 6, ground := Ground.phase }, { on := 7, ground := Ground.phase }, { on := 8, ground := Ground.phase }, { on := 9, ground := Ground.phase }, { on := 10, ground := Ground.phase }, { on := 11, ground := Ground.phase }], guard := none }, { dst := some 9, op := Op.assign (Operand.const (Value.int IntKind.i64 0)), type := 30, pos := "chain.go:32", after := #[{ on := 12, ground := Ground.chain }, { on := 0, ground := Ground.phase }, { on := 1, ground := Ground.phase }, { on := 2, ground := Ground.phase }, { on := 3, ground := Ground.phase }, { on := 4, ground := Ground.phase }, { on := 5, ground := Ground.phase }, { on := 6, ground := Ground.phase }, { on := 7, ground := Ground.phase }, { on := 8, ground := Ground.phase }, { on := 9, ground := Ground.phase }, { on := 10, ground := Ground.phase }, { on := 11, ground := Ground.phase }, { on := 12, ground := Ground.phase }], guard := none }] true).wp Tryd.prog Q { tmps := #[.pointer (some ⟨c, 0, none⟩), iv tick, .string who, .string what, x4, x5, x6, x7, .pointer (some ⟨r, 0, none⟩), x9, x10, x11, x12, x13, x14, x15, x16, x17, x18, x19, x20, x21, x22, x23, x24, x25, x26, x27, x28, x29, x30, x31, x32, x33, x34, x35, x36, x37, x38, x39, x40, x41, x42, x43, x44, x45, x46, x47, x48, x49, x50], defers := ds } A := by
  refine Code.wp_mono (Q := fun x a' w' => match x with | .normal => Q .normal a' w' | _ => False) (by intro x a' w' h; cases x <;> first | exact h | exact h.elim) ?_
  refine wp_region_held (S := fun V => A.grownBy V (some r)) (by kernel_rfl) ?_
  have hS0 : Hid (A.grownBy A.drew (some r)) := grown_drewN A 1 _
  change wpAnyH Tryd.prog .any _ _ (fun V => A.grownBy V (some r)) 14 (Array.replicate 14 false) _ A.drew
  obtain ⟨V0, hV0⟩ : ∃ V0, A.drew = V0 := ⟨_, rfl⟩
  rw [hV0]
  rw [hV0] at hS0
  have hZ0 : Hid (Blk V0 r 37 Z) := by rw [← hV0]; exact HZ.out
  clear hV0
  refine wpAnyH_take (i := 0) (oi := { dst := some 39, op := Op.move (Operand.tmp 0), type := 51, pos := "chain.go:32", after := #[], guard := none }) (v := .pointer (some ⟨c, 0, none⟩)) rfl (by kernel_rfl) (by kernel_rfl) (by kernel_rfl) (fun _ _ _ h => h.elim) (Or.inl ⟨by rfl, ?y1⟩) hS0.out ?_
  case y1 =>
    intro V hV
    go_simp
  simp only [Act.put, List.setIfInBounds_toArray, List.set_cons_zero, List.set_cons_succ]
  refine wpAnyH_take (i := 1) (oi := { dst := some 40, op := Op.nilCheck (Operand.tmp 39), type := 0, pos := "chain.go:32", after := #[{ on := 0, ground := Ground.data }], guard := none }) (v := .pointer (some ⟨c, 0, none⟩)) rfl (by kernel_rfl) (by kernel_rfl) (by kernel_rfl) (fun _ _ _ h => h.elim) (Or.inl ⟨by rfl, ?y2⟩) hS0.out ?_
  case y2 =>
    intro V hV
    go_simp
  simp only [Act.put, List.setIfInBounds_toArray, List.set_cons_zero, List.set_cons_succ]
  refine wpAnyH_take (i := 2) (oi := { dst := some 41, op := Op.fieldAddr 58 (Operand.tmp 40) 0, type := 0, pos := "chain.go:32", after := #[{ on := 1, ground := Ground.data }], guard := none }) (v := .pointer (some ⟨c, 0, none⟩)) rfl (by kernel_rfl) (by kernel_rfl) (by kernel_rfl) (fun _ _ _ h => h.elim) (Or.inl ⟨by rfl, ?y3⟩) hS0.out ?_
  case y3 =>
    intro V hV
    go_simp
  simp only [Act.put, List.setIfInBounds_toArray, List.set_cons_zero, List.set_cons_succ]
  refine wpAnyH_take (i := 3) (oi := { dst := some 42, op := Op.load 27 (Operand.tmp 41), type := 27, pos := "chain.go:32", after := #[{ on := 2, ground := Ground.data }], guard := none }) (v := .slice sa n cap) rfl (by kernel_rfl) (by kernel_rfl) (by kernel_rfl) (fun _ _ _ h => h.elim) (Or.inl ⟨by rfl, ?y4⟩) hS0.out ?_
  case y4 =>
    intro V hV
    have hc : V.cell? ⟨c, 0, none⟩ = some (.slice sa n cap) := (World.cell?_of_block (a := ⟨c, 0, none⟩) ((show A.grownBy V (some r) from hV).block c HL.out.1 HL.out.2)).trans c0
    go_simp
  simp only [Act.put, List.setIfInBounds_toArray, List.set_cons_zero, List.set_cons_succ]
  refine wpAnyH_take (i := 4) (oi := { dst := some 43, op := Op.call { callee := Callee.builtin Builtin.len, args := #[Operand.tmp 42], argTypes := #[27] }, type := 3, pos := "chain.go:32", after := #[{ on := 3, ground := Ground.data }], guard := none }) (v := iv (n : Int)) rfl (by kernel_rfl) (by kernel_rfl) (by kernel_rfl) (fun _ _ _ h => h.elim) (Or.inl ⟨by rfl, ?y5⟩) hS0.out ?_
  case y5 =>
    intro V hV
    go_simp
  simp only [Act.put, List.setIfInBounds_toArray, List.set_cons_zero, List.set_cons_succ]
  refine wpAnyH_take (i := 5) (oi := { dst := some 44, op := Op.binOp BinOp.add 3 (Operand.tmp 43) (Operand.const (Value.int IntKind.i64 1)) 3, type := 3, pos := "chain.go:32", after := #[{ on := 4, ground := Ground.data }], guard := none }) (v := iv ((n : Int) + 1)) rfl (by kernel_rfl) (by kernel_rfl) (by kernel_rfl) (fun _ _ _ h => h.elim) (Or.inl ⟨by rfl, ?y6⟩) hS0.out ?_
  case y6 =>
    intro V hV
    have q1 := HK.out
    have q2 : IntKind.i64.wrap ((n : Int) + 1) = (n : Int) + 1 := by rw [IntKind.wrap_i64]; omega
    go_simp
  simp only [Act.put, List.setIfInBounds_toArray, List.set_cons_zero, List.set_cons_succ]
  refine wpAnyH_take (i := 6) (oi := { dst := some 45, op := Op.move (Operand.tmp 1), type := 3, pos := "chain.go:32", after := #[], guard := none }) (v := iv tick) rfl (by kernel_rfl) (by kernel_rfl) (by kernel_rfl) (fun _ _ _ h => h.elim) (Or.inl ⟨by rfl, ?y7⟩) hS0.out ?_
  case y7 =>
    intro V hV
    go_simp
  simp only [Act.put, List.setIfInBounds_toArray, List.set_cons_zero, List.set_cons_succ]
  refine wpAnyH_take (i := 7) (oi := { dst := some 46, op := Op.move (Operand.tmp 2), type := 9, pos := "chain.go:32", after := #[], guard := none }) (v := .string who) rfl (by kernel_rfl) (by kernel_rfl) (by kernel_rfl) (fun _ _ _ h => h.elim) (Or.inl ⟨by rfl, ?y8⟩) hS0.out ?_
  case y8 =>
    intro V hV
    go_simp
  simp only [Act.put, List.setIfInBounds_toArray, List.set_cons_zero, List.set_cons_succ]
  refine wpAnyH_take (i := 8) (oi := { dst := some 47, op := Op.move (Operand.tmp 3), type := 9, pos := "chain.go:32", after := #[], guard := none }) (v := .string what) rfl (by kernel_rfl) (by kernel_rfl) (by kernel_rfl) (fun _ _ _ h => h.elim) (Or.inl ⟨by rfl, ?y9⟩) hS0.out ?_
  case y9 =>
    intro V hV
    go_simp
  simp only [Act.put, List.setIfInBounds_toArray, List.set_cons_zero, List.set_cons_succ]
  refine wpAnyH_take (i := 9) (oi := { dst := some 48, op := Op.move (Operand.tmp 0), type := 51, pos := "chain.go:32", after := #[], guard := none }) (v := .pointer (some ⟨c, 0, none⟩)) rfl (by kernel_rfl) (by kernel_rfl) (by kernel_rfl) (fun _ _ _ h => h.elim) (Or.inl ⟨by rfl, ?y10⟩) hS0.out ?_
  case y10 =>
    intro V hV
    go_simp
  simp only [Act.put, List.setIfInBounds_toArray, List.set_cons_zero, List.set_cons_succ]
  refine wpAnyH_ready (rs := [10]) (by kernel_rfl) (by simp) (AllReadyH.cons (i := 10) (o := { dst := some 49, op := Op.call { callee := Callee.value (Operand.func 37), args := #[Operand.tmp 48], argTypes := #[51] }, type := 35, pos := "chain.go:32", after := #[{ on := 9, ground := Ground.data }], guard := none }) rfl ?_ AllReadyH.nil)
  · intro K1 hK1
    rw [if_pos (by rfl)]
    have HC1 := HHD.out V0 hS0.out hZ0.out
    go_wp2_with fail
    refine HC1.mono ?_
    rintro x V1 ⟨rfl, hb1⟩
    dsimp only
    clear HC1
    have hS1 : Hid (A.grownBy V1 (some r)) := grown_tr hS0.out (gr_below hb1)
    have hZ1 : Hid (Blk V1 r 37 Z) := hZ0.out.below hb1 hZ0.out.lt
    clear hb1
    refine hK1.out _ _ hS1.out ?_
    clear hK1
    intro _
    try simp only [Act.put, List.setIfInBounds_toArray, List.set_cons_zero, List.set_cons_succ]
    refine wpAnyH_take (i := 11) (oi := { dst := some 50, op := Op.build 37 #[(0, Operand.tmp 44), (1, Operand.tmp 45), (2, Operand.tmp 46), (3, Operand.tmp 47), (4, Operand.tmp 49)], type := 37, pos := "chain.go:32", after := #[{ on := 5, ground := Ground.data }, { on := 6, ground := Ground.data }, { on := 7, ground := Ground.data }, { on := 8, ground := Ground.data }, { on := 10, ground := Ground.data }], guard := none }) (v := .agg (En.mk ((n : Int) + 1) tick who what D).cells.toArray) rfl (by kernel_rfl) (by kernel_rfl) (by kernel_rfl) (fun _ _ _ h => h.elim) (Or.inl ⟨by rfl, ?y11⟩) hS1.out ?_
    case y11 =>
      intro V hV
      exact yl_build5 V 37 _ _ _ _ _ _ _ _ _ _ _ rfl rfl rfl rfl rfl rfl (run_build37 _ _ _ _ D HD.out)
    simp only [Act.put, List.setIfInBounds_toArray, List.set_cons_zero, List.set_cons_succ]
    refine wpAnyH_ready (rs := [12]) (by kernel_rfl) (by simp) (AllReadyH.cons (i := 12) (o := { dst := none, op := Op.store 37 (Operand.tmp 8) (Operand.tmp 50), type := 0, pos := "chain.go:32", after := #[{ on := 11, ground := Ground.data }, { on := 10, ground := Ground.chain }, { on := 0, ground := Ground.phase }, { on := 1, ground := Ground.phase }, { on := 2, ground := Ground.phase }, { on := 3, ground := Ground.phase }, { on := 4, ground := Ground.phase }, { on := 5, ground := Ground.phase }, { on := 6, ground := Ground.phase }, { on := 7, ground := Ground.phase }, { on := 8, ground := Ground.phase }, { on := 9, ground := Ground.phase }, { on := 10, ground := Ground.phase }, { on := 11, ground := Ground.phase }], guard := none }) rfl ?_ AllReadyH.nil)
    · intro K1 hK1
      refine step_stB (by rfl) 37 (.tmp 8) (.tmp 50) rfl r (En.mk ((n : Int) + 1) tick who what D).cells 37 Z rfl rfl hZ1.out HX.out.2 (info37 HX.out.1) (En.one _) ?_
      intro V2 hX2 hg2
      have hS2 : Hid (A.grownBy V2 (some r)) := grown_tr hS1.out hg2.out
      clear hg2
      refine hK1.out _ _ hS2.out ?_
      clear hK1
      intro _
      try simp only [Act.put, List.setIfInBounds_toArray, List.set_cons_zero, List.set_cons_succ]
      refine wpAnyH_take (i := 13) (oi := { dst := some 9, op := Op.assign (Operand.const (Value.int IntKind.i64 0)), type := 30, pos := "chain.go:32", after := #[{ on := 12, ground := Ground.chain }, { on := 0, ground := Ground.phase }, { on := 1, ground := Ground.phase }, { on := 2, ground := Ground.phase }, { on := 3, ground := Ground.phase }, { on := 4, ground := Ground.phase }, { on := 5, ground := Ground.phase }, { on := 6, ground := Ground.phase }, { on := 7, ground := Ground.phase }, { on := 8, ground := Ground.phase }, { on := 9, ground := Ground.phase }, { on := 10, ground := Ground.phase }, { on := 11, ground := Ground.phase }, { on := 12, ground := Ground.phase }], guard := none }) (v := iv 0) rfl (by kernel_rfl) (by kernel_rfl) (by kernel_rfl) (fun _ _ _ h => h.elim) (Or.inl ⟨by rfl, ?y12⟩) hS2.out ?_
      case y12 =>
        intro V hV
        go_simp
      simp only [Act.put, List.setIfInBounds_toArray, List.set_cons_zero, List.set_cons_succ]
      refine wpAnyH_done (by kernel_rfl) ?_ _
      exact hQ V2 hX2.out hS2.out
end Go.Proofs.YtmmpafaegmejlaaDoor.Oct

/- Layer 19 (audit): next. -/
namespace Go.Proofs.YtmmpafaegmejlaaDoor.Oct
open Go.RowKit Sha
set_option linter.unusedSimpArgs false
set_option linter.unusedVariables false

set_option maxRecDepth 100000 in
set_option maxHeartbeats 2000000 in
theorem next_is {w : World} {c : Nat} {l : List En} (h : Ch w c l) (hk : KT w) (hs : ST w) (tick : Int) (who what : BA) (hw : who.size ≤ 140737488355328) (hwt : what.size ≤ 140737488355328) (ht : tick ≤ 9223372036854775807) : Calls Tryd.prog 28 #[.pointer (some ⟨c, 0, none⟩), iv tick, .string who, .string what] w fun e w' => e = .returned (.tuple #[.agg (nxE l tick who what).1.cells.toArray, iv (nxE l tick who what).2]) ∧ Below w.heap.size w w' := by
  have HCh : Hid (Ch w c l) := h
  have HW : Hid (Ch w c l ∧ KT w ∧ ST w) := ⟨h, hk, hs⟩
  obtain ⟨v, hc, ⟨hok, a, cap, rfl, hle, hcap, hr⟩, hn, hsz⟩ := h
  obtain ⟨Z, hZ, HZ⟩ := zero37
  have HBL := built37
  obtain ⟨r, hr0⟩ : ∃ b, w.heap.size = b := ⟨_, rfl⟩
  obtain ⟨A, hA⟩ : ∃ A, w.alloc (.cells Z.toArray 37) = A := ⟨_, rfl⟩
  have hB : Below w.heap.size w A := by rw [← hA]; exact below_al _ _
  have hZA : Blk A r 37 Z := by rw [← hA, ← hr0]; exact Blk.new w _ _
  have HA : Hid (Below w.heap.size w A ∧ Blk A r 37 Z ∧ w.heap.size ≤ r ∧ Z = zE.cells ∧ KT A ∧ ST A ∧ Ch A c l ∧ c < w.heap.size ∧ Blk A c 58 [.slice a l.length cap]) := ⟨hB, hZA, by omega, HZ.out, hk.below hB, hs.below hB, HCh.out.below hB, hc.lt, hc.below hB hc.lt⟩
  obtain ⟨x, hx⟩ : ∃ x, lastE l = x := ⟨_, rfl⟩
  obtain ⟨n, hnl⟩ : ∃ n, l.length = n := ⟨_, rfl⟩
  obtain ⟨m1, hm1⟩ : ∃ n, who.size = n := ⟨_, rfl⟩
  obtain ⟨m2, hm2⟩ : ∃ n, what.size = n := ⟨_, rfl⟩
  have hxok : x.ok := by
    rw [← hx]
    by_cases hne : l = []
    · rw [hne]; exact zE_ok
    · exact hok _ (last_mem hne)
  have HM : Hid (who.size = m1 ∧ what.size = m2 ∧ l.length = n ∧ tick ≤ 9223372036854775807 ∧ n ≤ 1000000 ∧ lastE l = x ∧ m1 ≤ 140737488355328 ∧ m2 ≤ 140737488355328) := ⟨hm1, hm2, hnl, ht, by omega, hx, by omega, by omega⟩
  have hf := field37 x hxok
  have qm1 : (m1 : Int) ≤ 140737488355328 := by omega
  have qm2 : (m2 : Int) ≤ 140737488355328 := by omega
  have qn : (n : Int) ≤ 1000000 := by omega
  rw [hnl] at HA
  clear hB hZA hc HZ hk hs HCh hok hle hcap hr hn hsz hnl hw hwt ht hxok
  obtain ⟨q, hq⟩ : ∃ q, nxE l tick who what = q := ⟨_, rfl⟩
  have hq2 := hq
  unfold nxE at hq2
  rw [hx, hm1, hm2, HM.out.2.2.1] at hq2
  rw [hq]
  clear hq
  go_enter Tryd.func28, Tryd.ntmps28
  go_wp2_with fail
  refine (end_is HA.out.2.2.2.2.2.2.1).mono ?_
  rintro e W1 ⟨rfl, hb⟩
  have H1 : Hid (Below w.heap.size w W1 ∧ Blk W1 r 37 Z ∧ KT W1 ∧ ST W1 ∧ Ch W1 c l ∧ Blk W1 c 58 [.slice a n cap]) := ⟨below_tr HA.out.1 hb, HA.out.2.1.below hb HA.out.2.1.lt, HA.out.2.2.2.2.1.below hb, HA.out.2.2.2.2.2.1.below hb, HA.out.2.2.2.2.2.2.1.below hb, HA.out.2.2.2.2.2.2.2.2.below hb HA.out.2.2.2.2.2.2.2.2.lt⟩
  rw [hx]
  have c0 := H1.out.2.2.2.2.2.cell (i := 0) rfl
  clear hb hA hr0 hx
  by_cases h1 : tick < x.tick
  · have HV : Hid (q = (zE, 2)) := by show q = _; rw [← hq2, if_pos (.inl h1)]
    clear hq2
    go_wp2_with (with_reducible change wpList _ _ _ ({ dst := some 20, op := _, type := _, pos := _, after := _, guard := _ } :: _) _ _; refine Hid.out ?_)
    show wpList _ _ _ _ _ _
    refine wpList_built rfl 37 _ rfl zE.cells.toArray (by rw [← HBL]; simp) ?_
    go_wp2_with (with_reducible change wpList _ _ _ ({ dst := none, op := Op.store 37 _ _, type := _, pos := _, after := _, guard := _ } :: _) _ _; refine Hid.out ?_)
    show wpList _ _ _ _ _ _
    refine wpList_store_blk rfl 37 (.tmp 8) (.tmp 20) rfl r 0 37 Z zE.cells rfl rfl H1.out.2.1 (by rw [HA.out.2.2.2.1]; omega) (info37 zE_ok) (En.one _) ?_
    intro W2 hx hg
    have H2 : Hid (Blk W2 r 37 zE.cells ∧ Below w.heap.size w W2) := ⟨blk_all hx.out (by rw [HA.out.2.2.2.1]), below_gr H1.out.1 hg.out HA.out.2.2.1⟩
    clear hx hg
    go_wp2
    refine ret_cu rfl rfl rfl H2.out.1 Tryd.underlying37 rfl (info37 zE_ok) ⟨?_, H2.out.2⟩
    rw [HV.out]
    rfl
  by_cases h2 : 1099511627776 < tick
  · have HV : Hid (q = (zE, 2)) := by show q = _; rw [← hq2, if_pos (.inr h2)]
    have h1' : x.tick ≤ tick := by omega
    clear hq2 h1
    go_wp2_with (with_reducible change wpList _ _ _ ({ dst := some 20, op := _, type := _, pos := _, after := _, guard := _ } :: _) _ _; refine Hid.out ?_)
    show wpList _ _ _ _ _ _
    refine wpList_built rfl 37 _ rfl zE.cells.toArray (by rw [← HBL]; simp) ?_
    go_wp2_with (with_reducible change wpList _ _ _ ({ dst := none, op := Op.store 37 _ _, type := _, pos := _, after := _, guard := _ } :: _) _ _; refine Hid.out ?_)
    show wpList _ _ _ _ _ _
    refine wpList_store_blk rfl 37 (.tmp 8) (.tmp 20) rfl r 0 37 Z zE.cells rfl rfl H1.out.2.1 (by rw [HA.out.2.2.2.1]; omega) (info37 zE_ok) (En.one _) ?_
    intro W2 hx hg
    have H2 : Hid (Blk W2 r 37 zE.cells ∧ Below w.heap.size w W2) := ⟨blk_all hx.out (by rw [HA.out.2.2.2.1]), below_gr H1.out.1 hg.out HA.out.2.2.1⟩
    clear hx hg
    go_wp2
    refine ret_cu rfl rfl rfl H2.out.1 Tryd.underlying37 rfl (info37 zE_ok) ⟨?_, H2.out.2⟩
    rw [HV.out]
    rfl
  have h1' : x.tick ≤ tick := by omega
  have h2' : tick ≤ 1099511627776 := by omega
  rw [if_neg (fun k => k.elim h1 h2)] at hq2
  clear h1 h2
  by_cases h3 : (16 : Int) < (m1 : Int)
  · have HV : Hid (q = (zE, 3)) := by show q = _; rw [← hq2, if_pos (.inl (by omega))]
    clear hq2
    go_wp2_with (with_reducible change wpList _ _ _ ({ dst := some 38, op := _, type := _, pos := _, after := _, guard := _ } :: _) _ _; refine Hid.out ?_)
    show wpList _ _ _ _ _ _
    refine wpList_built rfl 37 _ rfl zE.cells.toArray (by rw [← HBL]; simp) ?_
    go_wp2_with (with_reducible change wpList _ _ _ ({ dst := none, op := Op.store 37 _ _, type := _, pos := _, after := _, guard := _ } :: _) _ _; refine Hid.out ?_)
    show wpList _ _ _ _ _ _
    refine wpList_store_blk rfl 37 (.tmp 8) (.tmp 38) rfl r 0 37 Z zE.cells rfl rfl H1.out.2.1 (by rw [HA.out.2.2.2.1]; omega) (info37 zE_ok) (En.one _) ?_
    intro W2 hx hg
    have H2 : Hid (Blk W2 r 37 zE.cells ∧ Below w.heap.size w W2) := ⟨blk_all hx.out (by rw [HA.out.2.2.2.1]), below_gr H1.out.1 hg.out HA.out.2.2.1⟩
    clear hx hg
    go_wp2
    refine ret_cu rfl rfl rfl H2.out.1 Tryd.underlying37 rfl (info37 zE_ok) ⟨?_, H2.out.2⟩
    rw [HV.out]
    rfl
  by_cases h4 : (512 : Int) < (m2 : Int)
  · have HV : Hid (q = (zE, 3)) := by show q = _; rw [← hq2, if_pos (.inr (.inl (by omega)))]
    have h3' : (m1 : Int) ≤ 16 := by omega
    clear hq2 h3
    go_wp2_with (with_reducible change wpList _ _ _ ({ dst := some 38, op := _, type := _, pos := _, after := _, guard := _ } :: _) _ _; refine Hid.out ?_)
    show wpList _ _ _ _ _ _
    refine wpList_built rfl 37 _ rfl zE.cells.toArray (by rw [← HBL]; simp) ?_
    go_wp2_with (with_reducible change wpList _ _ _ ({ dst := none, op := Op.store 37 _ _, type := _, pos := _, after := _, guard := _ } :: _) _ _; refine Hid.out ?_)
    show wpList _ _ _ _ _ _
    refine wpList_store_blk rfl 37 (.tmp 8) (.tmp 38) rfl r 0 37 Z zE.cells rfl rfl H1.out.2.1 (by rw [HA.out.2.2.2.1]; omega) (info37 zE_ok) (En.one _) ?_
    intro W2 hx hg
    have H2 : Hid (Blk W2 r 37 zE.cells ∧ Below w.heap.size w W2) := ⟨blk_all hx.out (by rw [HA.out.2.2.2.1]), below_gr H1.out.1 hg.out HA.out.2.2.1⟩
    clear hx hg
    go_wp2
    refine ret_cu rfl rfl rfl H2.out.1 Tryd.underlying37 rfl (info37 zE_ok) ⟨?_, H2.out.2⟩
    rw [HV.out]
    rfl
  by_cases h5 : (4096 : Int) ≤ (n : Int)
  · have HV : Hid (q = (zE, 3)) := by show q = _; rw [← hq2, if_pos (.inr (.inr (by omega)))]
    have h3' : (m1 : Int) ≤ 16 := by omega
    have h4' : (m2 : Int) ≤ 512 := by omega
    clear hq2 h3 h4
    go_wp2_with (with_reducible change wpList _ _ _ ({ dst := some 38, op := _, type := _, pos := _, after := _, guard := _ } :: _) _ _; refine Hid.out ?_)
    show wpList _ _ _ _ _ _
    refine wpList_built rfl 37 _ rfl zE.cells.toArray (by rw [← HBL]; simp) ?_
    go_wp2_with (with_reducible change wpList _ _ _ ({ dst := none, op := Op.store 37 _ _, type := _, pos := _, after := _, guard := _ } :: _) _ _; refine Hid.out ?_)
    show wpList _ _ _ _ _ _
    refine wpList_store_blk rfl 37 (.tmp 8) (.tmp 38) rfl r 0 37 Z zE.cells rfl rfl H1.out.2.1 (by rw [HA.out.2.2.2.1]; omega) (info37 zE_ok) (En.one _) ?_
    intro W2 hx hg
    have H2 : Hid (Blk W2 r 37 zE.cells ∧ Below w.heap.size w W2) := ⟨blk_all hx.out (by rw [HA.out.2.2.2.1]), below_gr H1.out.1 hg.out HA.out.2.2.1⟩
    clear hx hg
    go_wp2
    refine ret_cu rfl rfl rfl H2.out.1 Tryd.underlying37 rfl (info37 zE_ok) ⟨?_, H2.out.2⟩
    rw [HV.out]
    rfl
  have h3' : (m1 : Int) ≤ 16 := by omega
  have h4' : (m2 : Int) ≤ 512 := by omega
  have h5' : (n : Int) < 4096 := by omega
  rw [if_neg (by omega)] at hq2
  obtain ⟨D, hD⟩ : ∃ D, hdE l = D := ⟨_, rfl⟩
  have HV : Hid (q = (⟨(n : Int) + 1, tick, who, what, D⟩, 0) ∧ hdE l = D ∧ D.length = 32) := by
    refine ⟨by rw [← hq2, ← hD], hD, by rw [← hD]; exact hdE_len l⟩
  have HX : Hid ((En.mk ((n : Int) + 1) tick who what D).ok ∧ Z.length = (En.mk ((n : Int) + 1) tick who what D).cells.length) := by
    have : (En.mk ((n : Int) + 1) tick who what D).ok := ⟨HV.out.2.2, by show (n : Int) + 1 ≤ _; omega, HM.out.2.2.2.1, by show who.size ≤ _; rw [hm1]; exact HM.out.2.2.2.2.2.2.1, by show what.size ≤ _; rw [hm2]; exact HM.out.2.2.2.2.2.2.2⟩
    exact ⟨this, by rw [HA.out.2.2.2.1, En.len zE_ok, En.len this]⟩
  have HHD : Hid (∀ V, W1.grownBy V (some r) → Blk V r 37 Z → Calls Tryd.prog 37 #[.pointer (some ⟨c, 0, none⟩)] V fun e V2 => e = .returned (.agg (U D).toArray) ∧ Below V.heap.size V V2) := by
    intro V hV hZ2
    have hbV := below_gr H1.out.1 hV HA.out.2.2.1
    exact head_is (HW.out.1.below hbV) (HW.out.2.1.below hbV) (HW.out.2.2.below hbV) D HV.out.2.1
  clear hq2 h3 h4 h5 hD
  go_wp2_with fail
  refine nx5 (sa := a) (n := n) (cap := cap) (D := D) (Z := Z) ⟨H1.out.2.2.2.2.2.lt, by have := HA.out.2.2.1; have := HA.out.2.2.2.2.2.2.2.1; simp; omega⟩ c0 HV.out.2.2 HX H1.out.2.1 qn HHD ?_
  intro W2 hx2 hg2
  have H2 : Hid (Blk W2 r 37 (En.mk ((n : Int) + 1) tick who what D).cells ∧ Below w.heap.size w W2) := ⟨hx2, below_gr H1.out.1 hg2 HA.out.2.2.1⟩
  clear hx2 hg2
  go_wp2
  refine ret_cu rfl rfl rfl H2.out.1 Tryd.underlying37 rfl (info37 HX.out.1) ⟨?_, H2.out.2⟩
  rw [HV.out.1]
  rfl
end Go.Proofs.YtmmpafaegmejlaaDoor.Oct

/- Layer 19 (audit): digests and entries held against each other. -/
namespace Go.Proofs.YtmmpafaegmejlaaDoor.Oct
open Go.RowKit Sha
set_option linter.unusedSimpArgs false
set_option linter.unusedVariables false

theorem part5 (xs : Array Value) (i : Nat) (v : Value) (h : xs[i]? = some v) (W : World) : (part 5 xs i).run Tryd.prog W = .ok v W := by
  simp [part, isAgg, run_underlying Tryd.underlying5, h]
theorem eqItems_is (k : Nat) (a b : List UInt8) (ha : a.length = 32) (hb : b.length = 32) (W : World) : ∀ is : List Nat, (∀ i ∈ is, i < 32) → (Op.eqItems (k + 1) 5 1 (U a).toArray (U b).toArray is).run Tryd.prog W = .ok (is.all fun i => a[i]? == b[i]?) W
  | [], _ => by simp [Op.eqItems]
  | i :: is, h => by
    have hi : i < 32 := h i (by simp)
    have hia : i < a.length := by omega
    have hib : i < b.length := by omega
    have hp := part5 (U a).toArray i _ (by rw [List.getElem?_toArray]; exact U_get a i hia) W
    have hp2 := part5 (U b).toArray i _ (by rw [List.getElem?_toArray]; exact U_get b i hib) W
    have he := run_equalIn_int (P := Tryd.prog) (w := W) k 5 .u8 .u8 (a[i].toNat : Int) (b[i].toNat : Int) Tryd.underlying5
    have ih := eqItems_is k a b ha hb W is (fun j hj => h j (by simp [hj]))
    have e1 : (a[i]? == b[i]?) = ((a[i].toNat : Int) == (b[i].toNat : Int)) := by
      rw [List.getElem?_eq_getElem hia, List.getElem?_eq_getElem hib]
      by_cases hc : a[i] = b[i]
      · simp [hc]
      · have : ¬ (a[i].toNat : Int) = b[i].toNat := fun hx => hc (UInt8.toNat_inj.1 (by omega))
        rw [beq_eq_false_iff_ne.2 this]
        simpa using hc
    simp only [Op.eqItems, Sem.run_bind, Nat.mul_one, hp, hp2, Result.andThen_ok, he]
    simp only [List.all_cons, e1]
    cases hc : ((a[i].toNat : Int) == (b[i].toNat : Int)) with
    | true => simpa using ih
    | false => simp
theorem eqH (k : Nat) (a b : List UInt8) (ha : a.length = 32) (hb : b.length = 32) (W : World) : (Op.equalIn (k + 2) 35 (.agg (U a).toArray) (.agg (U b).toArray)).run Tryd.prog W = .ok (decide (a = b)) W := by
  obtain ⟨i, hi, -⟩ := Option.map_eq_some_iff.1 (show (Tryd.prog.info? 5).map (·.size) = some 1 by kernel_rfl)
  rw [run_equalIn_array W (k + 1) (U a).toArray (U b).toArray Tryd.underlying35 hi, show Tryd.prog.cellsOf 5 = 1 by kernel_rfl, eqItems_is k a b ha hb W _ (by intro i hi; rw [List.mem_range] at hi; omega)]
  congr 1
  rw [Bool.eq_iff_iff]
  simp only [List.all_eq_true, List.mem_range, beq_iff_eq, decide_eq_true_eq]
  constructor
  · intro h
    apply List.ext_getElem?
    intro i
    by_cases hi : i < 32
    · exact h i hi
    · rw [List.getElem?_eq_none (by omega), List.getElem?_eq_none (by omega)]
  · rintro rfl i _; rfl
/-- what is looked at of fields -/
def eqT (d : Nat) (xs ys : Array Value) : List (String × TypeId × Nat) → Sem Bool
  | [] => pure true
  | f :: fs =>
    if f.1 ≠ "_" then do
      let a ← part f.2.1 xs f.2.2
      let b ← part f.2.1 ys f.2.2
      let r ← Op.equalIn d f.2.1 a b
      if (!r) = true then pure false else eqT d xs ys fs
    else eqT d xs ys fs
theorem eqT_is (d : Nat) (xs ys : Array Value) : ∀ fs : List Field, Op.eqFields d xs ys fs = eqT d xs ys (fs.map fun f => (f.name, f.type, f.offset))
  | [] => rfl
  | f :: fs => by
    simp only [Op.eqFields, eqT, List.map_cons, eqT_is d xs ys fs]
theorem fields37 : (Tryd.prog.fieldsOf 37).toList.map (fun f => (f.name, f.type, f.offset)) = [("Seq", 3, 0), ("Tick", 3, 1), ("Who", 9, 2), ("What", 9, 3), ("Prev", 35, 4)] := by kernel_rfl
theorem part3 (t : TypeId) (d : TypeDesc) (hu : Tryd.prog.underlying t = some d) (hd : d.isRow = false) (xs : Array Value) (i : Nat) (v : Value) (h : xs[i]? = some v) (W : World) : (part t xs i).run Tryd.prog W = .ok v W := by
  have : (isAgg t).run Tryd.prog W = .ok false W := by
    simp [isAgg, run_underlying hu]
    cases d <;> first | rfl | cases hd
  simp [part, this, h]
theorem part35 (xs : Array Value) (l : List UInt8) (h : xs.extract 4 36 = (U l).toArray) (W : World) : (part 35 xs 4).run Tryd.prog W = .ok (.agg (U l).toArray) W := by
  have h1 : (isAgg 35).run Tryd.prog W = .ok true W := by kernel_rfl
  have h2 : (sizeOf 35).run Tryd.prog W = .ok 32 W := by kernel_rfl
  simp [part, h1, h2, h]
theorem ex4 (e : En) (h : e.ok) : e.cells.toArray.extract 4 36 = (U e.prev).toArray := by
  apply Array.toList_inj.1
  rw [Array.toList_extract, List.extract_eq_take_drop]
  show (U e.prev).take 32 = U e.prev
  rw [List.take_of_length_le (by rw [U_length, h.1]; omega)]
/-- are two entries the same? -/
def eqEn (x y : En) : Bool := decide (x.seq = y.seq) && decide (x.tick = y.tick) && decide (x.who = y.who) && decide (x.what = y.what) && decide (x.prev = y.prev)
theorem eqEn_iff (x y : En) : eqEn x y = true ↔ x = y := by
  unfold eqEn
  simp only [Bool.and_eq_true, decide_eq_true_eq]
  cases x; cases y; simp [and_assoc]
theorem eqT_cons {P : Program} {W : World} {d : Nat} {xs ys : Array Value} {nm : String} {t : TypeId} {o : Nat} {a b : Value} {B C : Bool} {fs : List (String × TypeId × Nat)} (hn : nm ≠ "_") (ha : (part t xs o).run P W = .ok a W) (hb : (part t ys o).run P W = .ok b W) (hq : (Op.equalIn d t a b).run P W = .ok B W) (hr : (eqT d xs ys fs).run P W = .ok C W) :
    (eqT d xs ys ((nm, t, o) :: fs)).run P W = .ok (B && C) W := by
  unfold eqT
  rw [if_pos hn]
  simp only [Sem.run_bind, ha, hb, hq, Result.andThen_ok]
  cases B
  · rfl
  · simpa using hr
theorem eqT_run {d : Nat} {W : World} {xs ys : Array Value} {a1 b1 a2 b2 a3 b3 a4 b4 a5 b5 : Value} {B1 B2 B3 B4 B5 : Bool} (h1 : (part 3 xs 0).run Tryd.prog W = .ok a1 W) (k1 : (part 3 ys 0).run Tryd.prog W = .ok b1 W) (q1 : (Op.equalIn d 3 a1 b1).run Tryd.prog W = .ok B1 W) (h2 : (part 3 xs 1).run Tryd.prog W = .ok a2 W) (k2 : (part 3 ys 1).run Tryd.prog W = .ok b2 W) (q2 : (Op.equalIn d 3 a2 b2).run Tryd.prog W = .ok B2 W) (h3 : (part 9 xs 2).run Tryd.prog W = .ok a3 W) (k3 : (part 9 ys 2).run Tryd.prog W = .ok b3 W) (q3 : (Op.equalIn d 9 a3 b3).run Tryd.prog W = .ok B3 W) (h4 : (part 9 xs 3).run Tryd.prog W = .ok a4 W) (k4 : (part 9 ys 3).run Tryd.prog W = .ok b4 W) (q4 : (Op.equalIn d 9 a4 b4).run Tryd.prog W = .ok B4 W) (h5 : (part 35 xs 4).run Tryd.prog W = .ok a5 W) (k5 : (part 35 ys 4).run Tryd.prog W = .ok b5 W) (q5 : (Op.equalIn d 35 a5 b5).run Tryd.prog W = .ok B5 W) :
    (eqT d xs ys [("Seq", 3, 0), ("Tick", 3, 1), ("Who", 9, 2), ("What", 9, 3), ("Prev", 35, 4)]).run Tryd.prog W = .ok (B1 && B2 && B3 && B4 && B5) W := by
  have e5 : (eqT d xs ys []).run Tryd.prog W = .ok true W := rfl
  have r := eqT_cons (by decide : "Seq" ≠ "_") h1 k1 q1 (eqT_cons (by decide : "Tick" ≠ "_") h2 k2 q2 (eqT_cons (by decide : "Who" ≠ "_") h3 k3 q3 (eqT_cons (by decide : "What" ≠ "_") h4 k4 q4 (eqT_cons (by decide : "Prev" ≠ "_") h5 k5 q5 e5))))
  rw [r, Bool.and_true, ← Bool.and_assoc, ← Bool.and_assoc, ← Bool.and_assoc]
theorem eqE (k : Nat) (x y : En) (hx : x.ok) (hy : y.ok) (W : World) : (Op.equalIn (k + 3) 37 (.agg x.cells.toArray) (.agg y.cells.toArray)).run Tryd.prog W = .ok (eqEn x y) W := by
  rw [run_equalIn_struct W (k + 2) 37 _ _ (by kernel_rfl) (by kernel_rfl), eqT_is, fields37]
  have p1 := fun (e : En) => part3 3 _ Tryd.underlying3 rfl e.cells.toArray 0 (iv e.seq) rfl W
  have p2 := fun (e : En) => part3 3 _ Tryd.underlying3 rfl e.cells.toArray 1 (iv e.tick) rfl W
  have p3 := fun (e : En) => part3 9 _ Tryd.underlying9 rfl e.cells.toArray 2 (.string e.who) rfl W
  have p4 := fun (e : En) => part3 9 _ Tryd.underlying9 rfl e.cells.toArray 3 (.string e.what) rfl W
  have p5 := part35 _ _ (ex4 x hx) W
  have p6 := part35 _ _ (ex4 y hy) W
  have q1 : (Op.equalIn (k + 2) 3 (iv x.seq) (iv y.seq)).run Tryd.prog W = .ok (x.seq == y.seq) W := run_equalIn_int (P := Tryd.prog) (w := W) (k + 1) 3 .i64 .i64 x.seq y.seq Tryd.underlying3
  have q2 : (Op.equalIn (k + 2) 3 (iv x.tick) (iv y.tick)).run Tryd.prog W = .ok (x.tick == y.tick) W := run_equalIn_int (P := Tryd.prog) (w := W) (k + 1) 3 .i64 .i64 x.tick y.tick Tryd.underlying3
  have q3 : (Op.equalIn (k + 2) 9 (.string x.who) (.string y.who)).run Tryd.prog W = .ok (x.who.toList == y.who.toList) W := run_equalIn_string (P := Tryd.prog) (w := W) (k + 1) 9 x.who y.who Tryd.underlying9
  have q4 : (Op.equalIn (k + 2) 9 (.string x.what) (.string y.what)).run Tryd.prog W = .ok (x.what.toList == y.what.toList) W := run_equalIn_string (P := Tryd.prog) (w := W) (k + 1) 9 x.what y.what Tryd.underlying9
  have q5 : (Op.equalIn (k + 2) 35 (.agg (U x.prev).toArray) (.agg (U y.prev).toArray)).run Tryd.prog W = .ok (decide (x.prev = y.prev)) W := eqH k x.prev y.prev hx.1 hy.1 W
  have tl : ∀ a b : BA, decide (a = b) = (a.toList == b.toList) := fun a b => by
    rw [Bool.eq_iff_iff]
    simp only [beq_iff_eq, decide_eq_true_eq, toList_d]
    exact ⟨fun h => by rw [h], fun h => ba_ext h⟩
  have ti : ∀ a b : Int, decide (a = b) = (a == b) := fun a b => by rw [Bool.eq_iff_iff]; simp
  have hE : eqEn x y = ((x.seq == y.seq) && (x.tick == y.tick) && (x.who.toList == y.who.toList) && (x.what.toList == y.what.toList) && decide (x.prev = y.prev)) := by
    unfold eqEn
    rw [ti, ti, tl, tl]
  rw [hE]
  generalize (x.seq == y.seq) = B1 at q1
  generalize (x.tick == y.tick) = B2 at q2
  generalize (x.who.toList == y.who.toList) = B3 at q3
  generalize (x.what.toList == y.what.toList) = B4 at q4
  generalize decide (x.prev = y.prev) = B5 at q5
  exact eqT_run (p1 x) (p1 y) q1 (p2 x) (p2 y) q2 (p3 x) (p3 y) q3 (p4 x) (p4 y) q4 p5 p6 q5
theorem neE (x y : En) (hx : x.ok) (hy : y.ok) (W : World) : (binOp .neq 37 (.agg x.cells.toArray) (.agg y.cells.toArray)).run Tryd.prog W = .ok (.bool (!eqEn x y)) W := by
  have h := eqE 9997 x y hx hy W
  rw [run_neq_struct, show (Op.equalIn 10000 37 (.agg x.cells.toArray) (.agg y.cells.toArray)).run Tryd.prog W = _ from h]; rfl
theorem eqB (x y : En) (hx : x.ok) (hy : y.ok) (W : World) : (binOp .eql 37 (.agg x.cells.toArray) (.agg y.cells.toArray)).run Tryd.prog W = .ok (.bool (eqEn x y)) W := by
  have h := eqE 9997 x y hx hy W
  rw [run_eql_struct, show (Op.equalIn 10000 37 (.agg x.cells.toArray) (.agg y.cells.toArray)).run Tryd.prog W = _ from h]; rfl
theorem eqHb (a b : List UInt8) (ha : a.length = 32) (hb : b.length = 32) (W : World) : (binOp .eql 35 (.agg (U a).toArray) (.agg (U b).toArray)).run Tryd.prog W = .ok (.bool (decide (a = b))) W := by
  have h := eqH 9998 a b ha hb W
  rw [run_eql_struct, show (Op.equalIn 10000 35 (.agg (U a).toArray) (.agg (U b).toArray)).run Tryd.prog W = _ from h]; rfl
theorem neHb (a b : List UInt8) (ha : a.length = 32) (hb : b.length = 32) (W : World) : (binOp .neq 35 (.agg (U a).toArray) (.agg (U b).toArray)).run Tryd.prog W = .ok (.bool (!decide (a = b))) W := by
  have h := eqH 9998 a b ha hb W
  rw [run_neq_struct, show (Op.equalIn 10000 35 (.agg (U a).toArray) (.agg (U b).toArray)).run Tryd.prog W = _ from h]; rfl
end Go.Proofs.YtmmpafaegmejlaaDoor.Oct
