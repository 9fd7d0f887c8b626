/-
  Layer 5 (disk): Write.
-/
import Derived.Test.YtmhdldhplhffcaaRestart
import Derived.Great.FillDense
namespace Go.Proofs.Ytmhdldhplhffcaa.Oct
open Go.RowKit Go.Maps Go.Lib

theorem grown_setRow (w : World) (g : Nat) (cs : Array Value) : w.grownBy (w.setRow g cs) (some g) :=
  ⟨rfl, rfl, rfl, by simp [World.setRow], fun k _ hne => by
    simp only [World.setRow, Array.getElem?_modify]
    rw [if_neg (fun e => hne (by rw [e]))]⟩
/-- 'copy' into the midst of a block -/
theorem wpList_copy_blk {P : Program} {ops : Array Oper} {rest : List Oper} {o : Oper} {a : Act} {w : World} {Q : Exit → Act → World → Prop} (hgd : o.guard = none) (d s : Operand) (dT sT : TypeId)
    (ho : o.op = .call { callee := .builtin .copy, args := #[d, s], argTypes := #[dT, sT] }) (elem : TypeId) (hu : P.underlying dT = some (.slice elem)) (hsz : (P.info? elem).map (·.size) = some 1)
    (g off dLen dCap : Nat) (sp : Option Addr) (sLen sCap : Nat) (hd : a.eval d = .slice (some ⟨g, off, none⟩) dLen dCap) (hs : a.eval s = .slice sp sLen sCap)
    (cur : List Value) (t : TypeId) (hg : Blk w g t cur) (cs : List Value) (hn : cs.length = Nat.min sLen dLen)
    (hpos : ∃ ad, sp = some ad ∧ ∀ j v, cs[j]? = some v → w.cell? (ad.add j) = some v)
    (hfit : off + cs.length ≤ cur.length) (h1 : ∀ v ∈ cs, v.oneCell' = true)
    (h : ∀ w', Hid (Blk w' g t (splice cur off cs)) → Hid (w.grownBy w' (some g)) → wpList P ops Q rest (a.put o.dst (goInt cs.length)) w') : wpList P ops Q (o :: rest) a w := by
  refine wpList_plain hgd fun K hK => ?_
  obtain ⟨ad, rfl, hsrc⟩ := hpos
  have hrun := run_copy_row (P := P) w dT sT o.type elem g off dLen dCap ad sLen sCap cur.toArray t cs hu hsz hg hn hsrc (by simpa using hfit) h1
  unfold Oper.wp
  simp [execOp, ho, resolve, invoke, builtin, hd, hs, hrun, Result.andThen]
  exact hK _ _ (h _ (show _ = _ by simpa [splice] using setRow_heap w g _ _ t _ hg) (grown_setRow w g _))

/-- 'append' of whatever is owned, as a step of a region that draws -/
theorem step_append_at {P : Program} (w : World) {ops : Array Oper} {o : Oper} {a : Act} {K : Act → World → Prop} {Q : Exit → Act → World → Prop} {E : Prop} (hw : Region.wanted o (yielded ops a.tmps) = true) (s x : Operand) (t : TypeId)
    (ho : o.op = .call { callee := .builtin .append, args := #[s, x], argTypes := #[t, t] })
    (base : Nat) (e : TypeId) (i : TypeInfo) (z : Value) (size bytes : Nat) (ht : P.underlying t = some (.slice e)) (hi : P.info? e = some i) (hz : i.zero = some z)
    (hsize : i.size = size) (hby : i.bytes = bytes) (hzs : z.cells.size = size) (hsz : 0 < size)
    (v : Value) (n : Nat) (xs : List Value) (hs : a.eval s = v) (hown : w.ownsRow base e size v n xs)
    (ad : Addr) (m c : Nat) (news : List Value) (hx : a.eval x = .slice (some ad) m c) (hl : news.length = m * size) (hnews : ∀ j u, news[j]? = some u → w.cell? (ad.add j) = some u) (h1 : ∀ u ∈ news, u.oneCell' = true)
    (h63 : n + m ≤ maxLen) (hbytes : (n + m) * bytes ≤ 140737488355328) (hbase : base ≤ w.heap.size)
    (h : ∀ v' w', w'.ownsRow base e size v' (n + m) (xs ++ news) → w.grownBy w' v.ownBlock → (v'.ownBlock = v.ownBlock ∨ v'.ownBlock = some w.heap.size) → K (a.put o.dst v') w') :
    if Region.wanted o (yielded ops a.tmps) = true then Oper.wp P o a w K Q else E := by
  rw [if_pos hw]
  obtain ⟨v', w', hr, h2, h3, h4, h5⟩ := run_append_own_at (P := P) w base t o.type e i z size bytes ht hi hz hsize hby hzs hsz v n xs hown ad m c news hl hnews h1 h63 hbytes hbase
  unfold Oper.wp execOp
  simp only [ho, resolve, invoke, builtin, Sem.run_bind, Sem.run_pure, Result.andThen_ok, List.map_toArray, List.map_cons, List.map_nil, hs, hx, hr]
  exact h v' w' h2 h3 h5

theorem run_build1 (x : Nat × List UInt8) (hx : x.2.length = 256) (w : World) : (Instr.buildSlice 58 1 #[(0, .agg (wc x).toArray)]).run Try.prog w = .ok (.slice (some ⟨w.heap.size, 0, none⟩) 1 1) (w.alloc (.cells (wc x).toArray 75)) := by
  obtain ⟨Z, hZ, HZ⟩ := zero75
  have hl := wc_length hx
  have hf : ∀ C : Array Value, C.size = 257 → Instr.fill (fun i => some (i * 257, 257)) C [(0, .agg (wc x).toArray)] = some (wc x).toArray := fun C hC => by
    have := Great.fill_whole (s := 257) (by omega) [.agg (wc x).toArray] C (fun v hv => by
      have : v = .agg (wc x).toArray := by simpa using hv
      rw [this]
      show (wc x).toArray.size = 257
      rw [List.size_toArray, hl]) (by rw [hC, List.length_singleton, Nat.one_mul])
    simpa [Value.cells] using this
  have hs75 : (Go.sizeOf 75).run Try.prog w = .ok 257 w := by kernel_rfl
  generalize (wc x).toArray = Y at *
  unfold Instr.buildSlice
  simp only [Sem.run_bind, run_underlying Try.underlying58, Result.andThen_ok, hs75]
  rw [if_neg (by decide), if_neg (by decide)]
  simp only [Sem.run_bind, Sem.run_pure, hZ, Result.andThen_ok]
  rw [hf _ (by rw [Array.size_map, Array.size_range])]
  simp only [Sem.run_bind, newRow, run_newObj_alloc, Sem.run_pure, Result.andThen_ok]

theorem wp_value {P : Program} {o : Oper} {a : Act} {w w' : World} {K : Act → World → Prop} {Q : Exit → Act → World → Prop} (v : Value) (h : (execOp a.eval o).run P w = .ok (.value v) w') (hk : K (a.put o.dst v) w') : Oper.wp P o a w K Q := by
  unfold Oper.wp; rw [h]; exact hk
theorem wp_skip {P : Program} {o : Oper} {a : Act} {w w' : World} {K : Act → World → Prop} {Q : Exit → Act → World → Prop} (h : (execOp a.eval o).run P w = .ok .skip w') (hk : K (a.put o.dst undef) w') : Oper.wp P o a w K Q := by
  unfold Oper.wp; rw [h]; exact hk
theorem wp_build1 {o : Oper} {a : Act} {w : World} {K : Act → World → Prop} {Q : Exit → Act → World → Prop} (y : Operand) (ho : o.op = .buildSlice 58 1 #[(0, y)]) (x : Nat × List UInt8) (hx : x.2.length = 256) (hy : a.eval y = .agg (wc x).toArray)
    (hk : K (a.put o.dst (.slice (some ⟨w.heap.size, 0, none⟩) 1 1)) (w.alloc (.cells (wc x).toArray 75))) : Oper.wp Try.prog o a w K Q := by
  refine wp_value _ ?_ hk
  have := run_build1 x hx w
  generalize (wc x).toArray = Y at *
  simp [execOp, ho, hy, this, Result.andThen]

theorem built75 (i : Nat) : Try.prog.built 75 [(0, .int .i64 (i : Int))] = some (wc (i, zeros)).toArray := by kernel_rfl
theorem wc_splice (i : Nat) (b : List UInt8) (hb : b.length = 256) : splice (wc (i, zeros)) 1 (U b) = wc (i, b) := by
  unfold splice
  have h1 : (wc (i, zeros)).take 1 = [.int .i64 (i : Int)] := rfl
  have h2 : (wc (i, zeros)).drop (1 + (U b).length) = [] := List.drop_eq_nil_of_le (by rw [wc_length zeros_length, U_length, hb]; omega)
  rw [h1, h2]
  simp [wc]

theorem src_at {w w1 w2 : World} {d : Nat} {a : Option Addr} {b : List UInt8} (h : ∃ b0 off, a = some ⟨b0, off, none⟩ ∧ b0 < w.heap.size ∧ b0 ≠ d ∧ ∀ j c, b[j]? = some c → w.cell? ⟨b0, off + j, none⟩ = some (.int .u8 (c.toNat : Int))) (hg : w.grownBy w1 (some d)) (hk : Keep (fun _ => False) w1 w2) :
    ∃ ad, a = some ad ∧ ∀ j v, (U b)[j]? = some v → w2.cell? (ad.add j) = some v := by
  obtain ⟨b0, off, rfl, h1, h2, h3⟩ := h
  refine ⟨_, rfl, fun j v hj => ?_⟩
  rw [Addr.add_lit]
  have hlt : j < b.length := by have := (List.getElem?_eq_some_iff.1 hj).1; rwa [U_length] at this
  rw [U_get b j hlt] at hj
  have e1 := h3 j b[j] (by simp [hlt])
  rw [World.cell?_of_block (a := ⟨b0, off + j, none⟩) (hk.block b0 (Nat.lt_of_lt_of_le h1 hg.size) (fun e => e)), World.cell?_of_block (a := ⟨b0, off + j, none⟩) (hg.block b0 h1 (fun e => h2 (by cases e; rfl))), e1]
  exact hj

theorem info75 : ∃ (Z : List Value) (i0 : TypeInfo), (∀ W, (zeroValue 75).run Try.prog W = .ok (.agg Z.toArray) W) ∧ Hid (Z.length = 257) ∧ Try.prog.info? 75 = some i0 ∧ i0.zero = some (.agg Z.toArray) ∧ i0.size = 257 ∧ i0.bytes = 264 := by
  have h : (Try.prog.info? 75).map (fun i => (i.zero, i.size, i.bytes)) = some (some (.agg (Value.int .i64 0 :: List.replicate 256 (.int .u8 0)).toArray), 257, 264) := by kernel_rfl
  obtain ⟨Z, hZ⟩ : ∃ Z, Z = Value.int .i64 0 :: List.replicate 256 (.int .u8 0) := ⟨_, rfl⟩
  rw [← hZ] at h
  have hl : Z.length = 257 := by rw [hZ, List.length_cons, List.length_replicate]
  clear hZ
  obtain ⟨i0, h1, h2⟩ := Option.map_eq_some_iff.1 h
  simp only [Prod.mk.injEq] at h2
  refine ⟨Z, i0, fun W => ?_, hl, h1, h2.1, h2.2.1, h2.2.2⟩
  simp only [zeroValue, typeInfo]
  simp [h1, h2.1]
theorem own_ne {w : World} {v : Value} {n : Nat} {xs : List Value} (h : w.ownsRow 0 75 257 v n xs) {g : Nat} (hg : v.ownBlock = some g) : ∃ cur, w.heap[g]? = some (.cells cur 75 (0, 0)) := by
  rcases h.2 with ⟨rfl, _⟩ | ⟨g', cap, cur, rfl, _, hb, _⟩
  · cases hg
  · have : g' = g := by simpa [Value.ownBlock] using hg
    subst this
    exact ⟨cur, hb⟩
theorem own_at {w3 w4 : World} {d bs bl : Nat} {ao : Option Addr} {n cp nS nL : Nat} {DS DL : DataW Unit} {D : Disk} (h3 : DkAt w3 d bs bl (.slice ao n cp) nS nL DS DL D.spent) (hg : w3.grownBy w4 (some bl)) (hn : n = D.pend.length) (o : Obj) :
    (w4.drew.alloc o).ownsRow 0 75 257 (.slice ao n cp) n (D.pend.flatMap wc) := by
  have hr := h3.row
  have e : D.spent.pend = D.pend := rfl
  rw [e, ← hn] at hr
  have hk : Keep (fun k => k = bl) w3 (w4.drew.alloc o) := (Keep.grown hg (S := fun k => k = bl) rfl).drew.trans (Keep.below (S := fun k => k = bl) ((Below.refl _ w4.drew).alloc (Nat.le_refl _) o)) (fun j hj _ => hj)
  exact row_kept hk hr (fun g hg' => (h3.pv_ne hg').2.2)
theorem after_append {w1 w3 w4 w5 : World} {d bs bl : Nat} {ao : Option Addr} {n cp nS nL i : Nat} {DS DL : DataW Unit} {D : Disk} {b : List UInt8} {v5 : Value} (h3 : DkAt w3 d bs bl (.slice ao n cp) nS nL DS DL D.spent) (h1 : DkAt w1 d bs bl (.slice ao n cp) nS nL DS DL D.spent) (hg : w3.grownBy w4 (some bl)) (hB : Blk w4 w1.heap.size 75 (wc (i, b)))
    (ho : w5.ownsRow 0 75 257 v5 (n + 1) (D.pend.flatMap wc ++ wc (i, b))) (hg5 : (w4.drew.alloc (.cells (wc (i, b)).toArray 75)).grownBy w5 (Value.slice ao n cp).ownBlock) (hl : v5.ownBlock = (Value.slice ao n cp).ownBlock ∨ v5.ownBlock = some (w4.drew.alloc (.cells (wc (i, b)).toArray 75)).heap.size) :
    Hid (w5.ownsRow 0 75 257 v5 (n + 1) (D.pend.flatMap wc ++ wc (i, b)) ∧ w4.grownBy w5 (Value.slice ao n cp).ownBlock ∧ (v5.ownBlock = (Value.slice ao n cp).ownBlock ∨ ∃ g, v5.ownBlock = some g ∧ w4.heap.size ≤ g)) ∧ ∃ g5 cap5, v5 = .slice (some ⟨g5, 0, none⟩) (n + 1) cap5 ∧ w5.cell? ⟨d, 2, none⟩ = some (.slice ao n cp) ∧ w5.frozen? ⟨d, 2, none⟩ = false ∧ w5.rangeAt w1.heap.size 0 (wc (i, b)) := by
  have hg45 : w4.grownBy w5 (Value.slice ao n cp).ownBlock := by
    refine ⟨hg5.os, hg5.tape, hg5.output, Nat.le_trans (by simp) hg5.size, fun k hk hne => ?_⟩
    exact (hg5.block k (by show k < (w4.drew.alloc _).heap.size; simp; omega) hne).trans (Below.heap_alloc w4.drew _ k hk)
  have hdne : some d ≠ (Value.slice ao n cp).ownBlock := fun e => (h3.pv_ne e.symm).1 rfl
  have hb4 : Blk w4 d 61 (dc D.spent bs (.slice ao n cp) bl) := h3.blk.kept hg (fun e => h3.d_bl (by cases e; rfl))
  have hb5 : Blk w5 d 61 (dc D.spent bs (.slice ao n cp) bl) := hb4.kept hg45 hdne
  have hB5 : Blk w5 w1.heap.size 75 (wc (i, b)) := hB.kept hg45 (fun e => by
    have := lt_owner h1.row e.symm
    omega)
  refine ⟨⟨ho, hg45, hl.imp id (fun e => ⟨_, e, by simp⟩)⟩, ?_⟩
  rcases ho.2 with ⟨_, e⟩ | ⟨g5, cap5, cur, e, _⟩
  · omega
  · exact ⟨g5, cap5, e, hb5.cell rfl, hb5.free 2, fun j v hj => by rw [Nat.zero_add]; exact hB5.cell hj⟩
theorem after_store {w5 : World} {B d : Nat} {v : Value} {x : Nat × List UInt8} (h : w5.rangeAt B 0 (wc x)) (hne : B ≠ d) : (w5.setCell ⟨d, 2, none⟩ v).rangeAt B 0 (wc x) := by
  intro j u hj
  rw [World.cell?_of_block (a := ⟨B, 0 + j, none⟩) (heap_setCell_other w5 ⟨d, 2, none⟩ B v hne)]
  exact h j u hj
theorem last_more {DL : DataW Unit} {l : List (Nat × List UInt8)} {i : Nat} {b : List UInt8} (h : LastOk DL l) (hm : IsMap DL) : LastOk (DL.put (kl i) (.lit (.int .i64 (l.length : Int)))) (l ++ [(i, b)]) := by
  intro k
  by_cases hk : k = i
  · subst hk
    refine .inr ⟨l.length, b, has_put_same hm (kl_key _) _, fun z => atKey_put_same hm (kl_key _) _ z, by simp, fun q y hq hy => ?_⟩
    have := (List.getElem?_eq_some_iff.1 hy).1
    simp at this
    omega
  · rcases h k with ⟨h1, h2⟩ | ⟨p, c, h1, h2, h3, h4⟩
    · refine .inl ⟨by rw [has_put_other (kl_ne hk)]; exact h1, fun x hx => ?_⟩
      rcases List.mem_append.1 hx with hx | hx
      · exact h2 x hx
      · have : x = (i, b) := by simpa using hx
        rw [this]; exact fun e => hk e.symm
    · have hlt : p < l.length := (List.getElem?_eq_some_iff.1 h3).1
      refine .inr ⟨p, c, by rw [has_put_other (kl_ne hk)]; exact h1, fun z => by rw [atKey_put_other (kl_ne hk)]; exact h2 z, by rw [List.getElem?_append_left hlt]; exact h3, fun q y hq hy => ?_⟩
      by_cases hql : q < l.length
      · rw [List.getElem?_append_left hql] at hy
        exact h4 q y hq hy
      · rw [List.getElem?_append_right (by omega)] at hy
        have : y = (i, b) := by
          have := List.mem_of_getElem? hy
          simpa using this
        rw [this]; exact fun e => hk e.symm
theorem write_end {w w1 w3 w4 w5 : World} {d bs bl : Nat} {ao : Option Addr} {n cp nS nL i g5 cap5 : Nat} {DS DL : DataW Unit} {D : Disk} {b : List UInt8} (h : DkAt w d bs bl (.slice ao n cp) nS nL DS DL D) (h1 : DkAt w1 d bs bl (.slice ao n cp) nS nL DS DL D.spent) (hg1 : w.grownBy w1 (some d)) (hk3 : Keep (fun _ => False) w1 w3)
    (hm4 : w4.ownsMap Try.prog 3 (plainElem Try.prog 3) bl (nL + 1) (DL.put (kl i) (.lit (.int .i64 (n : Int))))) (hg4 : w3.grownBy w4 (some bl)) (hi : i < D.n ∧ D.n ≤ 4096) (hbl : b.length = 256) (hn : n = D.pend.length)
    (h5 : Hid (w5.ownsRow 0 75 257 (.slice (some ⟨g5, 0, none⟩) (n + 1) cap5) (n + 1) (D.pend.flatMap wc ++ wc (i, b)) ∧ w4.grownBy w5 (Value.slice ao n cp).ownBlock ∧ ((Value.slice (some ⟨g5, 0, none⟩) (n + 1) cap5).ownBlock = (Value.slice ao n cp).ownBlock ∨ ∃ g, (Value.slice (some ⟨g5, 0, none⟩) (n + 1) cap5).ownBlock = some g ∧ w4.heap.size ≤ g))) :
    Ch w d bs bl (.slice ao n cp) { D.spent with pend := D.pend ++ [(i, b)] } (w5.setCell ⟨d, 2, none⟩ (.slice (some ⟨g5, 0, none⟩) (n + 1) cap5)) := by
  obtain ⟨hr5, hg45, hloc⟩ := h5.out
  have h3 := h1.at_below hk3.none_below
  have hown : ∀ g, (Value.slice ao n cp).ownBlock = some g → g ≠ d ∧ g ≠ bs ∧ g ≠ bl := fun g hg => h3.pv_ne hg
  have hb4 : Blk w4 d 61 (dc D.spent bs (.slice ao n cp) bl) := h3.blk.kept hg4 (fun e => h3.d_bl (by cases e; rfl))
  have hb5 : Blk w5 d 61 (dc D.spent bs (.slice ao n cp) bl) := hb4.kept hg45 (fun e => (hown d e.symm).1 rfl)
  have hs5 : w5.ownsMap Try.prog 3 RS bs nS DS := (h3.sure.kept hg4 (fun e => h3.ne (by cases e; rfl))).kept hg45 (fun e => (hown bs e.symm).2.1 rfl)
  have hl5 := hm4.kept hg45 (fun e => (hown bl e.symm).2.2 rfl)
  have hg6 := grown_setCell w5 d 2 (.slice (some ⟨g5, 0, none⟩) (n + 1) cap5)
  have hdg : g5 ≠ d := fun e => by
    obtain ⟨cur, hc⟩ := own_ne hr5 (g := g5) rfl
    rw [e] at hc
    have := hb5
    unfold Blk at this
    rw [this] at hc
    simp at hc
  have hk45 : Keep (fun k => k = d ∨ k = bs ∨ k = bl ∨ (Value.slice ao n cp).ownBlock = some k) w w4 :=
    ((Keep.grown hg1 (Or.inl rfl)).trans hk3 (fun _ e _ => e.elim)).trans (Keep.grown hg4 (S := fun k => k = bl) rfl) (fun j hj _ => Or.inr (Or.inr (Or.inl hj)))
  refine ⟨.slice (some ⟨g5, 0, none⟩) (n + 1) cap5, nS, nL + 1, DS, _, ⟨?_, hs5.kept hg6 (fun e => h3.d_bs (by cases e; rfl)), hl5.kept hg6 (fun e => h3.d_bl (by cases e; rfl)), h.looks, ?_, ?_, ?_, ?_, h.ne, ?_⟩, ?_, ?_⟩
  · have := hb5.set 2 (.slice (some ⟨g5, 0, none⟩) (n + 1) cap5)
    simpa [dc] using this
  · rw [hn]
    exact last_more h.lasts h.last.isMap
  · have e1 : (D.pend ++ [(i, b)]).length = n + 1 := by simp [hn]
    have e2 : (D.pend ++ [(i, b)]).flatMap wc = D.pend.flatMap wc ++ wc (i, b) := by simp
    show World.ownsRow _ 0 75 257 _ (D.pend ++ [(i, b)]).length ((D.pend ++ [(i, b)]).flatMap wc)
    rw [e1, e2]
    exact row_kept (Keep.grown hg6 (S := fun k => k = d) rfl) hr5 (fun g hg e => by
      have : g5 = g := by simpa [Value.ownBlock] using hg
      exact hdg (this.trans e))
  · have := h.roomS
    show nS + (D.pend ++ [(i, b)]).length ≤ D.ops + 1
    simp
    omega
  · have := h.roomL
    show nL + 1 ≤ D.ops + 1
    omega
  · have hs := h.good.spent
    refine ⟨hs.1, hs.2.1, hs.2.2.1, fun x hx => ?_, hs.2.2.2.2⟩
    rcases List.mem_append.1 hx with hx | hx
    · exact hs.2.2.2.1 x hx
    · have : x = (i, b) := by simpa using hx
      subst this
      exact ⟨hi.1, hbl⟩
  · intro g hg
    rcases hloc with e | ⟨g', e1, e2⟩
    · exact .inl (e ▸ hg)
    · rw [hg] at e1
      cases e1
      exact .inr (Nat.le_trans hk45.size e2)
  · refine (hk45.trans (Keep.grownO hg45 (S := fun k => (Value.slice ao n cp).ownBlock = some k) (fun b hb => hb)) (fun j hj _ => Or.inr (Or.inr (Or.inr hj)))).trans (Keep.grown hg6 (S := fun k => k = d) rfl) (fun j hj _ => Or.inl hj)

set_option maxHeartbeats 1000000 in
set_option maxRecDepth 100000 in
theorem write_on {w : World} {d bs bl : Nat} {pv : Value} {nS nL : Nat} {DS DL : DataW Unit} {D : Disk} (h : DkAt w d bs bl pv nS nL DS DL D) (hn : D.ops < 100000000000) (hd : D.down = false) (ho : D.out = false) (i : Nat) (hi : i < D.n) (a : Option Addr) (cap : Nat) (b : List UInt8) (hin : In w a 256 cap b) :
    Calls Try.prog 18 #[.pointer (some ⟨d, 0, none⟩), .int .i64 (i : Int), .slice a 256 cap] w fun e w' => e = .returned (.int .i64 0) ∧ Ch w d bs bl pv { D.spent with pend := D.pend ++ [(i, b)] } w' := by
  have hr := ready_is h
  rw [hd] at hr
  have hh := has_is h (i : Int)
  rw [decide_eq_true (show 0 ≤ (i : Int) ∧ (i : Int) < (D.n : Int) by omega)] at hh
  have hs := spend_on h (by omega) ho
  obtain ⟨Z, i0, hZ, HZ, hi0, hz0, hz1, hz2⟩ := info75
  have HI0 : Hid (Try.prog.info? 75 = some i0 ∧ i0.zero = some (.agg Z.toArray) ∧ i0.size = 257 ∧ i0.bytes = 264) := ⟨hi0, hz0, hz1, hz2⟩
  clear hi0 hz0 hz1 hz2
  obtain ⟨ao, cp, rfl, hao⟩ := row_opt h.row
  obtain ⟨n, hnl⟩ : ∃ n, n = D.pend.length := ⟨_, rfl⟩
  rw [← hnl] at h hs hao ⊢
  have HNL : Hid (n = D.pend.length) := hnl
  have HNN : Hid (n < 100000000000 ∧ nS + n < 100000000000) := by have := h.roomS; exact ⟨by omega, by omega⟩
  have HU : Hid (DkAt w d bs bl (.slice ao n cp) nS nL DS DL D) := h
  have HIN : Hid (In w a 256 cap b) := hin
  have HOP : Hid (D.ops < 100000000000) := hn
  have HBL : Hid (b.length = 256) := hin.1
  have HI : Hid (i < D.n ∧ D.n ≤ 4096) := ⟨hi, h.good.2.1⟩
  have HBT : Hid (Try.prog.built 75 [(0, .int .i64 (i : Int))] = some (wc (i, zeros)).toArray) := built75 i
  have HSEP : Hid (∃ b0 off, a = some ⟨b0, off, none⟩ ∧ b0 < w.heap.size ∧ b0 ≠ d ∧ ∀ j c, b[j]? = some c → w.cell? ⟨b0, off + j, none⟩ = some (.int .u8 (c.toNat : Int))) := by
    obtain ⟨b0, off, e1, e2, e3⟩ := hin.2.2.2.2 (by omega)
    refine ⟨b0, off, e1, e2, fun e => ?_, e3⟩
    subst e
    have hbl := hin.1
    have h1 := e3 255 (b[255]'(by omega)) (List.getElem?_eq_getElem _)
    have h2 := h.blk
    rw [cell_of_row w b0 _ _ 61 (0, 0) h2] at h1
    simp [dc] at h1
  have h72 := slice72
  clear h hn hd ho hnl hin hi hao
  go_enter Try.func18, Try.ntmps18
  go_wp2_with (first
    | (go_at_call 40; refine hr.mono ?_; rintro e w1 ⟨rfl, rfl⟩)
    | (go_at_call 44; refine hh.mono ?_; rintro e w1 ⟨rfl, rfl⟩)
    | (go_at_call 41; refine hs.mono ?_; rintro e w1 ⟨rfl, hA, hG⟩; have HA : Hid (DkAt w1 d bs bl (.slice ao n cp) nS nL DS DL D.spent) := hA; have HG : Hid (w.grownBy w1 (some d)) := hG; clear hA hG hr hs hh)
    | (refine wpList_built rfl 75 _ rfl (wc (i, zeros)).toArray (by simp [Act.eval]; exact HBT.out) ?_)
    | (with_reducible change wpList _ _ _ ({ dst := none, op := Op.store 75 _ _, type := _, pos := _, after := _, guard := _ } :: _) _ _
       refine wpList_store_blk rfl 75 (.tmp 9) (.tmp 30) rfl w1.heap.size 0 75 Z (wc (i, zeros)) rfl rfl (Blk.new w1 Z.toArray 75) (by rw [wc_length zeros_length, HZ.out]; omega) (by rw [wc_length zeros_length]; exact size75) (wc_one _) ?_
       intro w2 hb2 hg2
       have HB2 : Hid (Blk w2 w1.heap.size 75 (wc (i, zeros))) := copied75 (wc_length zeros_length) HZ.out hb2.out
       have HK2 : Hid (Keep (fun _ => False) w1 w2) := ⟨hg2.out.os, hg2.out.tape, hg2.out.output, Nat.le_trans (by simp) hg2.out.size, fun k hk _ => (hg2.out.block k (Nat.lt_of_lt_of_le hk (by simp)) (fun e => by cases e; exact absurd hk (Nat.lt_irrefl _))).trans (Below.heap_alloc w1 _ k hk)⟩
       clear hb2 hg2)
    | (with_reducible change wpList _ _ _ ({ dst := some 34, op := Op.call _, type := _, pos := _, after := _, guard := _ } :: _) _ _
       refine wpList_copy_blk rfl (.tmp 32) (.tmp 33) 30 30 rfl 5 Try.underlying30 size5 w1.heap.size 1 256 256 a 256 cap rfl rfl (wc (i, zeros)) 75 HB2.out (U b) (by rw [U_length, HBL.out]; rfl) (src_at HSEP.out HG.out HK2.out) (by rw [U_length, HBL.out, wc_length zeros_length]; omega) (U_one b) ?_
       intro w3 hb3 hg3
       have HB3 : Hid (Blk w3 w1.heap.size 75 (wc (i, b))) := (by rw [← wc_splice i b HBL.out]; exact hb3.out)
       have HK3 : Hid (Keep (fun _ => False) w1 w3) := ⟨hg3.out.os.trans HK2.out.os, hg3.out.tape.trans HK2.out.tape, hg3.out.output.trans HK2.out.output, Nat.le_trans HK2.out.size hg3.out.size, fun k hk hne => (hg3.out.block k (Nat.lt_of_lt_of_le hk HK2.out.size) (fun e => by cases e; exact absurd hk (Nat.lt_irrefl _))).trans (HK2.out.block k hk hne)⟩
       clear hb3 hg3))
  simp only [Act.put, List.setIfInBounds_toArray, List.set_cons_zero, List.set_cons_succ]
  have HU3 : Hid (DkAt w3 d bs bl (.slice ao n cp) nS nL DS DL D.spent) := HA.out.at_below HK3.out.none_below
  have c3 := HU3.out.c3
  have c2 := HU3.out.c2
  have hwn : (Lit.int .i64 ((n : Nat) : Int)).wf = true := WalkArith.wf_i64 (by have := HNN.out.1; omega)
  obtain ⟨w4, hrun, hm4, hg4⟩ := World.ownsMap.update (show w3.drew.ownsMap Try.prog 3 (plainElem Try.prog 3) bl nL DL from HU3.out.last) keyed (t := 59) (e := 3) Try.underlying59 (by have := HU3.out.roomL; have := HNN.out; have hh := HOP.out; unfold maxLen; have e : D.spent.ops = D.ops + 1 := rfl; omega) (key_of i (by have := HI.out; omega)) (plainElem_int Try.underlying3 hwn)
  have HM4 : Hid (w4.ownsMap Try.prog 3 (plainElem Try.prog 3) bl (nL + 1) (DL.put (kl i) (.lit (.int .i64 (n : Int))))) := hm4
  have HG4 : Hid (w3.grownBy w4 (some bl)) := grown_tr (grown_drewN w3 1 _) hg4
  have k3 : w4.cell? ⟨d, 3, none⟩ = some (.map (some bl)) := HG4.out.cell c3 (by simpa using HU3.out.d_bl)
  have k2 : w4.cell? ⟨d, 2, none⟩ = some (.slice ao n cp) := HG4.out.cell c2 (by simpa using HU3.out.d_bl)
  clear hm4 hg4 hwn h72
  go_region_held (fun w' => w'.cell? ⟨d, 3, none⟩ = some (.map (some bl)) ∧ w'.cell? ⟨d, 2, none⟩ = some (.slice ao n cp)) (first | exact ⟨c3, c2⟩ | exact ⟨k3, k2⟩) (fail)
  go_wp2_with fail
  clear c3 c2 k3 hrun
  have HB4 : Hid (Blk w4 w1.heap.size 75 (wc (i, b))) := HB3.out.kept HG4.out (fun e => by
    have e1 := HA.out.last.lt
    have e2 : w1.heap.size = bl := Option.some.inj e
    omega)
  have HR4 : Hid (w4.rangeAt w1.heap.size 0 (wc (i, b))) := by
    intro j v hj
    rw [Nat.zero_add]
    exact HB4.out.cell hj
  have s75 : (Try.prog.info? 75).map (·.size) = some (wc (i, b)).length := by rw [wc_length HBL.out]; exact size75
  have u75 := Try.underlying75
  refine wp_region_held (S := fun w' => w'.rangeAt w1.heap.size 0 (wc (i, b))) (by kernel_rfl) ?_
  have hS : (fun w' : World => w'.rangeAt w1.heap.size 0 (wc (i, b))) w4.drew := HR4.out
  change wpAnyH Try.prog .any _ _ _ 11 (Array.replicate 11 false) _ w4.drew
  refine wpAnyH_take (i := 0) (oi := { dst := some 45, op := Op.move (Operand.tmp 0), type := 23, pos := "disk.go:83", after := #[], guard := none }) (v := .pointer (some ⟨d, 0, none⟩)) rfl (by kernel_rfl) (by kernel_rfl) (by kernel_rfl) (fun _ _ _ h => h) (Or.inl ⟨by rfl, ?y0⟩) hS ?_
  case y0 =>
    intro W _
    go_simp
  simp only [Act.put, List.setIfInBounds_toArray, List.set_cons_zero, List.set_cons_succ]
  refine wpAnyH_take (i := 1) (oi := { dst := some 46, op := Op.move (Operand.tmp 0), type := 23, pos := "disk.go:83", after := #[], guard := none }) (v := .pointer (some ⟨d, 0, none⟩)) rfl (by kernel_rfl) (by kernel_rfl) (by kernel_rfl) (fun _ _ _ h => h) (Or.inl ⟨by rfl, ?y1⟩) hS ?_
  case y1 =>
    intro W _
    go_simp
  simp only [Act.put, List.setIfInBounds_toArray, List.set_cons_zero, List.set_cons_succ]
  refine wpAnyH_take (i := 2) (oi := { dst := some 47, op := Op.nilCheck (Operand.tmp 46), type := 0, pos := "disk.go:83", after := #[{ on := 1, ground := Ground.data }], guard := none }) (v := .pointer (some ⟨d, 0, none⟩)) rfl (by kernel_rfl) (by kernel_rfl) (by kernel_rfl) (fun _ _ _ h => h) (Or.inl ⟨by rfl, ?y2⟩) hS ?_
  case y2 =>
    intro W _
    go_simp
  simp only [Act.put, List.setIfInBounds_toArray, List.set_cons_zero, List.set_cons_succ]
  refine wpAnyH_take (i := 3) (oi := { dst := some 48, op := Op.fieldAddr 61 (Operand.tmp 47) 2, type := 0, pos := "disk.go:83", after := #[{ on := 2, ground := Ground.data }], guard := none }) (v := .pointer (some ⟨d, 2, none⟩)) rfl (by kernel_rfl) (by kernel_rfl) (by kernel_rfl) (fun _ _ _ h => h) (Or.inl ⟨by rfl, ?y3⟩) hS ?_
  case y3 =>
    intro W _
    go_simp
  simp only [Act.put, List.setIfInBounds_toArray, List.set_cons_zero, List.set_cons_succ]
  refine wpAnyH_take (i := 5) (oi := { dst := some 50, op := Op.load 75 (Operand.tmp 9), type := 75, pos := "disk.go:83", after := #[], guard := none }) (v := .agg (wc (i, b)).toArray) rfl (by kernel_rfl) (by kernel_rfl) (by kernel_rfl) (fun _ _ _ h => h) (yieldsIf_load_mid (by rfl) 75 (.tmp 9) rfl w1.heap.size 0 rfl (wc (i, b)) _ (fun W hW => hW) Try.underlying75 rfl s75) hS ?_
  simp only [Act.put, List.setIfInBounds_toArray, List.set_cons_zero, List.set_cons_succ]
  have k26 : (w4.drew.alloc (.cells (wc (i, b)).toArray 75)).cell? ⟨d, 2, none⟩ = some (.slice ao n cp) := by rw [World.cell?_alloc_some _ _ _ (by rw [show w4.drew.cell? ⟨d, 2, none⟩ = some (.slice ao n cp) from k2]; rfl)]; exact k2
  have k27 : (w4.alloc (.cells (wc (i, b)).toArray 75)).cell? ⟨d, 2, none⟩ = some (.slice ao n cp) := k26
  have k24 : w4.drew.cell? ⟨d, 2, none⟩ = some (.slice ao n cp) := k2
  have hS6 : (fun w' : World => w'.rangeAt w1.heap.size 0 (wc (i, b))) (w4.drew.alloc (.cells (wc (i, b)).toArray 75)) := by
    intro j v hj
    rw [World.cell?_alloc_some _ _ _ (by rw [show w4.drew.cell? _ = some v from HR4.out j v hj]; rfl)]
    exact HR4.out j v hj
  have HZC : Hid ((Value.agg Z.toArray).cells.size = 257) := by show Z.toArray.size = 257; rw [List.size_toArray]; exact HZ.out
  have HOW : Hid ((w4.drew.alloc (.cells (wc (i, b)).toArray 75)).ownsRow 0 75 257 (.slice ao n cp) n (D.pend.flatMap wc)) := own_at HU3.out HG4.out HNL.out _
  have HNEW : Hid (∀ j u, (wc (i, b))[j]? = some u → (w4.drew.alloc (.cells (wc (i, b)).toArray 75)).cell? ((⟨w4.heap.size, 0, none⟩ : Addr).add j) = some u) := fun j u hj => by
    have := (Blk.new w4.drew (wc (i, b)).toArray 75).cell (i := j) (v := u) (by simpa using hj)
    rw [Addr.add_lit, Nat.zero_add]
    exact this
  refine wpAnyH_ready (rs := [4, 6]) (by kernel_rfl) (by simp) (AllReadyH.cons (i := 4) (o := { dst := some 49, op := Op.load 58 (Operand.tmp 48), type := 58, pos := "disk.go:83", after := #[{ on := 3, ground := Ground.data }], guard := none }) rfl ?_ (AllReadyH.cons (i := 6) (o := { dst := some 51, op := Op.buildSlice 58 1 #[(0, Operand.tmp 50)], type := 58, pos := "disk.go:83", after := #[{ on := 5, ground := Ground.data }], guard := none }) rfl ?_ AllReadyH.nil))
  · intro K4 hK4
    rw [if_pos (by rfl)]
    refine wp_value (.slice ao n cp) (w' := w4.drew) (by go_simp) ?_
    refine hK4.out _ _ hS (fun _ => ?_)
    clear hK4
    simp only [Act.put, List.setIfInBounds_toArray, List.set_cons_zero, List.set_cons_succ]
    refine wpAnyH_ready (rs := [6]) (by kernel_rfl) (by simp) (AllReadyH.cons (i := 6) (o := { dst := some 51, op := Op.buildSlice 58 1 #[(0, Operand.tmp 50)], type := 58, pos := "disk.go:83", after := #[{ on := 5, ground := Ground.data }], guard := none }) rfl ?_ AllReadyH.nil)
    intro K6 hK6
    rw [if_pos (by rfl)]
    refine wp_build1 (.tmp 50) rfl (i, b) HBL.out rfl ?_
    refine hK6.out _ _ hS6 (fun _ => ?_)
    clear hK6
    simp only [Act.put, List.setIfInBounds_toArray, List.set_cons_zero, List.set_cons_succ]
    refine wpAnyH_ready (rs := [7]) (by kernel_rfl) (by simp) (AllReadyH.cons (i := 7) (o := { dst := some 52, op := Op.call { callee := Callee.builtin Builtin.append, args := #[Operand.tmp 49, Operand.tmp 51], argTypes := #[58, 58] }, type := 58, pos := "disk.go:83", after := #[{ on := 4, ground := Ground.data }, { on := 6, ground := Ground.data }], guard := none }) rfl ?_ AllReadyH.nil)
    intro K7 hK7
    refine step_append_at _ (by rfl) (.tmp 49) (.tmp 51) 58 rfl 0 75 i0 (.agg Z.toArray) 257 264 Try.underlying58 HI0.out.1 HI0.out.2.1 HI0.out.2.2.1 HI0.out.2.2.2 HZC.out (by omega) (.slice ao n cp) n (D.pend.flatMap wc) rfl HOW.out ⟨w4.heap.size, 0, none⟩ 1 1 (wc (i, b)) rfl (by rw [wc_length HBL.out]) HNEW.out (wc_one _) (by have := HNN.out.1; unfold maxLen; omega) (by have := HNN.out.1; omega) (Nat.zero_le _) ?_
    intro v5 w5 hown5 hg5 hloc5
    obtain ⟨H5, g5, cap5, rfl, k5, f5, hS5⟩ := after_append HU3.out HA.out HG4.out HB4.out hown5 hg5 hloc5
    clear hown5 hg5 hloc5
    refine hK7.out _ _ hS5 (fun _ => ?_)
    clear hK7
    simp only [Act.put, List.setIfInBounds_toArray, List.set_cons_zero, List.set_cons_succ]
    refine wpAnyH_take (i := 8) (oi := { dst := some 53, op := Op.nilCheck (Operand.tmp 45), type := 0, pos := "disk.go:83", after := #[{ on := 0, ground := Ground.data }, { on := 0, ground := Ground.phase }, { on := 1, ground := Ground.phase }, { on := 2, ground := Ground.phase }, { on := 3, ground := Ground.phase }, { on := 4, ground := Ground.phase }, { on := 5, ground := Ground.phase }, { on := 6, ground := Ground.phase }, { on := 7, ground := Ground.phase }], guard := none }) (v := .pointer (some ⟨d, 0, none⟩)) rfl (by kernel_rfl) (by kernel_rfl) (by kernel_rfl) (fun _ _ _ h => h) (Or.inl ⟨by rfl, ?y8⟩) hS5 ?_
    case y8 =>
      intro W _
      go_simp
    simp only [Act.put, List.setIfInBounds_toArray, List.set_cons_zero, List.set_cons_succ]
    refine wpAnyH_take (i := 9) (oi := { dst := some 54, op := Op.fieldAddr 61 (Operand.tmp 53) 2, type := 0, pos := "disk.go:83", after := #[{ on := 8, ground := Ground.data }, { on := 0, ground := Ground.phase }, { on := 1, ground := Ground.phase }, { on := 2, ground := Ground.phase }, { on := 3, ground := Ground.phase }, { on := 4, ground := Ground.phase }, { on := 5, ground := Ground.phase }, { on := 6, ground := Ground.phase }, { on := 7, ground := Ground.phase }], guard := none }) (v := .pointer (some ⟨d, 2, none⟩)) rfl (by kernel_rfl) (by kernel_rfl) (by kernel_rfl) (fun _ _ _ h => h) (Or.inl ⟨by rfl, ?y9⟩) hS5 ?_
    case y9 =>
      intro W _
      go_simp
    simp only [Act.put, List.setIfInBounds_toArray, List.set_cons_zero, List.set_cons_succ]
    refine wpAnyH_ready (rs := [10]) (by kernel_rfl) (by simp) (AllReadyH.cons (i := 10) (o := { dst := none, op := Op.store 58 (Operand.tmp 54) (Operand.tmp 52), type := 0, pos := "disk.go:83", after := #[{ on := 9, ground := Ground.data }, { on := 7, ground := Ground.data }, { on := 7, ground := Ground.chain }, { on := 0, ground := Ground.phase }, { on := 1, ground := Ground.phase }, { on := 2, ground := Ground.phase }, { on := 3, ground := Ground.phase }, { on := 4, ground := Ground.phase }, { on := 5, ground := Ground.phase }, { on := 6, ground := Ground.phase }, { on := 7, ground := Ground.phase }], guard := none }) rfl ?_ AllReadyH.nil)
    intro K10 hK10
    rw [if_pos (by rfl)]
    refine wp_skip (w' := w5.setCell ⟨d, 2, none⟩ (.slice (some ⟨g5, 0, none⟩) (n + 1) cap5)) (by go_simp) ?_
    refine hK10.out _ _ (after_store hS5 (Nat.ne_of_gt HA.out.blk.lt)) (fun _ => ?_)
    refine wpAnyH_done (by kernel_rfl) ?_ _
    clear hK10
    simp only [Act.put]
    go_wp2
    go_ret
    exact ⟨rfl, write_end HU.out HA.out HG.out HK3.out HM4.out HG4.out HI.out HBL.out HNL.out H5⟩
  · intro K6 hK6
    rw [if_pos (by rfl)]
    refine wp_build1 (.tmp 50) rfl (i, b) HBL.out rfl ?_
    refine hK6.out _ _ hS6 (fun _ => ?_)
    clear hK6
    simp only [Act.put, List.setIfInBounds_toArray, List.set_cons_zero, List.set_cons_succ]
    refine wpAnyH_ready (rs := [4]) (by kernel_rfl) (by simp) (AllReadyH.cons (i := 4) (o := { dst := some 49, op := Op.load 58 (Operand.tmp 48), type := 58, pos := "disk.go:83", after := #[{ on := 3, ground := Ground.data }], guard := none }) rfl ?_ AllReadyH.nil)
    intro K4 hK4
    rw [if_pos (by rfl)]
    refine wp_value (.slice ao n cp) (w' := (w4.drew.alloc (.cells (wc (i, b)).toArray 75))) (by go_simp) ?_
    refine hK4.out _ _ hS6 (fun _ => ?_)
    clear hK4
    simp only [Act.put, List.setIfInBounds_toArray, List.set_cons_zero, List.set_cons_succ]
    refine wpAnyH_ready (rs := [7]) (by kernel_rfl) (by simp) (AllReadyH.cons (i := 7) (o := { dst := some 52, op := Op.call { callee := Callee.builtin Builtin.append, args := #[Operand.tmp 49, Operand.tmp 51], argTypes := #[58, 58] }, type := 58, pos := "disk.go:83", after := #[{ on := 4, ground := Ground.data }, { on := 6, ground := Ground.data }], guard := none }) rfl ?_ AllReadyH.nil)
    intro K7 hK7
    refine step_append_at _ (by rfl) (.tmp 49) (.tmp 51) 58 rfl 0 75 i0 (.agg Z.toArray) 257 264 Try.underlying58 HI0.out.1 HI0.out.2.1 HI0.out.2.2.1 HI0.out.2.2.2 HZC.out (by omega) (.slice ao n cp) n (D.pend.flatMap wc) rfl HOW.out ⟨w4.heap.size, 0, none⟩ 1 1 (wc (i, b)) rfl (by rw [wc_length HBL.out]) HNEW.out (wc_one _) (by have := HNN.out.1; unfold maxLen; omega) (by have := HNN.out.1; omega) (Nat.zero_le _) ?_
    intro v5 w5 hown5 hg5 hloc5
    obtain ⟨H5, g5, cap5, rfl, k5, f5, hS5⟩ := after_append HU3.out HA.out HG4.out HB4.out hown5 hg5 hloc5
    clear hown5 hg5 hloc5
    refine hK7.out _ _ hS5 (fun _ => ?_)
    clear hK7
    simp only [Act.put, List.setIfInBounds_toArray, List.set_cons_zero, List.set_cons_succ]
    refine wpAnyH_take (i := 8) (oi := { dst := some 53, op := Op.nilCheck (Operand.tmp 45), type := 0, pos := "disk.go:83", after := #[{ on := 0, ground := Ground.data }, { on := 0, ground := Ground.phase }, { on := 1, ground := Ground.phase }, { on := 2, ground := Ground.phase }, { on := 3, ground := Ground.phase }, { on := 4, ground := Ground.phase }, { on := 5, ground := Ground.phase }, { on := 6, ground := Ground.phase }, { on := 7, ground := Ground.phase }], guard := none }) (v := .pointer (some ⟨d, 0, none⟩)) rfl (by kernel_rfl) (by kernel_rfl) (by kernel_rfl) (fun _ _ _ h => h) (Or.inl ⟨by rfl, ?y8⟩) hS5 ?_
    case y8 =>
      intro W _
      go_simp
    simp only [Act.put, List.setIfInBounds_toArray, List.set_cons_zero, List.set_cons_succ]
    refine wpAnyH_take (i := 9) (oi := { dst := some 54, op := Op.fieldAddr 61 (Operand.tmp 53) 2, type := 0, pos := "disk.go:83", after := #[{ on := 8, ground := Ground.data }, { on := 0, ground := Ground.phase }, { on := 1, ground := Ground.phase }, { on := 2, ground := Ground.phase }, { on := 3, ground := Ground.phase }, { on := 4, ground := Ground.phase }, { on := 5, ground := Ground.phase }, { on := 6, ground := Ground.phase }, { on := 7, ground := Ground.phase }], guard := none }) (v := .pointer (some ⟨d, 2, none⟩)) rfl (by kernel_rfl) (by kernel_rfl) (by kernel_rfl) (fun _ _ _ h => h) (Or.inl ⟨by rfl, ?y9⟩) hS5 ?_
    case y9 =>
      intro W _
      go_simp
    simp only [Act.put, List.setIfInBounds_toArray, List.set_cons_zero, List.set_cons_succ]
    refine wpAnyH_ready (rs := [10]) (by kernel_rfl) (by simp) (AllReadyH.cons (i := 10) (o := { dst := none, op := Op.store 58 (Operand.tmp 54) (Operand.tmp 52), type := 0, pos := "disk.go:83", after := #[{ on := 9, ground := Ground.data }, { on := 7, ground := Ground.data }, { on := 7, ground := Ground.chain }, { on := 0, ground := Ground.phase }, { on := 1, ground := Ground.phase }, { on := 2, ground := Ground.phase }, { on := 3, ground := Ground.phase }, { on := 4, ground := Ground.phase }, { on := 5, ground := Ground.phase }, { on := 6, ground := Ground.phase }, { on := 7, ground := Ground.phase }], guard := none }) rfl ?_ AllReadyH.nil)
    intro K10 hK10
    rw [if_pos (by rfl)]
    refine wp_skip (w' := w5.setCell ⟨d, 2, none⟩ (.slice (some ⟨g5, 0, none⟩) (n + 1) cap5)) (by go_simp) ?_
    refine hK10.out _ _ (after_store hS5 (Nat.ne_of_gt HA.out.blk.lt)) (fun _ => ?_)
    refine wpAnyH_done (by kernel_rfl) ?_ _
    clear hK10
    simp only [Act.put]
    go_wp2
    go_ret
    exact ⟨rfl, write_end HU.out HA.out HG.out HK3.out HM4.out HG4.out HI.out HBL.out HNL.out H5⟩
#print axioms wc_splice
end Go.Proofs.Ytmhdldhplhffcaa.Oct
