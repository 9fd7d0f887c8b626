/-
  Layer 21 (queue): QueueOrder: its rows and drawn regions.
-/
import Derived.Test.YtipipckbcelphaaWfw
namespace Go.Proofs.Ytipipckbcelphaa.Oct
open Go.RowKit Go.Shelf
set_option linter.unusedSimpArgs false
set_option linter.unusedVariables false

/-- a row of the call's own, its cells one wide; its block may reach past its cap -/
def OT (B : Nat) (w : World) (e : TypeId) (v : Value) (cs : List Value) : Prop :=
  (v = .slice none 0 0 ∧ cs = []) ∨ ∃ g c L, v = .slice (some ⟨g, 0, none⟩) cs.length c ∧ B ≤ g ∧ Blk w g e L ∧ cs.length ≤ c ∧ c ≤ L.length ∧ c ≤ maxLen ∧ L.take cs.length = cs
theorem OT.nil (B : Nat) (w : World) (e : TypeId) : OT B w e (.slice none 0 0) [] := .inl ⟨rfl, rfl⟩
theorem OT.own {B : Nat} {w : World} {e n : Nat} {v : Value} {cs : List Value} (h : w.ownsRow B e 1 v n cs) : OT B w e v cs := by
  have hl : cs.length = n := by have := h.1; omega
  rcases h.2 with ⟨rfl, h0⟩ | ⟨g, cap, cur, rfl, hB, hb, hn, hc, hsz, ht⟩
  · exact .inl ⟨rfl, List.eq_nil_of_length_eq_zero (by omega)⟩
  · refine .inr ⟨g, cap, cur.toList, by rw [hl], hB, by unfold Blk; simpa using hb, by omega, by simp; omega, hc, ?_⟩
    rw [hl]; rw [Nat.mul_one] at ht; exact ht
theorem OT.lt {B : Nat} {w : World} {e : Nat} {v : Value} {cs : List Value} (h : OT B w e v cs) {g : Nat} (hg : v.ownBlock = some g) : B ≤ g ∧ g < w.heap.size := by
  rcases h with ⟨rfl, _⟩ | ⟨g', c, L, rfl, hB, hb, _⟩
  · cases hg
  · cases hg; exact ⟨hB, hb.lt⟩
theorem OT.same {B : Nat} {w w' : World} {e : Nat} {v : Value} {cs : List Value} (h : OT B w e v cs) (hs : ∀ g, v.ownBlock = some g → w'.heap[g]? = w.heap[g]?) : OT B w' e v cs := by
  rcases h with h | ⟨g, c, L, rfl, hB, hb, h⟩
  · exact .inl h
  · exact .inr ⟨g, c, L, rfl, hB, (hs g rfl).trans hb, h⟩
theorem OT.below {B : Nat} {w w' : World} {e : Nat} {v : Value} {cs : List Value} (h : OT B w e v cs) (hb : Below w.heap.size w w') : OT B w' e v cs := h.same fun g hg => hb.block g (h.lt hg).2
theorem OT.read {B : Nat} {w : World} {e : Nat} {v : Value} {cs : List Value} (h : OT B w e v cs) : ∃ a c, v = .slice a cs.length c ∧ cs.length ≤ c ∧ c ≤ maxLen ∧ (0 < cs.length → ∃ g L, a = some ⟨g, 0, none⟩ ∧ Blk w g e L ∧ c ≤ L.length ∧ L.take cs.length = cs) := by
  rcases h with ⟨rfl, rfl⟩ | ⟨g, c, L, rfl, hB, hb, h1, h2, h3, h4⟩
  · exact ⟨none, 0, rfl, Nat.le_refl _, Nat.zero_le _, fun h => absurd h (by simp)⟩
  · exact ⟨_, c, rfl, h1, h3, fun _ => ⟨g, L, rfl, hb, h2, h4⟩⟩
theorem take_get {L cs : List Value} (h : L.take cs.length = cs) {i : Nat} {x : Value} (hx : cs[i]? = some x) : L[i]? = some x := by
  have hlt := (List.getElem?_eq_some_iff.1 hx).1
  rw [← h, List.getElem?_take, if_pos hlt] at hx
  exact hx
/-- one more -/
theorem OT.app {B : Nat} {w : World} {t ty e by_ : Nat} (ht : Try.prog.underlying t = some (.slice e)) (hs : Sized e 1 by_) (hby : by_ ≤ 24) {v : Value} {cs : List Value} (h : OT B w e v cs) (hB : B ≤ w.heap.size) (q c : Nat) (x : Value) (hx : x.oneCell' = true) (hq : w.cell? ⟨q, 0, none⟩ = some x) (hn : cs.length + 1 ≤ 4000000000000) :
    ∃ v' w', (Builtin.append_ #[t, t] ty #[v, .slice (some ⟨q, 0, none⟩) 1 c]).run Try.prog w = .ok v' w' ∧ OT B w' e v' (cs ++ [x]) ∧ w.grownBy w' v.ownBlock ∧ (v'.ownBlock = v.ownBlock ∨ v'.ownBlock = some w.heap.size) := by
  obtain ⟨i, hi, hs1, hb, z, hz, hzs⟩ := hs
  have hnews : ∀ j u, [x][j]? = some u → w.cell? ((⟨q, 0, none⟩ : Addr).add j) = some u := fun j u hu => by
    cases j with
    | zero => simp at hu; subst hu; rw [Addr.add_lit]; exact hq
    | succ j => simp at hu
  have h1 : ∀ u ∈ [x], u.oneCell' = true := by intro u hu; simp at hu; subst hu; exact hx
  have hbb : ∀ m, m ≤ 4000000000000 → (m + m / 4 + 192) * i.bytes ≤ 281474976710656 := fun m hm => Nat.le_trans (Nat.mul_le_mul_left _ (show i.bytes ≤ 24 by omega)) (by omega)
  rcases h with ⟨rfl, rfl⟩ | ⟨g, cp, L, rfl, hBg, hbk, k1, k2, k3, k4⟩
  · obtain ⟨v', w', hr, h2, h3, _, h5⟩ := run_append_own_at (P := Try.prog) w B t ty e i z 1 i.bytes ht hi hz hs1 rfl hzs (by omega) (.slice none 0 0) 0 [] ⟨rfl, .inl ⟨rfl, rfl⟩⟩ ⟨q, 0, none⟩ 1 c [x] rfl hnews h1 (by unfold maxLen; omega) (by omega) hB
    exact ⟨v', w', hr, OT.own h2, h3, h5⟩
  · by_cases hroom : cs.length + 1 ≤ cp
    · have hr := run_append_room (P := Try.prog) w t ty e i ht hi g cs.length cp L.toArray hbk ⟨q, 0, none⟩ 1 c [x] (by rw [hs1]; rfl) hnews h1 hroom (by rw [hs1]; simp; omega)
      rw [hs1, Nat.mul_one] at hr
      have hbk' : Blk (w.setRow g (L.toArray.toList.take cs.length ++ [x] ++ L.toArray.toList.drop (cs.length + [x].length)).toArray) g e (L.take cs.length ++ [x] ++ L.drop (cs.length + 1)) := by
        unfold Blk
        exact setRow_heap w g _ _ e (0, 0) hbk
      refine ⟨_, _, hr, .inr ⟨g, cp, _, by rw [List.length_append]; rfl, hBg, hbk', by rw [List.length_append]; exact hroom, by simp; omega, k3, ?_⟩, ⟨rfl, rfl, rfl, by simp, fun k hk hne => setRow_other w g k _ (fun e => hne (by rw [e]; rfl))⟩, .inl rfl⟩
      rw [k4]
      exact List.take_left
    · have hr := run_append_grow (P := Try.prog) w t ty e i z ht hi hz ⟨g, 0, none⟩ cs.length cp cs (by rw [hs1]; omega) (fun j u hu => by rw [Addr.add_lit, Nat.zero_add]; exact hbk.cell (take_get k4 hu)) ⟨q, 0, none⟩ 1 c [x] (by rw [hs1]; rfl) hnews (by omega) (by omega) (growslice_fits_wide (by omega) (hbb _ hn))
      exact ⟨_, _, hr, OT.own (own_of_grown (B := B) hzs (by omega) (by rfl) hB (by unfold maxLen; omega)), ⟨rfl, rfl, rfl, by simp, fun k hk _ => Below.heap_alloc w.drew _ k hk⟩, .inr rfl⟩
/-- one is taken out: what lies ahead of it, capped, and what lies behind it -/
theorem OT.cut {B : Nat} {w : World} {t ty e by_ : Nat} (ht : Try.prog.underlying t = some (.slice e)) (hs : Sized e 1 by_) (hby : by_ ≤ 24) {g n c : Nat} {cs : List Value} (h : OT B w e (.slice (some ⟨g, 0, none⟩) n c) cs) (hB : B ≤ w.heap.size) (i : Nat) (hi' : i < n) (hn : n ≤ 4000000000000) (o m c2 : Nat) (hm : m = n - (i + 1)) (ho : 0 < m → o = i + 1) :
    ∃ v' w', (Builtin.append_ #[t, t] ty #[.slice (some ⟨g, 0, none⟩) i i, .slice (some ⟨g, o, none⟩) m c2]).run Try.prog w = .ok v' w' ∧ OT B w' e v' (cs.eraseIdx i) ∧ Below w.heap.size w w' ∧ (v'.ownBlock = some g ∨ v'.ownBlock = some w.heap.size) := by
  obtain ⟨inf, hi, hs1, hb, z, hz, hzs⟩ := hs
  have hbb : ∀ m, m ≤ 4000000000000 → (m + m / 4 + 192) * inf.bytes ≤ 281474976710656 := fun m hm => Nat.le_trans (Nat.mul_le_mul_left _ (show inf.bytes ≤ 24 by omega)) (by omega)
  rcases h with ⟨h, _⟩ | ⟨g', c', L, hv, hBg, hbk, k1, k2, k3, k4⟩
  · cases h
  cases hv
  by_cases h0 : m = 0
  · subst h0
    have hr := run_append_zero (P := Try.prog) w t ty e inf ht hi (some ⟨g, 0, none⟩) (some ⟨g, o, none⟩) i i c2 (Nat.le_refl _)
    have he : cs.eraseIdx i = cs.take i := by rw [List.eraseIdx_eq_take_drop_succ, List.drop_of_length_le (by omega), List.append_nil]
    have hl : (cs.take i).length = i := by rw [List.length_take]; omega
    refine ⟨_, w, hr, ?_, Below.refl _ _, .inl rfl⟩
    rw [he]
    refine .inr ⟨g, i, L, by rw [hl], hBg, hbk, by omega, by omega, by omega, ?_⟩
    rw [hl]
    have e1 : L.take i = (L.take cs.length).take i := by rw [List.take_take, Nat.min_eq_left (by omega)]
    rw [e1, k4]
  · have e0 := ho (by omega)
    subst e0
    have hr := run_append_grow (P := Try.prog) w t ty e inf z ht hi hz ⟨g, 0, none⟩ i i (cs.take i) (by rw [hs1, List.length_take]; omega)
      (fun j u hu => by
        rw [Addr.add_lit, Nat.zero_add]
        rw [List.getElem?_take] at hu
        split at hu
        · exact hbk.cell (take_get k4 hu)
        · cases hu)
      ⟨g, i + 1, none⟩ m c2 (cs.drop (i + 1)) (by rw [hs1, List.length_drop]; omega) (fun j u hu => by rw [Addr.add_lit]; rw [List.getElem?_drop] at hu; exact hbk.cell (take_get k4 hu)) (by omega) (by omega) (growslice_fits_wide (by omega) (hbb _ (by omega)))
    refine ⟨_, _, hr, ?_, (Below.refl _ _).drew.alloc (Nat.le_refl _) _, .inr rfl⟩
    rw [List.eraseIdx_eq_take_drop_succ]
    exact OT.own (own_of_grown (B := B) hzs (by rw [List.length_take]; omega) (by rw [List.length_drop]; omega) hB (by unfold maxLen; omega))
theorem yl_ahead {o : Oper} {a : Act} (V : World) (t : TypeId) (x y z : Operand) (g n c i : Nat) (hop : o.op = .slice t x none (some y) (some z)) (hx : a.eval x = .slice (some ⟨g, 0, none⟩) n c) (hy : a.eval y = iv (i : Int)) (hz : a.eval z = iv (i : Int)) (ht : Try.prog.underlying t = some (.slice (Try.prog.elem t))) {inf : TypeInfo} (hi : Try.prog.info? (Try.prog.elem t) = some inf) (h : i ≤ c) :
    (execOp a.eval o).run Try.prog V = .ok (.value (.slice (some ⟨g, 0, none⟩) i i)) V := by
  unfold execOp
  have hr := run_slice_hm (P := Try.prog) V t (some ⟨g, 0, none⟩) n c ht .i64 .i64 (i : Int) (i : Int) (by omega) (by omega) (by omega)
  simp [hop, hx, hy, hz, run_sliceAt_slice V t _ _ _ _ ht, hr, sizeOf, typeInfo, hi, Result.andThen, sliced, Addr.add_lit]
theorem yl_from {o : Oper} {a : Act} (V : World) (t : TypeId) (x y : Operand) (g n c i off : Nat) (hop : o.op = .slice t x (some y) none none) (hx : a.eval x = .slice (some ⟨g, 0, none⟩) n c) (hy : a.eval y = iv ((i : Int) + 1)) (ht : Try.prog.underlying t = some (.slice (Try.prog.elem t))) {inf : TypeInfo} (hi : Try.prog.info? (Try.prog.elem t) = some inf) (hs : inf.size = 1) (h : i + 1 ≤ n) (ho : off = if c = i + 1 then 0 else i + 1) :
    (execOp a.eval o).run Try.prog V = .ok (.value (.slice (some ⟨g, off, none⟩) (n - (i + 1)) (c - (i + 1)))) V := by
  unfold execOp
  have hr := run_slice_l (P := Try.prog) V t (some ⟨g, 0, none⟩) n c ht .i64 ((i : Int) + 1) (by omega) (by omega)
  have e : ((i : Int) + 1).toNat = i + 1 := by omega
  rw [e] at hr
  subst ho
  by_cases hc : c = i + 1
  · subst hc
    simp [hop, hx, hy, run_sliceAt_slice V t _ _ _ _ ht, hr, sizeOf, typeInfo, hi, hs, Result.andThen, sliced, Addr.add_lit]
  · simp [hop, hx, hy, run_sliceAt_slice V t _ _ _ _ ht, hr, sizeOf, typeInfo, hi, hs, Result.andThen, sliced, Addr.add_lit, hc]
theorem yl_upto {o : Oper} {a : Act} (V : World) (t : TypeId) (x y : Operand) (g n c i : Nat) (hop : o.op = .slice t x none (some y) none) (hx : a.eval x = .slice (some ⟨g, 0, none⟩) n c) (hy : a.eval y = iv (i : Int)) (ht : Try.prog.underlying t = some (.slice (Try.prog.elem t))) {inf : TypeInfo} (hi : Try.prog.info? (Try.prog.elem t) = some inf) (h : i ≤ c) :
    (execOp a.eval o).run Try.prog V = .ok (.value (.slice (some ⟨g, 0, none⟩) i c)) V := by
  unfold execOp
  have hr := run_slice_h (P := Try.prog) V t (some ⟨g, 0, none⟩) n c ht .i64 (i : Int) (by omega) (by omega)
  simp [hop, hx, hy, run_sliceAt_slice V t _ _ _ _ ht, hr, sizeOf, typeInfo, hi, Result.andThen, sliced, Addr.add_lit]
/-- s[i:] -/
theorem yl_fromN {o : Oper} {a : Act} (V : World) (t : TypeId) (x y : Operand) (g n c i off : Nat) (hop : o.op = .slice t x (some y) none none) (hx : a.eval x = .slice (some ⟨g, 0, none⟩) n c) (hy : a.eval y = iv (i : Int)) (ht : Try.prog.underlying t = some (.slice (Try.prog.elem t))) {inf : TypeInfo} (hi : Try.prog.info? (Try.prog.elem t) = some inf) (hs : inf.size = 1) (h : i ≤ n) (ho : off = if c = i then 0 else i) :
    (execOp a.eval o).run Try.prog V = .ok (.value (.slice (some ⟨g, off, none⟩) (n - i) (c - i))) V := by
  unfold execOp
  have hr := run_slice_l (P := Try.prog) V t (some ⟨g, 0, none⟩) n c ht .i64 (i : Int) (by omega) (by omega)
  have e : ((i : Int)).toNat = i := by omega
  rw [e] at hr
  subst ho
  by_cases hc : c = i
  · subst hc
    simp [hop, hx, hy, run_sliceAt_slice V t _ _ _ _ ht, hr, sizeOf, typeInfo, hi, hs, Result.andThen, sliced, Addr.add_lit]
  · simp [hop, hx, hy, run_sliceAt_slice V t _ _ _ _ ht, hr, sizeOf, typeInfo, hi, hs, Result.andThen, sliced, Addr.add_lit, hc]
theorem yl_add1 {o : Oper} {a : Act} (V : World) (x : Operand) (i n : Nat) (hop : o.op = .binOp .add 3 x (.const (.int .i64 1)) 3) (hx : a.eval x = iv (i : Int)) (h : i < n) (hn : n ≤ 4000000000000) : (execOp a.eval o).run Try.prog V = .ok (.value (iv ((i : Int) + 1))) V := by
  have q1 : (i : Int) < (n : Int) := by omega
  have q2 : (n : Int) ≤ 4000000000000 := by omega
  unfold execOp
  simp only [hop, hx]
  go_simp
  rw [IntKind.wrap_i64]
  omega
theorem u27 : ∃ i : TypeInfo, Try.prog.underlying 27 = some (.slice (Try.prog.elem 27)) ∧ Try.prog.info? (Try.prog.elem 27) = some i ∧ i.size = 1 := by
  have h : (Try.prog.info? (Try.prog.elem 27)).map (·.size) = some 1 := by kernel_rfl
  obtain ⟨i, h1, h2⟩ := Option.map_eq_some_iff.1 h
  exact ⟨i, by kernel_rfl, h1, h2⟩
theorem step_ap {ops : Array Oper} {o : Oper} {a : Act} {w w' : World} {K : Act → World → Prop} {Q : Exit → Act → World → Prop} {E : Prop} (hw : Region.wanted o (yielded ops a.tmps) = true) (t : TypeId) (s x : Operand) (hop : o.op = .call { callee := .builtin .append, args := #[s, x], argTypes := #[t, t] }) (v u v' : Value) (hs : a.eval s = v) (hx : a.eval x = u) (hr : (Builtin.append_ #[t, t] o.type #[v, u]).run Try.prog w = .ok v' w') (hk : K (a.put o.dst v') w') : if Region.wanted o (yielded ops a.tmps) = true then Oper.wp Try.prog o a w K Q else E := by
  rw [if_pos hw]
  unfold Oper.wp execOp
  simp only [hop, resolve, invoke, builtin, Sem.run_bind, Sem.run_pure, Result.andThen_ok, List.map_toArray, List.map_cons, List.map_nil, hs, hx, hr]
  exact hk
theorem off_is {n i c off : Nat} (h : off = if c = i + 1 then 0 else i + 1) (hn : n ≤ c) : 0 < n - (i + 1) → off = i + 1 := fun hp => by rw [h, if_neg (by omega)]
set_option maxRecDepth 100000 in
set_option maxHeartbeats 4000000 in
theorem ord16t {Q : Exit → Act → World → Prop} {x0 x1 x2 x3 x5 x6 x9 x10 x11 x12 x13 x14 x15 x16 x17 x18 x19 x20 x21 x22 x23 x24 x25 x26 x27 x28 x29 x30 x31 x32 x33 x34 x35 x36 x37 x38 x39 x40 x41 x42 x43 x44 x45 x46 x47 x48 x49 x50 x51 x52 x53 x54 x55 x56 x57 x58 x59 x60 x61 x62 x63 x64 x65 x66 x67 x68 x69 x70 x71 x72 x73 x74 x75 x76 x77 x78 x79 x80 x81 x82 x83 x84 x85 x86 x87 x88 x89 x90 x91 x92 x93 x94 x95 x96 : Value} {ds : List Deferred} {A : World} {gp g7 n cp k : Nat} {x z : Int}
    (HL : Hid (gp < A.heap.size ∧ g7 < A.heap.size)) (kz : A.cell? ⟨gp, k, none⟩ = some (iv z)) (kx : A.cell? ⟨g7, 1, none⟩ = some (iv x)) (q1 : (k : Int) < (n : Int)) (q2 : k < n) (b1 : (z != x) = true)
    (hQ : ∀ V1, Below A.heap.size A V1 → Q .normal { tmps := #[x0, x1, x2, x3, .slice (some ⟨gp, 0, none⟩) n cp, x5, x6, .pointer (some ⟨g7, 0, none⟩), iv (k : Int), x9, x10, x11, x12, x13, x14, x15, x16, x17, x18, x19, x20, x21, x22, x23, x24, x25, x26, x27, x28, x29, x30, x31, x32, x33, x34, x35, x36, x37, x38, x39, x40, x41, x42, x43, x44, x45, x46, iv (k : Int), .bool true, .bool true, .slice (some ⟨gp, 0, none⟩) n cp, iv (k : Int), .pointer (some ⟨gp, k, none⟩), iv z, .pointer (some ⟨g7, 1, none⟩), iv x, .bool true, .bool true, x58, x59, x60, x61, x62, x63, x64, x65, x66, x67, x68, x69, x70, x71, x72, x73, x74, x75, x76, x77, x78, x79, x80, x81, x82, x83, x84, x85, x86, x87, x88, x89, x90, x91, x92, x93, x94, x95, x96], defers := ds } V1) :
    (Code.region 16 #[{ dst := some 47, op := Op.move (Operand.tmp 8), type := 3, pos := "law.go:102", after := #[], guard := none }, { dst := some 48, op := Op.binOp BinOp.geq 3 (Operand.tmp 47) (Operand.const (Value.int IntKind.i64 0)) 3, type := 4, pos := "law.go:102", after := #[{ on := 0, ground := Ground.data }], guard := none }, { dst := some 49, op := Op.move (Operand.tmp 48), type := 4, pos := "law.go:102", after := #[{ on := 1, ground := Ground.data }], guard := none }, { dst := some 50, op := Op.move (Operand.tmp 4), type := 27, pos := "law.go:102", after := #[{ on := 2, ground := Ground.guard }], guard := some (2, true) }, { dst := some 51, op := Op.move (Operand.tmp 8), type := 3, pos := "law.go:102", after := #[{ on := 2, ground := Ground.guard }], guard := some (2, true) }, { dst := some 52, op := Op.indexAddr 27 (Operand.tmp 50) (Operand.tmp 51), type := 0, pos := "law.go:102", after := #[{ on := 3, ground := Ground.data }, { on := 4, ground := Ground.data }, { on := 2, ground := Ground.guard }], guard := some (2, true) }, { dst := some 53, op := Op.load 3 (Operand.tmp 52), type := 3, pos := "law.go:102", after := #[{ on := 5, ground := Ground.data }, { on := 2, ground := Ground.guard }], guard := some (2, true) }, { dst := some 54, op := Op.fieldAddr 32 (Operand.tmp 7) 1, type := 0, pos := "law.go:102", after := #[{ on := 2, ground := Ground.guard }], guard := some (2, true) }, { dst := some 55, op := Op.load 3 (Operand.tmp 54), type := 3, pos := "law.go:102", after := #[{ on := 7, ground := Ground.data }, { on := 2, ground := Ground.guard }], guard := some (2, true) }, { dst := some 56, op := Op.binOp BinOp.neq 3 (Operand.tmp 53) (Operand.tmp 55) 3, type := 4, pos := "law.go:102", after := #[{ on := 6, ground := Ground.data }, { on := 8, ground := Ground.data }, { on := 2, ground := Ground.guard }], guard := some (2, true) }, { dst := some 57, op := Op.pick (Operand.tmp 49) (Operand.tmp 56) (Operand.const (Value.bool false)), type := 4, pos := "law.go:102", after := #[{ on := 2, ground := Ground.data }, { on := 9, ground := Ground.data }], guard := none }] true).wp Try.prog Q { tmps := #[x0, x1, x2, x3, .slice (some ⟨gp, 0, none⟩) n cp, x5, x6, .pointer (some ⟨g7, 0, none⟩), iv (k : Int), x9, x10, x11, x12, x13, x14, x15, x16, x17, x18, x19, x20, x21, x22, x23, x24, x25, x26, x27, x28, x29, x30, x31, x32, x33, x34, x35, x36, x37, x38, x39, x40, x41, x42, x43, x44, x45, x46, x47, x48, x49, x50, x51, x52, x53, x54, x55, x56, x57, x58, x59, x60, x61, x62, x63, x64, x65, x66, x67, x68, x69, x70, x71, x72, x73, x74, x75, x76, x77, x78, x79, x80, x81, x82, x83, x84, x85, x86, x87, x88, x89, x90, x91, x92, x93, x94, x95, x96], defers := ds } A := by
  refine Code.wp_mono (Q := fun x a' w' => match x with | .normal => Q .normal a' w' | _ => False) (by intro x a' w' h; cases x <;> first | exact h | exact h.elim) ?_
  refine wp_region_held (S := fun V => Below A.heap.size A V) (by kernel_rfl) ?_
  have hS0 : Hid (Below A.heap.size A A.drew) := below_drew0 A
  change wpAnyH Try.prog .any _ _ (fun V => Below A.heap.size A V) 11 (Array.replicate 11 false) _ A.drew
  obtain ⟨V0, hV0⟩ : ∃ V0, A.drew = V0 := ⟨_, rfl⟩
  rw [hV0]
  rw [hV0] at hS0
  clear hV0
  refine wpAnyH_take (i := 0) (oi := { dst := some 47, op := Op.move (Operand.tmp 8), type := 3, pos := "law.go:102", after := #[], guard := none }) (v := iv (k : Int)) rfl (by kernel_rfl) (by kernel_rfl) (by kernel_rfl) (fun _ _ _ h => h.elim) (Or.inl ⟨by rfl, ?y1⟩) hS0.out ?_
  case y1 =>
    intro V hV
    go_simp
  simp only [Act.put, List.setIfInBounds_toArray, List.set_cons_zero, List.set_cons_succ]
  refine wpAnyH_take (i := 1) (oi := { dst := some 48, op := Op.binOp BinOp.geq 3 (Operand.tmp 47) (Operand.const (Value.int IntKind.i64 0)) 3, type := 4, pos := "law.go:102", after := #[{ on := 0, ground := Ground.data }], guard := none }) (v := .bool true) rfl (by kernel_rfl) (by kernel_rfl) (by kernel_rfl) (fun _ _ _ h => h.elim) (Or.inl ⟨by rfl, ?y2⟩) hS0.out ?_
  case y2 =>
    intro V hV
    have hq0 : (0 : Int) ≤ (k : Int) := by omega
    go_simp
  simp only [Act.put, List.setIfInBounds_toArray, List.set_cons_zero, List.set_cons_succ]
  refine wpAnyH_take (i := 2) (oi := { dst := some 49, op := Op.move (Operand.tmp 48), type := 4, pos := "law.go:102", after := #[{ on := 1, ground := Ground.data }], guard := none }) (v := .bool true) rfl (by kernel_rfl) (by kernel_rfl) (by kernel_rfl) (fun _ _ _ h => h.elim) (Or.inl ⟨by rfl, ?y3⟩) hS0.out ?_
  case y3 =>
    intro V hV
    go_simp
  simp only [Act.put, List.setIfInBounds_toArray, List.set_cons_zero, List.set_cons_succ]
  refine wpAnyH_take (i := 3) (oi := { dst := some 50, op := Op.move (Operand.tmp 4), type := 27, pos := "law.go:102", after := #[{ on := 2, ground := Ground.guard }], guard := some (2, true) }) (v := .slice (some ⟨gp, 0, none⟩) n cp) rfl (by kernel_rfl) (by kernel_rfl) (by kernel_rfl) (fun _ _ _ h => h.elim) (Or.inl ⟨by rfl, ?y4⟩) hS0.out ?_
  case y4 =>
    intro V hV
    go_simp
  simp only [Act.put, List.setIfInBounds_toArray, List.set_cons_zero, List.set_cons_succ]
  refine wpAnyH_take (i := 4) (oi := { dst := some 51, op := Op.move (Operand.tmp 8), type := 3, pos := "law.go:102", after := #[{ on := 2, ground := Ground.guard }], guard := some (2, true) }) (v := iv (k : Int)) rfl (by kernel_rfl) (by kernel_rfl) (by kernel_rfl) (fun _ _ _ h => h.elim) (Or.inl ⟨by rfl, ?y5⟩) hS0.out ?_
  case y5 =>
    intro V hV
    go_simp
  simp only [Act.put, List.setIfInBounds_toArray, List.set_cons_zero, List.set_cons_succ]
  refine wpAnyH_take (i := 5) (oi := { dst := some 52, op := Op.indexAddr 27 (Operand.tmp 50) (Operand.tmp 51), type := 0, pos := "law.go:102", after := #[{ on := 3, ground := Ground.data }, { on := 4, ground := Ground.data }, { on := 2, ground := Ground.guard }], guard := some (2, true) }) (v := .pointer (some ⟨gp, k, none⟩)) rfl (by kernel_rfl) (by kernel_rfl) (by kernel_rfl) (fun _ _ _ h => h.elim) (Or.inl ⟨by rfl, ?y6⟩) hS0.out ?_
  case y6 =>
    intro V hV
    have hcmp := q1
    have hcmp2 := q2
    go_simp
  simp only [Act.put, List.setIfInBounds_toArray, List.set_cons_zero, List.set_cons_succ]
  refine wpAnyH_take (i := 6) (oi := { dst := some 53, op := Op.load 3 (Operand.tmp 52), type := 3, pos := "law.go:102", after := #[{ on := 5, ground := Ground.data }, { on := 2, ground := Ground.guard }], guard := some (2, true) }) (v := iv z) rfl (by kernel_rfl) (by kernel_rfl) (by kernel_rfl) (fun _ _ _ h => h.elim) (Or.inl ⟨by rfl, ?y7⟩) hS0.out ?_
  case y7 =>
    intro V hV
    have hc : V.cell? ⟨gp, k, none⟩ = some (iv z) := ((show Below A.heap.size A V from hV).cell (p := ⟨gp, k, none⟩) (HL.out.1)).trans kz
    go_simp
  simp only [Act.put, List.setIfInBounds_toArray, List.set_cons_zero, List.set_cons_succ]
  refine wpAnyH_take (i := 7) (oi := { dst := some 54, op := Op.fieldAddr 32 (Operand.tmp 7) 1, type := 0, pos := "law.go:102", after := #[{ on := 2, ground := Ground.guard }], guard := some (2, true) }) (v := .pointer (some ⟨g7, 1, none⟩)) rfl (by kernel_rfl) (by kernel_rfl) (by kernel_rfl) (fun _ _ _ h => h.elim) (Or.inl ⟨by rfl, ?y8⟩) hS0.out ?_
  case y8 =>
    intro V hV
    go_simp
  simp only [Act.put, List.setIfInBounds_toArray, List.set_cons_zero, List.set_cons_succ]
  refine wpAnyH_take (i := 8) (oi := { dst := some 55, op := Op.load 3 (Operand.tmp 54), type := 3, pos := "law.go:102", after := #[{ on := 7, ground := Ground.data }, { on := 2, ground := Ground.guard }], guard := some (2, true) }) (v := iv x) rfl (by kernel_rfl) (by kernel_rfl) (by kernel_rfl) (fun _ _ _ h => h.elim) (Or.inl ⟨by rfl, ?y9⟩) hS0.out ?_
  case y9 =>
    intro V hV
    have hc : V.cell? ⟨g7, 1, none⟩ = some (iv x) := ((show Below A.heap.size A V from hV).cell (p := ⟨g7, 1, none⟩) (HL.out.2)).trans kx
    go_simp
  simp only [Act.put, List.setIfInBounds_toArray, List.set_cons_zero, List.set_cons_succ]
  refine wpAnyH_take (i := 9) (oi := { dst := some 56, op := Op.binOp BinOp.neq 3 (Operand.tmp 53) (Operand.tmp 55) 3, type := 4, pos := "law.go:102", after := #[{ on := 6, ground := Ground.data }, { on := 8, ground := Ground.data }, { on := 2, ground := Ground.guard }], guard := some (2, true) }) (v := .bool true) rfl (by kernel_rfl) (by kernel_rfl) (by kernel_rfl) (fun _ _ _ h => h.elim) (Or.inl ⟨by rfl, ?y10⟩) hS0.out ?_
  case y10 =>
    intro V hV
    have hcmp := b1
    go_simp
  simp only [Act.put, List.setIfInBounds_toArray, List.set_cons_zero, List.set_cons_succ]
  refine wpAnyH_take (i := 10) (oi := { dst := some 57, op := Op.pick (Operand.tmp 49) (Operand.tmp 56) (Operand.const (Value.bool false)), type := 4, pos := "law.go:102", after := #[{ on := 2, ground := Ground.data }, { on := 9, ground := Ground.data }], guard := none }) (v := .bool true) rfl (by kernel_rfl) (by kernel_rfl) (by kernel_rfl) (fun _ _ _ h => h.elim) (Or.inl ⟨by rfl, ?y11⟩) hS0.out ?_
  case y11 =>
    intro V hV
    go_simp
  simp only [Act.put, List.setIfInBounds_toArray, List.set_cons_zero, List.set_cons_succ]
  refine wpAnyH_done (by kernel_rfl) ?_ _
  exact hQ V0 hS0.out
#print axioms ord16t
set_option maxRecDepth 100000 in
set_option maxHeartbeats 4000000 in
theorem ord16f {Q : Exit → Act → World → Prop} {x0 x1 x2 x3 x5 x6 x9 x10 x11 x12 x13 x14 x15 x16 x17 x18 x19 x20 x21 x22 x23 x24 x25 x26 x27 x28 x29 x30 x31 x32 x33 x34 x35 x36 x37 x38 x39 x40 x41 x42 x43 x44 x45 x46 x47 x48 x49 x50 x51 x52 x53 x54 x55 x56 x57 x58 x59 x60 x61 x62 x63 x64 x65 x66 x67 x68 x69 x70 x71 x72 x73 x74 x75 x76 x77 x78 x79 x80 x81 x82 x83 x84 x85 x86 x87 x88 x89 x90 x91 x92 x93 x94 x95 x96 : Value} {ds : List Deferred} {A : World} {gp g7 n cp k : Nat} {x z : Int}
    (HL : Hid (gp < A.heap.size ∧ g7 < A.heap.size)) (kz : A.cell? ⟨gp, k, none⟩ = some (iv z)) (kx : A.cell? ⟨g7, 1, none⟩ = some (iv x)) (q1 : (k : Int) < (n : Int)) (q2 : k < n) (b1 : (z != x) = false)
    (hQ : ∀ V1, Below A.heap.size A V1 → Q .normal { tmps := #[x0, x1, x2, x3, .slice (some ⟨gp, 0, none⟩) n cp, x5, x6, .pointer (some ⟨g7, 0, none⟩), iv (k : Int), x9, x10, x11, x12, x13, x14, x15, x16, x17, x18, x19, x20, x21, x22, x23, x24, x25, x26, x27, x28, x29, x30, x31, x32, x33, x34, x35, x36, x37, x38, x39, x40, x41, x42, x43, x44, x45, x46, iv (k : Int), .bool true, .bool true, .slice (some ⟨gp, 0, none⟩) n cp, iv (k : Int), .pointer (some ⟨gp, k, none⟩), iv z, .pointer (some ⟨g7, 1, none⟩), iv x, .bool false, .bool false, x58, x59, x60, x61, x62, x63, x64, x65, x66, x67, x68, x69, x70, x71, x72, x73, x74, x75, x76, x77, x78, x79, x80, x81, x82, x83, x84, x85, x86, x87, x88, x89, x90, x91, x92, x93, x94, x95, x96], defers := ds } V1) :
    (Code.region 16 #[{ dst := some 47, op := Op.move (Operand.tmp 8), type := 3, pos := "law.go:102", after := #[], guard := none }, { dst := some 48, op := Op.binOp BinOp.geq 3 (Operand.tmp 47) (Operand.const (Value.int IntKind.i64 0)) 3, type := 4, pos := "law.go:102", after := #[{ on := 0, ground := Ground.data }], guard := none }, { dst := some 49, op := Op.move (Operand.tmp 48), type := 4, pos := "law.go:102", after := #[{ on := 1, ground := Ground.data }], guard := none }, { dst := some 50, op := Op.move (Operand.tmp 4), type := 27, pos := "law.go:102", after := #[{ on := 2, ground := Ground.guard }], guard := some (2, true) }, { dst := some 51, op := Op.move (Operand.tmp 8), type := 3, pos := "law.go:102", after := #[{ on := 2, ground := Ground.guard }], guard := some (2, true) }, { dst := some 52, op := Op.indexAddr 27 (Operand.tmp 50) (Operand.tmp 51), type := 0, pos := "law.go:102", after := #[{ on := 3, ground := Ground.data }, { on := 4, ground := Ground.data }, { on := 2, ground := Ground.guard }], guard := some (2, true) }, { dst := some 53, op := Op.load 3 (Operand.tmp 52), type := 3, pos := "law.go:102", after := #[{ on := 5, ground := Ground.data }, { on := 2, ground := Ground.guard }], guard := some (2, true) }, { dst := some 54, op := Op.fieldAddr 32 (Operand.tmp 7) 1, type := 0, pos := "law.go:102", after := #[{ on := 2, ground := Ground.guard }], guard := some (2, true) }, { dst := some 55, op := Op.load 3 (Operand.tmp 54), type := 3, pos := "law.go:102", after := #[{ on := 7, ground := Ground.data }, { on := 2, ground := Ground.guard }], guard := some (2, true) }, { dst := some 56, op := Op.binOp BinOp.neq 3 (Operand.tmp 53) (Operand.tmp 55) 3, type := 4, pos := "law.go:102", after := #[{ on := 6, ground := Ground.data }, { on := 8, ground := Ground.data }, { on := 2, ground := Ground.guard }], guard := some (2, true) }, { dst := some 57, op := Op.pick (Operand.tmp 49) (Operand.tmp 56) (Operand.const (Value.bool false)), type := 4, pos := "law.go:102", after := #[{ on := 2, ground := Ground.data }, { on := 9, ground := Ground.data }], guard := none }] true).wp Try.prog Q { tmps := #[x0, x1, x2, x3, .slice (some ⟨gp, 0, none⟩) n cp, x5, x6, .pointer (some ⟨g7, 0, none⟩), iv (k : Int), x9, x10, x11, x12, x13, x14, x15, x16, x17, x18, x19, x20, x21, x22, x23, x24, x25, x26, x27, x28, x29, x30, x31, x32, x33, x34, x35, x36, x37, x38, x39, x40, x41, x42, x43, x44, x45, x46, x47, x48, x49, x50, x51, x52, x53, x54, x55, x56, x57, x58, x59, x60, x61, x62, x63, x64, x65, x66, x67, x68, x69, x70, x71, x72, x73, x74, x75, x76, x77, x78, x79, x80, x81, x82, x83, x84, x85, x86, x87, x88, x89, x90, x91, x92, x93, x94, x95, x96], defers := ds } A := by
  refine Code.wp_mono (Q := fun x a' w' => match x with | .normal => Q .normal a' w' | _ => False) (by intro x a' w' h; cases x <;> first | exact h | exact h.elim) ?_
  refine wp_region_held (S := fun V => Below A.heap.size A V) (by kernel_rfl) ?_
  have hS0 : Hid (Below A.heap.size A A.drew) := below_drew0 A
  change wpAnyH Try.prog .any _ _ (fun V => Below A.heap.size A V) 11 (Array.replicate 11 false) _ A.drew
  obtain ⟨V0, hV0⟩ : ∃ V0, A.drew = V0 := ⟨_, rfl⟩
  rw [hV0]
  rw [hV0] at hS0
  clear hV0
  refine wpAnyH_take (i := 0) (oi := { dst := some 47, op := Op.move (Operand.tmp 8), type := 3, pos := "law.go:102", after := #[], guard := none }) (v := iv (k : Int)) rfl (by kernel_rfl) (by kernel_rfl) (by kernel_rfl) (fun _ _ _ h => h.elim) (Or.inl ⟨by rfl, ?y1⟩) hS0.out ?_
  case y1 =>
    intro V hV
    go_simp
  simp only [Act.put, List.setIfInBounds_toArray, List.set_cons_zero, List.set_cons_succ]
  refine wpAnyH_take (i := 1) (oi := { dst := some 48, op := Op.binOp BinOp.geq 3 (Operand.tmp 47) (Operand.const (Value.int IntKind.i64 0)) 3, type := 4, pos := "law.go:102", after := #[{ on := 0, ground := Ground.data }], guard := none }) (v := .bool true) rfl (by kernel_rfl) (by kernel_rfl) (by kernel_rfl) (fun _ _ _ h => h.elim) (Or.inl ⟨by rfl, ?y2⟩) hS0.out ?_
  case y2 =>
    intro V hV
    have hq0 : (0 : Int) ≤ (k : Int) := by omega
    go_simp
  simp only [Act.put, List.setIfInBounds_toArray, List.set_cons_zero, List.set_cons_succ]
  refine wpAnyH_take (i := 2) (oi := { dst := some 49, op := Op.move (Operand.tmp 48), type := 4, pos := "law.go:102", after := #[{ on := 1, ground := Ground.data }], guard := none }) (v := .bool true) rfl (by kernel_rfl) (by kernel_rfl) (by kernel_rfl) (fun _ _ _ h => h.elim) (Or.inl ⟨by rfl, ?y3⟩) hS0.out ?_
  case y3 =>
    intro V hV
    go_simp
  simp only [Act.put, List.setIfInBounds_toArray, List.set_cons_zero, List.set_cons_succ]
  refine wpAnyH_take (i := 3) (oi := { dst := some 50, op := Op.move (Operand.tmp 4), type := 27, pos := "law.go:102", after := #[{ on := 2, ground := Ground.guard }], guard := some (2, true) }) (v := .slice (some ⟨gp, 0, none⟩) n cp) rfl (by kernel_rfl) (by kernel_rfl) (by kernel_rfl) (fun _ _ _ h => h.elim) (Or.inl ⟨by rfl, ?y4⟩) hS0.out ?_
  case y4 =>
    intro V hV
    go_simp
  simp only [Act.put, List.setIfInBounds_toArray, List.set_cons_zero, List.set_cons_succ]
  refine wpAnyH_take (i := 4) (oi := { dst := some 51, op := Op.move (Operand.tmp 8), type := 3, pos := "law.go:102", after := #[{ on := 2, ground := Ground.guard }], guard := some (2, true) }) (v := iv (k : Int)) rfl (by kernel_rfl) (by kernel_rfl) (by kernel_rfl) (fun _ _ _ h => h.elim) (Or.inl ⟨by rfl, ?y5⟩) hS0.out ?_
  case y5 =>
    intro V hV
    go_simp
  simp only [Act.put, List.setIfInBounds_toArray, List.set_cons_zero, List.set_cons_succ]
  refine wpAnyH_take (i := 5) (oi := { dst := some 52, op := Op.indexAddr 27 (Operand.tmp 50) (Operand.tmp 51), type := 0, pos := "law.go:102", after := #[{ on := 3, ground := Ground.data }, { on := 4, ground := Ground.data }, { on := 2, ground := Ground.guard }], guard := some (2, true) }) (v := .pointer (some ⟨gp, k, none⟩)) rfl (by kernel_rfl) (by kernel_rfl) (by kernel_rfl) (fun _ _ _ h => h.elim) (Or.inl ⟨by rfl, ?y6⟩) hS0.out ?_
  case y6 =>
    intro V hV
    have hcmp := q1
    have hcmp2 := q2
    go_simp
  simp only [Act.put, List.setIfInBounds_toArray, List.set_cons_zero, List.set_cons_succ]
  refine wpAnyH_take (i := 6) (oi := { dst := some 53, op := Op.load 3 (Operand.tmp 52), type := 3, pos := "law.go:102", after := #[{ on := 5, ground := Ground.data }, { on := 2, ground := Ground.guard }], guard := some (2, true) }) (v := iv z) rfl (by kernel_rfl) (by kernel_rfl) (by kernel_rfl) (fun _ _ _ h => h.elim) (Or.inl ⟨by rfl, ?y7⟩) hS0.out ?_
  case y7 =>
    intro V hV
    have hc : V.cell? ⟨gp, k, none⟩ = some (iv z) := ((show Below A.heap.size A V from hV).cell (p := ⟨gp, k, none⟩) (HL.out.1)).trans kz
    go_simp
  simp only [Act.put, List.setIfInBounds_toArray, List.set_cons_zero, List.set_cons_succ]
  refine wpAnyH_take (i := 7) (oi := { dst := some 54, op := Op.fieldAddr 32 (Operand.tmp 7) 1, type := 0, pos := "law.go:102", after := #[{ on := 2, ground := Ground.guard }], guard := some (2, true) }) (v := .pointer (some ⟨g7, 1, none⟩)) rfl (by kernel_rfl) (by kernel_rfl) (by kernel_rfl) (fun _ _ _ h => h.elim) (Or.inl ⟨by rfl, ?y8⟩) hS0.out ?_
  case y8 =>
    intro V hV
    go_simp
  simp only [Act.put, List.setIfInBounds_toArray, List.set_cons_zero, List.set_cons_succ]
  refine wpAnyH_take (i := 8) (oi := { dst := some 55, op := Op.load 3 (Operand.tmp 54), type := 3, pos := "law.go:102", after := #[{ on := 7, ground := Ground.data }, { on := 2, ground := Ground.guard }], guard := some (2, true) }) (v := iv x) rfl (by kernel_rfl) (by kernel_rfl) (by kernel_rfl) (fun _ _ _ h => h.elim) (Or.inl ⟨by rfl, ?y9⟩) hS0.out ?_
  case y9 =>
    intro V hV
    have hc : V.cell? ⟨g7, 1, none⟩ = some (iv x) := ((show Below A.heap.size A V from hV).cell (p := ⟨g7, 1, none⟩) (HL.out.2)).trans kx
    go_simp
  simp only [Act.put, List.setIfInBounds_toArray, List.set_cons_zero, List.set_cons_succ]
  refine wpAnyH_take (i := 9) (oi := { dst := some 56, op := Op.binOp BinOp.neq 3 (Operand.tmp 53) (Operand.tmp 55) 3, type := 4, pos := "law.go:102", after := #[{ on := 6, ground := Ground.data }, { on := 8, ground := Ground.data }, { on := 2, ground := Ground.guard }], guard := some (2, true) }) (v := .bool false) rfl (by kernel_rfl) (by kernel_rfl) (by kernel_rfl) (fun _ _ _ h => h.elim) (Or.inl ⟨by rfl, ?y10⟩) hS0.out ?_
  case y10 =>
    intro V hV
    have hcmp := b1
    go_simp
  simp only [Act.put, List.setIfInBounds_toArray, List.set_cons_zero, List.set_cons_succ]
  refine wpAnyH_take (i := 10) (oi := { dst := some 57, op := Op.pick (Operand.tmp 49) (Operand.tmp 56) (Operand.const (Value.bool false)), type := 4, pos := "law.go:102", after := #[{ on := 2, ground := Ground.data }, { on := 9, ground := Ground.data }], guard := none }) (v := .bool false) rfl (by kernel_rfl) (by kernel_rfl) (by kernel_rfl) (fun _ _ _ h => h.elim) (Or.inl ⟨by rfl, ?y11⟩) hS0.out ?_
  case y11 =>
    intro V hV
    go_simp
  simp only [Act.put, List.setIfInBounds_toArray, List.set_cons_zero, List.set_cons_succ]
  refine wpAnyH_done (by kernel_rfl) ?_ _
  exact hQ V0 hS0.out
#print axioms ord16f
set_option maxRecDepth 100000 in
set_option maxHeartbeats 4000000 in
theorem ord20 {Q : Exit → Act → World → Prop} {x0 x1 x2 x3 x5 x6 x7 x9 x10 x11 x12 x13 x14 x15 x16 x17 x18 x19 x20 x21 x22 x23 x24 x25 x26 x27 x28 x29 x30 x31 x32 x33 x34 x35 x36 x37 x38 x39 x40 x41 x42 x43 x44 x45 x46 x47 x48 x49 x50 x51 x52 x53 x54 x55 x56 x57 x58 x59 x60 x61 x62 x63 x64 x65 x66 x67 x68 x69 x70 x71 x72 x73 x74 x75 x76 x77 x78 x79 x80 x81 x82 x83 x84 x85 x86 x87 x88 x89 x90 x91 x92 x93 x94 x95 x96 : Value} {ds : List Deferred} {A : World} {B gp n cp k o1 : Nat} {cs : List Value} {i1 : TypeInfo}
    (HB : Hid (B ≤ A.heap.size)) (HI : Hid (k < n ∧ n ≤ 4000000000000 ∧ n ≤ cp)) (HOF : Hid (o1 = if cp = k + 1 then 0 else k + 1)) (HX : Hid (OT B A 3 (.slice (some ⟨gp, 0, none⟩) n cp) cs)) (HU : Hid (Try.prog.underlying 27 = some (.slice (Try.prog.elem 27)) ∧ Try.prog.info? (Try.prog.elem 27) = some i1 ∧ i1.size = 1))
    (hQ : ∀ V1 a1, (OT B V1 3 a1 (cs.eraseIdx k) ∧ (a1.ownBlock = some gp ∨ ∃ g, a1.ownBlock = some g ∧ A.heap.size ≤ g)) → Below A.heap.size A V1 → Q .normal { tmps := #[x0, x1, x2, x3, a1, x5, x6, x7, iv (k : Int), x9, x10, x11, x12, x13, x14, x15, x16, x17, x18, x19, x20, x21, x22, x23, x24, x25, x26, x27, x28, x29, x30, x31, x32, x33, x34, x35, x36, x37, x38, x39, x40, x41, x42, x43, x44, x45, x46, x47, x48, x49, x50, x51, x52, x53, x54, x55, x56, x57, x58, x59, x60, x61, .slice (some ⟨gp, 0, none⟩) n cp, iv (k : Int), iv (k : Int), .slice (some ⟨gp, 0, none⟩) k k, .slice (some ⟨gp, 0, none⟩) n cp, iv (k : Int), iv ((k : Int) + 1), .slice (some ⟨gp, o1, none⟩) (n - (k + 1)) (cp - (k + 1)), a1, x71, x72, x73, x74, x75, x76, x77, x78, x79, x80, x81, x82, x83, x84, x85, x86, x87, x88, x89, x90, x91, x92, x93, x94, x95, x96], defers := ds } V1) :
    (Code.region 20 #[{ dst := some 62, op := Op.move (Operand.tmp 4), type := 27, pos := "law.go:108", after := #[], guard := none }, { dst := some 63, op := Op.move (Operand.tmp 8), type := 3, pos := "law.go:108", after := #[], guard := none }, { dst := some 64, op := Op.move (Operand.tmp 8), type := 3, pos := "law.go:108", after := #[], guard := none }, { dst := some 65, op := Op.slice 27 (Operand.tmp 62) none (some (Operand.tmp 63)) (some (Operand.tmp 64)), type := 27, pos := "law.go:108", after := #[{ on := 0, ground := Ground.data }, { on := 1, ground := Ground.data }, { on := 2, ground := Ground.data }], guard := none }, { dst := some 66, op := Op.move (Operand.tmp 4), type := 27, pos := "law.go:108", after := #[], guard := none }, { dst := some 67, op := Op.move (Operand.tmp 8), type := 3, pos := "law.go:108", after := #[], guard := none }, { dst := some 68, op := Op.binOp BinOp.add 3 (Operand.tmp 67) (Operand.const (Value.int IntKind.i64 1)) 3, type := 3, pos := "law.go:108", after := #[{ on := 5, ground := Ground.data }], guard := none }, { dst := some 69, op := Op.slice 27 (Operand.tmp 66) (some (Operand.tmp 68)) none none, type := 27, pos := "law.go:108", after := #[{ on := 4, ground := Ground.data }, { on := 6, ground := Ground.data }], guard := none }, { dst := some 70, op := Op.call { callee := Callee.builtin Builtin.append, args := #[Operand.tmp 65, Operand.tmp 69], argTypes := #[27, 27] }, type := 27, pos := "law.go:108", after := #[{ on := 3, ground := Ground.data }, { on := 7, ground := Ground.data }], guard := none }, { dst := some 4, op := Op.assign (Operand.tmp 70), type := 27, pos := "law.go:108", after := #[{ on := 8, ground := Ground.data }, { on := 8, ground := Ground.chain }, { on := 0, ground := Ground.phase }, { on := 1, ground := Ground.phase }, { on := 2, ground := Ground.phase }, { on := 3, ground := Ground.phase }, { on := 4, ground := Ground.phase }, { on := 5, ground := Ground.phase }, { on := 6, ground := Ground.phase }, { on := 7, ground := Ground.phase }, { on := 8, ground := Ground.phase }], guard := none }] true).wp Try.prog Q { tmps := #[x0, x1, x2, x3, .slice (some ⟨gp, 0, none⟩) n cp, x5, x6, x7, iv (k : Int), x9, x10, x11, x12, x13, x14, x15, x16, x17, x18, x19, x20, x21, x22, x23, x24, x25, x26, x27, x28, x29, x30, x31, x32, x33, x34, x35, x36, x37, x38, x39, x40, x41, x42, x43, x44, x45, x46, x47, x48, x49, x50, x51, x52, x53, x54, x55, x56, x57, x58, x59, x60, x61, x62, x63, x64, x65, x66, x67, x68, x69, x70, x71, x72, x73, x74, x75, x76, x77, x78, x79, x80, x81, x82, x83, x84, x85, x86, x87, x88, x89, x90, x91, x92, x93, x94, x95, x96], defers := ds } A := by
  refine Code.wp_mono (Q := fun x a' w' => match x with | .normal => Q .normal a' w' | _ => False) (by intro x a' w' h; cases x <;> first | exact h | exact h.elim) ?_
  refine wp_region_held (S := fun V => Below A.heap.size A V) (by kernel_rfl) ?_
  have hS0 : Hid (Below A.heap.size A A.drew) := below_drew0 A
  change wpAnyH Try.prog .any _ _ (fun V => Below A.heap.size A V) 10 (Array.replicate 10 false) _ A.drew
  obtain ⟨V0, hV0⟩ : ∃ V0, A.drew = V0 := ⟨_, rfl⟩
  rw [hV0]
  rw [hV0] at hS0
  have hX0 : Hid (OT B V0 3 (.slice (some ⟨gp, 0, none⟩) n cp) cs) := by rw [← hV0]; exact HX.out
  clear hV0
  refine wpAnyH_take (i := 0) (oi := { dst := some 62, op := Op.move (Operand.tmp 4), type := 27, pos := "law.go:108", after := #[], guard := none }) (v := .slice (some ⟨gp, 0, none⟩) n cp) rfl (by kernel_rfl) (by kernel_rfl) (by kernel_rfl) (fun _ _ _ h => h.elim) (Or.inl ⟨by rfl, ?y1⟩) hS0.out ?_
  case y1 =>
    intro V hV
    go_simp
  simp only [Act.put, List.setIfInBounds_toArray, List.set_cons_zero, List.set_cons_succ]
  refine wpAnyH_take (i := 1) (oi := { dst := some 63, op := Op.move (Operand.tmp 8), type := 3, pos := "law.go:108", after := #[], guard := none }) (v := iv (k : Int)) rfl (by kernel_rfl) (by kernel_rfl) (by kernel_rfl) (fun _ _ _ h => h.elim) (Or.inl ⟨by rfl, ?y2⟩) hS0.out ?_
  case y2 =>
    intro V hV
    go_simp
  simp only [Act.put, List.setIfInBounds_toArray, List.set_cons_zero, List.set_cons_succ]
  refine wpAnyH_take (i := 2) (oi := { dst := some 64, op := Op.move (Operand.tmp 8), type := 3, pos := "law.go:108", after := #[], guard := none }) (v := iv (k : Int)) rfl (by kernel_rfl) (by kernel_rfl) (by kernel_rfl) (fun _ _ _ h => h.elim) (Or.inl ⟨by rfl, ?y3⟩) hS0.out ?_
  case y3 =>
    intro V hV
    go_simp
  simp only [Act.put, List.setIfInBounds_toArray, List.set_cons_zero, List.set_cons_succ]
  refine wpAnyH_take (i := 3) (oi := { dst := some 65, op := Op.slice 27 (Operand.tmp 62) none (some (Operand.tmp 63)) (some (Operand.tmp 64)), type := 27, pos := "law.go:108", after := #[{ on := 0, ground := Ground.data }, { on := 1, ground := Ground.data }, { on := 2, ground := Ground.data }], guard := none }) (v := .slice (some ⟨gp, 0, none⟩) k k) rfl (by kernel_rfl) (by kernel_rfl) (by kernel_rfl) (fun _ _ _ h => h.elim) (Or.inl ⟨by rfl, ?y4⟩) hS0.out ?_
  case y4 =>
    intro V hV
    exact yl_ahead V 27 (.tmp 62) (.tmp 63) (.tmp 64) _ _ _ _ rfl rfl rfl rfl HU.out.1 HU.out.2.1 (by have := HI.out; omega)
  simp only [Act.put, List.setIfInBounds_toArray, List.set_cons_zero, List.set_cons_succ]
  refine wpAnyH_take (i := 4) (oi := { dst := some 66, op := Op.move (Operand.tmp 4), type := 27, pos := "law.go:108", after := #[], guard := none }) (v := .slice (some ⟨gp, 0, none⟩) n cp) rfl (by kernel_rfl) (by kernel_rfl) (by kernel_rfl) (fun _ _ _ h => h.elim) (Or.inl ⟨by rfl, ?y5⟩) hS0.out ?_
  case y5 =>
    intro V hV
    go_simp
  simp only [Act.put, List.setIfInBounds_toArray, List.set_cons_zero, List.set_cons_succ]
  refine wpAnyH_take (i := 5) (oi := { dst := some 67, op := Op.move (Operand.tmp 8), type := 3, pos := "law.go:108", after := #[], guard := none }) (v := iv (k : Int)) rfl (by kernel_rfl) (by kernel_rfl) (by kernel_rfl) (fun _ _ _ h => h.elim) (Or.inl ⟨by rfl, ?y6⟩) hS0.out ?_
  case y6 =>
    intro V hV
    go_simp
  simp only [Act.put, List.setIfInBounds_toArray, List.set_cons_zero, List.set_cons_succ]
  refine wpAnyH_take (i := 6) (oi := { dst := some 68, op := Op.binOp BinOp.add 3 (Operand.tmp 67) (Operand.const (Value.int IntKind.i64 1)) 3, type := 3, pos := "law.go:108", after := #[{ on := 5, ground := Ground.data }], guard := none }) (v := iv ((k : Int) + 1)) rfl (by kernel_rfl) (by kernel_rfl) (by kernel_rfl) (fun _ _ _ h => h.elim) (Or.inl ⟨by rfl, ?y7⟩) hS0.out ?_
  case y7 =>
    intro V hV
    exact yl_add1 V _ k n rfl rfl HI.out.1 HI.out.2.1
  simp only [Act.put, List.setIfInBounds_toArray, List.set_cons_zero, List.set_cons_succ]
  refine wpAnyH_take (i := 7) (oi := { dst := some 69, op := Op.slice 27 (Operand.tmp 66) (some (Operand.tmp 68)) none none, type := 27, pos := "law.go:108", after := #[{ on := 4, ground := Ground.data }, { on := 6, ground := Ground.data }], guard := none }) (v := .slice (some ⟨gp, o1, none⟩) (n - (k + 1)) (cp - (k + 1))) rfl (by kernel_rfl) (by kernel_rfl) (by kernel_rfl) (fun _ _ _ h => h.elim) (Or.inl ⟨by rfl, ?y8⟩) hS0.out ?_
  case y8 =>
    intro V hV
    exact yl_from V 27 (.tmp 66) (.tmp 68) _ _ _ _ _ rfl rfl rfl HU.out.1 HU.out.2.1 HU.out.2.2 HI.out.1 HOF.out
  simp only [Act.put, List.setIfInBounds_toArray, List.set_cons_zero, List.set_cons_succ]
  refine wpAnyH_ready (rs := [8]) (by kernel_rfl) (by simp) (AllReadyH.cons (i := 8) (o := { dst := some 70, op := Op.call { callee := Callee.builtin Builtin.append, args := #[Operand.tmp 65, Operand.tmp 69], argTypes := #[27, 27] }, type := 27, pos := "law.go:108", after := #[{ on := 3, ground := Ground.data }, { on := 7, ground := Ground.data }], guard := none }) rfl ?_ AllReadyH.nil)
  · intro K1 hK1
    obtain ⟨a1, V1, hr1, ho1, hb1, hp1⟩ := OT.cut (ty := 27) Try.underlying27 sized3 (by omega) hX0.out (Nat.le_trans HB.out hS0.out.size) k HI.out.1 HI.out.2.1 o1 (n - (k + 1)) (cp - (k + 1)) rfl (off_is HOF.out HI.out.2.2)
    refine step_ap (by rfl) 27 (.tmp 65) (.tmp 69) rfl _ _ _ rfl rfl hr1 ?_
    have hS1 : Hid (Below A.heap.size A V1) := below_tr hS0.out hb1
    have HO : Hid (OT B V1 3 a1 (cs.eraseIdx k) ∧ (a1.ownBlock = some gp ∨ ∃ g, a1.ownBlock = some g ∧ A.heap.size ≤ g)) := ⟨ho1, hp1.imp id (fun h => ⟨_, h, hS0.out.size⟩)⟩
    clear hr1 ho1 hb1 hp1
    refine hK1.out _ _ hS1.out ?_
    clear hK1
    intro _
    try simp only [Act.put, List.setIfInBounds_toArray, List.set_cons_zero, List.set_cons_succ]
    refine wpAnyH_take (i := 9) (oi := { dst := some 4, op := Op.assign (Operand.tmp 70), type := 27, pos := "law.go:108", after := #[{ on := 8, ground := Ground.data }, { on := 8, ground := Ground.chain }, { on := 0, ground := Ground.phase }, { on := 1, ground := Ground.phase }, { on := 2, ground := Ground.phase }, { on := 3, ground := Ground.phase }, { on := 4, ground := Ground.phase }, { on := 5, ground := Ground.phase }, { on := 6, ground := Ground.phase }, { on := 7, ground := Ground.phase }, { on := 8, ground := Ground.phase }], guard := none }) (v := a1) rfl (by kernel_rfl) (by kernel_rfl) (by kernel_rfl) (fun _ _ _ h => h.elim) (Or.inl ⟨by rfl, ?y9⟩) hS1.out ?_
    case y9 =>
      intro V hV
      go_simp
    simp only [Act.put, List.setIfInBounds_toArray, List.set_cons_zero, List.set_cons_succ]
    refine wpAnyH_done (by kernel_rfl) ?_ _
    exact hQ V1 _ HO.out hS1.out
#print axioms ord20
set_option maxRecDepth 100000 in
set_option maxHeartbeats 4000000 in
theorem ord21s {Q : Exit → Act → World → Prop} {x0 x1 x2 x6 x7 x8 x9 x10 x11 x12 x13 x14 x15 x16 x17 x18 x19 x20 x21 x22 x23 x24 x25 x26 x27 x28 x29 x30 x31 x32 x33 x34 x35 x36 x37 x38 x39 x40 x41 x42 x43 x44 x45 x46 x47 x48 x49 x50 x51 x52 x53 x54 x55 x56 x57 x58 x59 x60 x61 x62 x63 x64 x65 x66 x67 x68 x69 x70 x71 x72 x73 x74 x75 x76 x77 x78 x79 x80 x81 x82 x83 x84 x85 x86 x87 x88 x89 x90 x91 x92 x93 x94 x95 x96 : Value} {ds : List Deferred} {A : World} {b b5 gp n cp nt ct o1 : Nat} {at2 : Option Addr} {Tr l : List Int} {i1 : TypeInfo}
    (HL : Hid (b5 < A.heap.size)) (k5 : A.cell? ⟨b5, 0, none⟩ = some (.slice at2 nt ct)) (HI : Hid (nt ≤ n ∧ n ≤ cp)) (HOF : Hid (o1 = if cp = nt then 0 else nt)) (HNN : Hid (nt ≤ 140737488355328 ∧ (n - nt) ≤ 140737488355328)) (HU : Hid (Try.prog.underlying 27 = some (.slice (Try.prog.elem 27)) ∧ Try.prog.info? (Try.prog.elem 27) = some i1 ∧ i1.size = 1))
    (HP1 : Hid (∀ V, Below A.heap.size A V → Nums V (some ⟨gp, 0, none⟩) nt Tr)) (HTR : Hid (∀ V, Below A.heap.size A V → Nums V at2 nt Tr)) (HP2 : Hid (∀ V, Below A.heap.size A V → Nums V (some ⟨gp, o1, none⟩) (n - nt) l))
    (HW : Hid (∀ V, Below A.heap.size A V → Calls Try.prog 23 #[.pointer (some ⟨b, 0, none⟩)] V fun e V' => ∃ aw cw2, e = .returned (.slice aw (n - nt) cw2) ∧ Nums V' aw (n - nt) l ∧ Below V.heap.size V V'))
    (hQ : ∀ V1 aw cw2, Below A.heap.size A V1 → Q .normal { tmps := #[x0, x1, x2, .pointer (some ⟨b, 0, none⟩), .slice (some ⟨gp, 0, none⟩) n cp, .pointer (some ⟨b5, 0, none⟩), x6, x7, x8, x9, x10, x11, x12, x13, x14, x15, x16, x17, x18, x19, x20, x21, x22, x23, x24, x25, x26, x27, x28, x29, x30, x31, x32, x33, x34, x35, x36, x37, x38, x39, x40, x41, x42, x43, x44, x45, x46, x47, x48, x49, x50, x51, x52, x53, x54, x55, x56, x57, x58, x59, x60, x61, x62, x63, x64, x65, x66, x67, x68, x69, x70, .slice at2 nt ct, iv (nt : Int), .slice (some ⟨gp, 0, none⟩) n cp, iv (n : Int), .bool false, .bool false, .slice (some ⟨gp, 0, none⟩) n cp, .slice at2 nt ct, iv (nt : Int), .slice (some ⟨gp, 0, none⟩) nt cp, .slice at2 nt ct, .bool true, .bool false, .bool false, .bool false, .slice (some ⟨gp, 0, none⟩) n cp, .slice at2 nt ct, iv (nt : Int), .slice (some ⟨gp, o1, none⟩) (n - nt) (cp - nt), .pointer (some ⟨b, 0, none⟩), .slice aw (n - nt) cw2, .bool true, .bool false, .bool false, x95, x96], defers := ds } V1) :
    (Code.region 21 #[{ dst := some 71, op := Op.load 27 (Operand.tmp 5), type := 27, pos := "law.go:116", after := #[], guard := none }, { dst := some 72, op := Op.call { callee := Callee.builtin Builtin.len, args := #[Operand.tmp 71], argTypes := #[27] }, type := 3, pos := "law.go:116", after := #[{ on := 0, ground := Ground.data }], guard := none }, { dst := some 73, op := Op.move (Operand.tmp 4), type := 27, pos := "law.go:116", after := #[], guard := none }, { dst := some 74, op := Op.call { callee := Callee.builtin Builtin.len, args := #[Operand.tmp 73], argTypes := #[27] }, type := 3, pos := "law.go:116", after := #[{ on := 2, ground := Ground.data }], guard := none }, { dst := some 75, op := Op.binOp BinOp.gtr 3 (Operand.tmp 72) (Operand.tmp 74) 3, type := 4, pos := "law.go:116", after := #[{ on := 1, ground := Ground.data }, { on := 3, ground := Ground.data }], guard := none }, { dst := some 76, op := Op.move (Operand.tmp 75), type := 4, pos := "law.go:116", after := #[{ on := 4, ground := Ground.data }], guard := none }, { dst := some 77, op := Op.move (Operand.tmp 4), type := 27, pos := "law.go:116", after := #[{ on := 5, ground := Ground.guard }], guard := some (5, false) }, { dst := some 78, op := Op.load 27 (Operand.tmp 5), type := 27, pos := "law.go:116", after := #[{ on := 5, ground := Ground.guard }], guard := some (5, false) }, { dst := some 79, op := Op.call { callee := Callee.builtin Builtin.len, args := #[Operand.tmp 78], argTypes := #[27] }, type := 3, pos := "law.go:116", after := #[{ on := 7, ground := Ground.data }, { on := 5, ground := Ground.guard }], guard := some (5, false) }, { dst := some 80, op := Op.slice 27 (Operand.tmp 77) none (some (Operand.tmp 79)) none, type := 27, pos := "law.go:116", after := #[{ on := 6, ground := Ground.data }, { on := 8, ground := Ground.data }, { on := 5, ground := Ground.guard }], guard := some (5, false) }, { dst := some 81, op := Op.load 27 (Operand.tmp 5), type := 27, pos := "law.go:116", after := #[{ on := 5, ground := Ground.guard }], guard := some (5, false) }, { dst := some 82, op := Op.call { callee := Callee.value (Operand.func 22), args := #[Operand.tmp 80, Operand.tmp 81], argTypes := #[27, 27] }, type := 4, pos := "law.go:116", after := #[{ on := 9, ground := Ground.data }, { on := 10, ground := Ground.data }, { on := 5, ground := Ground.chain }, { on := 5, ground := Ground.guard }], guard := some (5, false) }, { dst := some 83, op := Op.unOp UnOp.not 4 (Operand.tmp 82), type := 4, pos := "law.go:116", after := #[{ on := 11, ground := Ground.data }, { on := 5, ground := Ground.guard }], guard := some (5, false) }, { dst := some 84, op := Op.pick (Operand.tmp 76) (Operand.const (Value.bool true)) (Operand.tmp 83), type := 4, pos := "law.go:116", after := #[{ on := 5, ground := Ground.data }, { on := 12, ground := Ground.data }], guard := none }, { dst := some 85, op := Op.move (Operand.tmp 84), type := 4, pos := "law.go:116", after := #[{ on := 13, ground := Ground.data }, { on := 11, ground := Ground.chain }], guard := none }, { dst := some 86, op := Op.move (Operand.tmp 4), type := 27, pos := "law.go:116", after := #[{ on := 14, ground := Ground.guard }], guard := some (14, false) }, { dst := some 87, op := Op.load 27 (Operand.tmp 5), type := 27, pos := "law.go:116", after := #[{ on := 14, ground := Ground.guard }], guard := some (14, false) }, { dst := some 88, op := Op.call { callee := Callee.builtin Builtin.len, args := #[Operand.tmp 87], argTypes := #[27] }, type := 3, pos := "law.go:116", after := #[{ on := 16, ground := Ground.data }, { on := 14, ground := Ground.guard }], guard := some (14, false) }, { dst := some 89, op := Op.slice 27 (Operand.tmp 86) (some (Operand.tmp 88)) none none, type := 27, pos := "law.go:116", after := #[{ on := 15, ground := Ground.data }, { on := 17, ground := Ground.data }, { on := 14, ground := Ground.guard }], guard := some (14, false) }, { dst := some 90, op := Op.move (Operand.tmp 3), type := 25, pos := "law.go:116", after := #[{ on := 14, ground := Ground.guard }], guard := some (14, false) }, { dst := some 91, op := Op.call { callee := Callee.value (Operand.func 23), args := #[Operand.tmp 90], argTypes := #[25] }, type := 27, pos := "law.go:116", after := #[{ on := 19, ground := Ground.data }, { on := 14, ground := Ground.chain }, { on := 14, ground := Ground.guard }], guard := some (14, false) }, { dst := some 92, op := Op.call { callee := Callee.value (Operand.func 22), args := #[Operand.tmp 89, Operand.tmp 91], argTypes := #[27, 27] }, type := 4, pos := "law.go:116", after := #[{ on := 18, ground := Ground.data }, { on := 20, ground := Ground.data }, { on := 20, ground := Ground.chain }, { on := 14, ground := Ground.guard }], guard := some (14, false) }, { dst := some 93, op := Op.unOp UnOp.not 4 (Operand.tmp 92), type := 4, pos := "law.go:116", after := #[{ on := 21, ground := Ground.data }, { on := 14, ground := Ground.guard }], guard := some (14, false) }, { dst := some 94, op := Op.pick (Operand.tmp 85) (Operand.const (Value.bool true)) (Operand.tmp 93), type := 4, pos := "law.go:116", after := #[{ on := 14, ground := Ground.data }, { on := 22, ground := Ground.data }], guard := none }] true).wp Try.prog Q { tmps := #[x0, x1, x2, .pointer (some ⟨b, 0, none⟩), .slice (some ⟨gp, 0, none⟩) n cp, .pointer (some ⟨b5, 0, none⟩), x6, x7, x8, x9, x10, x11, x12, x13, x14, x15, x16, x17, x18, x19, x20, x21, x22, x23, x24, x25, x26, x27, x28, x29, x30, x31, x32, x33, x34, x35, x36, x37, x38, x39, x40, x41, x42, x43, x44, x45, x46, x47, x48, x49, x50, x51, x52, x53, x54, x55, x56, x57, x58, x59, x60, x61, x62, x63, x64, x65, x66, x67, x68, x69, x70, x71, x72, x73, x74, x75, x76, x77, x78, x79, x80, x81, x82, x83, x84, x85, x86, x87, x88, x89, x90, x91, x92, x93, x94, x95, x96], defers := ds } A := by
  refine Code.wp_mono (Q := fun x a' w' => match x with | .normal => Q .normal a' w' | _ => False) (by intro x a' w' h; cases x <;> first | exact h | exact h.elim) ?_
  refine wp_region_held (S := fun V => Below A.heap.size A V) (by kernel_rfl) ?_
  have hS0 : Hid (Below A.heap.size A A.drew) := below_drew0 A
  change wpAnyH Try.prog .any _ _ (fun V => Below A.heap.size A V) 24 (Array.replicate 24 false) _ A.drew
  obtain ⟨V0, hV0⟩ : ∃ V0, A.drew = V0 := ⟨_, rfl⟩
  rw [hV0]
  rw [hV0] at hS0
  clear hV0
  refine wpAnyH_take (i := 0) (oi := { dst := some 71, op := Op.load 27 (Operand.tmp 5), type := 27, pos := "law.go:116", after := #[], guard := none }) (v := .slice at2 nt ct) rfl (by kernel_rfl) (by kernel_rfl) (by kernel_rfl) (fun _ _ _ h => h.elim) (Or.inl ⟨by rfl, ?y1⟩) hS0.out ?_
  case y1 =>
    intro V hV
    have hc : V.cell? ⟨b5, 0, none⟩ = some (.slice at2 nt ct) := ((show Below A.heap.size A V from hV).cell (p := ⟨b5, 0, none⟩) (HL.out)).trans k5
    go_simp
  simp only [Act.put, List.setIfInBounds_toArray, List.set_cons_zero, List.set_cons_succ]
  refine wpAnyH_take (i := 1) (oi := { dst := some 72, op := Op.call { callee := Callee.builtin Builtin.len, args := #[Operand.tmp 71], argTypes := #[27] }, type := 3, pos := "law.go:116", after := #[{ on := 0, ground := Ground.data }], guard := none }) (v := iv (nt : Int)) rfl (by kernel_rfl) (by kernel_rfl) (by kernel_rfl) (fun _ _ _ h => h.elim) (Or.inl ⟨by rfl, ?y2⟩) hS0.out ?_
  case y2 =>
    intro V hV
    go_simp
  simp only [Act.put, List.setIfInBounds_toArray, List.set_cons_zero, List.set_cons_succ]
  refine wpAnyH_take (i := 2) (oi := { dst := some 73, op := Op.move (Operand.tmp 4), type := 27, pos := "law.go:116", after := #[], guard := none }) (v := .slice (some ⟨gp, 0, none⟩) n cp) rfl (by kernel_rfl) (by kernel_rfl) (by kernel_rfl) (fun _ _ _ h => h.elim) (Or.inl ⟨by rfl, ?y3⟩) hS0.out ?_
  case y3 =>
    intro V hV
    go_simp
  simp only [Act.put, List.setIfInBounds_toArray, List.set_cons_zero, List.set_cons_succ]
  refine wpAnyH_take (i := 3) (oi := { dst := some 74, op := Op.call { callee := Callee.builtin Builtin.len, args := #[Operand.tmp 73], argTypes := #[27] }, type := 3, pos := "law.go:116", after := #[{ on := 2, ground := Ground.data }], guard := none }) (v := iv (n : Int)) rfl (by kernel_rfl) (by kernel_rfl) (by kernel_rfl) (fun _ _ _ h => h.elim) (Or.inl ⟨by rfl, ?y4⟩) hS0.out ?_
  case y4 =>
    intro V hV
    go_simp
  simp only [Act.put, List.setIfInBounds_toArray, List.set_cons_zero, List.set_cons_succ]
  refine wpAnyH_take (i := 4) (oi := { dst := some 75, op := Op.binOp BinOp.gtr 3 (Operand.tmp 72) (Operand.tmp 74) 3, type := 4, pos := "law.go:116", after := #[{ on := 1, ground := Ground.data }, { on := 3, ground := Ground.data }], guard := none }) (v := .bool false) rfl (by kernel_rfl) (by kernel_rfl) (by kernel_rfl) (fun _ _ _ h => h.elim) (Or.inl ⟨by rfl, ?y5⟩) hS0.out ?_
  case y5 =>
    intro V hV
    have hcmp : ¬ ((n : Int) < (nt : Int)) := by have := HI.out; omega
    go_simp
  simp only [Act.put, List.setIfInBounds_toArray, List.set_cons_zero, List.set_cons_succ]
  refine wpAnyH_take (i := 5) (oi := { dst := some 76, op := Op.move (Operand.tmp 75), type := 4, pos := "law.go:116", after := #[{ on := 4, ground := Ground.data }], guard := none }) (v := .bool false) rfl (by kernel_rfl) (by kernel_rfl) (by kernel_rfl) (fun _ _ _ h => h.elim) (Or.inl ⟨by rfl, ?y6⟩) hS0.out ?_
  case y6 =>
    intro V hV
    go_simp
  simp only [Act.put, List.setIfInBounds_toArray, List.set_cons_zero, List.set_cons_succ]
  refine wpAnyH_take (i := 6) (oi := { dst := some 77, op := Op.move (Operand.tmp 4), type := 27, pos := "law.go:116", after := #[{ on := 5, ground := Ground.guard }], guard := some (5, false) }) (v := .slice (some ⟨gp, 0, none⟩) n cp) rfl (by kernel_rfl) (by kernel_rfl) (by kernel_rfl) (fun _ _ _ h => h.elim) (Or.inl ⟨by rfl, ?y7⟩) hS0.out ?_
  case y7 =>
    intro V hV
    go_simp
  simp only [Act.put, List.setIfInBounds_toArray, List.set_cons_zero, List.set_cons_succ]
  refine wpAnyH_take (i := 7) (oi := { dst := some 78, op := Op.load 27 (Operand.tmp 5), type := 27, pos := "law.go:116", after := #[{ on := 5, ground := Ground.guard }], guard := some (5, false) }) (v := .slice at2 nt ct) rfl (by kernel_rfl) (by kernel_rfl) (by kernel_rfl) (fun _ _ _ h => h.elim) (Or.inl ⟨by rfl, ?y8⟩) hS0.out ?_
  case y8 =>
    intro V hV
    have hc : V.cell? ⟨b5, 0, none⟩ = some (.slice at2 nt ct) := ((show Below A.heap.size A V from hV).cell (p := ⟨b5, 0, none⟩) (HL.out)).trans k5
    go_simp
  simp only [Act.put, List.setIfInBounds_toArray, List.set_cons_zero, List.set_cons_succ]
  refine wpAnyH_take (i := 8) (oi := { dst := some 79, op := Op.call { callee := Callee.builtin Builtin.len, args := #[Operand.tmp 78], argTypes := #[27] }, type := 3, pos := "law.go:116", after := #[{ on := 7, ground := Ground.data }, { on := 5, ground := Ground.guard }], guard := some (5, false) }) (v := iv (nt : Int)) rfl (by kernel_rfl) (by kernel_rfl) (by kernel_rfl) (fun _ _ _ h => h.elim) (Or.inl ⟨by rfl, ?y9⟩) hS0.out ?_
  case y9 =>
    intro V hV
    go_simp
  simp only [Act.put, List.setIfInBounds_toArray, List.set_cons_zero, List.set_cons_succ]
  refine wpAnyH_take (i := 9) (oi := { dst := some 80, op := Op.slice 27 (Operand.tmp 77) none (some (Operand.tmp 79)) none, type := 27, pos := "law.go:116", after := #[{ on := 6, ground := Ground.data }, { on := 8, ground := Ground.data }, { on := 5, ground := Ground.guard }], guard := some (5, false) }) (v := .slice (some ⟨gp, 0, none⟩) nt cp) rfl (by kernel_rfl) (by kernel_rfl) (by kernel_rfl) (fun _ _ _ h => h.elim) (Or.inl ⟨by rfl, ?y10⟩) hS0.out ?_
  case y10 =>
    intro V hV
    exact yl_upto V 27 (.tmp 77) (.tmp 79) _ _ _ _ rfl rfl rfl HU.out.1 HU.out.2.1 (by have := HI.out; omega)
  simp only [Act.put, List.setIfInBounds_toArray, List.set_cons_zero, List.set_cons_succ]
  refine wpAnyH_take (i := 10) (oi := { dst := some 81, op := Op.load 27 (Operand.tmp 5), type := 27, pos := "law.go:116", after := #[{ on := 5, ground := Ground.guard }], guard := some (5, false) }) (v := .slice at2 nt ct) rfl (by kernel_rfl) (by kernel_rfl) (by kernel_rfl) (fun _ _ _ h => h.elim) (Or.inl ⟨by rfl, ?y11⟩) hS0.out ?_
  case y11 =>
    intro V hV
    have hc : V.cell? ⟨b5, 0, none⟩ = some (.slice at2 nt ct) := ((show Below A.heap.size A V from hV).cell (p := ⟨b5, 0, none⟩) (HL.out)).trans k5
    go_simp
  simp only [Act.put, List.setIfInBounds_toArray, List.set_cons_zero, List.set_cons_succ]
  refine wpAnyH_ready (rs := [11]) (by kernel_rfl) (by simp) (AllReadyH.cons (i := 11) (o := { dst := some 82, op := Op.call { callee := Callee.value (Operand.func 22), args := #[Operand.tmp 80, Operand.tmp 81], argTypes := #[27, 27] }, type := 4, pos := "law.go:116", after := #[{ on := 9, ground := Ground.data }, { on := 10, ground := Ground.data }, { on := 5, ground := Ground.chain }, { on := 5, ground := Ground.guard }], guard := some (5, false) }) rfl ?_ AllReadyH.nil)
  · intro K1 hK1
    rw [if_pos (by rfl)]
    have HC1 := ints_same Tr (some ⟨gp, 0, none⟩) at2 nt cp ct V0 (HP1.out V0 hS0.out) (HTR.out V0 hS0.out) HNN.out.1
    go_wp2_with fail
    refine HC1.mono ?_
    rintro e V1 ⟨rfl, hb1⟩
    dsimp only
    clear HC1
    have hS1 : Hid (Below A.heap.size A V1) := hS0.out.trans (hb1.mono hS0.out.size)
    clear hb1
    refine hK1.out _ _ hS1.out ?_
    clear hK1
    intro _
    try simp only [Act.put, List.setIfInBounds_toArray, List.set_cons_zero, List.set_cons_succ]
    refine wpAnyH_take (i := 12) (oi := { dst := some 83, op := Op.unOp UnOp.not 4 (Operand.tmp 82), type := 4, pos := "law.go:116", after := #[{ on := 11, ground := Ground.data }, { on := 5, ground := Ground.guard }], guard := some (5, false) }) (v := .bool false) rfl (by kernel_rfl) (by kernel_rfl) (by kernel_rfl) (fun _ _ _ h => h.elim) (Or.inl ⟨by rfl, ?y12⟩) hS1.out ?_
    case y12 =>
      intro V hV
      go_simp
    simp only [Act.put, List.setIfInBounds_toArray, List.set_cons_zero, List.set_cons_succ]
    refine wpAnyH_take (i := 13) (oi := { dst := some 84, op := Op.pick (Operand.tmp 76) (Operand.const (Value.bool true)) (Operand.tmp 83), type := 4, pos := "law.go:116", after := #[{ on := 5, ground := Ground.data }, { on := 12, ground := Ground.data }], guard := none }) (v := .bool false) rfl (by kernel_rfl) (by kernel_rfl) (by kernel_rfl) (fun _ _ _ h => h.elim) (Or.inl ⟨by rfl, ?y13⟩) hS1.out ?_
    case y13 =>
      intro V hV
      go_simp
    simp only [Act.put, List.setIfInBounds_toArray, List.set_cons_zero, List.set_cons_succ]
    refine wpAnyH_take (i := 14) (oi := { dst := some 85, op := Op.move (Operand.tmp 84), type := 4, pos := "law.go:116", after := #[{ on := 13, ground := Ground.data }, { on := 11, ground := Ground.chain }], guard := none }) (v := .bool false) rfl (by kernel_rfl) (by kernel_rfl) (by kernel_rfl) (fun _ _ _ h => h.elim) (Or.inl ⟨by rfl, ?y14⟩) hS1.out ?_
    case y14 =>
      intro V hV
      go_simp
    simp only [Act.put, List.setIfInBounds_toArray, List.set_cons_zero, List.set_cons_succ]
    refine wpAnyH_take (i := 15) (oi := { dst := some 86, op := Op.move (Operand.tmp 4), type := 27, pos := "law.go:116", after := #[{ on := 14, ground := Ground.guard }], guard := some (14, false) }) (v := .slice (some ⟨gp, 0, none⟩) n cp) rfl (by kernel_rfl) (by kernel_rfl) (by kernel_rfl) (fun _ _ _ h => h.elim) (Or.inl ⟨by rfl, ?y15⟩) hS1.out ?_
    case y15 =>
      intro V hV
      go_simp
    simp only [Act.put, List.setIfInBounds_toArray, List.set_cons_zero, List.set_cons_succ]
    refine wpAnyH_take (i := 16) (oi := { dst := some 87, op := Op.load 27 (Operand.tmp 5), type := 27, pos := "law.go:116", after := #[{ on := 14, ground := Ground.guard }], guard := some (14, false) }) (v := .slice at2 nt ct) rfl (by kernel_rfl) (by kernel_rfl) (by kernel_rfl) (fun _ _ _ h => h.elim) (Or.inl ⟨by rfl, ?y16⟩) hS1.out ?_
    case y16 =>
      intro V hV
      have hc : V.cell? ⟨b5, 0, none⟩ = some (.slice at2 nt ct) := ((show Below A.heap.size A V from hV).cell (p := ⟨b5, 0, none⟩) (HL.out)).trans k5
      go_simp
    simp only [Act.put, List.setIfInBounds_toArray, List.set_cons_zero, List.set_cons_succ]
    refine wpAnyH_take (i := 17) (oi := { dst := some 88, op := Op.call { callee := Callee.builtin Builtin.len, args := #[Operand.tmp 87], argTypes := #[27] }, type := 3, pos := "law.go:116", after := #[{ on := 16, ground := Ground.data }, { on := 14, ground := Ground.guard }], guard := some (14, false) }) (v := iv (nt : Int)) rfl (by kernel_rfl) (by kernel_rfl) (by kernel_rfl) (fun _ _ _ h => h.elim) (Or.inl ⟨by rfl, ?y17⟩) hS1.out ?_
    case y17 =>
      intro V hV
      go_simp
    simp only [Act.put, List.setIfInBounds_toArray, List.set_cons_zero, List.set_cons_succ]
    refine wpAnyH_take (i := 18) (oi := { dst := some 89, op := Op.slice 27 (Operand.tmp 86) (some (Operand.tmp 88)) none none, type := 27, pos := "law.go:116", after := #[{ on := 15, ground := Ground.data }, { on := 17, ground := Ground.data }, { on := 14, ground := Ground.guard }], guard := some (14, false) }) (v := .slice (some ⟨gp, o1, none⟩) (n - nt) (cp - nt)) rfl (by kernel_rfl) (by kernel_rfl) (by kernel_rfl) (fun _ _ _ h => h.elim) (Or.inl ⟨by rfl, ?y18⟩) hS1.out ?_
    case y18 =>
      intro V hV
      exact yl_fromN V 27 (.tmp 86) (.tmp 88) _ _ _ _ _ rfl rfl rfl HU.out.1 HU.out.2.1 HU.out.2.2 HI.out.1 HOF.out
    simp only [Act.put, List.setIfInBounds_toArray, List.set_cons_zero, List.set_cons_succ]
    refine wpAnyH_take (i := 19) (oi := { dst := some 90, op := Op.move (Operand.tmp 3), type := 25, pos := "law.go:116", after := #[{ on := 14, ground := Ground.guard }], guard := some (14, false) }) (v := .pointer (some ⟨b, 0, none⟩)) rfl (by kernel_rfl) (by kernel_rfl) (by kernel_rfl) (fun _ _ _ h => h.elim) (Or.inl ⟨by rfl, ?y19⟩) hS1.out ?_
    case y19 =>
      intro V hV
      go_simp
    simp only [Act.put, List.setIfInBounds_toArray, List.set_cons_zero, List.set_cons_succ]
    refine wpAnyH_ready (rs := [20]) (by kernel_rfl) (by simp) (AllReadyH.cons (i := 20) (o := { dst := some 91, op := Op.call { callee := Callee.value (Operand.func 23), args := #[Operand.tmp 90], argTypes := #[25] }, type := 27, pos := "law.go:116", after := #[{ on := 19, ground := Ground.data }, { on := 14, ground := Ground.chain }, { on := 14, ground := Ground.guard }], guard := some (14, false) }) rfl ?_ AllReadyH.nil)
    · intro K1 hK1
      rw [if_pos (by rfl)]
      have HC2 := HW.out V1 hS1.out
      go_wp2_with fail
      refine HC2.mono ?_
      rintro e V2 ⟨aw, cw2, rfl, hnum, hb2⟩
      dsimp only
      clear HC2
      have hS2 : Hid (Below A.heap.size A V2) := hS1.out.trans (hb2.mono hS1.out.size)
      have HNUM : Hid (Nums V2 aw (n - nt) l) := hnum
      clear hnum
      clear hb2
      refine hK1.out _ _ hS2.out ?_
      clear hK1
      intro _
      try simp only [Act.put, List.setIfInBounds_toArray, List.set_cons_zero, List.set_cons_succ]
      refine wpAnyH_ready (rs := [21]) (by kernel_rfl) (by simp) (AllReadyH.cons (i := 21) (o := { dst := some 92, op := Op.call { callee := Callee.value (Operand.func 22), args := #[Operand.tmp 89, Operand.tmp 91], argTypes := #[27, 27] }, type := 4, pos := "law.go:116", after := #[{ on := 18, ground := Ground.data }, { on := 20, ground := Ground.data }, { on := 20, ground := Ground.chain }, { on := 14, ground := Ground.guard }], guard := some (14, false) }) rfl ?_ AllReadyH.nil)
      · intro K1 hK1
        rw [if_pos (by rfl)]
        have HC3 := ints_same l (some ⟨gp, o1, none⟩) aw (n - nt) (cp - nt) cw2 V2 (HP2.out V2 hS2.out) HNUM.out HNN.out.2
        go_wp2_with fail
        refine HC3.mono ?_
        rintro e V3 ⟨rfl, hb3⟩
        dsimp only
        clear HC3
        have hS3 : Hid (Below A.heap.size A V3) := hS2.out.trans (hb3.mono hS2.out.size)
        clear hb3
        refine hK1.out _ _ hS3.out ?_
        clear hK1
        intro _
        try simp only [Act.put, List.setIfInBounds_toArray, List.set_cons_zero, List.set_cons_succ]
        refine wpAnyH_take (i := 22) (oi := { dst := some 93, op := Op.unOp UnOp.not 4 (Operand.tmp 92), type := 4, pos := "law.go:116", after := #[{ on := 21, ground := Ground.data }, { on := 14, ground := Ground.guard }], guard := some (14, false) }) (v := .bool false) rfl (by kernel_rfl) (by kernel_rfl) (by kernel_rfl) (fun _ _ _ h => h.elim) (Or.inl ⟨by rfl, ?y20⟩) hS3.out ?_
        case y20 =>
          intro V hV
          go_simp
        simp only [Act.put, List.setIfInBounds_toArray, List.set_cons_zero, List.set_cons_succ]
        refine wpAnyH_take (i := 23) (oi := { dst := some 94, op := Op.pick (Operand.tmp 85) (Operand.const (Value.bool true)) (Operand.tmp 93), type := 4, pos := "law.go:116", after := #[{ on := 14, ground := Ground.data }, { on := 22, ground := Ground.data }], guard := none }) (v := .bool false) rfl (by kernel_rfl) (by kernel_rfl) (by kernel_rfl) (fun _ _ _ h => h.elim) (Or.inl ⟨by rfl, ?y21⟩) hS3.out ?_
        case y21 =>
          intro V hV
          go_simp
        simp only [Act.put, List.setIfInBounds_toArray, List.set_cons_zero, List.set_cons_succ]
        refine wpAnyH_done (by kernel_rfl) ?_ _
        exact hQ V3 _ _ hS3.out
#print axioms ord21s
set_option maxRecDepth 100000 in
set_option maxHeartbeats 4000000 in
theorem ord21n {Q : Exit → Act → World → Prop} {x0 x1 x2 x6 x7 x8 x9 x10 x11 x12 x13 x14 x15 x16 x17 x18 x19 x20 x21 x22 x23 x24 x25 x26 x27 x28 x29 x30 x31 x32 x33 x34 x35 x36 x37 x38 x39 x40 x41 x42 x43 x44 x45 x46 x47 x48 x49 x50 x51 x52 x53 x54 x55 x56 x57 x58 x59 x60 x61 x62 x63 x64 x65 x66 x67 x68 x69 x70 x71 x72 x73 x74 x75 x76 x77 x78 x79 x80 x81 x82 x83 x84 x85 x86 x87 x88 x89 x90 x91 x92 x93 x94 x95 x96 : Value} {ds : List Deferred} {A : World} {b b5 gp n cp nt ct o1 : Nat} {at2 : Option Addr} {Tr l : List Int} {i1 : TypeInfo}
    (HL : Hid (b5 < A.heap.size)) (k5 : A.cell? ⟨b5, 0, none⟩ = some (.slice at2 0 ct)) (HI : Hid (nt ≤ n ∧ n ≤ cp)) (HOF : Hid (o1 = if cp = nt then 0 else nt)) (HNN : Hid (0 ≤ 140737488355328 ∧ 0 ≤ 140737488355328)) (HU : Hid (Try.prog.underlying 27 = some (.slice (Try.prog.elem 27)) ∧ Try.prog.info? (Try.prog.elem 27) = some i1 ∧ i1.size = 1))
    (HP1 : Hid (∀ V, Below A.heap.size A V → Nums V none 0 Tr)) (HTR : Hid (∀ V, Below A.heap.size A V → Nums V at2 0 Tr)) (HP2 : Hid (∀ V, Below A.heap.size A V → Nums V none 0 l))
    (HW : Hid (∀ V, Below A.heap.size A V → Calls Try.prog 23 #[.pointer (some ⟨b, 0, none⟩)] V fun e V' => ∃ aw cw2, e = .returned (.slice aw 0 cw2) ∧ Nums V' aw 0 l ∧ Below V.heap.size V V'))
    (hQ : ∀ V1 aw cw2, Below A.heap.size A V1 → Q .normal { tmps := #[x0, x1, x2, .pointer (some ⟨b, 0, none⟩), .slice none 0 0, .pointer (some ⟨b5, 0, none⟩), x6, x7, x8, x9, x10, x11, x12, x13, x14, x15, x16, x17, x18, x19, x20, x21, x22, x23, x24, x25, x26, x27, x28, x29, x30, x31, x32, x33, x34, x35, x36, x37, x38, x39, x40, x41, x42, x43, x44, x45, x46, x47, x48, x49, x50, x51, x52, x53, x54, x55, x56, x57, x58, x59, x60, x61, x62, x63, x64, x65, x66, x67, x68, x69, x70, .slice at2 0 ct, iv 0, .slice none 0 0, iv 0, .bool false, .bool false, .slice none 0 0, .slice at2 0 ct, iv 0, .slice none 0 0, .slice at2 0 ct, .bool true, .bool false, .bool false, .bool false, .slice none 0 0, .slice at2 0 ct, iv 0, .slice none 0 0, .pointer (some ⟨b, 0, none⟩), .slice aw 0 cw2, .bool true, .bool false, .bool false, x95, x96], defers := ds } V1) :
    (Code.region 21 #[{ dst := some 71, op := Op.load 27 (Operand.tmp 5), type := 27, pos := "law.go:116", after := #[], guard := none }, { dst := some 72, op := Op.call { callee := Callee.builtin Builtin.len, args := #[Operand.tmp 71], argTypes := #[27] }, type := 3, pos := "law.go:116", after := #[{ on := 0, ground := Ground.data }], guard := none }, { dst := some 73, op := Op.move (Operand.tmp 4), type := 27, pos := "law.go:116", after := #[], guard := none }, { dst := some 74, op := Op.call { callee := Callee.builtin Builtin.len, args := #[Operand.tmp 73], argTypes := #[27] }, type := 3, pos := "law.go:116", after := #[{ on := 2, ground := Ground.data }], guard := none }, { dst := some 75, op := Op.binOp BinOp.gtr 3 (Operand.tmp 72) (Operand.tmp 74) 3, type := 4, pos := "law.go:116", after := #[{ on := 1, ground := Ground.data }, { on := 3, ground := Ground.data }], guard := none }, { dst := some 76, op := Op.move (Operand.tmp 75), type := 4, pos := "law.go:116", after := #[{ on := 4, ground := Ground.data }], guard := none }, { dst := some 77, op := Op.move (Operand.tmp 4), type := 27, pos := "law.go:116", after := #[{ on := 5, ground := Ground.guard }], guard := some (5, false) }, { dst := some 78, op := Op.load 27 (Operand.tmp 5), type := 27, pos := "law.go:116", after := #[{ on := 5, ground := Ground.guard }], guard := some (5, false) }, { dst := some 79, op := Op.call { callee := Callee.builtin Builtin.len, args := #[Operand.tmp 78], argTypes := #[27] }, type := 3, pos := "law.go:116", after := #[{ on := 7, ground := Ground.data }, { on := 5, ground := Ground.guard }], guard := some (5, false) }, { dst := some 80, op := Op.slice 27 (Operand.tmp 77) none (some (Operand.tmp 79)) none, type := 27, pos := "law.go:116", after := #[{ on := 6, ground := Ground.data }, { on := 8, ground := Ground.data }, { on := 5, ground := Ground.guard }], guard := some (5, false) }, { dst := some 81, op := Op.load 27 (Operand.tmp 5), type := 27, pos := "law.go:116", after := #[{ on := 5, ground := Ground.guard }], guard := some (5, false) }, { dst := some 82, op := Op.call { callee := Callee.value (Operand.func 22), args := #[Operand.tmp 80, Operand.tmp 81], argTypes := #[27, 27] }, type := 4, pos := "law.go:116", after := #[{ on := 9, ground := Ground.data }, { on := 10, ground := Ground.data }, { on := 5, ground := Ground.chain }, { on := 5, ground := Ground.guard }], guard := some (5, false) }, { dst := some 83, op := Op.unOp UnOp.not 4 (Operand.tmp 82), type := 4, pos := "law.go:116", after := #[{ on := 11, ground := Ground.data }, { on := 5, ground := Ground.guard }], guard := some (5, false) }, { dst := some 84, op := Op.pick (Operand.tmp 76) (Operand.const (Value.bool true)) (Operand.tmp 83), type := 4, pos := "law.go:116", after := #[{ on := 5, ground := Ground.data }, { on := 12, ground := Ground.data }], guard := none }, { dst := some 85, op := Op.move (Operand.tmp 84), type := 4, pos := "law.go:116", after := #[{ on := 13, ground := Ground.data }, { on := 11, ground := Ground.chain }], guard := none }, { dst := some 86, op := Op.move (Operand.tmp 4), type := 27, pos := "law.go:116", after := #[{ on := 14, ground := Ground.guard }], guard := some (14, false) }, { dst := some 87, op := Op.load 27 (Operand.tmp 5), type := 27, pos := "law.go:116", after := #[{ on := 14, ground := Ground.guard }], guard := some (14, false) }, { dst := some 88, op := Op.call { callee := Callee.builtin Builtin.len, args := #[Operand.tmp 87], argTypes := #[27] }, type := 3, pos := "law.go:116", after := #[{ on := 16, ground := Ground.data }, { on := 14, ground := Ground.guard }], guard := some (14, false) }, { dst := some 89, op := Op.slice 27 (Operand.tmp 86) (some (Operand.tmp 88)) none none, type := 27, pos := "law.go:116", after := #[{ on := 15, ground := Ground.data }, { on := 17, ground := Ground.data }, { on := 14, ground := Ground.guard }], guard := some (14, false) }, { dst := some 90, op := Op.move (Operand.tmp 3), type := 25, pos := "law.go:116", after := #[{ on := 14, ground := Ground.guard }], guard := some (14, false) }, { dst := some 91, op := Op.call { callee := Callee.value (Operand.func 23), args := #[Operand.tmp 90], argTypes := #[25] }, type := 27, pos := "law.go:116", after := #[{ on := 19, ground := Ground.data }, { on := 14, ground := Ground.chain }, { on := 14, ground := Ground.guard }], guard := some (14, false) }, { dst := some 92, op := Op.call { callee := Callee.value (Operand.func 22), args := #[Operand.tmp 89, Operand.tmp 91], argTypes := #[27, 27] }, type := 4, pos := "law.go:116", after := #[{ on := 18, ground := Ground.data }, { on := 20, ground := Ground.data }, { on := 20, ground := Ground.chain }, { on := 14, ground := Ground.guard }], guard := some (14, false) }, { dst := some 93, op := Op.unOp UnOp.not 4 (Operand.tmp 92), type := 4, pos := "law.go:116", after := #[{ on := 21, ground := Ground.data }, { on := 14, ground := Ground.guard }], guard := some (14, false) }, { dst := some 94, op := Op.pick (Operand.tmp 85) (Operand.const (Value.bool true)) (Operand.tmp 93), type := 4, pos := "law.go:116", after := #[{ on := 14, ground := Ground.data }, { on := 22, ground := Ground.data }], guard := none }] true).wp Try.prog Q { tmps := #[x0, x1, x2, .pointer (some ⟨b, 0, none⟩), .slice none 0 0, .pointer (some ⟨b5, 0, none⟩), x6, x7, x8, x9, x10, x11, x12, x13, x14, x15, x16, x17, x18, x19, x20, x21, x22, x23, x24, x25, x26, x27, x28, x29, x30, x31, x32, x33, x34, x35, x36, x37, x38, x39, x40, x41, x42, x43, x44, x45, x46, x47, x48, x49, x50, x51, x52, x53, x54, x55, x56, x57, x58, x59, x60, x61, x62, x63, x64, x65, x66, x67, x68, x69, x70, x71, x72, x73, x74, x75, x76, x77, x78, x79, x80, x81, x82, x83, x84, x85, x86, x87, x88, x89, x90, x91, x92, x93, x94, x95, x96], defers := ds } A := by
  refine Code.wp_mono (Q := fun x a' w' => match x with | .normal => Q .normal a' w' | _ => False) (by intro x a' w' h; cases x <;> first | exact h | exact h.elim) ?_
  refine wp_region_held (S := fun V => Below A.heap.size A V) (by kernel_rfl) ?_
  have hS0 : Hid (Below A.heap.size A A.drew) := below_drew0 A
  change wpAnyH Try.prog .any _ _ (fun V => Below A.heap.size A V) 24 (Array.replicate 24 false) _ A.drew
  obtain ⟨V0, hV0⟩ : ∃ V0, A.drew = V0 := ⟨_, rfl⟩
  rw [hV0]
  rw [hV0] at hS0
  clear hV0
  refine wpAnyH_take (i := 0) (oi := { dst := some 71, op := Op.load 27 (Operand.tmp 5), type := 27, pos := "law.go:116", after := #[], guard := none }) (v := .slice at2 0 ct) rfl (by kernel_rfl) (by kernel_rfl) (by kernel_rfl) (fun _ _ _ h => h.elim) (Or.inl ⟨by rfl, ?y1⟩) hS0.out ?_
  case y1 =>
    intro V hV
    have hc : V.cell? ⟨b5, 0, none⟩ = some (.slice at2 0 ct) := ((show Below A.heap.size A V from hV).cell (p := ⟨b5, 0, none⟩) (HL.out)).trans k5
    go_simp
  simp only [Act.put, List.setIfInBounds_toArray, List.set_cons_zero, List.set_cons_succ]
  refine wpAnyH_take (i := 1) (oi := { dst := some 72, op := Op.call { callee := Callee.builtin Builtin.len, args := #[Operand.tmp 71], argTypes := #[27] }, type := 3, pos := "law.go:116", after := #[{ on := 0, ground := Ground.data }], guard := none }) (v := iv 0) rfl (by kernel_rfl) (by kernel_rfl) (by kernel_rfl) (fun _ _ _ h => h.elim) (Or.inl ⟨by rfl, ?y2⟩) hS0.out ?_
  case y2 =>
    intro V hV
    go_simp
  simp only [Act.put, List.setIfInBounds_toArray, List.set_cons_zero, List.set_cons_succ]
  refine wpAnyH_take (i := 2) (oi := { dst := some 73, op := Op.move (Operand.tmp 4), type := 27, pos := "law.go:116", after := #[], guard := none }) (v := .slice none 0 0) rfl (by kernel_rfl) (by kernel_rfl) (by kernel_rfl) (fun _ _ _ h => h.elim) (Or.inl ⟨by rfl, ?y3⟩) hS0.out ?_
  case y3 =>
    intro V hV
    go_simp
  simp only [Act.put, List.setIfInBounds_toArray, List.set_cons_zero, List.set_cons_succ]
  refine wpAnyH_take (i := 3) (oi := { dst := some 74, op := Op.call { callee := Callee.builtin Builtin.len, args := #[Operand.tmp 73], argTypes := #[27] }, type := 3, pos := "law.go:116", after := #[{ on := 2, ground := Ground.data }], guard := none }) (v := iv 0) rfl (by kernel_rfl) (by kernel_rfl) (by kernel_rfl) (fun _ _ _ h => h.elim) (Or.inl ⟨by rfl, ?y4⟩) hS0.out ?_
  case y4 =>
    intro V hV
    go_simp
  simp only [Act.put, List.setIfInBounds_toArray, List.set_cons_zero, List.set_cons_succ]
  refine wpAnyH_take (i := 4) (oi := { dst := some 75, op := Op.binOp BinOp.gtr 3 (Operand.tmp 72) (Operand.tmp 74) 3, type := 4, pos := "law.go:116", after := #[{ on := 1, ground := Ground.data }, { on := 3, ground := Ground.data }], guard := none }) (v := .bool false) rfl (by kernel_rfl) (by kernel_rfl) (by kernel_rfl) (fun _ _ _ h => h.elim) (Or.inl ⟨by rfl, ?y5⟩) hS0.out ?_
  case y5 =>
    intro V hV
    
    go_simp
  simp only [Act.put, List.setIfInBounds_toArray, List.set_cons_zero, List.set_cons_succ]
  refine wpAnyH_take (i := 5) (oi := { dst := some 76, op := Op.move (Operand.tmp 75), type := 4, pos := "law.go:116", after := #[{ on := 4, ground := Ground.data }], guard := none }) (v := .bool false) rfl (by kernel_rfl) (by kernel_rfl) (by kernel_rfl) (fun _ _ _ h => h.elim) (Or.inl ⟨by rfl, ?y6⟩) hS0.out ?_
  case y6 =>
    intro V hV
    go_simp
  simp only [Act.put, List.setIfInBounds_toArray, List.set_cons_zero, List.set_cons_succ]
  refine wpAnyH_take (i := 6) (oi := { dst := some 77, op := Op.move (Operand.tmp 4), type := 27, pos := "law.go:116", after := #[{ on := 5, ground := Ground.guard }], guard := some (5, false) }) (v := .slice none 0 0) rfl (by kernel_rfl) (by kernel_rfl) (by kernel_rfl) (fun _ _ _ h => h.elim) (Or.inl ⟨by rfl, ?y7⟩) hS0.out ?_
  case y7 =>
    intro V hV
    go_simp
  simp only [Act.put, List.setIfInBounds_toArray, List.set_cons_zero, List.set_cons_succ]
  refine wpAnyH_take (i := 7) (oi := { dst := some 78, op := Op.load 27 (Operand.tmp 5), type := 27, pos := "law.go:116", after := #[{ on := 5, ground := Ground.guard }], guard := some (5, false) }) (v := .slice at2 0 ct) rfl (by kernel_rfl) (by kernel_rfl) (by kernel_rfl) (fun _ _ _ h => h.elim) (Or.inl ⟨by rfl, ?y8⟩) hS0.out ?_
  case y8 =>
    intro V hV
    have hc : V.cell? ⟨b5, 0, none⟩ = some (.slice at2 0 ct) := ((show Below A.heap.size A V from hV).cell (p := ⟨b5, 0, none⟩) (HL.out)).trans k5
    go_simp
  simp only [Act.put, List.setIfInBounds_toArray, List.set_cons_zero, List.set_cons_succ]
  refine wpAnyH_take (i := 8) (oi := { dst := some 79, op := Op.call { callee := Callee.builtin Builtin.len, args := #[Operand.tmp 78], argTypes := #[27] }, type := 3, pos := "law.go:116", after := #[{ on := 7, ground := Ground.data }, { on := 5, ground := Ground.guard }], guard := some (5, false) }) (v := iv 0) rfl (by kernel_rfl) (by kernel_rfl) (by kernel_rfl) (fun _ _ _ h => h.elim) (Or.inl ⟨by rfl, ?y9⟩) hS0.out ?_
  case y9 =>
    intro V hV
    go_simp
  simp only [Act.put, List.setIfInBounds_toArray, List.set_cons_zero, List.set_cons_succ]
  refine wpAnyH_take (i := 9) (oi := { dst := some 80, op := Op.slice 27 (Operand.tmp 77) none (some (Operand.tmp 79)) none, type := 27, pos := "law.go:116", after := #[{ on := 6, ground := Ground.data }, { on := 8, ground := Ground.data }, { on := 5, ground := Ground.guard }], guard := some (5, false) }) (v := .slice none 0 0) rfl (by kernel_rfl) (by kernel_rfl) (by kernel_rfl) (fun _ _ _ h => h.elim) (Or.inl ⟨by rfl, ?y10⟩) hS0.out ?_
  case y10 =>
    intro V hV
    go_simp
  simp only [Act.put, List.setIfInBounds_toArray, List.set_cons_zero, List.set_cons_succ]
  refine wpAnyH_take (i := 10) (oi := { dst := some 81, op := Op.load 27 (Operand.tmp 5), type := 27, pos := "law.go:116", after := #[{ on := 5, ground := Ground.guard }], guard := some (5, false) }) (v := .slice at2 0 ct) rfl (by kernel_rfl) (by kernel_rfl) (by kernel_rfl) (fun _ _ _ h => h.elim) (Or.inl ⟨by rfl, ?y11⟩) hS0.out ?_
  case y11 =>
    intro V hV
    have hc : V.cell? ⟨b5, 0, none⟩ = some (.slice at2 0 ct) := ((show Below A.heap.size A V from hV).cell (p := ⟨b5, 0, none⟩) (HL.out)).trans k5
    go_simp
  simp only [Act.put, List.setIfInBounds_toArray, List.set_cons_zero, List.set_cons_succ]
  refine wpAnyH_ready (rs := [11]) (by kernel_rfl) (by simp) (AllReadyH.cons (i := 11) (o := { dst := some 82, op := Op.call { callee := Callee.value (Operand.func 22), args := #[Operand.tmp 80, Operand.tmp 81], argTypes := #[27, 27] }, type := 4, pos := "law.go:116", after := #[{ on := 9, ground := Ground.data }, { on := 10, ground := Ground.data }, { on := 5, ground := Ground.chain }, { on := 5, ground := Ground.guard }], guard := some (5, false) }) rfl ?_ AllReadyH.nil)
  · intro K1 hK1
    rw [if_pos (by rfl)]
    have HC1 := ints_same Tr none at2 0 0 ct V0 (HP1.out V0 hS0.out) (HTR.out V0 hS0.out) HNN.out.1
    go_wp2_with fail
    refine HC1.mono ?_
    rintro e V1 ⟨rfl, hb1⟩
    dsimp only
    clear HC1
    have hS1 : Hid (Below A.heap.size A V1) := hS0.out.trans (hb1.mono hS0.out.size)
    clear hb1
    refine hK1.out _ _ hS1.out ?_
    clear hK1
    intro _
    try simp only [Act.put, List.setIfInBounds_toArray, List.set_cons_zero, List.set_cons_succ]
    refine wpAnyH_take (i := 12) (oi := { dst := some 83, op := Op.unOp UnOp.not 4 (Operand.tmp 82), type := 4, pos := "law.go:116", after := #[{ on := 11, ground := Ground.data }, { on := 5, ground := Ground.guard }], guard := some (5, false) }) (v := .bool false) rfl (by kernel_rfl) (by kernel_rfl) (by kernel_rfl) (fun _ _ _ h => h.elim) (Or.inl ⟨by rfl, ?y12⟩) hS1.out ?_
    case y12 =>
      intro V hV
      go_simp
    simp only [Act.put, List.setIfInBounds_toArray, List.set_cons_zero, List.set_cons_succ]
    refine wpAnyH_take (i := 13) (oi := { dst := some 84, op := Op.pick (Operand.tmp 76) (Operand.const (Value.bool true)) (Operand.tmp 83), type := 4, pos := "law.go:116", after := #[{ on := 5, ground := Ground.data }, { on := 12, ground := Ground.data }], guard := none }) (v := .bool false) rfl (by kernel_rfl) (by kernel_rfl) (by kernel_rfl) (fun _ _ _ h => h.elim) (Or.inl ⟨by rfl, ?y13⟩) hS1.out ?_
    case y13 =>
      intro V hV
      go_simp
    simp only [Act.put, List.setIfInBounds_toArray, List.set_cons_zero, List.set_cons_succ]
    refine wpAnyH_take (i := 14) (oi := { dst := some 85, op := Op.move (Operand.tmp 84), type := 4, pos := "law.go:116", after := #[{ on := 13, ground := Ground.data }, { on := 11, ground := Ground.chain }], guard := none }) (v := .bool false) rfl (by kernel_rfl) (by kernel_rfl) (by kernel_rfl) (fun _ _ _ h => h.elim) (Or.inl ⟨by rfl, ?y14⟩) hS1.out ?_
    case y14 =>
      intro V hV
      go_simp
    simp only [Act.put, List.setIfInBounds_toArray, List.set_cons_zero, List.set_cons_succ]
    refine wpAnyH_take (i := 15) (oi := { dst := some 86, op := Op.move (Operand.tmp 4), type := 27, pos := "law.go:116", after := #[{ on := 14, ground := Ground.guard }], guard := some (14, false) }) (v := .slice none 0 0) rfl (by kernel_rfl) (by kernel_rfl) (by kernel_rfl) (fun _ _ _ h => h.elim) (Or.inl ⟨by rfl, ?y15⟩) hS1.out ?_
    case y15 =>
      intro V hV
      go_simp
    simp only [Act.put, List.setIfInBounds_toArray, List.set_cons_zero, List.set_cons_succ]
    refine wpAnyH_take (i := 16) (oi := { dst := some 87, op := Op.load 27 (Operand.tmp 5), type := 27, pos := "law.go:116", after := #[{ on := 14, ground := Ground.guard }], guard := some (14, false) }) (v := .slice at2 0 ct) rfl (by kernel_rfl) (by kernel_rfl) (by kernel_rfl) (fun _ _ _ h => h.elim) (Or.inl ⟨by rfl, ?y16⟩) hS1.out ?_
    case y16 =>
      intro V hV
      have hc : V.cell? ⟨b5, 0, none⟩ = some (.slice at2 0 ct) := ((show Below A.heap.size A V from hV).cell (p := ⟨b5, 0, none⟩) (HL.out)).trans k5
      go_simp
    simp only [Act.put, List.setIfInBounds_toArray, List.set_cons_zero, List.set_cons_succ]
    refine wpAnyH_take (i := 17) (oi := { dst := some 88, op := Op.call { callee := Callee.builtin Builtin.len, args := #[Operand.tmp 87], argTypes := #[27] }, type := 3, pos := "law.go:116", after := #[{ on := 16, ground := Ground.data }, { on := 14, ground := Ground.guard }], guard := some (14, false) }) (v := iv 0) rfl (by kernel_rfl) (by kernel_rfl) (by kernel_rfl) (fun _ _ _ h => h.elim) (Or.inl ⟨by rfl, ?y17⟩) hS1.out ?_
    case y17 =>
      intro V hV
      go_simp
    simp only [Act.put, List.setIfInBounds_toArray, List.set_cons_zero, List.set_cons_succ]
    refine wpAnyH_take (i := 18) (oi := { dst := some 89, op := Op.slice 27 (Operand.tmp 86) (some (Operand.tmp 88)) none none, type := 27, pos := "law.go:116", after := #[{ on := 15, ground := Ground.data }, { on := 17, ground := Ground.data }, { on := 14, ground := Ground.guard }], guard := some (14, false) }) (v := .slice none 0 0) rfl (by kernel_rfl) (by kernel_rfl) (by kernel_rfl) (fun _ _ _ h => h.elim) (Or.inl ⟨by rfl, ?y18⟩) hS1.out ?_
    case y18 =>
      intro V hV
      go_simp
    simp only [Act.put, List.setIfInBounds_toArray, List.set_cons_zero, List.set_cons_succ]
    refine wpAnyH_take (i := 19) (oi := { dst := some 90, op := Op.move (Operand.tmp 3), type := 25, pos := "law.go:116", after := #[{ on := 14, ground := Ground.guard }], guard := some (14, false) }) (v := .pointer (some ⟨b, 0, none⟩)) rfl (by kernel_rfl) (by kernel_rfl) (by kernel_rfl) (fun _ _ _ h => h.elim) (Or.inl ⟨by rfl, ?y19⟩) hS1.out ?_
    case y19 =>
      intro V hV
      go_simp
    simp only [Act.put, List.setIfInBounds_toArray, List.set_cons_zero, List.set_cons_succ]
    refine wpAnyH_ready (rs := [20]) (by kernel_rfl) (by simp) (AllReadyH.cons (i := 20) (o := { dst := some 91, op := Op.call { callee := Callee.value (Operand.func 23), args := #[Operand.tmp 90], argTypes := #[25] }, type := 27, pos := "law.go:116", after := #[{ on := 19, ground := Ground.data }, { on := 14, ground := Ground.chain }, { on := 14, ground := Ground.guard }], guard := some (14, false) }) rfl ?_ AllReadyH.nil)
    · intro K1 hK1
      rw [if_pos (by rfl)]
      have HC2 := HW.out V1 hS1.out
      go_wp2_with fail
      refine HC2.mono ?_
      rintro e V2 ⟨aw, cw2, rfl, hnum, hb2⟩
      dsimp only
      clear HC2
      have hS2 : Hid (Below A.heap.size A V2) := hS1.out.trans (hb2.mono hS1.out.size)
      have HNUM : Hid (Nums V2 aw 0 l) := hnum
      clear hnum
      clear hb2
      refine hK1.out _ _ hS2.out ?_
      clear hK1
      intro _
      try simp only [Act.put, List.setIfInBounds_toArray, List.set_cons_zero, List.set_cons_succ]
      refine wpAnyH_ready (rs := [21]) (by kernel_rfl) (by simp) (AllReadyH.cons (i := 21) (o := { dst := some 92, op := Op.call { callee := Callee.value (Operand.func 22), args := #[Operand.tmp 89, Operand.tmp 91], argTypes := #[27, 27] }, type := 4, pos := "law.go:116", after := #[{ on := 18, ground := Ground.data }, { on := 20, ground := Ground.data }, { on := 20, ground := Ground.chain }, { on := 14, ground := Ground.guard }], guard := some (14, false) }) rfl ?_ AllReadyH.nil)
      · intro K1 hK1
        rw [if_pos (by rfl)]
        have HC3 := ints_same l none aw 0 0 cw2 V2 (HP2.out V2 hS2.out) HNUM.out HNN.out.2
        go_wp2_with fail
        refine HC3.mono ?_
        rintro e V3 ⟨rfl, hb3⟩
        dsimp only
        clear HC3
        have hS3 : Hid (Below A.heap.size A V3) := hS2.out.trans (hb3.mono hS2.out.size)
        clear hb3
        refine hK1.out _ _ hS3.out ?_
        clear hK1
        intro _
        try simp only [Act.put, List.setIfInBounds_toArray, List.set_cons_zero, List.set_cons_succ]
        refine wpAnyH_take (i := 22) (oi := { dst := some 93, op := Op.unOp UnOp.not 4 (Operand.tmp 92), type := 4, pos := "law.go:116", after := #[{ on := 21, ground := Ground.data }, { on := 14, ground := Ground.guard }], guard := some (14, false) }) (v := .bool false) rfl (by kernel_rfl) (by kernel_rfl) (by kernel_rfl) (fun _ _ _ h => h.elim) (Or.inl ⟨by rfl, ?y20⟩) hS3.out ?_
        case y20 =>
          intro V hV
          go_simp
        simp only [Act.put, List.setIfInBounds_toArray, List.set_cons_zero, List.set_cons_succ]
        refine wpAnyH_take (i := 23) (oi := { dst := some 94, op := Op.pick (Operand.tmp 85) (Operand.const (Value.bool true)) (Operand.tmp 93), type := 4, pos := "law.go:116", after := #[{ on := 14, ground := Ground.data }, { on := 22, ground := Ground.data }], guard := none }) (v := .bool false) rfl (by kernel_rfl) (by kernel_rfl) (by kernel_rfl) (fun _ _ _ h => h.elim) (Or.inl ⟨by rfl, ?y21⟩) hS3.out ?_
        case y21 =>
          intro V hV
          go_simp
        simp only [Act.put, List.setIfInBounds_toArray, List.set_cons_zero, List.set_cons_succ]
        refine wpAnyH_done (by kernel_rfl) ?_ _
        exact hQ V3 _ _ hS3.out
#print axioms ord21n
end Go.Proofs.Ytipipckbcelphaa.Oct
