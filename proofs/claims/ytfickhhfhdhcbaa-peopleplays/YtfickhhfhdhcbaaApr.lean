/-
  Layer 15 (people): PeopleApart: facts, the drawn region.
-/
import Derived.Test.YtfickhhfhdhcbaaTlu
namespace Go.Proofs.Ytfickhhfhdhcbaa.Oct
open Go.RowKit
set_option linter.unusedSimpArgs false
set_option linter.unusedVariables false

/-- another organisation is as it was -/
theorem find_mid {A B : List Og} {o o' : Og} {y : Hs} (h1 : o.name ≠ y) (h2 : o'.name ≠ y) : (A ++ o' :: B).find? (fun o => o.name == y) = (A ++ o :: B).find? (fun o => o.name == y) := by
  have e1 : (o.name == y) = false := by simpa using h1
  have e2 : (o'.name == y) = false := by simpa using h2
  rw [List.find?_append, List.find?_append, List.find?_cons, List.find?_cons, e1, e2]
theorem OneIs.org {M M' : Pm} {x y : Hs} {f : Og → Og → Prop} (h : OneIs M x f M') (hy : y ≠ x) (hf : ∀ o o', f o o' → o'.name = o.name) : M'.org y = M.org y := by
  obtain ⟨A, o, B, o', h1, h2, h3, rfl⟩ := h
  have hn : o.name = x := by simpa using List.find?_some h1
  unfold Pm.org
  rw [h2]
  exact find_mid (by rw [hn]; exact fun e => hy e.symm) (by rw [hf o o' h3, hn]; exact fun e => hy e.symm)
theorem Did.org {M M' : Pm} {a : Av} (h : Did M a M') {y : Hs} (hy : y ≠ a.x) : M'.org y = M.org y := by
  rcases h with ⟨_, rfl⟩ | ⟨_, h⟩
  · rfl
  · unfold DidK at h
    split at h
    · subst h; rfl
    split at h
    · obtain ⟨b, rfl⟩ := h
      unfold Pm.org
      show (M.orgs ++ [newOg a.x a.u b]).find? _ = _
      have e : ((newOg a.x a.u b).name == y) = false := by
        show (a.x == y) = false
        simpa using fun e => hy e.symm
      rw [List.find?_append, List.find?_cons, e]
      simp
    split at h
    · exact h.org hy fun o o' e => by rw [e]
    split at h
    · exact h.org hy fun o o' e => by rw [e]; rfl
    split at h
    · exact h.org hy fun o o' e => by obtain ⟨nb, e⟩ := e; rw [e]
    split at h
    · exact h.org hy fun o o' e => by obtain ⟨S, tm, T, tm', _, _, _, e⟩ := e; rw [e]
    · exact h.org hy fun o o' e => by obtain ⟨S, tm, T, tm', _, _, _, e⟩ := e; rw [e]
theorem told_same {M M' : Pm} {y : Hs} (h : M'.org y = M.org y) : membersL M' y = membersL M y ∧ teamsL M' y = teamsL M y ∧ (∀ u, subT M' y u = subT M y u) ∧ ∀ u, subR M' y u = subR M y u := by
  refine ⟨?_, ?_, fun u => ?_, fun u => ?_⟩
  · unfold membersL; rw [h]
  · unfold teamsL; rw [h]
  · unfold subT; rw [h]
  · unfold subR; rw [h]
section
variable {w : World} {p : Nat} {M : Pm}
theorem members_at (h : PAt w p M) (x : Hs) (hx : x.length ≤ 140737488355328) {l : List Hs} {n : Nat} (hl : membersL M x = l) (hn : l.length = n) : Calls Try.prog 16 #[.pointer (some ⟨p, 0, none⟩), hv x] w fun e w' => ∃ a c, e = .returned (.slice a n c) ∧ Hid (StrAt w' a n l ∧ Below w.heap.size w w') := (members_is h x hx).mono (by
  rintro e w' ⟨a, n', c, rfl, H⟩
  rw [hl] at H
  obtain rfl : n' = n := by have := H.out.1.1; omega
  exact ⟨a, c, rfl, H.out.1, H.out.2.2⟩)
theorem teams_at (h : PAt w p M) (x : Hs) (hx : x.length ≤ 140737488355328) {l : List Hs} {n : Nat} (hl : teamsL M x = l) (hn : l.length = n) : Calls Try.prog 18 #[.pointer (some ⟨p, 0, none⟩), hv x] w fun e w' => ∃ a c, e = .returned (.slice a n c) ∧ Hid (StrAt w' a n l ∧ Below w.heap.size w w') := (teams_is h x hx).mono (by
  rintro e w' ⟨a, n', c, rfl, H⟩
  rw [hl] at H
  obtain rfl : n' = n := by have := H.out.1.1; omega
  exact ⟨a, c, rfl, H.out.1, H.out.2.2⟩)
theorem sub_at (h : PAt w p M) (hsh : Sh M) (x u : Hs) (hx : x.length ≤ 140737488355328) (hu : u.length ≤ 140737488355328) {l : List Hs} {n : Nat} {R : Int} (hl : subT M x u = l) (hn : l.length = n) (hR : subR M x u = R) : Calls Try.prog 21 #[.pointer (some ⟨p, 0, none⟩), hv x, hv u] w fun e w' => ∃ a c, e = .returned (.agg #[hv u, .slice a n c, iv R]) ∧ Hid (StrAt w' a n l ∧ Below w.heap.size w w') := (sub_is h hsh x u hx hu).mono (by
  rintro e w' ⟨a, n', c, rfl, H⟩
  rw [hl] at H
  rw [hR]
  obtain rfl : n' = n := by have := H.out.1.1; omega
  exact ⟨a, c, rfl, H.out.1, H.out.2.2⟩)
end
theorem ArgA.below {w w' : World} {a : Option Addr} {n c : Nat} {l : List Av} (h : ArgA w a n c l) (hb : Below w.heap.size w w') : ArgA w' a n c l := by
  refine ⟨h.1, h.2.1, h.2.2.1, fun hp => ?_⟩
  obtain ⟨b, off, e, hl, hc⟩ := h.2.2.2 hp
  exact ⟨b, off, e, Nat.lt_of_lt_of_le hl hb.size, fun i x hx => rangeAt_same (hc i x hx) (hb.block b hl)⟩
/-- what was told of users, as cells -/
def subC (M : Pm) (x : Hs) (z : Hs × (Option Addr × Nat × Nat)) : List Value := [hv z.1, .slice z.2.1 z.2.2.1 z.2.2.2, iv (subR M x z.1)]
def wasC (M : Pm) (x : Hs) (us : List Hs) (rs : List (Option Addr × Nat × Nat)) : List Value := (us.zip rs).flatMap (subC M x)
theorem zip_snoc {us : List Hs} {rs : List (Option Addr × Nat × Nat)} {u : Hs} {r : Option Addr × Nat × Nat} (hu : us[rs.length]? = some u) : us.zip (rs ++ [r]) = us.zip rs ++ [(u, r)] := by
  induction rs generalizing us with
  | nil =>
    cases us with
    | nil => simp at hu
    | cons a t => simp at hu; subst hu; simp
  | cons b t ih =>
    cases us with
    | nil => simp at hu
    | cons a t' =>
      simp only [List.cons_append, List.zip_cons_cons]
      rw [ih (by simpa using hu)]
theorem wasC_snoc (M : Pm) (x : Hs) {us : List Hs} {rs : List (Option Addr × Nat × Nat)} {u : Hs} {r : Option Addr × Nat × Nat} (hu : us[rs.length]? = some u) : wasC M x us (rs ++ [r]) = wasC M x us rs ++ subC M x (u, r) := by
  unfold wasC
  rw [zip_snoc hu]
  simp
theorem flat3 {α : Type} {f : α → List Value} (hf : ∀ a, (f a).length = 3) : ∀ {l : List α} {i : Nat} {a : α}, l[i]? = some a → ∀ j u, (f a)[j]? = some u → (l.flatMap f)[i * 3 + j]? = some u
  | [], i, a, h, _, _, _ => by simp at h
  | b :: t, 0, a, h, j, u, hj => by
    simp at h
    subst h
    have hj3 : j < 3 := by have := (List.getElem?_eq_some_iff.1 hj).1; rw [hf] at this; exact this
    rw [List.flatMap_cons, List.getElem?_append_left (by rw [hf]; omega)]
    simpa using hj
  | b :: t, i + 1, a, h, j, u, hj => by
    have := flat3 hf (l := t) (by simpa using h) j u hj
    rw [List.flatMap_cons, List.getElem?_append_right (by rw [hf]; omega), hf, show (i + 1) * 3 + j - 3 = i * 3 + j by omega]
    exact this
/-- how far the first loop told -/
structure WI (V W : World) (M : Pm) (x : Hs) (us : List Hs) (v : Value) (k : Nat) (rs : List (Option Addr × Nat × Nat)) : Prop where
  rl : rs.length = k
  ow : Ow W 42 3 v k (wasC M x us rs)
  each : ∀ (j : Nat) (u : Hs) (r : Option Addr × Nat × Nat), us[j]? = some u → rs[j]? = some r → StrAt W r.1 r.2.1 (subT M x u) ∧ r.2.1 ≤ 8 ∧ Up V.heap.size r.1 r.2.1 ∧ (0 < r.2.1 → ∀ g, r.1 = some ⟨g, 0, none⟩ → v.ownBlock ≠ some g)
  bel : Below V.heap.size V W
  vb : ∀ g, v.ownBlock = some g → V.heap.size ≤ g
theorem WI.below {V W W' : World} {M : Pm} {x : Hs} {us : List Hs} {v : Value} {k : Nat} {rs : List (Option Addr × Nat × Nat)} (h : WI V W M x us v k rs) (hb : Below W.heap.size W W') : WI V W' M x us v k rs :=
  ⟨h.rl, h.ow.below hb, fun j u r hu hr => ⟨(h.each j u r hu hr).1.below hb, (h.each j u r hu hr).2⟩, below_tr h.bel hb, h.vb⟩
set_option maxRecDepth 100000 in
set_option maxHeartbeats 4000000 in
theorem ap21 {Q : Exit → Act → World → Prop} {x0 x1 x3 x4 x5 x6 x8 x9 x10 x11 x13 x14 x15 x18 x19 x20 x21 x22 x23 x24 x25 x26 x27 x28 x29 x30 x31 x32 x33 x34 x35 x36 x37 x38 x39 x40 x41 x42 x43 x44 x45 x46 x47 x48 x49 x50 x51 x52 x53 x54 x55 x56 x57 x58 x59 x60 x61 x62 x63 x64 x65 x66 x67 x68 x69 x70 x71 x72 x73 x74 x75 x76 x77 x78 x79 x80 x81 x82 x83 x84 x85 x86 x87 x88 x89 x90 x91 x92 x93 x94 x95 x96 x97 x98 x99 x100 x101 x102 x103 x104 x105 x106 x107 x108 x109 x110 x111 x112 x113 x114 x115 x116 : Value} {ds : List Deferred} {A : World} {p gv ov nv cv i n1 c2 : Nat} {a2 : Option Addr} {R : Int} {M : Pm} {x u : Hs} {l : List Hs}
    (HPI : Hid (PAt A p M ∧ Sh M ∧ x.length ≤ 140737488355328 ∧ u.length ≤ 140737488355328)) (HPL : Hid (subT M x u = l ∧ l.length = n1 ∧ subR M x u = R)) (HIX : Hid ((i : Int) < (nv : Int) ∧ i < nv)) (HX : Hid (A.rangeAt gv (ov + i * 3) [hv u, .slice a2 n1 c2, iv R] ∧ gv < A.heap.size ∧ StrAt A a2 n1 l ∧ n1 ≤ 1000000))
    (hQ : ∀ V1 a1 c1, Below A.heap.size A V1 → Q .normal { tmps := #[x0, x1, hv x, x3, x4, x5, x6, .pointer (some ⟨p, 0, none⟩), x8, x9, x10, x11, .slice (some ⟨gv, ov, none⟩) nv cv, x13, x14, x15, iv (i : Int), hv u, x18, x19, x20, x21, x22, x23, x24, x25, x26, x27, x28, x29, x30, x31, x32, x33, x34, x35, x36, x37, x38, x39, x40, x41, x42, x43, x44, x45, x46, x47, x48, x49, x50, x51, x52, x53, x54, x55, x56, x57, x58, x59, x60, x61, x62, x63, x64, x65, x66, x67, x68, x69, x70, x71, x72, x73, x74, x75, x76, x77, x78, x79, x80, x81, x82, x83, x84, x85, x86, x87, x88, x89, x90, .pointer (some ⟨p, 0, none⟩), hv x, hv u, .agg #[hv u, .slice a1 n1 c1, iv R], .slice (some ⟨gv, ov, none⟩) nv cv, iv (i : Int), .pointer (some ⟨gv, ov + i * 3, none⟩), .agg [hv u, .slice a2 n1 c2, iv R].toArray, .bool true, .bool false, x101, x102, x103, x104, x105, x106, x107, x108, x109, x110, x111, x112, x113, x114, x115, x116], defers := ds } V1) :
    (Code.region 21 #[{ dst := some 91, op := Op.move (Operand.tmp 7), type := 25, pos := "law.go:171", after := #[], guard := none }, { dst := some 92, op := Op.move (Operand.tmp 2), type := 9, pos := "law.go:171", after := #[], guard := none }, { dst := some 93, op := Op.move (Operand.tmp 17), type := 9, pos := "law.go:171", after := #[], guard := none }, { dst := some 94, op := Op.call { callee := Callee.value (Operand.func 21), args := #[Operand.tmp 91, Operand.tmp 92, Operand.tmp 93], argTypes := #[25, 9, 9] }, type := 42, pos := "law.go:171", after := #[{ on := 0, ground := Ground.data }, { on := 1, ground := Ground.data }, { on := 2, ground := Ground.data }], guard := none }, { dst := some 95, op := Op.move (Operand.tmp 12), type := 45, pos := "law.go:171", after := #[], guard := none }, { dst := some 96, op := Op.move (Operand.tmp 16), type := 3, pos := "law.go:171", after := #[], guard := none }, { dst := some 97, op := Op.indexAddr 45 (Operand.tmp 95) (Operand.tmp 96), type := 0, pos := "law.go:171", after := #[{ on := 4, ground := Ground.data }, { on := 5, ground := Ground.data }], guard := none }, { dst := some 98, op := Op.load 42 (Operand.tmp 97), type := 42, pos := "law.go:171", after := #[{ on := 6, ground := Ground.data }], guard := none }, { dst := some 99, op := Op.call { callee := Callee.value (Operand.func 20), args := #[Operand.tmp 94, Operand.tmp 98], argTypes := #[42, 42] }, type := 4, pos := "law.go:171", after := #[{ on := 3, ground := Ground.data }, { on := 7, ground := Ground.data }, { on := 3, ground := Ground.chain }], guard := none }, { dst := some 100, op := Op.unOp UnOp.not 4 (Operand.tmp 99), type := 4, pos := "law.go:171", after := #[{ on := 8, ground := Ground.data }], guard := none }] true).wp Try.prog Q { tmps := #[x0, x1, hv x, x3, x4, x5, x6, .pointer (some ⟨p, 0, none⟩), x8, x9, x10, x11, .slice (some ⟨gv, ov, none⟩) nv cv, x13, x14, x15, iv (i : Int), hv u, x18, x19, x20, x21, x22, x23, x24, x25, x26, x27, x28, x29, x30, x31, x32, x33, x34, x35, x36, x37, x38, x39, x40, x41, x42, x43, x44, x45, x46, x47, x48, x49, x50, x51, x52, x53, x54, x55, x56, x57, x58, x59, x60, x61, x62, x63, x64, x65, x66, x67, x68, x69, x70, x71, x72, x73, x74, x75, x76, x77, x78, x79, x80, x81, x82, x83, x84, x85, x86, x87, x88, x89, x90, x91, x92, x93, x94, x95, x96, x97, x98, x99, x100, x101, x102, x103, x104, x105, x106, x107, x108, x109, x110, x111, x112, x113, x114, x115, x116], defers := ds } A := by
  refine Code.wp_mono (Q := fun x a' w' => match x with | .normal => Q .normal a' w' | _ => False) (by intro x a' w' h; cases x <;> first | exact h | exact h.elim) ?_
  refine wp_region_held (S := fun V => Below A.heap.size A V) (by kernel_rfl) ?_
  have hS0 : Hid (Below A.heap.size A A.drew) := below_drew0 A
  change wpAnyH Try.prog .any _ _ (fun V => Below A.heap.size A V) 10 (Array.replicate 10 false) _ A.drew
  obtain ⟨V0, hV0⟩ : ∃ V0, A.drew = V0 := ⟨_, rfl⟩
  rw [hV0]
  rw [hV0] at hS0
  clear hV0
  refine wpAnyH_take (i := 0) (oi := { dst := some 91, op := Op.move (Operand.tmp 7), type := 25, pos := "law.go:171", after := #[], guard := none }) (v := .pointer (some ⟨p, 0, none⟩)) rfl (by kernel_rfl) (by kernel_rfl) (by kernel_rfl) (fun _ _ _ h => h.elim) (Or.inl ⟨by rfl, ?y1⟩) hS0.out ?_
  case y1 =>
    intro V hV
    go_simp
  simp only [Act.put, List.setIfInBounds_toArray, List.set_cons_zero, List.set_cons_succ]
  refine wpAnyH_take (i := 1) (oi := { dst := some 92, op := Op.move (Operand.tmp 2), type := 9, pos := "law.go:171", after := #[], guard := none }) (v := hv x) rfl (by kernel_rfl) (by kernel_rfl) (by kernel_rfl) (fun _ _ _ h => h.elim) (Or.inl ⟨by rfl, ?y2⟩) hS0.out ?_
  case y2 =>
    intro V hV
    go_simp
  simp only [Act.put, List.setIfInBounds_toArray, List.set_cons_zero, List.set_cons_succ]
  refine wpAnyH_take (i := 2) (oi := { dst := some 93, op := Op.move (Operand.tmp 17), type := 9, pos := "law.go:171", after := #[], guard := none }) (v := hv u) rfl (by kernel_rfl) (by kernel_rfl) (by kernel_rfl) (fun _ _ _ h => h.elim) (Or.inl ⟨by rfl, ?y3⟩) hS0.out ?_
  case y3 =>
    intro V hV
    go_simp
  simp only [Act.put, List.setIfInBounds_toArray, List.set_cons_zero, List.set_cons_succ]
  refine wpAnyH_take (i := 4) (oi := { dst := some 95, op := Op.move (Operand.tmp 12), type := 45, pos := "law.go:171", after := #[], guard := none }) (v := .slice (some ⟨gv, ov, none⟩) nv cv) rfl (by kernel_rfl) (by kernel_rfl) (by kernel_rfl) (fun _ _ _ h => h.elim) (Or.inl ⟨by rfl, ?y4⟩) hS0.out ?_
  case y4 =>
    intro V hV
    go_simp
  simp only [Act.put, List.setIfInBounds_toArray, List.set_cons_zero, List.set_cons_succ]
  refine wpAnyH_take (i := 5) (oi := { dst := some 96, op := Op.move (Operand.tmp 16), type := 3, pos := "law.go:171", after := #[], guard := none }) (v := iv (i : Int)) rfl (by kernel_rfl) (by kernel_rfl) (by kernel_rfl) (fun _ _ _ h => h.elim) (Or.inl ⟨by rfl, ?y5⟩) hS0.out ?_
  case y5 =>
    intro V hV
    go_simp
  simp only [Act.put, List.setIfInBounds_toArray, List.set_cons_zero, List.set_cons_succ]
  refine wpAnyH_take (i := 6) (oi := { dst := some 97, op := Op.indexAddr 45 (Operand.tmp 95) (Operand.tmp 96), type := 0, pos := "law.go:171", after := #[{ on := 4, ground := Ground.data }, { on := 5, ground := Ground.data }], guard := none }) (v := .pointer (some ⟨gv, ov + i * 3, none⟩)) rfl (by kernel_rfl) (by kernel_rfl) (by kernel_rfl) (fun _ _ _ h => h.elim) (Or.inl ⟨by rfl, ?y6⟩) hS0.out ?_
  case y6 =>
    intro V hV
    have h1 := HIX.out.1
    have h2 := HIX.out.2
    go_simp
  simp only [Act.put, List.setIfInBounds_toArray, List.set_cons_zero, List.set_cons_succ]
  refine wpAnyH_take (i := 7) (oi := { dst := some 98, op := Op.load 42 (Operand.tmp 97), type := 42, pos := "law.go:171", after := #[{ on := 6, ground := Ground.data }], guard := none }) (v := .agg [hv u, .slice a2 n1 c2, iv R].toArray) rfl (by kernel_rfl) (by kernel_rfl) (by kernel_rfl) (fun _ _ _ h => h.elim) (yieldsIf_load_mid (by rfl) _ _ rfl _ _ rfl ([hv u, .slice a2 n1 c2, iv R]) _ (fun V hV => rangeAt_same (HX.out.1) ((show Below A.heap.size A V from hV).block _ (HX.out.2.1))) Try.underlying42 rfl ((by kernel_rfl))) hS0.out ?_
  simp only [Act.put, List.setIfInBounds_toArray, List.set_cons_zero, List.set_cons_succ]
  refine wpAnyH_ready (rs := [3]) (by kernel_rfl) (by simp) (AllReadyH.cons (i := 3) (o := { dst := some 94, op := Op.call { callee := Callee.value (Operand.func 21), args := #[Operand.tmp 91, Operand.tmp 92, Operand.tmp 93], argTypes := #[25, 9, 9] }, type := 42, pos := "law.go:171", after := #[{ on := 0, ground := Ground.data }, { on := 1, ground := Ground.data }, { on := 2, ground := Ground.data }], guard := none }) rfl ?_ AllReadyH.nil)
  · intro K1 hK1
    rw [if_pos (by rfl)]
    have HC1 := sub_at (HPI.out.1.below hS0.out) HPI.out.2.1 x u HPI.out.2.2.1 HPI.out.2.2.2 HPL.out.1 HPL.out.2.1 HPL.out.2.2
    go_wp2_with fail
    refine HC1.mono ?_
    rintro e V1 ⟨a1, c1, rfl, HS1⟩
    dsimp only
    clear HC1
    have hS1 : Hid (Below A.heap.size A V1) := hS0.out.trans ((HS1.out.2).mono hS0.out.size)
    refine hK1.out _ _ hS1.out ?_
    clear hK1
    intro _
    try simp only [Act.put, List.setIfInBounds_toArray, List.set_cons_zero, List.set_cons_succ]
    refine wpAnyH_ready (rs := [8]) (by kernel_rfl) (by simp) (AllReadyH.cons (i := 8) (o := { dst := some 99, op := Op.call { callee := Callee.value (Operand.func 20), args := #[Operand.tmp 94, Operand.tmp 98], argTypes := #[42, 42] }, type := 4, pos := "law.go:171", after := #[{ on := 3, ground := Ground.data }, { on := 7, ground := Ground.data }, { on := 3, ground := Ground.chain }], guard := none }) rfl ?_ AllReadyH.nil)
    · intro K1 hK1
      rw [if_pos (by rfl)]
      have HC2 := same_same (c := c1) (d := c2) HS1.out.1 (HX.out.2.2.1.below hS1.out) HX.out.2.2.2 u R
      go_wp2_with fail
      refine HC2.mono ?_
      rintro e V2 ⟨rfl, hb2⟩
      dsimp only
      clear HC2
      have hS2 : Hid (Below A.heap.size A V2) := hS1.out.trans ((hb2).mono hS1.out.size)
      clear hb2
      refine hK1.out _ _ hS2.out ?_
      clear hK1
      intro _
      try simp only [Act.put, List.setIfInBounds_toArray, List.set_cons_zero, List.set_cons_succ]
      refine wpAnyH_take (i := 9) (oi := { dst := some 100, op := Op.unOp UnOp.not 4 (Operand.tmp 99), type := 4, pos := "law.go:171", after := #[{ on := 8, ground := Ground.data }], guard := none }) (v := .bool false) rfl (by kernel_rfl) (by kernel_rfl) (by kernel_rfl) (fun _ _ _ h => h.elim) (Or.inl ⟨by rfl, ?y7⟩) hS2.out ?_
      case y7 =>
        intro V hV
        go_simp
      simp only [Act.put, List.setIfInBounds_toArray, List.set_cons_zero, List.set_cons_succ]
      refine wpAnyH_done (by kernel_rfl) ?_ _
      exact hQ V2 _ _ hS2.out
#print axioms ap21
end Go.Proofs.Ytfickhhfhdhcbaa.Oct
