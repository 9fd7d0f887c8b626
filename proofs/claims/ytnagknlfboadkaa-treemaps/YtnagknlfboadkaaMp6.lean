/-
  Layer 7 (tree): the statement of the closure of 'from' that takes a kid's iterator, whatever its order.
  Layer 7 (tree): what 'from' tells of a tree, as lists; the way out behind many ranges.
  Layer 7 (tree): the range over a kid's iterator within the closure of 'from'.
  Layer 7 (tree): the closure of 'from', over a tree of any depth.
  Layer 7 (tree): the closure of 'Scan', over a tree of any depth.
  Layer 7 (tree): 'told' of a map of any keys.
  Layer 7 (tree): a call of both, the map and the list: Put and Delete.
  Layer 7 (tree): a call of both, the map and the list: many Puts.
  Layer 7 (tree): a call of both, the map and the list: many Deletes.
  Layer 7 (tree): a call of both, the map and the list: Delete.
  Layer 7 (tree): a call of both, the map and the list: Get.
  Layer 7 (tree): a call of both, the map and the list: Scan.
  Layer 7 (tree): the laws' lists of calls among their arguments, as the walks take them.
  Layer 7 (tree): are calls few enough?
-/
import Derived.Test.YtnagknlfboadkaaMp5
import Derived.Deep.Slices
import Derived.ChangeSame
import Derived.OpenShut
import Derived.ShutString
import Derived.ChangeOld
/- Layer 7 (tree): the statement of the closure of 'from' that takes a kid's iterator, whatever its order. -/
namespace Go.Proofs.Ytnagknlfboadkaa.Oct
open Go.RowKit
attribute [local go_sem] Oper.semAt_some
set_option maxRecDepth 100000 in
set_option maxHeartbeats 2000000 in
theorem reg7 {Q : Exit → Act → World → Prop} {y0 y3 y4 y5 y7 y8 y9 y10 y11 y12 y13 y14 y15 y16 y17 y18 y19 y20 y21 y22 y23 y24 y25 y26 y27 y28 y29 y30 y31 y32 y33 y34 y35 y36 y37 y38 y39 y40 y41 y42 y43 y44 y45 y46 y47 y48 y49 y50 y51 y52 y53 y54 y55 y56 y57 y58 y59 y60 y61 y62 y63 y64 y65 y66 y67 y68 y69 y70 y71 y72 y73 : Value} {ds : List Deferred} {A : World} {dd Bn Bk nd g off n cap i kb : Nat} {key : ByteArray} {R : Ending → World → Prop}
    (hc : A.cell? ⟨Bn, 0, none⟩ = some (.pointer (some ⟨nd, 0, none⟩)) ∧ A.cell? ⟨Bk, 0, none⟩ = some (.string key) ∧ A.cell? ⟨nd, 1, none⟩ = some (.slice (some ⟨g, off, none⟩) n cap) ∧ A.cell? ⟨g, off + i, none⟩ = some (.pointer (some ⟨kb, 0, none⟩))) (hi : (i : Int) < (n : Int))
    (hF : CallsIn Fence.wide (dd - 1) Try.prog 29 #[.pointer (some ⟨kb, 0, none⟩), .string key] A.drew R)
    (hR : ∀ e B, R e B → ∃ v : Value, e = .returned v ∧ B.cell? ⟨Bn, 0, none⟩ = some (.pointer (some ⟨nd, 0, none⟩)) ∧ B.cell? ⟨Bk, 0, none⟩ = some (.string key) ∧ B.cell? ⟨nd, 1, none⟩ = some (.slice (some ⟨g, off, none⟩) n cap) ∧ B.cell? ⟨g, off + i, none⟩ = some (.pointer (some ⟨kb, 0, none⟩)))
    (hQ : ∀ v B, R (.returned v) B → Q .normal { tmps := #[y0, .pointer (some ⟨Bn, 0, none⟩), .pointer (some ⟨Bk, 0, none⟩), y3, y4, y5, .int .i64 (i : Int), y7, y8, y9, y10, y11, y12, y13, y14, y15, y16, y17, y18, y19, y20, y21, y22, y23, y24, y25, y26, y27, y28, y29, .pointer (some ⟨nd, 0, none⟩), .pointer (some ⟨nd, 0, none⟩), .pointer (some ⟨nd, 1, none⟩), .slice (some ⟨g, off, none⟩) n cap, .int .i64 (i : Int), .pointer (some ⟨g, off + i, none⟩), .pointer (some ⟨kb, 0, none⟩), .string key, v, y39, y40, y41, y42, y43, y44, y45, y46, y47, y48, y49, y50, y51, y52, y53, y54, y55, y56, y57, y58, y59, y60, y61, y62, y63, y64, y65, y66, y67, y68, y69, y70, y71, y72, y73], defers := ds } B) :
    (Code.region 7 #[{ dst := some 30, op := Op.load 46 (Operand.tmp 1), type := 46, pos := "node.go:72", after := #[], guard := none }, { dst := some 31, op := Op.nilCheck (Operand.tmp 30), type := 0, pos := "node.go:72", after := #[{ on := 0, ground := Ground.data }], guard := none }, { dst := some 32, op := Op.fieldAddr 67 (Operand.tmp 31) 1, type := 0, pos := "node.go:72", after := #[{ on := 1, ground := Ground.data }], guard := none }, { dst := some 33, op := Op.load 65 (Operand.tmp 32), type := 65, pos := "node.go:72", after := #[{ on := 2, ground := Ground.data }], guard := none }, { dst := some 34, op := Op.move (Operand.tmp 6), type := 3, pos := "node.go:72", after := #[], guard := none }, { dst := some 35, op := Op.indexAddr 65 (Operand.tmp 33) (Operand.tmp 34), type := 0, pos := "node.go:72", after := #[{ on := 3, ground := Ground.data }, { on := 4, ground := Ground.data }], guard := none }, { dst := some 36, op := Op.load 46 (Operand.tmp 35), type := 46, pos := "node.go:72", after := #[{ on := 5, ground := Ground.data }], guard := none }, { dst := some 37, op := Op.load 9 (Operand.tmp 2), type := 9, pos := "node.go:72", after := #[], guard := none }, { dst := some 38, op := Op.call { callee := Callee.value (Operand.func 29), args := #[Operand.tmp 36, Operand.tmp 37], argTypes := #[46, 9] }, type := 37, pos := "node.go:72", after := #[{ on := 6, ground := Ground.data }, { on := 7, ground := Ground.data }], guard := none }] true).wpIn Fence.wide dd Try.prog Q { tmps := #[y0, .pointer (some ⟨Bn, 0, none⟩), .pointer (some ⟨Bk, 0, none⟩), y3, y4, y5, .int .i64 (i : Int), y7, y8, y9, y10, y11, y12, y13, y14, y15, y16, y17, y18, y19, y20, y21, y22, y23, y24, y25, y26, y27, y28, y29, y30, y31, y32, y33, y34, y35, y36, y37, y38, y39, y40, y41, y42, y43, y44, y45, y46, y47, y48, y49, y50, y51, y52, y53, y54, y55, y56, y57, y58, y59, y60, y61, y62, y63, y64, y65, y66, y67, y68, y69, y70, y71, y72, y73], defers := ds } A := by
  refine wpIn_mono (Q := fun x a' w' => match x with | .normal => Q .normal a' w' | _ => False) ?_ (by intro x a' w' h; cases x <;> first | exact h | exact h.elim)
  obtain ⟨S, hSd⟩ : ∃ S : World → Prop, S = fun W => W.cell? ⟨Bn, 0, none⟩ = some (.pointer (some ⟨nd, 0, none⟩)) ∧ W.cell? ⟨Bk, 0, none⟩ = some (.string key) ∧ W.cell? ⟨nd, 1, none⟩ = some (.slice (some ⟨g, off, none⟩) n cap) ∧ W.cell? ⟨g, off + i, none⟩ = some (.pointer (some ⟨kb, 0, none⟩)) := ⟨_, rfl⟩
  refine region_S (S := S) (by kernel_rfl) ?_
  have hS : S A.drew := by rw [hSd]; exact hc
  have hi2 : i < n := by omega
  change anyS Fence.wide dd Try.prog .any _ _ S 9 (Array.replicate 9 false) _ A.drew
  refine anyS_take (i := 0) (oi := { dst := some 30, op := Op.load 46 (Operand.tmp 1), type := 46, pos := "node.go:72", after := #[], guard := none }) (v := .pointer (some ⟨nd, 0, none⟩)) rfl rfl (by kernel_rfl) (by kernel_rfl) (by kernel_rfl) (fun _ _ _ h => h.elim) ⟨Or.inl ⟨by rfl, ?z0⟩, fun _ => rfl⟩ hS ?_
  case z0 =>
    intro W hW
    rw [hSd] at hW; obtain ⟨s1, s2, s3, s4⟩ := hW
    go_simp
  simp only [Act.put, List.setIfInBounds_toArray, List.set_cons_zero, List.set_cons_succ]
  refine anyS_take (i := 1) (oi := { dst := some 31, op := Op.nilCheck (Operand.tmp 30), type := 0, pos := "node.go:72", after := #[{ on := 0, ground := Ground.data }], guard := none }) (v := .pointer (some ⟨nd, 0, none⟩)) rfl rfl (by kernel_rfl) (by kernel_rfl) (by kernel_rfl) (fun _ _ _ h => h.elim) ⟨Or.inl ⟨by rfl, ?z1⟩, fun _ => rfl⟩ hS ?_
  case z1 =>
    intro W hW
    rw [hSd] at hW; obtain ⟨s1, s2, s3, s4⟩ := hW
    go_simp
  simp only [Act.put, List.setIfInBounds_toArray, List.set_cons_zero, List.set_cons_succ]
  refine anyS_take (i := 2) (oi := { dst := some 32, op := Op.fieldAddr 67 (Operand.tmp 31) 1, type := 0, pos := "node.go:72", after := #[{ on := 1, ground := Ground.data }], guard := none }) (v := .pointer (some ⟨nd, 1, none⟩)) rfl rfl (by kernel_rfl) (by kernel_rfl) (by kernel_rfl) (fun _ _ _ h => h.elim) ⟨Or.inl ⟨by rfl, ?z2⟩, fun _ => rfl⟩ hS ?_
  case z2 =>
    intro W hW
    rw [hSd] at hW; obtain ⟨s1, s2, s3, s4⟩ := hW
    go_simp
  simp only [Act.put, List.setIfInBounds_toArray, List.set_cons_zero, List.set_cons_succ]
  refine anyS_take (i := 3) (oi := { dst := some 33, op := Op.load 65 (Operand.tmp 32), type := 65, pos := "node.go:72", after := #[{ on := 2, ground := Ground.data }], guard := none }) (v := .slice (some ⟨g, off, none⟩) n cap) rfl rfl (by kernel_rfl) (by kernel_rfl) (by kernel_rfl) (fun _ _ _ h => h.elim) ⟨Or.inl ⟨by rfl, ?z3⟩, fun _ => rfl⟩ hS ?_
  case z3 =>
    intro W hW
    rw [hSd] at hW; obtain ⟨s1, s2, s3, s4⟩ := hW
    go_simp
  simp only [Act.put, List.setIfInBounds_toArray, List.set_cons_zero, List.set_cons_succ]
  refine anyS_take (i := 4) (oi := { dst := some 34, op := Op.move (Operand.tmp 6), type := 3, pos := "node.go:72", after := #[], guard := none }) (v := .int .i64 (i : Int)) rfl rfl (by kernel_rfl) (by kernel_rfl) (by kernel_rfl) (fun _ _ _ h => h.elim) ⟨Or.inl ⟨by rfl, ?z4⟩, fun _ => rfl⟩ hS ?_
  case z4 =>
    intro W hW
    rw [hSd] at hW; obtain ⟨s1, s2, s3, s4⟩ := hW
    go_simp
  simp only [Act.put, List.setIfInBounds_toArray, List.set_cons_zero, List.set_cons_succ]
  refine anyS_take (i := 5) (oi := { dst := some 35, op := Op.indexAddr 65 (Operand.tmp 33) (Operand.tmp 34), type := 0, pos := "node.go:72", after := #[{ on := 3, ground := Ground.data }, { on := 4, ground := Ground.data }], guard := none }) (v := .pointer (some ⟨g, off + i, none⟩)) rfl rfl (by kernel_rfl) (by kernel_rfl) (by kernel_rfl) (fun _ _ _ h => h.elim) ⟨Or.inl ⟨by rfl, ?z5⟩, fun _ => rfl⟩ hS ?_
  case z5 =>
    intro W hW
    rw [hSd] at hW; obtain ⟨s1, s2, s3, s4⟩ := hW
    go_simp
  simp only [Act.put, List.setIfInBounds_toArray, List.set_cons_zero, List.set_cons_succ]
  refine anyS_take (i := 6) (oi := { dst := some 36, op := Op.load 46 (Operand.tmp 35), type := 46, pos := "node.go:72", after := #[{ on := 5, ground := Ground.data }], guard := none }) (v := .pointer (some ⟨kb, 0, none⟩)) rfl rfl (by kernel_rfl) (by kernel_rfl) (by kernel_rfl) (fun _ _ _ h => h.elim) ⟨Or.inl ⟨by rfl, ?z6⟩, fun _ => rfl⟩ hS ?_
  case z6 =>
    intro W hW
    rw [hSd] at hW; obtain ⟨s1, s2, s3, s4⟩ := hW
    go_simp
  simp only [Act.put, List.setIfInBounds_toArray, List.set_cons_zero, List.set_cons_succ]
  refine anyS_take (i := 7) (oi := { dst := some 37, op := Op.load 9 (Operand.tmp 2), type := 9, pos := "node.go:72", after := #[], guard := none }) (v := .string key) rfl rfl (by kernel_rfl) (by kernel_rfl) (by kernel_rfl) (fun _ _ _ h => h.elim) ⟨Or.inl ⟨by rfl, ?z7⟩, fun _ => rfl⟩ hS ?_
  case z7 =>
    intro W hW
    rw [hSd] at hW; obtain ⟨s1, s2, s3, s4⟩ := hW
    go_simp
  simp only [Act.put, List.setIfInBounds_toArray, List.set_cons_zero, List.set_cons_succ]
  refine anyS_one (i := 8) (by kernel_rfl) (wpOpIn_step (o := { dst := some 38, op := Op.call { callee := Callee.value (Operand.func 29), args := #[Operand.tmp 36, Operand.tmp 37], argTypes := #[46, 9] }, type := 37, pos := "node.go:72", after := #[{ on := 6, ground := Ground.data }, { on := 7, ground := Ground.data }], guard := none }) rfl ?_)
  intro K' hK'
  rw [if_pos (by rfl)]
  refine ⟨fun _ _ => trivial, ?_⟩
  have hsem : ∀ a : Act, a.eval (.tmp 36) = .pointer (some ⟨kb, 0, none⟩) → a.eval (.tmp 37) = .string key → (Oper.semAt Fence.wide.round a.eval { dst := some 38, op := Op.call { callee := Callee.value (Operand.func 29), args := #[Operand.tmp 36, Operand.tmp 37], argTypes := #[46, 9] }, type := 37, pos := "node.go:72", after := #[{ on := 6, ground := Ground.data }, { on := 7, ground := Ground.data }], guard := none }).run Try.prog A.drew = .ok (.enter 29 #[.pointer (some ⟨kb, 0, none⟩), .string key]) A.drew := by
    intro a h1 h2
    rw [show Fence.wide.round = none from rfl, Oper.semAt_none]
    simp only [execOp, resolve, h1, h2, List.map_toArray, List.map_cons, List.map_nil]
    go_simp
  rw [hsem _ rfl rfl]
  refine ⟨fun h => (by cases h), hF.mono ?_⟩
  rintro e B hRB
  obtain ⟨v, rfl, hB⟩ := hR e B hRB
  refine hK' _ _ ⟨by rw [hSd]; exact hB, ?_⟩
  simp only [Act.put, List.setIfInBounds_toArray, List.set_cons_zero, List.set_cons_succ]
  refine anyS_done (by kernel_rfl) ?_ _
  exact hQ v B hRB
end Go.Proofs.Ytnagknlfboadkaa.Oct

/- Layer 7 (tree): what 'from' tells of a tree, as lists; the way out behind many ranges. -/
namespace Go.Proofs.Ytnagknlfboadkaa.Oct
open Go.RowKit Go.Shelf

/-- the pairs from a key on -/
def ge (key : ByteArray) (L : List Pr) : List Pr := L.filter (fun x => geS x.1 key)
theorem ge_app (key : ByteArray) (A B : List Pr) : ge key (A ++ B) = ge key A ++ ge key B := List.filter_append ..
theorem ge_L {key : ByteArray} {A : List Pr} (h : AllL key A) : ge key A = [] := List.filter_eq_nil_iff.2 fun x hx => by rw [geS_eq, h x hx]; simp
theorem ge_leaf {ps : List Pr} {key : ByteArray} {k : Nat} (h : AtP ps key k) : ge key ps = ps.drop k := by
  have e : ge key (ps.take k ++ ps.drop k) = ps.drop k := by
    rw [ge_app]
    have h1 : ge key (ps.take k) = [] := List.filter_eq_nil_iff.2 fun x hx => by
      obtain ⟨i, hi, rfl⟩ := List.mem_iff_getElem.1 hx
      have hik : i < k := by rw [List.length_take] at hi; omega
      have hip : i < ps.length := by rw [List.length_take] at hi; omega
      rw [List.getElem_take, h.2.1 i _ hik (List.getElem?_eq_getElem hip)]; simp
    have h2 : ge key (ps.drop k) = ps.drop k := List.filter_eq_self.2 fun x hx => by
      obtain ⟨i, hi, rfl⟩ := List.mem_iff_getElem.1 hx
      have hip : k + i < ps.length := by rw [List.length_drop] at hi; omega
      rw [List.getElem_drop]
      exact h.2.2 (k + i) _ (by omega) (List.getElem?_eq_getElem hip)
    rw [h1, h2]; rfl
  rwa [List.take_append_drop] at e
/-- how many pairs are told ahead of a kid -/
def Offs (key : ByteArray) (ls : List (List Pr)) (ps : List Pr) (i : Nat) : Nat := (ge key (upp (ls.take i) (ps.take i))).length
section
variable {ls : List (List Pr)} {ps : List Pr} {key : ByteArray} {i : Nat} {l : List Pr}
theorem ge_split (hl : ls.length = ps.length + 1) (hi : ls[i]? = some l) : ge key (inter ls ps) = ge key (upp (ls.take i) (ps.take i)) ++ ge key l ++ ge key (dn (ps.drop i) (ls.drop (i + 1))) := by
  rw [inter_at i l hl hi, ge_app, ge_app]
theorem ge_kid (hl : ls.length = ps.length + 1) (hi : ls[i]? = some l) {s : Nat} {x : Pr} (hx : (ge key l)[s]? = some x) : (ge key (inter ls ps))[Offs key ls ps i + s]? = some x := by
  have hs := (List.getElem?_eq_some_iff.1 hx).1
  rw [ge_split hl hi, List.append_assoc, List.getElem?_append_right (by unfold Offs; omega), List.getElem?_append_left (by unfold Offs; omega)]
  rw [show Offs key ls ps i + s - (ge key (upp (ls.take i) (ps.take i))).length = s by unfold Offs; omega]
  exact hx
theorem dn_at {p : Pr} (hl : ls.length = ps.length + 1) (hp : ps[i]? = some p) : ∃ r, dn (ps.drop i) (ls.drop (i + 1)) = p :: r := by
  have hip := (List.getElem?_eq_some_iff.1 hp).1
  have h1 : ps.drop i = p :: ps.drop (i + 1) := by
    rw [List.drop_eq_getElem_cons hip]
    rw [List.getElem?_eq_getElem hip] at hp
    rw [Option.some.inj hp]
  have h2 : ls.drop (i + 1) = ls[i + 1]'(by omega) :: ls.drop (i + 1 + 1) := List.drop_eq_getElem_cons (by omega)
  rw [h1, h2]
  unfold dn
  rw [List.zipWith_cons_cons, List.flatten_cons]
  exact ⟨_, rfl⟩
theorem ge_pair {p : Pr} (hl : ls.length = ps.length + 1) (hi : ls[i]? = some l) (hp : ps[i]? = some p) (hg : geS p.1 key = true) : (ge key (inter ls ps))[Offs key ls ps i + (ge key l).length]? = some p := by
  obtain ⟨r, hr⟩ := dn_at hl hp
  have hlen : (ge key (upp (ls.take i) (ps.take i)) ++ ge key l).length = Offs key ls ps i + (ge key l).length := by rw [List.length_append]; rfl
  rw [ge_split hl hi, List.getElem?_append_right (by omega), hlen, Nat.sub_self, hr]
  unfold ge
  rw [List.filter_cons, if_pos hg]
  rfl
theorem offs_next {p : Pr} (hl : ls.length = ps.length + 1) (hi : ls[i]? = some l) (hp : ps[i]? = some p) (hg : geS p.1 key = true) : Offs key ls ps (i + 1) = Offs key ls ps i + (ge key l).length + 1 := by
  have hip := (List.getElem?_eq_some_iff.1 hp).1
  unfold Offs
  rw [List.take_add_one, List.take_add_one, hi, hp, upp_app (by rw [List.length_take, List.length_take]; omega), ge_app, List.length_append]
  have : ge key (upp [l] [p]) = ge key l ++ [p] := by
    have e : upp [l] [p] = l ++ [p] := by simp [upp]
    rw [e, ge_app]
    unfold ge
    rw [List.filter_cons, if_pos hg]; rfl
  show _ + (ge key (upp [l] [p])).length = _
  rw [this]; simp; omega
theorem offs_end (hl : ls.length = ps.length + 1) (hi : ls[ps.length]? = some l) : (ge key (inter ls ps)).length = Offs key ls ps ps.length + (ge key l).length := by
  rw [ge_split hl hi, List.length_append, List.length_append, List.drop_length]
  have : dn [] (ls.drop (ps.length + 1)) = [] := by simp [dn]
  rw [this]; rfl
theorem offs_first (hl : ls.length = ps.length + 1) (hr : Ris (inter ls ps)) {k : Nat} (ha : AtP ps key k) : Offs key ls ps k = 0 := by
  have hk := ha.1
  have hkl : k < ls.length := by omega
  have e := inter_at (ps := ps) k (ls[k]) hl (List.getElem?_eq_getElem hkl)
  rw [e] at hr
  have hL : AllL key (ps.take k) := by
    intro x hx
    obtain ⟨i, hi, rfl⟩ := List.mem_iff_getElem.1 hx
    have hik : i < k := by rw [List.length_take] at hi; omega
    have hip : i < ps.length := by omega
    have := ha.2.1 i _ hik (List.getElem?_eq_getElem hip)
    rw [geS_eq] at this
    rw [List.getElem_take]
    simpa using this
  unfold Offs
  rw [ge_L (upp_L (by rw [List.length_take, List.length_take]; omega) hr.left.left hL)]; rfl
end
/-- what a tree may lie in -/
def Kept (A0 A : World) : Prop := ∀ b e, (e = 40 ∨ e = 46 ∨ e = 67) → RowT A0 e b → A.heap[b]? = A0.heap[b]?
theorem cell_same {A0 A : World} {g off : Nat} (h : A.heap[g]? = A0.heap[g]?) : A.cell? ⟨g, off, none⟩ = A0.cell? ⟨g, off, none⟩ := by
  simp only [World.cell?, h]
theorem RdP.fix {A0 A : World} {a : Option Addr} {n : Nat} {ps : List Pr} (h : RdP A0 a n ps) (hk : Kept A0 A) : RdP A a n ps := by
  refine ⟨h.1, fun hp => ?_⟩
  obtain ⟨g, off, e, h1, h2⟩ := h.2 hp
  have hs := hk g 40 (.inl rfl) h1
  exact ⟨g, off, e, h1.same hs, fun k x hk => ⟨(cell_same hs).trans (h2 k x hk).1, (cell_same hs).trans (h2 k x hk).2⟩⟩
theorem RdK.fix {A0 A : World} {a : Option Addr} {n : Nat} {bs : List Nat} (h : RdK A0 a n bs) (hk : Kept A0 A) : RdK A a n bs := by
  refine ⟨h.1, fun hp => ?_⟩
  obtain ⟨g, off, e, h1, h2⟩ := h.2 hp
  have hs := hk g 46 (.inr (.inl rfl)) h1
  exact ⟨g, off, e, h1.same hs, fun k x hk => (cell_same hs).trans (h2 k x hk)⟩
theorem Nd.fix {A0 A : World} {nd : Nat} {a : Option Addr} {n cap : Nat} {ps : List Pr} {kv : Value} (h : Nd A0 nd a n cap ps kv) (hk : Kept A0 A) : Nd A nd a n cap ps kv :=
  ⟨(hk nd 67 (.inr (.inr rfl)) h.blk.row).trans h.blk, h.rd.fix hk⟩
def mark (m : Nat) : Deferred := { target := .collected m, args := #[] }
/-- a return behind many ranges -/
theorem ret_marks {n : Nat} {tmps : Array Value} {R : Ending → World → Prop} {D : Nat} {I : World → Prop} (hI : ∀ A B, I A → BelowR D A B → I B) (hR : ∀ A v, I A → R (.returned v) A) :
    ∀ (ms : List Nat) (w : World), I w → ms.Nodup → (∀ m ∈ ms, D ≤ m ∧ w.heap[m]? = some (.deferred (some []))) → LeavesInM Fence.wide n Try.prog Try.f37 tmps R (ms.map mark) .returning w
  | [], w, hw, _, _ => ⟨_, results_none rfl _ _ _, hR _ _ hw⟩
  | m :: ms, w, hw, hn, hm => by
    have h1 := hm m List.mem_cons_self
    refine ⟨by simp, .inl ⟨_, _, rfl, run_takeDeferred h1.2, ?_⟩⟩
    refine ret_marks hI hR ms _ (hI _ _ hw (belowR_putObj _ h1.1 h1.2 def_row)) (List.nodup_cons.1 hn).2 fun m' hm' => ?_
    have h2 := hm m' (List.mem_cons_of_mem _ hm')
    refine ⟨h2.1, (World.putObj_heap_other ?_).trans h2.2⟩
    rintro rfl
    exact (List.nodup_cons.1 hn).1 hm'
end Go.Proofs.Ytnagknlfboadkaa.Oct

/- Layer 7 (tree): the range over a kid's iterator within the closure of 'from'. -/
namespace Go.Proofs.Ytnagknlfboadkaa.Oct
open Go.RowKit Go.Shelf
attribute [local go_sem] Oper.semAt_some

def FromC (d : Nat) : Prop := ∀ (dp l1 Bn Bk nd : Nat) (t : T d) (key : ByteArray) (A0 : World), Lies A0 d t nd → Good d t → ∀ (m₀ : Nat) (J : Nat → World → Prop) (Jx : World → Prop),
    (∀ s A B, J s A → BelowR m₀ A B → J s B) → (∀ A B, Jx A → BelowR m₀ A B → Jx B) →
    (∀ A, Jx A → A.cell? ⟨Bn, 0, none⟩ = some (.pointer (some ⟨nd, 0, none⟩)) ∧ Kept A0 A) →
    (∀ s A, J s A → A.cell? ⟨Bn, 0, none⟩ = some (.pointer (some ⟨nd, 0, none⟩)) ∧ A.cell? ⟨Bk, 0, none⟩ = some (.string key) ∧ Kept A0 A ∧ m₀ ≤ A.heap.size) →
    (∀ s x A, J s A → (ge key (tl d t))[s]? = some x → YieldAt Fence.wide 0 Try.prog l1 (encQ x) A fun e B => Held m₀ A B ∧ ((e = .returned (.bool true) ∧ J (s + 1) B) ∨ (e = .returned (.bool false) ∧ Jx B))) →
    ∀ (W : World), W.heap.size = m₀ → J 0 W →
    CallsIn Fence.wide dp Try.prog 37 #[.func (.yield l1) #[] #[], .pointer (some ⟨Bn, 0, none⟩), .pointer (some ⟨Bk, 0, none⟩)] W fun e B => (∃ v, e = .returned v) ∧ (J (ge key (tl d t)).length B ∨ Jx B)

def Marked (ms : List Nat) (A : World) : Prop := ∀ m ∈ ms, A.heap[m]? = some (.deferred (some []))
theorem Marked.held {ms : List Nat} {A B : World} {m₀ : Nat} (h : Marked ms A) (hH : Held m₀ A B) (hm : ∀ m ∈ ms, m₀ ≤ m) : Marked ms B := fun m hmm => hH.obj (h m hmm) def_row (hm m hmm)
theorem Marked.below {ms : List Nat} {A B : World} {D : Nat} (h : Marked ms A) (hb : Below D A B) (hm : ∀ m ∈ ms, m < D) : Marked ms B := fun m hmm => (hb.block _ (hm m hmm)).trans (h m hmm)
/-- between two rounds of the range over a kid's iterator -/
structure KInv (J : Nat → World → Prop) (o m₀ l1 b0 kb : Nat) (key : ByteArray) (ms : List Nat) (s : Nat) (A : World) : Prop where
  j : J (o + s) A
  y : A.heap[m₀]? = some (.cells #[.func (.yield l1) #[] #[]] 42)
  n : A.heap[b0]? = some (.cells #[.pointer (some ⟨kb, 0, none⟩)] 46)
  k : A.heap[b0 + 1]? = some (.cells #[.string key] 9)
  mr : Marked ms A
structure KOut (Jx : World → Prop) (b0 kb : Nat) (ms : List Nat) (c : Code) (A : World) : Prop where
  ret : c = .ret
  j : Jx A
  n : A.heap[b0]? = some (.cells #[.pointer (some ⟨kb, 0, none⟩)] 46)
  mr : Marked ms A

set_option maxRecDepth 100000 in
set_option maxHeartbeats 2000000 in
theorem kid_range {Q : Exit → Act → World → Prop} {y0 y1 y2 y4 y5 y6 y7 y8 y9 y10 y11 y12 y13 y14 y15 y16 y17 y18 y19 y20 y21 y22 y23 y24 y25 y26 y27 y28 y29 y30 y31 y32 y33 y34 y35 y36 y37 y39 y40 y41 y42 y43 y44 y45 y46 y47 y48 y49 y50 y51 y52 y53 y54 y55 y56 y57 y58 y59 y60 y61 y62 y63 y64 y65 y66 y67 y68 y69 y70 y71 y72 y73 : Value} {ds : List Deferred} {w1 : World} {dp l1 m₀ b0 kb d o : Nat} (t : T d) (key : ByteArray) (A0 : World) (hl0 : Lies A0 d t kb) (hg : Good d t) (IH : FromC d) (J : Nat → World → Prop) (Jx : World → Prop) (ms : List Nat)
    (hJb : ∀ s A B, J s A → BelowR m₀ A B → J s B) (hJxb : ∀ A B, Jx A → BelowR m₀ A B → Jx B) (hL : ∀ s A, J s A → Kept A0 A) (hLx : ∀ A, Jx A → Kept A0 A)
    (hY : ∀ s x A, J (o + s) A → (ge key (tl d t))[s]? = some x → YieldAt Fence.wide 0 Try.prog l1 (encQ x) A fun e B => Held m₀ A B ∧ ((e = .returned (.bool true) ∧ J (o + s + 1) B) ∨ (e = .returned (.bool false) ∧ Jx B)))
    (hb0 : m₀ < b0) (hsz : w1.heap.size = b0 + 2) (hm : ∀ m ∈ ms, m₀ ≤ m ∧ m < b0) (h0 : KInv J o m₀ l1 b0 kb key ms 0 w1)
    (hdone : ∀ A, J (o + (ge key (tl d t)).length) A → A.heap[m₀]? = some (.cells #[.func (.yield l1) #[] #[]] 42) → Marked (w1.heap.size :: ms) A → Q .normal { tmps := #[y0, y1, y2, .pointer (some ⟨m₀, 0, none⟩), y4, y5, y6, y7, y8, y9, y10, y11, y12, y13, y14, y15, y16, y17, y18, y19, y20, y21, y22, y23, y24, y25, y26, y27, y28, y29, y30, y31, y32, y33, y34, y35, y36, y37, .func (.func 37) #[] #[.pointer (some ⟨b0, 0, none⟩), .pointer (some ⟨b0 + 1, 0, none⟩)], y39, y40, y41, y42, y43, y44, y45, y46, y47, y48, y49, y50, y51, y52, y53, y54, y55, y56, y57, y58, y59, y60, y61, y62, y63, y64, y65, y66, y67, y68, y69, y70, y71, y72, y73], defers := mark w1.heap.size :: ds } A)
    (hstop : ∀ A, Jx A → Marked (w1.heap.size :: ms) A → Q .ret { tmps := #[y0, y1, y2, .pointer (some ⟨m₀, 0, none⟩), y4, y5, y6, y7, y8, y9, y10, y11, y12, y13, y14, y15, y16, y17, y18, y19, y20, y21, y22, y23, y24, y25, y26, y27, y28, y29, y30, y31, y32, y33, y34, y35, y36, y37, .func (.func 37) #[] #[.pointer (some ⟨b0, 0, none⟩), .pointer (some ⟨b0 + 1, 0, none⟩)], y39, y40, y41, y42, y43, y44, y45, y46, y47, y48, y49, y50, y51, y52, y53, y54, y55, y56, y57, y58, y59, y60, y61, y62, y63, y64, y65, y66, y67, y68, y69, y70, y71, y72, y73], defers := mark w1.heap.size :: ds } A) :
    (Code.rangeFunc (Operand.tmp 38) #[39, 40] (Code.seq (Code.region 8 #[{ dst := some 7, op := Op.assign (Operand.tmp 39), type := 9, pos := "node.go:72", after := #[], guard := none }] false) (Code.region 9 #[{ dst := some 8, op := Op.assign (Operand.tmp 40), type := 9, pos := "node.go:72", after := #[], guard := none }] false)) (Code.block 3 (Code.seq (Code.region 10 #[{ dst := some 41, op := Op.load 42 (Operand.tmp 3), type := 42, pos := "node.go:73", after := #[], guard := none }, { dst := some 42, op := Op.move (Operand.tmp 7), type := 9, pos := "node.go:73", after := #[], guard := none }, { dst := some 43, op := Op.move (Operand.tmp 8), type := 9, pos := "node.go:73", after := #[], guard := none }, { dst := some 44, op := Op.call { callee := Callee.value (Operand.tmp 41), args := #[Operand.tmp 42, Operand.tmp 43], argTypes := #[9, 9] }, type := 4, pos := "node.go:73", after := #[{ on := 0, ground := Ground.data }, { on := 1, ground := Ground.data }, { on := 2, ground := Ground.data }], guard := none }, { dst := some 45, op := Op.unOp UnOp.not 4 (Operand.tmp 44), type := 4, pos := "node.go:73", after := #[{ on := 3, ground := Ground.data }], guard := none }] false) (Code.cond (Operand.tmp 45) Code.ret Code.skip)))).wpIn Fence.wide dp Try.prog Q { tmps := #[y0, y1, y2, .pointer (some ⟨m₀, 0, none⟩), y4, y5, y6, y7, y8, y9, y10, y11, y12, y13, y14, y15, y16, y17, y18, y19, y20, y21, y22, y23, y24, y25, y26, y27, y28, y29, y30, y31, y32, y33, y34, y35, y36, y37, .func (.func 37) #[] #[.pointer (some ⟨b0, 0, none⟩), .pointer (some ⟨b0 + 1, 0, none⟩)], y39, y40, y41, y42, y43, y44, y45, y46, y47, y48, y49, y50, y51, y52, y53, y54, y55, y56, y57, y58, y59, y60, y61, y62, y63, y64, y65, y66, y67, y68, y69, y70, y71, y72, y73], defers := ds } w1 := by
  refine rangeLeave (gf := 37) (lb := #[.pointer (some ⟨b0, 0, none⟩), .pointer (some ⟨b0 + 1, 0, none⟩)]) rfl (enters_of Try.func37 (by kernel_rfl) rfl) (fun _ x => encQ x) (fun _ _ => rfl) (ge key (tl d t))
    (KInv J o m₀ l1 b0 kb key ms) (KOut Jx b0 kb ms) ?hI ?hIx h0
    (fun _ x => { tmps := #[y0, y1, y2, .pointer (some ⟨m₀, 0, none⟩), y4, y5, y6, .string x.1, .string x.2, y9, y10, y11, y12, y13, y14, y15, y16, y17, y18, y19, y20, y21, y22, y23, y24, y25, y26, y27, y28, y29, y30, y31, y32, y33, y34, y35, y36, y37, .func (.func 37) #[] #[.pointer (some ⟨b0, 0, none⟩), .pointer (some ⟨b0 + 1, 0, none⟩)], .string x.1, .string x.2, y41, y42, y43, y44, y45, y46, y47, y48, y49, y50, y51, y52, y53, y54, y55, y56, y57, y58, y59, y60, y61, y62, y63, y64, y65, y66, y67, y68, y69, y70, y71, y72, y73], defers := [] }) ?assign ?body ?iter ?done ?stop
  case hI =>
    rintro s A B h hb
    rw [hsz] at hb
    exact ⟨hJb _ A B h.j (hb.mono (by omega)), (hb.below.block _ (by omega)).trans h.y, (hb.below.block _ (by omega)).trans h.n, (hb.below.block _ (by omega)).trans h.k, h.mr.below hb.below fun m hmm => by have := hm m hmm; omega⟩
  case hIx =>
    rintro c A B h hb
    rw [hsz] at hb
    exact ⟨h.ret, hJxb A B h.j (hb.mono (by omega)), (hb.below.block _ (by omega)).trans h.n, h.mr.below hb.below fun m hmm => by have := hm m hmm; omega⟩
  case assign =>
    intro s x A K hK
    dsimp only [encQ]
    gi_wp2
    exact hK
  case body =>
    rintro s x A h hx hlt
    have HI : Hid (KInv J o m₀ l1 b0 kb key ms s A) := h
    have cy := cell_one h.y
    obtain ⟨fn, tmps, asg, bdy, hy, hR⟩ : YieldAt Fence.wide (dp - 1 - 1 - 1) Try.prog l1 #[.string x.1, .string x.2] A fun e B => Held m₀ A B ∧ ((e = .returned (.bool true) ∧ J (o + s + 1) B) ∨ (e = .returned (.bool false) ∧ Jx B)) := YieldAt.deep _ (hY s x A h.j hx)
    have HX : Hid (∀ B, Held m₀ A B → B.heap[m₀]? = some (.cells #[.func (.yield l1) #[] #[]] 42) ∧ B.heap[b0]? = some (.cells #[.pointer (some ⟨kb, 0, none⟩)] 46) ∧ B.heap[b0 + 1]? = some (.cells #[.string key] 9) ∧ Marked ms B ∧ Held w1.heap.size A B) := fun B hB =>
      ⟨hB.box HI.out.y (by decide) (Nat.le_refl _), hB.box HI.out.n (by decide) (by omega), hB.box HI.out.k (by decide) (by omega), HI.out.mr.held hB (fun m hmm => (hm m hmm).1), hB.mono (by omega)⟩
    clear hx hlt h
    gi_wp2
    refine ⟨(fun h => by cases h), hR.mono ?_⟩
    rintro e B ⟨hH, ⟨rfl, hJ3⟩ | ⟨rfl, hJ3⟩⟩
    · have HJ3 : Hid (J (o + s + 1) B ∧ Held m₀ A B) := ⟨hJ3, hH⟩
      clear hy hR hJ3 hH cy
      gi_wp2
      have hx := HX.out B HJ3.out.2
      exact ⟨⟨HJ3.out.1, hx.1, hx.2.1, hx.2.2.1, hx.2.2.2.1⟩, hx.2.2.2.2⟩
    · have HJ3 : Hid (Jx B ∧ Held m₀ A B) := ⟨hJ3, hH⟩
      clear hy hR hJ3 hH cy
      gi_wp2
      have hx := HX.out B HJ3.out.2
      exact ⟨⟨rfl, HJ3.out.1, hx.2.1, hx.2.2.2.1⟩, hx.2.2.2.2⟩
  case iter =>
    intro J' Jx' A hS hB hJ'b hJx'b hJ'I hJ'X hY' h0'
    refine IH _ _ _ _ kb t key A0 hl0 hg (w1.heap.size + 2) J' Jx' hJ'b hJx'b ?_ ?_ (fun s x A hj hx => YieldAt.deep 0 (hY' s x A hj hx)) A hS h0'
    · intro A hA
      obtain ⟨⟨c, hc⟩, _⟩ := hJ'X A hA
      exact ⟨cell_one hc.n, hLx _ hc.j⟩
    · intro s A hA
      obtain ⟨hI, hsz⟩ := hJ'I s A hA
      exact ⟨cell_one hI.n, cell_one hI.k, hL _ _ hI.j, hsz⟩
  case done =>
    rintro A h hK
    exact hdone A h.j h.y fun m hmm => by
      rcases List.mem_cons.1 hmm with rfl | hmm
      · exact hK
      · exact h.mr m hmm
  case stop =>
    rintro c A h hK
    obtain rfl := h.ret
    clear hsz
    gi_wp2
    exact hstop A h.j fun m hmm => by
      rcases List.mem_cons.1 hmm with rfl | hmm
      · exact hK
      · exact h.mr m hmm
end Go.Proofs.Ytnagknlfboadkaa.Oct

/- Layer 7 (tree): the closure of 'from', over a tree of any depth. -/
namespace Go.Proofs.Ytnagknlfboadkaa.Oct
open Go.RowKit Go.Shelf
attribute [local go_sem] Oper.semAt_some

/-- the closure's act between two rounds -/
inductive ActOf (Bn Bk m₀ i : Nat) (ds : List Deferred) : Act → Prop
  | mk (y0 y4 y5 y7 y8 y9 y10 y11 y12 y13 y14 y15 y16 y17 y18 y19 y20 y21 y22 y23 y24 y25 y26 y27 y28 y29 y30 y31 y32 y33 y34 y35 y36 y37 y38 y39 y40 y41 y42 y43 y44 y45 y46 y47 y48 y49 y50 y51 y52 y53 y54 y55 y56 y57 y58 y59 y60 y61 y62 y63 y64 y65 y66 y67 y68 y69 y70 y71 y72 y73 : Value) : ActOf Bn Bk m₀ i ds { tmps := #[y0, .pointer (some ⟨Bn, 0, none⟩), .pointer (some ⟨Bk, 0, none⟩), .pointer (some ⟨m₀, 0, none⟩), y4, y5, .int .i64 (i : Int), y7, y8, y9, y10, y11, y12, y13, y14, y15, y16, y17, y18, y19, y20, y21, y22, y23, y24, y25, y26, y27, y28, y29, y30, y31, y32, y33, y34, y35, y36, y37, y38, y39, y40, y41, y42, y43, y44, y45, y46, y47, y48, y49, y50, y51, y52, y53, y54, y55, y56, y57, y58, y59, y60, y61, y62, y63, y64, y65, y66, y67, y68, y69, y70, y71, y72, y73], defers := ds }
theorem rounds_of {F : Fence} {n : Nat} {P : Program} {c : Code} {Q : Exit → Act → World → Prop} {Inv : Act → World → Nat → Prop} (h0 : ∀ a w, ¬ Inv a w 0)
    (h : ∀ m a w, (∀ a' w', Inv a' w' m → Code.roundsIn F n P c Q m a' w') → Inv a w (m + 1) → Code.roundsIn F n P c Q (m + 1) a w) (m : Nat) {a : Act} {w : World} (hi : Inv a w m) : (Code.loop c).wpIn F n P Q a w := by
  refine wpIn_loop_rounds m ?_
  have key : ∀ m a w, Inv a w m → Code.roundsIn F n P c Q m a w := by
    intro m
    induction m with
    | zero => intro a w hi; exact (h0 a w hi).elim
    | succ m ih => intro a w hi; exact h m a w ih hi
  exact key m a w hi
/-- between two rounds of the loop over a node's kids -/
structure NInv (J : Nat → World → Prop) (pl : Nat → Nat) (k n m₀ l1 i : Nat) (ms : List Nat) (A : World) : Prop where
  lo : k ≤ i
  le : i ≤ n + 1
  j : J (pl i) A
  y : A.heap[m₀]? = some (.cells #[.func (.yield l1) #[] #[]] 42)
  nd : ms.Nodup
  mr : Marked ms A
  mlo : ∀ m ∈ ms, m₀ ≤ m
  sz : m₀ < A.heap.size
theorem NInv.full {J : Nat → World → Prop} {pl : Nat → Nat} {k n m₀ l1 i : Nat} {ms : List Nat} {A B : World} (h : NInv J pl k n m₀ l1 i ms A) (hJb : ∀ s A B, J s A → BelowR m₀ A B → J s B) (hb : Below A.heap.size A B) : NInv J pl k n m₀ l1 i ms B :=
  ⟨h.lo, h.le, hJb _ _ _ h.j (BelowR.full hb (Nat.le_of_lt h.sz)), (hb.block _ h.sz).trans h.y, h.nd, fun m hm => (hb.block _ (Array.getElem?_eq_some_iff.1 (h.mr m hm)).1).trans (h.mr m hm), h.mlo, Nat.lt_of_lt_of_le h.sz hb.size⟩

set_option maxRecDepth 100000 in
set_option maxHeartbeats 2000000 in
theorem from_node (d : Nat) (IH : FromC d) : FromC (d + 1) := by
  intro dp l1 Bn Bk nd t key A0 hl0 hg m₀ J Jx hJb hJxb hJx hJ hY W hW h0
  obtain ⟨a, n, cap, a', n', cap', bs, g1, g2, g3, g4, g5, g6⟩ := hl0
  refine callsIn_of_wp_marks Try.func37 rfl trivial ?_ rfl
  simp only [Try.ntmps37, List.size_toArray, List.length_cons, List.length_nil, Nat.reduceAdd, Nat.reduceSub, Array.replicate_succ, Array.replicate_zero, List.push_toArray, List.append_toArray, List.nil_append, List.cons_append]
  have hJ0 := hJb 0 W (W.alloc (.cells #[.func (.yield l1) #[] #[]] 42)) h0 (BelowR.full ((Below.refl _ W).alloc (Nat.le_refl _) _) (by omega))
  have hris : Ris t.1 := ris_own hg.ris hg.wf.1
  obtain ⟨cn, ck, hnd, _⟩ := hJ 0 _ hJ0
  obtain ⟨k, ha⟩ := find_at t.1 key (ris_mono hris key)
  have HD : Hid (Nd (W.alloc (.cells #[.func (.yield l1) #[] #[]] 42)) nd a n cap t.1 (.slice a' n' cap')) := g1.fix hnd
  have HN : Hid (AtP t.1 key k ∧ Mono t.1 key ∧ n ≤ 7 ∧ t.1.length = n) := ⟨ha, ris_mono hris key, by rw [← g1.rd.1]; exact hg.most, g1.rd.1⟩
  have HG1 : Hid (Nd A0 nd a n cap t.1 (.slice a' n' cap')) := g1
  have HG3 : Hid (RdK A0 a' n' bs) := g3
  have HG6 : Hid (∀ (i : Nat) (k : T d) (b' : Nat), t.2[i]? = some k → bs[i]? = some b' → Lies A0 d k b') := g6
  clear g1 g2 g3 g4 g6 ha hnd
  gi_wp2_with (refine ⟨trivial, (fun h => by cases h), ?_⟩; gi_at_call 38; refine (callsIn_wide.2 (place_is _ nd a n cap t.1 _ key HD.out HN.out.2.1 (by have := HN.out; omega))).mono ?_; rintro e w1 ⟨k1, rfl, HA1, HB1⟩)
  have hk1 : k1 = k := HA1.out.uniq HN.out.1
  subst hk1
  have hJ1 : J 0 w1 := hJb 0 _ _ hJ0 (BelowR.full HB1.out (by simp; omega))
  have hy1 : w1.heap[m₀]? = some (.cells #[.func (.yield l1) #[] #[]] 42) := by
    rw [HB1.out.block m₀ (by simp; omega), ← hW]
    exact World.alloc_heap_new W _
  have hsz1 : m₀ < w1.heap.size := (Array.getElem?_eq_some_iff.1 hy1).1
  have hll : (t.2.map (tl d)).length = t.1.length + 1 := by rw [List.length_map]; exact hg.wf.1
  have hkn : k1 ≤ n := by rw [← HN.out.2.2.2]; exact HN.out.1.1
  obtain ⟨pl, hpl⟩ : ∃ pl : Nat → Nat, pl = fun i => if i ≤ n then Offs key (t.2.map (tl d)) t.1 i else (ge key (tl (d + 1) t)).length := ⟨_, rfl⟩
  have hplA : ∀ i, i ≤ n → pl i = Offs key (t.2.map (tl d)) t.1 i := fun i hi => by rw [hpl]; exact if_pos hi
  have hplB : ∀ i, ¬ i ≤ n → pl i = (ge key (tl (d + 1) t)).length := fun i hi => by rw [hpl]; exact if_neg hi
  clear hpl
  have hp0 : pl k1 = 0 := by rw [hplA _ hkn]; exact offs_first hll hg.ris HN.out.1
  refine rounds_of (Inv := fun a' A m => ∃ (i : Nat) (ms : List Nat), ActOf Bn Bk m₀ i (ms.map mark) a' ∧ NInv J pl k1 n m₀ l1 i ms A ∧ n + 2 ≤ m + i) ?_ ?_ (n + 3) ⟨k1, [], ActOf.mk .., ⟨Nat.le_refl _, by omega, by rw [hp0]; exact hJ1, hy1, List.nodup_nil, (fun m hm => by cases hm), (fun m hm => by cases hm), hsz1⟩, by omega⟩
  · rintro a' A ⟨i, ms, _, h2, h3⟩
    have := h2.le; omega
  clear hJ1 hy1 hsz1 hJ0 h0 cn ck HD HB1 HA1 hp0
  rintro m act A ih ⟨i, ms, hact, hI, hm⟩
  cases hact
  have HI : Hid (NInv J pl k1 n m₀ l1 i ms A) := hI
  have HM : Hid (n + 2 ≤ m + 1 + i) := hm
  rw [roundsIn_succ]
  generalize Code.roundsIn Fence.wide dp Try.prog _ _ m = KK at ih ⊢
  have HIH : Hid (∀ a' w', (∃ (i : Nat) (ms : List Nat), ActOf Bn Bk m₀ i (ms.map mark) a' ∧ NInv J pl k1 n m₀ l1 i ms w' ∧ n + 2 ≤ m + i) → KK a' w') := ih
  clear ih
  obtain ⟨cn, ck, hkept, _⟩ := hJ _ _ hI.j
  have c0 := (HG1.out.fix hkept).blk.cell (i := 0) rfl
  have c1 := (HG1.out.fix hkept).blk.cell (i := 1) rfl
  have b1 : (i : Int) ≤ 1000001 := by have := HI.out.le; have := HN.out; omega
  clear hI hm
  by_cases hi : i ≤ n
  · have h3 := HG3.out.fix hkept
    have hn'b : bs.length = n' := h3.1
    have hti : i < t.2.length := by rw [hg.wf.1, HN.out.2.2.2]; omega
    have hbi : i < bs.length := by rw [g5]; exact hti
    obtain ⟨kid, hkid⟩ : ∃ kid, t.2[i]? = some kid := ⟨_, List.getElem?_eq_getElem hti⟩
    obtain ⟨kb, hkb⟩ : ∃ kb, bs[i]? = some kb := ⟨_, List.getElem?_eq_getElem hbi⟩
    have HK : Hid (Lies A0 d kid kb ∧ Good d kid ∧ t.2[i]? = some kid ∧ i ≤ n) := ⟨HG6.out i kid kb hkid hkb, (hg.kid hkid).1, hkid, hi⟩
    obtain ⟨g, off, rfl, _, hc⟩ := h3.2 (by omega)
    have ckb := hc i kb hkb
    have q1 : (i : Int) ≤ (n : Int) := by omega
    have q2 : (i : Int) < (n' : Int) := by omega
    have HZ : Hid (((n' : Int) == 0) = false) := by show _ = _; simp; omega
    clear h3 hc hn'b hbi hkid hkb hti
    gi_wp2_with (refine ⟨trivial, (fun h => by cases h), ?_⟩; gi_at_call 39; refine (callsIn_wide.2 (isLeaf_any A nd _ n' cap' false HZ.out c1)).mono ?_; rintro e w2 ⟨rfl, rfl⟩)
    refine reg7 ⟨cn, ck, c1, ckb⟩ q2 (callsIn_wide.2 (from_is A.drew (some ⟨kb, 0, none⟩) key)) ?_ ?_
    · rintro e B ⟨rfl, HB⟩
      have hB : Below A.heap.size A B := by rw [HB.out]; exact (((Below.refl _ A).drew).alloc (Nat.le_refl _) _).alloc (by simp) _
      have hgr := below_grown hB none
      exact ⟨_, rfl, hgr.cell cn (by simp), hgr.cell ck (by simp), hgr.cell c1 (by simp), hgr.cell ckb (by simp)⟩
    · rintro v B ⟨hv, HB⟩
      cases hv
      have HBB : Hid (Below A.heap.size A B) := by show Below _ _ _; rw [HB.out]; exact (((Below.refl _ A).drew).alloc (Nat.le_refl _) _).alloc (by simp) _
      have HSZ : Hid (B.heap.size = A.heap.size + 2) := by show _ = _; rw [HB.out]; simp
      have HNI : Hid (NInv J pl k1 n m₀ l1 i ms B) := HI.out.full hJb HBB.out
      have hbn : B.heap[A.heap.size]? = some (.cells #[.pointer (some ⟨kb, 0, none⟩)] 46) := by
        rw [HB.out, Below.heap_alloc _ _ _ (by simp)]; exact World.alloc_heap_new A.drew _
      have hbk : B.heap[A.heap.size + 1]? = some (.cells #[.string key] 9) := by
        have e := World.alloc_heap_new (A.drew.alloc (.cells #[.pointer (some ⟨kb, 0, none⟩)] 46)) (.cells #[.string key] 9)
        rw [World.size_alloc] at e
        rw [HB.out]; exact e
      have HMS : Hid (∀ m ∈ ms, m₀ ≤ m ∧ m < A.heap.size) := fun m hm => ⟨HI.out.mlo m hm, (Array.getElem?_eq_some_iff.1 (HI.out.mr m hm)).1⟩
      have HND : Hid ((B.heap.size :: ms).Nodup ∧ ∀ m ∈ B.heap.size :: ms, m₀ ≤ m) := ⟨List.nodup_cons.2 ⟨fun hm => by have := HMS.out _ hm; have := HSZ.out; omega, HI.out.nd⟩, fun m hm => by
        rcases List.mem_cons.1 hm with rfl | hm
        · have := HSZ.out; have := HI.out.sz; omega
        · exact HI.out.mlo m hm⟩
      have HOUT : Hid (∀ (tm : Array Value) (Z : World), (J (ge key (tl (d + 1) t)).length Z ∨ Jx Z) → Marked (B.heap.size :: ms) Z → LeavesInM Fence.wide dp Try.prog Try.f37 tm (fun e B => (∃ v, e = .returned v) ∧ (J (ge key (tl (d + 1) t)).length B ∨ Jx B)) (mark B.heap.size :: ms.map mark) .returning Z) := fun tm Z hZ hM =>
        ret_marks (D := m₀) (I := fun A => J (ge key (tl (d + 1) t)).length A ∨ Jx A) (fun A B h hb => h.imp (fun j => hJb _ A B j hb) (fun j => hJxb A B j hb)) (fun A v h => ⟨⟨v, rfl⟩, h⟩) (B.heap.size :: ms) Z hZ HND.out.1 (fun m hm => ⟨HND.out.2 m hm, hM m hm⟩)
      clear HB HBB cn ck c0 c1 ckb hkept
      gi_wp2
      refine kid_range kid key A0 HK.out.1 HK.out.2.1 IH J Jx ms (o := pl i) (b0 := A.heap.size) hJb hJxb (fun s A h => (hJ s A h).2.2.1) (fun A h => (hJx A h).2) ?_ HI.out.sz HSZ.out HMS.out ⟨HNI.out.j, HNI.out.y, hbn, hbk, HNI.out.mr⟩ ?_ ?_
      · intro s x Z hj hx
        rw [hplA i HK.out.2.2.2] at hj ⊢
        exact hY _ x Z hj (ge_kid hll (kid_map HK.out.2.2.1) hx)
      · intro Z hj hy hM
        obtain ⟨cn, ck, hkz, hz⟩ := hJ _ _ hj
        have c0 := (HG1.out.fix hkz).blk.cell (i := 0) rfl
        have cy := cell_one hy
        have HJZ : Hid (J (pl i + (ge key (tl d kid)).length) Z) := hj
        have HYZ : Hid (Z.heap[m₀]? = some (.cells #[.func (.yield l1) #[] #[]] 42)) := hy
        have HMZ : Hid (Marked (B.heap.size :: ms) Z.drew) := hM
        have HZS : Hid (m₀ ≤ Z.heap.size) := hz
        clear hbn hbk hj hy hM hz q2
        dsimp only
        gi_wp2
        by_cases hin : i < n
        · obtain ⟨x, hx⟩ : ∃ x, t.1[i]? = some x := ⟨_, List.getElem?_eq_getElem (by rw [HN.out.2.2.2]; exact hin)⟩
          have hgx : geS x.1 key = true := HN.out.1.2.2 i x HI.out.lo hx
          obtain ⟨g2, off2, rfl, _, hc⟩ := (HG1.out.fix hkz).rd.2 (by omega)
          have e0 := (hc i x hx).1
          have e1 := (hc i x hx).2
          have q3 : (i : Int) < (n : Int) := by omega
          have HJD : Hid (J (pl i + (ge key (tl d kid)).length) Z.drew) := hJb _ _ _ HJZ.out (BelowR.full (Below.refl _ Z).drew HZS.out)
          have HPN : Hid (pl (i + 1) = pl i + (ge key (tl d kid)).length + 1) := by
            show _ = _
            rw [hplA _ (by omega), hplA _ (by omega)]; exact offs_next hll (kid_map HK.out.2.2.1) hx hgx
          have HYA : Hid (YieldAt Fence.wide (dp - 1) Try.prog l1 #[.string x.1, .string x.2] Z.drew fun e B => Held m₀ Z.drew B ∧ ((e = .returned (.bool true) ∧ J (pl i + (ge key (tl d kid)).length + 1) B) ∨ (e = .returned (.bool false) ∧ Jx B))) := YieldAt.deep (dp - 1) (hY _ x Z.drew HJD.out (by rw [hplA _ (by omega)]; exact ge_pair hll (kid_map HK.out.2.2.1) hx hgx))
          have HX : Hid (t.1[i]? = some x ∧ i < n) := ⟨hx, hin⟩
          clear hc hx hgx hin
          refine reg11 cy cn c0 e0 e1 q3 HYA.out ?_ ?_
          · rintro e Y ⟨hH, hD⟩
            have hyB : Y.cell? ⟨m₀, 0, none⟩ = some (.func (.yield l1) #[] #[]) := cell_one (hH.box HYZ.out (by decide) (Nat.le_refl _))
            have fin : ∀ (v : Bool), e = .returned (.bool v) → Y.cell? ⟨Bn, 0, none⟩ = some (.pointer (some ⟨nd, 0, none⟩)) → Kept A0 Y → ∃ v : Bool, e = .returned (.bool v) ∧ Y.cell? ⟨m₀, 0, none⟩ = some (.func (.yield l1) #[] #[]) ∧ Y.cell? ⟨Bn, 0, none⟩ = some (.pointer (some ⟨nd, 0, none⟩)) ∧ Y.cell? ⟨nd, 0, none⟩ = some (.slice (some ⟨g2, off2, none⟩) n cap) ∧ Y.cell? ⟨g2, off2 + i * 2, none⟩ = some (.string x.1) ∧ Y.cell? ⟨g2, off2 + i * 2 + 1, none⟩ = some (.string x.2) := by
              intro v h1 h2 h3
              have h4 := HG1.out.fix h3
              obtain ⟨g', off', e', _, hc⟩ := h4.rd.2 (by have := HX.out; omega)
              cases e'
              exact ⟨v, h1, hyB, h2, h4.blk.cell (i := 0) rfl, (hc i x HX.out.1).1, (hc i x HX.out.1).2⟩
            rcases hD with ⟨h1, h2⟩ | ⟨h1, h2⟩
            · obtain ⟨r1, _, r3, _⟩ := hJ _ _ h2
              exact fin true h1 r1 r3
            · obtain ⟨r1, r3⟩ := hJx _ h2
              exact fin false h1 r1 r3
          · rintro v Y ⟨hH, hD⟩
            have HYB : Hid (Y.heap[m₀]? = some (.cells #[.func (.yield l1) #[] #[]] 42)) := hH.box HYZ.out (by decide) (Nat.le_refl _)
            have HMY : Hid (Marked (B.heap.size :: ms) Y) := HMZ.out.held hH HND.out.2
            clear hH cn ck c0 cy e0 e1
            cases v with
            | true =>
              have HJ3 : Hid (J (pl i + (ge key (tl d kid)).length + 1) Y) := by
                rcases hD with ⟨h1, h2⟩ | ⟨h1, h2⟩
                · exact h2
                · cases h1
              clear hD
              dsimp only
              gi_wp2
              rw [show (i : Int) + 1 = ((i + 1 : Nat) : Int) by omega]
              exact HIH.out _ _ ⟨i + 1, B.heap.size :: ms, ActOf.mk .., ⟨by have := HI.out.lo; omega, by have := HX.out; omega, by rw [HPN.out]; exact HJ3.out, HYB.out, HND.out.1, HMY.out, HND.out.2, (Array.getElem?_eq_some_iff.1 HYB.out).1⟩, by have := HM.out; omega⟩
            | false =>
              have HJ3 : Hid (Jx Y) := by
                rcases hD with ⟨h1, h2⟩ | ⟨h1, h2⟩
                · cases h1
                · exact h2
              clear hD
              dsimp only
              gi_wp2
              exact HOUT.out _ Y (.inr HJ3.out) HMY.out
        · have hie : i = n := by have := HK.out.2.2.2; omega
          have HPE : Hid (pl (i + 1) = pl i + (ge key (tl d kid)).length) := by
            show _ = _
            rw [hplB _ (by omega), hplA _ (by omega)]
            have e := offs_end (key := key) (l := tl d kid) hll (by rw [HN.out.2.2.2, ← hie]; exact kid_map HK.out.2.2.1)
            rw [HN.out.2.2.2, ← hie] at e
            exact e
          have HIE : Hid (i = n) := hie
          clear hie
          refine reg11n cn c0 (by omega) ?_
          dsimp only
          clear cn ck c0 cy
          gi_wp2
          rw [show (i : Int) + 1 = ((i + 1 : Nat) : Int) by omega]
          exact HIH.out _ _ ⟨i + 1, B.heap.size :: ms, ActOf.mk .., ⟨by have := HI.out.lo; omega, by have := HIE.out; omega, by rw [HPE.out]; exact hJb _ _ _ HJZ.out (BelowR.full (Below.refl _ Z).drew HZS.out), HYZ.out, HND.out.1, HMZ.out, HND.out.2, (Array.getElem?_eq_some_iff.1 HYZ.out).1⟩, by have := HM.out; omega⟩
      · intro Z hj hM
        gi_wp2
        exact HOUT.out _ Z (.inr hj) hM
  · have q1 : ¬ (i : Int) ≤ (n : Int) := by omega
    gi_wp2
    refine ret_marks (D := m₀) (I := fun A => J (ge key (tl (d + 1) t)).length A ∨ Jx A) (fun A B h hb => h.imp (fun j => hJb _ A B j hb) (fun j => hJxb A B j hb)) (fun A v h => ⟨⟨v, rfl⟩, h⟩) ms A (.inl ?_) HI.out.nd (fun m hm => ⟨HI.out.mlo m hm, HI.out.mr m hm⟩)
    have e := HI.out.j
    rw [hplB i hi] at e
    exact e
theorem from_leaf : FromC 0 := by
  intro dp l1 Bn Bk nd t key A0 hl0 hg m₀ J Jx hJb hJxb hJx hJ hY W hW h0
  obtain ⟨a, n, cap, h1, _⟩ := hl0
  have hr : Ris (t : List Pr) := hg.ris
  obtain ⟨k, ha⟩ := find_at (t : List Pr) key (ris_mono hr key)
  have e : ge key (tl 0 t) = (t : List Pr).drop k := ge_leaf ha
  rw [e] at hY ⊢
  have h7 : (t : List Pr).length ≤ 7 := hg.most
  have hn : n ≤ 1000000 := by rw [← h1.rd.1]; omega
  exact from1_in dp l1 Bn Bk nd n cap a t key k hn (ris_mono hr key) ha m₀ J Jx hJb (fun A hA => ⟨(hJx A hA).1, h1.fix (hJx A hA).2⟩) (fun s A hA => ⟨(hJ s A hA).1, (hJ s A hA).2.1, h1.fix (hJ s A hA).2.2.1, (hJ s A hA).2.2.2⟩) hY W hW h0
theorem from_all : ∀ d, FromC d
  | 0 => from_leaf
  | d + 1 => from_node d (from_all d)
end Go.Proofs.Ytnagknlfboadkaa.Oct

/- Layer 7 (tree): the closure of 'Scan', over a tree of any depth. -/
namespace Go.Proofs.Ytnagknlfboadkaa.Oct
open Go.RowKit Go.Shelf
attribute [local go_sem] Oper.semAt_some

/-- what a scan of a list tells -/
def scanT (key til : ByteArray) (L : List Pr) : List Pr := (ge key L).takeWhile (okS til)
theorem from_root (dp l1 Bn Bk : Nat) (p : Option Addr) (L : List Pr) (key : ByteArray) (A0 : World) (hroot : Root A0 p L) (m₀ : Nat) (J : Nat → World → Prop) (Jx : World → Prop)
    (hJb : ∀ s A B, J s A → BelowR m₀ A B → J s B) (hJxb : ∀ A B, Jx A → BelowR m₀ A B → Jx B)
    (hJx : ∀ A, Jx A → A.cell? ⟨Bn, 0, none⟩ = some (.pointer p) ∧ Kept A0 A)
    (hJ : ∀ s A, J s A → A.cell? ⟨Bn, 0, none⟩ = some (.pointer p) ∧ A.cell? ⟨Bk, 0, none⟩ = some (.string key) ∧ Kept A0 A ∧ m₀ ≤ A.heap.size)
    (hY : ∀ s x A, J s A → (ge key L)[s]? = some x → YieldAt Fence.wide 0 Try.prog l1 (encQ x) A fun e B => Held m₀ A B ∧ ((e = .returned (.bool true) ∧ J (s + 1) B) ∨ (e = .returned (.bool false) ∧ Jx B)))
    (W : World) (hW : W.heap.size = m₀) (h0 : J 0 W) :
    CallsIn Fence.wide dp Try.prog 37 #[.func (.yield l1) #[] #[], .pointer (some ⟨Bn, 0, none⟩), .pointer (some ⟨Bk, 0, none⟩)] W fun e B => (∃ v, e = .returned v) ∧ (J (ge key L).length B ∨ Jx B) := by
  rcases hroot with ⟨rfl, rfl⟩ | ⟨d, t, nd, rfl, h2, h3, _, rfl⟩
  · refine callsIn_of_wp Try.func37 rfl trivial ?_ rfl
    simp only [Try.ntmps37, List.size_toArray, List.length_cons, List.length_nil, Nat.reduceAdd, Nat.reduceSub, Array.replicate_succ, Array.replicate_zero, List.push_toArray, List.append_toArray, List.nil_append, List.cons_append]
    have hJ0 := hJb 0 W (W.alloc (.cells #[.func (.yield l1) #[] #[]] 42)) h0 (BelowR.full ((Below.refl _ W).alloc (Nat.le_refl _) _) (by omega))
    have HJ0 : Hid (J 0 (W.alloc (.cells #[.func (.yield l1) #[] #[]] 42))) := hJ0
    obtain ⟨cn, _, _, _⟩ := hJ 0 _ hJ0
    clear hJ0 h0
    gi_wp2
    refine bodyPost_ret (results_none rfl _ _ _) rfl ?_
    exact ⟨⟨_, rfl⟩, .inl HJ0.out⟩
  · exact from_all d dp l1 Bn Bk nd t key A0 h2 h3 m₀ J Jx hJb hJxb hJx hJ hY W hW h0
/-- between two rounds of the loop within 'Scan' -/
structure SInvT (J : Nat → World → Prop) (N m₀ l1 : Nat) (p : Option Addr) (key : ByteArray) (t : Nat) (A : World) : Prop where
  le : t ≤ N
  j : J t A
  y : A.heap[m₀]? = some (.cells #[.func (.yield l1) #[] #[]] 42)
  n : A.heap[m₀ + 1]? = some (.cells #[.pointer p] 46)
  k : A.heap[m₀ + 2]? = some (.cells #[.string key] 9)
structure SOutT (J : Nat → World → Prop) (Jx : World → Prop) (N m₀ : Nat) (p : Option Addr) (c : Code) (A : World) : Prop where
  ret : c = .ret
  j : J N A ∨ Jx A
  n : A.heap[m₀ + 1]? = some (.cells #[.pointer p] 46)

set_option maxRecDepth 100000 in
set_option maxHeartbeats 2000000 in
theorem scan2_all (d l1 Br Bf Bu : Nat) (p : Option Addr) (L : List Pr) (key til : ByteArray) (A0 : World) (hroot : Root A0 p L) (m₀ : Nat) (J : Nat → World → Prop) (Jx : World → Prop)
    (hJb : ∀ t A B, J t A → BelowR m₀ A B → J t B) (hJxb : ∀ A B, Jx A → BelowR m₀ A B → Jx B) (hJx : ∀ A, Jx A → Kept A0 A)
    (hJ : ∀ t A, J t A → A.cell? ⟨Br, 0, none⟩ = some (.pointer p) ∧ A.cell? ⟨Bf, 0, none⟩ = some (.string key) ∧ A.cell? ⟨Bu, 0, none⟩ = some (.string til) ∧ Kept A0 A ∧ m₀ ≤ A.heap.size)
    (hY : ∀ t x A, J t A → (scanT key til L)[t]? = some x → YieldAt Fence.wide 0 Try.prog l1 (encQ x) A fun e B => Held m₀ A B ∧ ((e = .returned (.bool true) ∧ J (t + 1) B) ∨ (e = .returned (.bool false) ∧ Jx B)))
    (W : World) (hW : W.heap.size = m₀) (h0 : J 0 W) :
    CallsIn Fence.wide d Try.prog 28 #[.func (.yield l1) #[] #[], .pointer (some ⟨Br, 0, none⟩), .pointer (some ⟨Bf, 0, none⟩), .pointer (some ⟨Bu, 0, none⟩)] W fun e B => (∃ v, e = .returned v) ∧ (J (scanT key til L).length B ∨ Jx B) := by
  refine callsIn_of_wp_marks Try.func28 rfl trivial ?_ rfl
  simp only [Try.ntmps28, List.size_toArray, List.length_cons, List.length_nil, Nat.reduceAdd, Nat.reduceSub, Array.replicate_succ, Array.replicate_zero, List.push_toArray, List.append_toArray, List.nil_append, List.cons_append]
  have hJ0 := hJb 0 W (W.alloc (.cells #[.func (.yield l1) #[] #[]] 42)) h0 (BelowR.full ((Below.refl _ W).alloc (Nat.le_refl _) _) (by omega))
  obtain ⟨cr, cf, cu, _, _⟩ := hJ 0 _ hJ0
  gi_wp2_with (refine ⟨trivial, (fun h => by cases h), ?_⟩; gi_at_call 29; refine (callsIn_wide.2 (from_is _ _ key)).mono ?_; rintro e w1 ⟨rfl, HW1⟩)
  have hw1 := HW1.out
  have HB : Hid (Below m₀ W w1) := by rw [hw1]; exact (((Below.refl _ W).alloc (by omega) _).alloc (by simp; omega) _).alloc (by simp; omega) _
  have HSZ : Hid (w1.heap.size = m₀ + 3) := by show _ = _; rw [hw1]; simp [hW]
  have hy1 : w1.heap[m₀]? = some (.cells #[.func (.yield l1) #[] #[]] 42) := by
    rw [hw1, Below.heap_alloc _ _ _ (by simp; omega), Below.heap_alloc _ _ _ (by simp; omega), ← hW]
    exact World.alloc_heap_new W _
  have hn1 : w1.heap[m₀ + 1]? = some (.cells #[.pointer p] 46) := by
    have e := World.alloc_heap_new (W.alloc (.cells #[.func (.yield l1) #[] #[]] 42)) (.cells #[.pointer p] 46)
    rw [World.size_alloc, hW] at e
    rw [hw1, Below.heap_alloc _ _ _ (by simp; omega)]
    exact e
  have hk1 : w1.heap[m₀ + 2]? = some (.cells #[.string key] 9) := by
    have e := World.alloc_heap_new ((W.alloc (.cells #[.func (.yield l1) #[] #[]] 42)).alloc (.cells #[.pointer p] 46)) (.cells #[.string key] 9)
    rw [World.size_alloc, World.size_alloc, hW] at e
    rw [hw1]
    exact e
  clear hw1 HW1 hJ0 cr cf cu
  refine rangeLeave (gf := 37) (lb := #[.pointer (some ⟨m₀ + 1, 0, none⟩), .pointer (some ⟨m₀ + 1 + 1, 0, none⟩)]) rfl (enters_of Try.func37 (by kernel_rfl) rfl) (fun _ x => encQ x) (fun _ _ => rfl) (ge key L)
    (SInvT J (scanT key til L).length m₀ l1 p key) (SOutT J Jx (scanT key til L).length m₀ p) ?hI ?hIx ⟨Nat.zero_le _, hJb 0 W w1 h0 (BelowR.full (by rw [hW]; exact HB.out) (by omega)), hy1, hn1, hk1⟩
    (fun _ x => { tmps := #[.func (.yield l1) #[] #[], .pointer (some ⟨Br, 0, none⟩), .pointer (some ⟨Bf, 0, none⟩), .pointer (some ⟨Bu, 0, none⟩), .pointer (some ⟨m₀, 0, none⟩), .string x.1, .string x.2, .pointer p, .string key, .func (.func 37) #[] #[.pointer (some ⟨m₀ + 1, 0, none⟩), .pointer (some ⟨m₀ + 1 + 1, 0, none⟩)], .string x.1, .string x.2, undef, undef, undef, undef, undef, undef, undef, undef, undef, undef, undef, undef, undef, undef], defers := [] }) ?assign ?body ?iter ?done ?stop
  case hI =>
    rintro t A B h hb
    rw [HSZ.out] at hb
    exact ⟨h.le, hJb t A B h.j (hb.mono (by omega)), (hb.below.block _ (by omega)).trans h.y, (hb.below.block _ (by omega)).trans h.n, (hb.below.block _ (by omega)).trans h.k⟩
  case hIx =>
    rintro c A B h hb
    rw [HSZ.out] at hb
    exact ⟨h.ret, h.j.imp (fun j => hJb _ A B j (hb.mono (by omega))) (fun j => hJxb A B j (hb.mono (by omega))), (hb.below.block _ (by omega)).trans h.n⟩
  case assign =>
    intro t x A K hK
    dsimp only [encQ]
    gi_wp2
    exact hK
  case body =>
    rintro t x A h hx hlt
    have HT := takeWhile_at (p := okS til) h.le hx
    have HTT : Hid ((okS til x = true → (scanT key til L)[t]? = some x) ∧ (okS til x = false → t = (scanT key til L).length)) := HT
    have HI : Hid (SInvT J (scanT key til L).length m₀ l1 p key t A) := h
    obtain ⟨_, _, cu, _, _⟩ := hJ _ _ h.j
    have cy := cell_one h.y
    clear HT hx hlt h
    have goes : okS til x = true → YieldAt Fence.wide (d - 1 - 1 - 1) Try.prog l1 #[.string x.1, .string x.2] A fun e B => Held m₀ A B ∧ ((e = .returned (.bool true) ∧ J (t + 1) B) ∨ (e = .returned (.bool false) ∧ Jx B)) := fun e => YieldAt.deep _ (hY t x A HI.out.j (HTT.out.1 e))
    have GO : Hid (okS til x = true → YieldAt Fence.wide (d - 1 - 1 - 1) Try.prog l1 #[.string x.1, .string x.2] A fun e B => Held m₀ A B ∧ ((e = .returned (.bool true) ∧ J (t + 1) B) ∨ (e = .returned (.bool false) ∧ Jx B))) := goes
    have HX : Hid (∀ B, Held m₀ A B → B.heap[m₀]? = some (.cells #[.func (.yield l1) #[] #[]] 42) ∧ B.heap[m₀ + 1]? = some (.cells #[.pointer p] 46) ∧ B.heap[m₀ + 2]? = some (.cells #[.string key] 9) ∧ Held w1.heap.size A B) := fun B hB =>
      ⟨hB.box HI.out.y (by decide) (Nat.le_refl _), hB.box HI.out.n (by decide) (by omega), hB.box HI.out.k (by decide) (by omega), hB.mono (by have := HSZ.out; omega)⟩
    clear goes
    cases he : til.toList.isEmpty with
    | true =>
      have f1 : (til.toList == ([] : List UInt8)) = true := by simpa using he
      have hok : okS til x = true := by simp [okS, he]
      have HLT : Hid (t + 1 ≤ (scanT key til L).length) := (List.getElem?_eq_some_iff.1 (HTT.out.1 hok)).1
      obtain ⟨fn, tmps, asg, bdy, hy, hR⟩ := GO.out hok
      clear hok
      gi_wp2
      refine ⟨(fun h => by cases h), hR.mono ?_⟩
      rintro e B ⟨hH, ⟨rfl, hJ3⟩ | ⟨rfl, hJ3⟩⟩
      · have HJ3 : Hid (J (t + 1) B ∧ Held m₀ A B) := ⟨hJ3, hH⟩
        clear hy hR hJ3 hH cu cy
        gi_wp2
        have hx := HX.out B HJ3.out.2
        exact ⟨⟨HLT.out, HJ3.out.1, hx.1, hx.2.1, hx.2.2.1⟩, hx.2.2.2⟩
      · have HJ3 : Hid (Jx B ∧ Held m₀ A B) := ⟨hJ3, hH⟩
        clear hy hR hJ3 hH cu cy
        gi_wp2
        have hx := HX.out B HJ3.out.2
        exact ⟨⟨rfl, .inr HJ3.out.1, hx.2.1⟩, hx.2.2.2⟩
    | false =>
      have f1 : (til.toList == ([] : List UInt8)) = false := by simpa using he
      cases hg : Op.bytesLess x.1.toList til.toList with
      | true =>
        have hok : okS til x = true := by simp [okS, geS, hg]
        have HLT : Hid (t + 1 ≤ (scanT key til L).length) := (List.getElem?_eq_some_iff.1 (HTT.out.1 hok)).1
        obtain ⟨fn, tmps, asg, bdy, hy, hR⟩ := GO.out hok
        clear hok
        gi_wp2
        refine ⟨(fun h => by cases h), hR.mono ?_⟩
        rintro e B ⟨hH, ⟨rfl, hJ3⟩ | ⟨rfl, hJ3⟩⟩
        · have HJ3 : Hid (J (t + 1) B ∧ Held m₀ A B) := ⟨hJ3, hH⟩
          clear hy hR hJ3 hH cu cy
          gi_wp2
          have hx := HX.out B HJ3.out.2
          exact ⟨⟨HLT.out, HJ3.out.1, hx.1, hx.2.1, hx.2.2.1⟩, hx.2.2.2⟩
        · have HJ3 : Hid (Jx B ∧ Held m₀ A B) := ⟨hJ3, hH⟩
          clear hy hR hJ3 hH cu cy
          gi_wp2
          have hx := HX.out B HJ3.out.2
          exact ⟨⟨rfl, .inr HJ3.out.1, hx.2.1⟩, hx.2.2.2⟩
      | false =>
        have hok : okS til x = false := by simp [okS, geS, hg, he]
        have HE : Hid (t = (scanT key til L).length) := HTT.out.2 hok
        clear hok
        gi_wp2
        refine ⟨(fun f h => by cases h), ?_⟩
        gi_wp2
        refine ⟨⟨rfl, .inl ?_, HI.out.n⟩, Nat.le_refl _, fun _ _ _ _ => rfl⟩
        rw [← HE.out]; exact HI.out.j
  case iter =>
    intro J' Jx' A hS hB hJ'b hJx'b hJ'I hJ'X hY' h0'
    refine from_root _ _ _ _ p L key A0 hroot (w1.heap.size + 2) J' Jx' hJ'b hJx'b ?_ ?_ (fun t x A hj hx => YieldAt.deep 0 (hY' t x A hj hx)) A hS h0'
    · intro A hA
      obtain ⟨⟨c, hc⟩, _⟩ := hJ'X A hA
      refine ⟨cell_one hc.n, ?_⟩
      rcases hc.j with j | j
      · exact (hJ _ _ j).2.2.2.1
      · exact hJx _ j
    · intro t A hA
      obtain ⟨hI, hsz⟩ := hJ'I t A hA
      exact ⟨cell_one hI.n, cell_one hI.k, (hJ _ _ hI.j).2.2.2.1, hsz⟩
  case done =>
    rintro A h hK
    gi_wp2
    refine ⟨by simp, .inl ⟨_, _, rfl, run_takeDeferred hK, ?_⟩⟩
    refine ⟨_, results_none rfl _ _ _, ⟨_, rfl⟩, .inl ?_⟩
    have e : (ge key L).length = (scanT key til L).length := Nat.le_antisymm h.le (takeWhile_le _ _)
    rw [← e]
    exact hJb _ _ _ h.j (belowR_putObj _ (by have := HSZ.out; omega) hK def_row)
  case stop =>
    rintro c A h hK
    obtain rfl := h.ret
    gi_wp2
    refine ⟨by simp, .inl ⟨_, _, rfl, run_takeDeferred hK, ?_⟩⟩
    refine ⟨_, results_none rfl _ _ _, ⟨_, rfl⟩, ?_⟩
    have hb := belowR_putObj (D := m₀) (.deferred none) (by have := HSZ.out; omega) hK def_row
    exact h.j.imp (fun j => hJb _ _ _ j hb) (fun j => hJxb _ _ j hb)
end Go.Proofs.Ytnagknlfboadkaa.Oct

/- Layer 7 (tree): 'told' of a map of any keys. -/
namespace Go.Proofs.Ytnagknlfboadkaa.Oct
open Go.RowKit Go.Shelf
attribute [local go_sem] Oper.semAt_some

theorem kept_below {w A : World} (h : Below w.heap.size w A) : Kept w A := fun b _ _ hr => h.block b hr.lt
/-- between two rounds of 'told' -/
structure TInvT (w : World) (p : Option Addr) (key til : ByteArray) (ys : List Pr) (s : Nat) (A : World) : Prop where
  be : Below w.heap.size w A
  out : ∃ v, A.heap[w.heap.size]? = some (.cells #[v] 27) ∧ A.ownsRow (w.heap.size + 4) 40 2 v s ((ys.take s).flatMap pc)
  fr : A.heap[w.heap.size + 1]? = some (.cells #[.string key] 9)
  un : A.heap[w.heap.size + 2]? = some (.cells #[.string til] 9)
  ro : A.heap[w.heap.size + 3]? = some (.cells #[.pointer p] 46)
  le : w.heap.size + 4 ≤ A.heap.size
theorem TInvT.step {w A w' : World} {p : Option Addr} {s : Nat} {key til : ByteArray} {ys : List Pr} {x : Pr} {v v' : Value} (h : TInvT w p key til ys s A) (hv : A.heap[w.heap.size]? = some (.cells #[v] 27)) (ho : A.ownsRow (w.heap.size + 4) 40 2 v s ((ys.take s).flatMap pc)) (hx : ys[s]? = some x)
    (hg : (A.alloc (.cells #[.string x.1, .string x.2] 40)).grownBy w' v.ownBlock) (ho' : w'.ownsRow (w.heap.size + 4) 40 2 v' (s + 1) ((ys.take s).flatMap pc ++ pc x)) :
    TInvT w p key til ys (s + 1) (w'.setCell ⟨w.heap.size, 0, none⟩ v') ∧ Held (w.heap.size + 4) A (w'.setCell ⟨w.heap.size, 0, none⟩ v') := by
  have hrow : ∀ b, v.ownBlock = some b → w.heap.size + 4 ≤ b ∧ RowAt A b := by
    intro b hb
    rcases ho.2 with ⟨rfl, _⟩ | ⟨g, cap, cur, rfl, h3, h4, _⟩
    · cases hb
    · have : g = b := by simpa [Value.ownBlock] using hb
      subst this
      exact ⟨h3, cur, (0, 0), h4⟩
  have old : ∀ b, b < A.heap.size → some b ≠ v.ownBlock → w'.heap[b]? = A.heap[b]? := fun b hb hne =>
    (hg.block b (by simp; omega) hne).trans (Below.heap_alloc A _ b hb)
  have low : ∀ b, b < w.heap.size + 4 → w'.heap[b]? = A.heap[b]? := fun b hb => old b (by have := h.le; omega) (fun e => by have := (hrow b e.symm).1; omega)
  have low' : ∀ b, b < w.heap.size + 4 → b ≠ w.heap.size → (w'.setCell ⟨w.heap.size, 0, none⟩ v').heap[b]? = A.heap[b]? := fun b hb hne => by
    rw [heap_setCell_other w' ⟨w.heap.size, 0, none⟩ b v' hne]; exact low b hb
  have hsz : A.heap.size ≤ w'.heap.size := Nat.le_trans (by simp) hg.size
  have hlt := (List.getElem?_eq_some_iff.1 hx).1
  refine ⟨⟨?_, ⟨v', ?_, ?_⟩, ?_, ?_, ?_, ?_⟩, ?_, ?_⟩
  · refine ⟨hg.os.trans h.be.os, hg.tape.trans h.be.tape, hg.output.trans h.be.output, by simp; have := h.be.size; omega, fun b hb => ?_⟩
    rw [low' b (by omega) (by omega)]; exact h.be.block b hb
  · have e := low w.heap.size (by omega)
    rw [hv] at e
    have := heap_setCell_same w' w.heap.size 0 _ 27 v' e
    simpa using this
  · have e : ys.take (s + 1) = ys.take s ++ [x] := by rw [List.take_add_one, hx]; rfl
    rw [e, List.flatMap_append]
    exact own_set (by simpa using ho') (by omega)
  · rw [low' _ (by omega) (by omega)]; exact h.fr
  · rw [low' _ (by omega) (by omega)]; exact h.un
  · rw [low' _ (by omega) (by omega)]; exact h.ro
  · simp; have := h.le; omega
  · simp; exact hsz
  · intro b h1 h2 h3
    rw [heap_setCell_other w' ⟨w.heap.size, 0, none⟩ b v' (by show b ≠ w.heap.size; omega)]
    exact old b h1 (fun e => h3 (hrow b e.symm).2)

set_option maxRecDepth 100000 in
set_option maxHeartbeats 2000000 in
theorem told_all (w : World) (m : Nat) (L : List Pr) (key til : ByteArray) (htr : Tr w m L) (hn : L.length ≤ 1000000) :
    Calls Try.prog 13 #[.pointer (some ⟨m, 0, none⟩), .string key, .string til] w fun e w' => ∃ v, e = .returned v ∧ Hid (w'.ownsRow w.heap.size 40 2 v (scanT key til L).length ((scanT key til L).flatMap pc)) ∧ Hid (Below w.heap.size w w') := by
  obtain ⟨p, hmp, hroot⟩ := htr.root
  have HN : Hid (Root w p L ∧ L.length ≤ 1000000) := ⟨hroot, hn⟩
  have HM : Hid (Mp w m (.pointer p) L.length) := hmp
  clear hmp hroot hn htr
  obtain ⟨ys, hys⟩ : ∃ ys, scanT key til L = ys := ⟨_, rfl⟩
  rw [hys]
  have HYS : Hid (scanT key til L = ys) := hys
  have HLY : Hid (ys.length ≤ 1000000) := by
    show _ ≤ _
    have h1 := takeWhile_le (okS til) (ge key L)
    have h2 : (ge key L).length ≤ L.length := List.length_filter_le _ _
    have h3 := HN.out.2
    rw [← hys, scanT]
    omega
  clear hys
  refine (callsIn_wide (n := 3)).1 ?_
  refine callsIn_of_wp_marks Try.func13 rfl trivial ?_ rfl
  simp only [Try.ntmps13, List.size_toArray, List.length_cons, List.length_nil, Nat.reduceAdd, Nat.reduceSub, Array.replicate_succ, Array.replicate_zero, List.push_toArray, List.append_toArray, List.nil_append, List.cons_append]
  have HB0 : Hid (Below w.heap.size w (w.alloc (.cells #[.slice none 0 0] 27))) := (Below.refl _ w).alloc (Nat.le_refl _) _
  have nn := not_nil28
  gi_wp2_with (refine ⟨trivial, ?_⟩; gi_at_call 17; refine (callsIn_wide.2 (scan_yes _ m L.length _ key til (HM.out.keep HB0.out (Nat.le_refl _)))).mono ?_; rintro e w1 ⟨rfl, HW1⟩)
  have hw1 := HW1.out
  have HS1 : Hid (w1.heap.size = w.heap.size + 4) := by show _ = _; rw [hw1]; simp
  have HI0 : Hid (TInvT w p key til ys 0 w1) := by
    have b0 : w1.heap[w.heap.size]? = some (.cells #[.slice none 0 0] 27) := by
      rw [hw1, Below.heap_alloc _ _ _ (by simp; omega), Below.heap_alloc _ _ _ (by simp; omega), Below.heap_alloc _ _ _ (by simp)]
      exact World.alloc_heap_new w _
    have b1 : w1.heap[w.heap.size + 1]? = some (.cells #[.string key] 9) := by
      have e := World.alloc_heap_new (w.alloc (.cells #[.slice none 0 0] 27)) (.cells #[.string key] 9)
      rw [World.size_alloc] at e
      rw [hw1, Below.heap_alloc _ _ _ (by simp), Below.heap_alloc _ _ _ (by simp)]
      exact e
    have b2 : w1.heap[w.heap.size + 2]? = some (.cells #[.string til] 9) := by
      have e := World.alloc_heap_new ((w.alloc (.cells #[.slice none 0 0] 27)).alloc (.cells #[.string key] 9)) (.cells #[.string til] 9)
      rw [World.size_alloc, World.size_alloc] at e
      rw [hw1, Below.heap_alloc _ _ _ (by simp)]
      exact e
    have b3 : w1.heap[w.heap.size + 3]? = some (.cells #[.pointer p] 46) := by
      have e := World.alloc_heap_new (((w.alloc (.cells #[.slice none 0 0] 27)).alloc (.cells #[.string key] 9)).alloc (.cells #[.string til] 9)) (.cells #[.pointer p] 46)
      rw [World.size_alloc, World.size_alloc, World.size_alloc] at e
      rw [hw1]
      exact e
    refine ⟨?_, ⟨_, b0, World.ownsRow_nil _ _ _ _⟩, b1, b2, b3, Nat.le_of_eq HS1.out.symm⟩
    rw [hw1]
    exact (((HB0.out.alloc (by simp) _).alloc (by simp; omega) _).alloc (by simp; omega) _)
  clear hw1 HW1 HB0 nn
  obtain ⟨i0, hi0, hii⟩ := Option.map_eq_some_iff.1 info40
  simp only [Prod.mk.injEq] at hii
  refine rangeLeave (gf := 28) (lb := #[.pointer (some ⟨w.heap.size + 1 + 2, 0, none⟩), .pointer (some ⟨w.heap.size + 1, 0, none⟩), .pointer (some ⟨w.heap.size + 1 + 1, 0, none⟩)]) rfl (enters_of Try.func28 (by kernel_rfl) rfl) (fun _ x => encQ x) (fun _ _ => rfl) ys
    (TInvT w p key til ys) (fun _ _ => False) ?hI (fun _ _ _ h _ => h) HI0.out
    (fun _ x => { tmps := #[.pointer (some ⟨m, 0, none⟩), .string key, .string til, undef, undef, undef, .slice none 0 0, .pointer (some ⟨w.heap.size, 0, none⟩), .func (.func 28) #[] #[.pointer (some ⟨w.heap.size + 1 + 2, 0, none⟩), .pointer (some ⟨w.heap.size + 1, 0, none⟩), .pointer (some ⟨w.heap.size + 1 + 1, 0, none⟩)], .string x.1, .string x.2, .pointer (some ⟨m, 0, none⟩), .string key, .string til, .func (.func 28) #[] #[.pointer (some ⟨w.heap.size + 1 + 2, 0, none⟩), .pointer (some ⟨w.heap.size + 1, 0, none⟩), .pointer (some ⟨w.heap.size + 1 + 1, 0, none⟩)], .func (.func 28) #[] #[.pointer (some ⟨w.heap.size + 1 + 2, 0, none⟩), .pointer (some ⟨w.heap.size + 1, 0, none⟩), .pointer (some ⟨w.heap.size + 1 + 1, 0, none⟩)], .bool false, .func (.func 28) #[] #[.pointer (some ⟨w.heap.size + 1 + 2, 0, none⟩), .pointer (some ⟨w.heap.size + 1, 0, none⟩), .pointer (some ⟨w.heap.size + 1 + 1, 0, none⟩)], .string x.1, .string x.2, undef, undef, undef, undef, undef, undef, undef], defers := [] }) ?assign ?body ?iter ?done ?stop
  case hI =>
    rintro t A B h hb
    rw [HS1.out] at hb
    obtain ⟨v, h1, h2⟩ := h.out
    exact ⟨h.be.trans (hb.below.mono (by omega)), ⟨v, (hb.below.block _ (by omega)).trans h1, own_rows h2 hb⟩, (hb.below.block _ (by omega)).trans h.fr, (hb.below.block _ (by omega)).trans h.un, (hb.below.block _ (by omega)).trans h.ro, Nat.le_trans h.le hb.below.size⟩
  case assign =>
    intro t x A K hK
    dsimp only [encQ]
    gi_wp2
    exact hK
  case body =>
    rintro t x A h hx hlt
    obtain ⟨v, h1, h2⟩ := h.out
    have HI : Hid (TInvT w p key til ys t A) := h
    have HX : Hid (ys[t]? = some x) := hx
    have HV : Hid (A.heap[w.heap.size]? = some (.cells #[v] 27)) := h1
    have HO : Hid (A.ownsRow (w.heap.size + 4) 40 2 v t ((ys.take t).flatMap pc)) := h2
    have cv := cell_one h1
    have HL : Hid (t < ys.length) := (List.getElem?_eq_some_iff.1 hx).1
    have hlw : w.heap.size < A.heap.size := by have := h.le; omega
    have HC : Hid (∀ j u, (pc x)[j]? = some u → (A.alloc (.cells #[.string x.1, .string x.2] 40)).cell? ((⟨A.heap.size, 0, none⟩ : Addr).add j) = some u) := by
      intro j u hu
      rw [Addr.add_lit, Nat.zero_add]
      exact (Blk.new A #[.string x.1, .string x.2] 40).cell hu
    have HOA : Hid ((A.alloc (.cells #[.string x.1, .string x.2] 40)).ownsRow (w.heap.size + 4) 40 2 v t ((ys.take t).flatMap pc)) := own_below h2 ((Below.refl A.heap.size A).alloc (Nat.le_refl _) _) (Nat.le_refl _)
    clear h hx h1 h2 hlt
    gi_wp2_with (
      with_reducible change wpListIn _ _ _ _ _ ({ dst := some 25, op := _, type := _, pos := _, after := _, guard := _ } :: _) _ _
      refine wpListIn_append_own (A.alloc (.cells #[.string x.1, .string x.2] 40)) rfl (.tmp 20) (.tmp 24) 27 rfl (w.heap.size + 4) 40 i0 _ 2 32 Try.underlying27 hi0 hii.1 hii.2.1 hii.2.2 rfl (by omega) v t _ rfl HOA.out ⟨A.heap.size, 0, none⟩ 1 1 (pc x) rfl rfl HC.out (by intro u hu; simp only [pc, List.mem_cons, List.not_mem_nil, or_false] at hu; rcases hu with rfl | rfl <;> rfl) (by have := HL.out; have := HLY.out; unfold maxLen; omega) (by have := HL.out; have := HLY.out; omega) (by have := HI.out.le; simp; omega) ?_
      intro v' w' ho' hg' hn'
      obtain ⟨g', cap', rfl⟩ := own_shape ho'
      have HO' : Hid (w'.ownsRow (w.heap.size + 4) 40 2 (.slice (some ⟨g', 0, none⟩) (t + 1) cap') (t + 1) ((ys.take t).flatMap pc ++ pc x)) := ho'
      have HG' : Hid ((A.alloc (.cells #[.string x.1, .string x.2] 40)).grownBy w' v.ownBlock) := hg'
      have hv' := told_box HV.out HO.out hg' (by omega)
      have cw := cell_one hv'
      have fw : w'.frozen? ⟨w.heap.size, 0, none⟩ = false := frozen_of_row w' w.heap.size 0 _ 27 hv'
      clear ho' hg' hn' hv')
    have hE := TInvT.step HI.out HV.out HO.out HX.out HG'.out HO'.out
    exact ⟨hE.1, by rw [HS1.out]; exact hE.2⟩
  case iter =>
    intro J' Jx' A hS hB hJ'b hJx'b hJ'I hJ'X hY' h0'
    have := scan2_all 2 (w1.heap.size + 1) (w.heap.size + 1 + 2) (w.heap.size + 1) (w.heap.size + 1 + 1) p L key til w HN.out.1 (w1.heap.size + 2) J' Jx' hJ'b hJx'b ?_ ?_ ?_ A hS h0'
    · rw [HYS.out] at this; exact this
    · intro A hA
      obtain ⟨⟨c, hc⟩, _⟩ := hJ'X A hA
      exact hc.elim
    · intro t A hA
      obtain ⟨hI, hsz⟩ := hJ'I t A hA
      exact ⟨cell_one hI.ro, cell_one hI.fr, cell_one hI.un, kept_below hI.be, hsz⟩
    · intro t x A hj hx
      rw [HYS.out] at hx
      exact YieldAt.deep 0 (hY' t x A hj hx)
  case done =>
    rintro A h hK
    obtain ⟨v, h1, h2⟩ := h.out
    have HI : Hid (TInvT w p key til ys ys.length A) := h
    have HO : Hid (A.ownsRow (w.heap.size + 4) 40 2 v ys.length ((ys.take ys.length).flatMap pc)) := h2
    have cv := cell_one h1
    have HK : Hid (A.heap[w1.heap.size]? = some (.deferred (some []))) := hK
    clear h h1 h2 hK
    gi_wp2
    refine ⟨by simp, .inl ⟨_, _, rfl, run_takeDeferred HK.out, ?_⟩⟩
    refine ⟨_, results_tmp rfl _ _ _, v, rfl, ?_, HI.out.be.trans (below_putObj _ A _ _ (by have := HS1.out; omega))⟩
    have e := HO.out
    rw [List.take_length] at e
    exact own_mono (own_rows e (belowR_putObj (D := w.heap.size) _ (by have := HS1.out; omega) HK.out def_row)) (by omega)
  case stop => rintro c A h; exact h.elim
end Go.Proofs.Ytnagknlfboadkaa.Oct

/- Layer 7 (tree): a call of both, the map and the list: Put and Delete. -/
namespace Go.Proofs.Ytnagknlfboadkaa.Oct
open Go.RowKit

theorem scanT_is {L : List Pr} (h : Ris L) (key til : ByteArray) : scanT key til L = L.filter (inS key til) := by
  have e1 : ∀ {M : List Pr}, Ris M → M.takeWhile (okS til) = M.filter (okS til) := by
    intro M
    induction M with
    | nil => intro _; rfl
    | cons x M ih =>
      intro hM
      have hM2 := List.pairwise_cons.1 hM
      cases ho : okS til x with
      | true => rw [List.takeWhile_cons, if_pos ho, List.filter_cons, if_pos ho, ih hM2.2]
      | false =>
        rw [List.takeWhile_cons, if_neg (by rw [ho]; simp), List.filter_cons, if_neg (by rw [ho]; simp)]
        symm
        refine List.filter_eq_nil_iff.2 fun y hy => ?_
        have hxy := hM2.1 y hy
        unfold okS at ho ⊢
        rw [Bool.or_eq_false_iff] at ho
        rw [ho.1, geS_eq]
        rw [geS_eq] at ho
        have h2 : Lt x.1 til = false := by simpa using ho.2
        have h3 : Lt y.1 til = false := by
          cases h4 : Lt y.1 til with
          | false => rfl
          | true => rw [lt_trans hxy h4] at h2; cases h2
        rw [h3]; simp
  unfold scanT
  have hgL : Ris (ge key L) := List.Pairwise.sublist List.filter_sublist h
  rw [e1 hgL]
  unfold ge inS
  rw [List.filter_filter]
  congr 1; funext x; exact Bool.and_comm _ _

/-- behind a call of both -/
def PlayP (w : World) (m : Nat) (L : List Pr) (e : Ending) (w' : World) : Prop := ∃ (a' : Option Addr) (n' cap' : Nat) (L' : List Pr), e = .returned (.tuple #[.slice a' n' cap', .bool true]) ∧ Hid (Tr w' m L' ∧ RdP w' a' n' L' ∧ Cap a' n' cap' ∧ L'.length ≤ L.length + 60) ∧ Hid (w.grownBy w' (some m))
theorem Tr.mp {w : World} {m : Nat} {L : List Pr} (h : Tr w m L) : ∃ p, Mp w m (.pointer p) L.length := by
  obtain ⟨p, h1, _⟩ := h.root
  exact ⟨p, h1⟩
theorem Tr.oth {w : World} {m : Nat} {L : List Pr} (h : Tr w m L) : Oth w m := by
  obtain ⟨p, h1⟩ := h.mp
  exact h1.oth
theorem Tr.lt {w : World} {m : Nat} {L : List Pr} (h : Tr w m L) : m < w.heap.size := by
  obtain ⟨p, h1⟩ := h.mp
  exact Blk.lt (show Blk w m 48 _ from h1)
theorem ins_most {L : List Pr} (h : Ris L) (x : Pr) : (insP L x).length ≤ L.length + 1 := by
  rw [ins_len h]; split <;> omega
theorem rem_most {L : List Pr} (h : Ris L) (k : ByteArray) : (remP L k).length ≤ L.length := by
  rw [rem_len h]; split <;> omega

set_option maxRecDepth 100000 in
set_option maxHeartbeats 1000000 in
theorem play_put (w : World) (m : Nat) (a : Option Addr) (n cap : Nat) (L : List Pr) (k v : ByteArray) (N : Int) (hT : Tr w m L) (hR : RdP w a n L) (hC : Cap a n cap) (hn : L.length ≤ 90000) :
    Calls Try.prog 14 #[.pointer (some ⟨m, 0, none⟩), .slice a n cap, .agg #[.int .i64 0, .string k, .string v, .int .i64 N]] w (PlayP w m L) := by
  have hml := hT.lt
  have hnL : n = L.length := hR.1.symm
  have HQ : Hid (Tr w m L ∧ RdP w a n L ∧ Cap a n cap ∧ L.length ≤ 90000 ∧ n = L.length) := ⟨hT, hR, hC, hn, hnL⟩
  have HB1 : Hid (Below w.heap.size w (w.alloc (.cells #[.int .i64 0, .string k, .string v, .int .i64 N] 29))) := (Below.refl _ w).alloc (Nat.le_refl _) _
  have hbx := Blk.new w #[.int .i64 0, .string k, .string v, .int .i64 N] 29
  have HK : Hid (∀ W, (w.alloc (.cells #[.int .i64 0, .string k, .string v, .int .i64 N] 29)).grownBy W (some m) → W.cell? ⟨w.heap.size, 0, none⟩ = some (.int .i64 0) ∧ W.cell? ⟨w.heap.size, 1, none⟩ = some (.string k) ∧ W.cell? ⟨w.heap.size, 2, none⟩ = some (.string v)) := fun W hW =>
    ⟨hW.cell (hbx.cell (i := 0) rfl) (by simp; omega), hW.cell (hbx.cell (i := 1) rfl) (by simp; omega), hW.cell (hbx.cell (i := 2) rfl) (by simp; omega)⟩
  have d1 := hbx.cell (i := 1) rfl
  clear hT hR hC hn hnL hbx
  go_enter Try.func14, Try.ntmps14
  go_wp2_with fail
  obtain ⟨w1, hw1⟩ : ∃ w1, w.alloc (.cells #[.int .i64 0, .string k, .string v, .int .i64 N] 29) = w1 := ⟨_, rfl⟩
  rw [hw1] at HB1 HK d1 ⊢
  refine (rget_is w1 a n cap L k (HQ.out.2.1.below HB1.out (Nat.le_refl _)) HQ.out.1.ris (by have := HQ.out; omega)).mono ?_
  rintro e w2 ⟨rfl, HB2⟩
  have HG2 : Hid (w1.grownBy w2 (some m)) := below_grown HB2.out _
  have HW2 : Hid (Below w.heap.size w w2) := HB1.out.trans (HB2.out.mono HB1.out.size)
  obtain ⟨k0, k1, k2⟩ := HK.out w2 HG2.out
  have HG2d : Hid (w1.grownBy w2.drew (some m)) := below_grown HB2.out.drew _
  have HS1 : Hid (m < w1.heap.size) := by show _ < _; have := HB1.out.size; omega
  have H24 : Hid (Calls Try.prog 24 #[.slice a n cap, .string k, .string v] w2.drew (Rows w2.drew (insP L (k, v)))) := rput_is w2.drew a n cap L (k, v) (HQ.out.2.1.below HW2.out.drew (Nat.le_refl _)) HQ.out.2.2.1 HQ.out.1.ris (by have := HQ.out; omega)
  generalize hE : (!(eqs k L).isEmpty) = E
  generalize gv (eqs k L) = V
  have HE : Hid ((!(eqs k L).isEmpty) = E) := hE
  clear d1 hE hw1
  go_wp2_with fail
  go_region_held_law (fun W => W.cell? ⟨w.heap.size, 1, none⟩ = some (.string k) ∧ W.cell? ⟨w.heap.size, 2, none⟩ = some (.string v))
    (first | with_reducible exact (HK.out _ HG2d.out).2 | with_reducible exact (HK.out _ HG3.out).2 | with_reducible exact (HK.out _ HG4.out).2)
    (first
    | (go_at_call 24; (with_reducible refine Calls.mono H24.out ?_); rintro e w3 ⟨a3, n3, cap3, rfl, HR3, hB3⟩; have HW3 : Hid (Below w.heap.size w w3) := HW2.out.drew.trans (hB3.out.mono HW2.out.size); have HG3 : Hid (w1.grownBy w3 (some m)) := grown_tr HG2d.out (below_grown hB3.out _); have H19 : Hid (Calls Try.prog 19 #[.pointer (some ⟨m, 0, none⟩), .string k, .string v] w3 fun e w' => e = .returned (.bool E) ∧ Hid (Tr w' m (insP L (k, v))) ∧ Hid (w3.grownBy w' (some m))) := (by show Calls _ _ _ _ _; rw [← HE.out]; exact tput w3 m L (k, v) (HQ.out.1.below HW3.out) (by have := HQ.out; omega)); clear hB3)
    | (go_at_call 19; (with_reducible refine Calls.mono H19.out ?_); rintro e w4 ⟨rfl, HT4, HG34⟩; have HG4 : Hid (w1.grownBy w4 (some m)) := grown_tr HG3.out HG34.out))
  go_wp2
  go_ret2
  refine ⟨a3, n3, cap3, insP L (k, v), by simp, ⟨HT4.out, HR3.out.1.oth HG34.out (HQ.out.1.below HW3.out).oth, HR3.out.2, by have := ins_most HQ.out.1.ris (k, v); omega⟩, grown_tr (below_grown HW3.out _) HG34.out⟩
end Go.Proofs.Ytnagknlfboadkaa.Oct

/- Layer 7 (tree): a call of both, the map and the list: many Puts. -/
namespace Go.Proofs.Ytnagknlfboadkaa.Oct
open Go.RowKit

set_option maxRecDepth 100000 in
set_option maxHeartbeats 1000000 in
theorem play_puts (w : World) (m : Nat) (a : Option Addr) (n cap : Nat) (L : List Pr) (k v : ByteArray) (N : Int) (hT : Tr w m L) (hR : RdP w a n L) (hC : Cap a n cap) (hk : k.size ≤ 100000) (hn : L.length ≤ 90000) :
    Calls Try.prog 14 #[.pointer (some ⟨m, 0, none⟩), .slice a n cap, .agg #[.int .i64 5, .string k, .string v, .int .i64 N]] w (PlayP w m L) := by
  have hml := hT.lt
  have hnL : n = L.length := hR.1.symm
  have HQ : Hid (Tr w m L ∧ RdP w a n L ∧ Cap a n cap ∧ L.length ≤ 90000 ∧ n = L.length) := ⟨hT, hR, hC, hn, hnL⟩
  have HB1 : Hid (Below w.heap.size w (w.alloc (.cells #[.int .i64 5, .string k, .string v, .int .i64 N] 29))) := (Below.refl _ w).alloc (Nat.le_refl _) _
  have hbx := Blk.new w #[.int .i64 5, .string k, .string v, .int .i64 N] 29
  have HK : Hid (∀ W, (w.alloc (.cells #[.int .i64 5, .string k, .string v, .int .i64 N] 29)).grownBy W (some m) → W.cell? ⟨w.heap.size, 0, none⟩ = some (.int .i64 5) ∧ W.cell? ⟨w.heap.size, 1, none⟩ = some (.string k) ∧ W.cell? ⟨w.heap.size, 2, none⟩ = some (.string v) ∧ W.cell? ⟨w.heap.size, 3, none⟩ = some (.int .i64 N)) := fun W hW =>
    ⟨hW.cell (hbx.cell (i := 0) rfl) (by simp; omega), hW.cell (hbx.cell (i := 1) rfl) (by simp; omega), hW.cell (hbx.cell (i := 2) rfl) (by simp; omega), hW.cell (hbx.cell (i := 3) rfl) (by simp; omega)⟩
  have d1 := hbx.cell (i := 1) rfl
  clear hT hR hC hn hnL hbx
  go_enter Try.func14, Try.ntmps14
  go_wp2_with fail
  obtain ⟨w1, hw1⟩ : ∃ w1, w.alloc (.cells #[.int .i64 5, .string k, .string v, .int .i64 N] 29) = w1 := ⟨_, rfl⟩
  rw [hw1] at HB1 HK d1 ⊢
  refine (rget_is w1 a n cap L k (HQ.out.2.1.below HB1.out (Nat.le_refl _)) HQ.out.1.ris (by have := HQ.out; omega)).mono ?_
  rintro e w2 ⟨rfl, HB2⟩
  have HG2 : Hid (w1.grownBy w2 (some m)) := below_grown HB2.out _
  have HW2 : Hid (Below w.heap.size w w2) := HB1.out.trans (HB2.out.mono HB1.out.size)
  obtain ⟨k0, k1, k2, k3⟩ := HK.out w2 HG2.out
  have HKS : Hid (k.size ≤ 100000) := hk
  generalize (!(eqs k L).isEmpty) = E0
  generalize gv (eqs k L) = V0
  clear d1 hw1 hk
  go_wp2_with fail
  clear k0 k1 k2 k3
  go_loopw [10, 1] (fun u l wr => ∃ (i : Nat) (a' : Option Addr) (n' c' : Nat) (L' : List Pr), u = .int .i64 (i : Int) ∧ l = .slice a' n' c' ∧ Hid (i ≤ 60 ∧ L'.length ≤ L.length + i) ∧ Hid (Tr wr m L' ∧ RdP wr a' n' L' ∧ Cap a' n' c') ∧ Hid (w1.grownBy wr (some m)) ∧ Hid (w.grownBy wr (some m))) (fun u _ _ => 61 - (intOf u).toNat)
  case atStart => exact ⟨0, a, n, cap, L, rfl, rfl, ⟨by omega, by omega⟩, ⟨HQ.out.1.below HW2.out, HQ.out.2.1.below HW2.out (Nat.le_refl _), HQ.out.2.2.1⟩, HG2.out, below_grown HW2.out _⟩
  case round =>
    obtain ⟨i, a', n', c', L', rfl, rfl, HI, HT, HG, HGW⟩ := hrel
    obtain ⟨k0, k1, k2, k3⟩ := HK.out wr HG.out
    by_cases hi : (i : Int) < N
    · by_cases h60 : i < 60
      · have q0 : (i : Int) < 60 := by omega
        have q1 : (0 : Int) ≤ (i : Int) := by omega
        have HL60 : Hid (i < 60) := h60
        have H26 : Hid (Calls Try.prog 26 #[.string k, .int .i64 ((i : Int) * 7 % 60)] wr fun e w' => e = .returned (.string (numK k (i * 7 % 60))) ∧ Hid (Below wr.heap.size wr w')) := by
          show Calls _ _ _ _ _
          rw [show (i : Int) * 7 % 60 = ((i * 7 % 60 : Nat) : Int) by omega]
          exact number_is wr k (i * 7 % 60) (Nat.mod_lt _ (by omega)) HKS.out
        generalize numK k (i * 7 % 60) = kk at *
        have HRS : Hid (Ris L' ∧ n' = L'.length ∧ L'.length ≤ 95000) := ⟨HT.out.1.ris, HT.out.2.1.1.symm, by have := HI.out; have := HQ.out; omega⟩
        have H23 : Hid (∀ W, Below wr.heap.size wr W → Calls Try.prog 23 #[.slice a' n' c', .string kk] W fun e w' => e = .returned (.tuple #[.string (gv (eqs kk L')), .bool (!(eqs kk L').isEmpty)]) ∧ Hid (Below W.heap.size W w')) := fun W hW => rget_is W a' n' c' L' kk (HT.out.2.1.below hW (Nat.le_refl _)) HRS.out.1 (by have := HRS.out; omega)
        have H19 : Hid (∀ W, Below wr.heap.size wr W → Calls Try.prog 19 #[.pointer (some ⟨m, 0, none⟩), .string kk, .string v] W fun e w' => e = .returned (.bool (!(eqs kk L').isEmpty)) ∧ Hid (Tr w' m (insP L' (kk, v))) ∧ Hid (W.grownBy w' (some m))) := fun W hW => tput W m L' (kk, v) (HT.out.1.below hW) (by have := HRS.out; omega)
        generalize (!(eqs kk L').isEmpty) = E1 at *
        generalize gv (eqs kk L') = V1 at *
        go_wp2_with (first
          | (go_at_call 26; (with_reducible refine Calls.mono H26.out ?_); rintro e w3 ⟨rfl, HB3⟩)
          | (go_at_call 23; (with_reducible refine Calls.mono (H23.out w3 HB3.out) ?_); rintro e w4 ⟨rfl, hB4⟩; have HB4 : Hid (Below wr.heap.size wr w4) := HB3.out.trans (hB4.out.mono HB3.out.size); have HG4 : Hid (w1.grownBy w4 (some m)) := grown_tr HG.out (below_grown HB4.out _); obtain ⟨l0, l1, l2, l3⟩ := HK.out w4 HG4.out; clear hB4)
          | (go_at_call 19; (with_reducible refine Calls.mono (H19.out w4 HB4.out) ?_); rintro e w5 ⟨rfl, HT5, HG45⟩; have HG5 : Hid (w1.grownBy w5 (some m)) := grown_tr HG4.out HG45.out; obtain ⟨m0, m1, m2, m3⟩ := HK.out w5 HG5.out; have H24 : Hid (Calls Try.prog 24 #[.slice a' n' c', .string kk, .string v] w5 (Rows w5 (insP L' (kk, v)))) := rput_is w5 a' n' c' L' (kk, v) ((HT.out.2.1.below HB4.out (Nat.le_refl _)).oth HG45.out (HT.out.1.below HB4.out).oth) HT.out.2.2 HRS.out.1 (by have := HRS.out; omega))
          | (go_at_call 24; (with_reducible refine Calls.mono H24.out ?_); rintro e w6 ⟨a6, n6, c6, rfl, HR6, HB6⟩))
        go_roundw
        case rel => exact ⟨i + 1, a6, n6, c6, insP L' (kk, v), by simp, rfl, ⟨by have := HL60.out; omega, by have := ins_most HRS.out.1 (kk, v); have := HI.out; omega⟩, ⟨HT5.out.below HB6.out, HR6.out⟩, grown_tr HG5.out (below_grown HB6.out _), grown_tr (grown_tr (grown_tr HGW.out (below_grown HB4.out _)) HG45.out) (below_grown HB6.out _)⟩
        case measure => have := HL60.out; simp [intOf]; omega
      · have q0 : ¬ (i : Int) < 60 := by omega
        go_wp2
        go_ret2
        exact ⟨a', n', c', L', by simp, ⟨HT.out.1, HT.out.2.1, HT.out.2.2, by have := HI.out; omega⟩, HGW⟩
    · go_wp2
      go_ret2
      exact ⟨a', n', c', L', by simp, ⟨HT.out.1, HT.out.2.1, HT.out.2.2, by have := HI.out; omega⟩, HGW⟩
end Go.Proofs.Ytnagknlfboadkaa.Oct

/- Layer 7 (tree): a call of both, the map and the list: many Deletes. -/
namespace Go.Proofs.Ytnagknlfboadkaa.Oct
open Go.RowKit

set_option maxRecDepth 100000 in
set_option maxHeartbeats 1000000 in
theorem play_dels (w : World) (m : Nat) (a : Option Addr) (n cap : Nat) (L : List Pr) (k v : ByteArray) (N : Int) (hT : Tr w m L) (hR : RdP w a n L) (hC : Cap a n cap) (hk : k.size ≤ 100000) (hn : L.length ≤ 90000) :
    Calls Try.prog 14 #[.pointer (some ⟨m, 0, none⟩), .slice a n cap, .agg #[.int .i64 6, .string k, .string v, .int .i64 N]] w (PlayP w m L) := by
  have hml := hT.lt
  have hnL : n = L.length := hR.1.symm
  have HQ : Hid (Tr w m L ∧ RdP w a n L ∧ Cap a n cap ∧ L.length ≤ 90000 ∧ n = L.length) := ⟨hT, hR, hC, hn, hnL⟩
  have HB1 : Hid (Below w.heap.size w (w.alloc (.cells #[.int .i64 6, .string k, .string v, .int .i64 N] 29))) := (Below.refl _ w).alloc (Nat.le_refl _) _
  have hbx := Blk.new w #[.int .i64 6, .string k, .string v, .int .i64 N] 29
  have HK : Hid (∀ W, (w.alloc (.cells #[.int .i64 6, .string k, .string v, .int .i64 N] 29)).grownBy W (some m) → W.cell? ⟨w.heap.size, 0, none⟩ = some (.int .i64 6) ∧ W.cell? ⟨w.heap.size, 1, none⟩ = some (.string k) ∧ W.cell? ⟨w.heap.size, 2, none⟩ = some (.string v) ∧ W.cell? ⟨w.heap.size, 3, none⟩ = some (.int .i64 N)) := fun W hW =>
    ⟨hW.cell (hbx.cell (i := 0) rfl) (by simp; omega), hW.cell (hbx.cell (i := 1) rfl) (by simp; omega), hW.cell (hbx.cell (i := 2) rfl) (by simp; omega), hW.cell (hbx.cell (i := 3) rfl) (by simp; omega)⟩
  have d1 := hbx.cell (i := 1) rfl
  clear hT hR hC hn hnL hbx
  go_enter Try.func14, Try.ntmps14
  go_wp2_with fail
  obtain ⟨w1, hw1⟩ : ∃ w1, w.alloc (.cells #[.int .i64 6, .string k, .string v, .int .i64 N] 29) = w1 := ⟨_, rfl⟩
  rw [hw1] at HB1 HK d1 ⊢
  refine (rget_is w1 a n cap L k (HQ.out.2.1.below HB1.out (Nat.le_refl _)) HQ.out.1.ris (by have := HQ.out; omega)).mono ?_
  rintro e w2 ⟨rfl, HB2⟩
  have HG2 : Hid (w1.grownBy w2 (some m)) := below_grown HB2.out _
  have HW2 : Hid (Below w.heap.size w w2) := HB1.out.trans (HB2.out.mono HB1.out.size)
  obtain ⟨k0, k1, k2, k3⟩ := HK.out w2 HG2.out
  have HKS : Hid (k.size ≤ 100000) := hk
  generalize (!(eqs k L).isEmpty) = E0
  generalize gv (eqs k L) = V0
  clear d1 hw1 hk
  go_wp2_with fail
  clear k0 k1 k2 k3
  go_loopw [10, 1] (fun u l wr => ∃ (i : Nat) (a' : Option Addr) (n' c' : Nat) (L' : List Pr), u = .int .i64 (i : Int) ∧ l = .slice a' n' c' ∧ Hid (i ≤ 60 ∧ L'.length ≤ L.length + i) ∧ Hid (Tr wr m L' ∧ RdP wr a' n' L' ∧ Cap a' n' c') ∧ Hid (w1.grownBy wr (some m)) ∧ Hid (w.grownBy wr (some m))) (fun u _ _ => 61 - (intOf u).toNat)
  case atStart => exact ⟨0, a, n, cap, L, rfl, rfl, ⟨by omega, by omega⟩, ⟨HQ.out.1.below HW2.out, HQ.out.2.1.below HW2.out (Nat.le_refl _), HQ.out.2.2.1⟩, HG2.out, below_grown HW2.out _⟩
  case round =>
    obtain ⟨i, a', n', c', L', rfl, rfl, HI, HT, HG, HGW⟩ := hrel
    obtain ⟨k0, k1, k2, k3⟩ := HK.out wr HG.out
    by_cases hi : (i : Int) < N
    · by_cases h60 : i < 60
      · have q0 : (i : Int) < 60 := by omega
        have q1 : (0 : Int) ≤ (i : Int) := by omega
        have HL60 : Hid (i < 60) := h60
        have H26 : Hid (Calls Try.prog 26 #[.string k, .int .i64 ((i : Int) * 7 % 60)] wr fun e w' => e = .returned (.string (numK k (i * 7 % 60))) ∧ Hid (Below wr.heap.size wr w')) := by
          show Calls _ _ _ _ _
          rw [show (i : Int) * 7 % 60 = ((i * 7 % 60 : Nat) : Int) by omega]
          exact number_is wr k (i * 7 % 60) (Nat.mod_lt _ (by omega)) HKS.out
        generalize numK k (i * 7 % 60) = kk at *
        have HRS : Hid (Ris L' ∧ n' = L'.length ∧ L'.length ≤ 95000) := ⟨HT.out.1.ris, HT.out.2.1.1.symm, by have := HI.out; have := HQ.out; omega⟩
        have H23 : Hid (∀ W, Below wr.heap.size wr W → Calls Try.prog 23 #[.slice a' n' c', .string kk] W fun e w' => e = .returned (.tuple #[.string (gv (eqs kk L')), .bool (!(eqs kk L').isEmpty)]) ∧ Hid (Below W.heap.size W w')) := fun W hW => rget_is W a' n' c' L' kk (HT.out.2.1.below hW (Nat.le_refl _)) HRS.out.1 (by have := HRS.out; omega)
        have H18 : Hid (∀ W, Below wr.heap.size wr W → Calls Try.prog 18 #[.pointer (some ⟨m, 0, none⟩), .string kk] W fun e w' => e = .returned (.bool (!(eqs kk L').isEmpty)) ∧ Hid (Tr w' m (remP L' kk)) ∧ Hid (W.grownBy w' (some m))) := fun W hW => tdel W m L' kk (HT.out.1.below hW) (by have := HRS.out; omega)
        generalize (!(eqs kk L').isEmpty) = E1 at *
        generalize gv (eqs kk L') = V1 at *
        go_wp2_with (first
          | (go_at_call 26; (with_reducible refine Calls.mono H26.out ?_); rintro e w3 ⟨rfl, HB3⟩)
          | (go_at_call 23; (with_reducible refine Calls.mono (H23.out w3 HB3.out) ?_); rintro e w4 ⟨rfl, hB4⟩; have HB4 : Hid (Below wr.heap.size wr w4) := HB3.out.trans (hB4.out.mono HB3.out.size); have HG4 : Hid (w1.grownBy w4 (some m)) := grown_tr HG.out (below_grown HB4.out _); obtain ⟨l0, l1, l2, l3⟩ := HK.out w4 HG4.out; clear hB4)
          | (go_at_call 18; (with_reducible refine Calls.mono (H18.out w4 HB4.out) ?_); rintro e w5 ⟨rfl, HT5, HG45⟩; have HG5 : Hid (w1.grownBy w5 (some m)) := grown_tr HG4.out HG45.out; obtain ⟨m0, m1, m2, m3⟩ := HK.out w5 HG5.out; have H25 : Hid (Calls Try.prog 25 #[.slice a' n' c', .string kk] w5 (Rows w5 (remP L' kk))) := rdel_is w5 a' n' c' L' kk ((HT.out.2.1.below HB4.out (Nat.le_refl _)).oth HG45.out (HT.out.1.below HB4.out).oth) HT.out.2.2 HRS.out.1 (by have := HRS.out; omega))
          | (go_at_call 25; (with_reducible refine Calls.mono H25.out ?_); rintro e w6 ⟨a6, n6, c6, rfl, HR6, HB6⟩))
        go_roundw
        case rel => exact ⟨i + 1, a6, n6, c6, remP L' kk, by simp, rfl, ⟨by have := HL60.out; omega, by have := rem_most HRS.out.1 kk; have := HI.out; omega⟩, ⟨HT5.out.below HB6.out, HR6.out⟩, grown_tr HG5.out (below_grown HB6.out _), grown_tr (grown_tr (grown_tr HGW.out (below_grown HB4.out _)) HG45.out) (below_grown HB6.out _)⟩
        case measure => have := HL60.out; simp [intOf]; omega
      · have q0 : ¬ (i : Int) < 60 := by omega
        go_wp2
        go_ret2
        exact ⟨a', n', c', L', by simp, ⟨HT.out.1, HT.out.2.1, HT.out.2.2, by have := HI.out; omega⟩, HGW⟩
    · go_wp2
      go_ret2
      exact ⟨a', n', c', L', by simp, ⟨HT.out.1, HT.out.2.1, HT.out.2.2, by have := HI.out; omega⟩, HGW⟩
end Go.Proofs.Ytnagknlfboadkaa.Oct

/- Layer 7 (tree): a call of both, the map and the list: Delete. -/
namespace Go.Proofs.Ytnagknlfboadkaa.Oct
open Go.RowKit

set_option maxRecDepth 100000 in
set_option maxHeartbeats 1000000 in
theorem play_del (w : World) (m : Nat) (a : Option Addr) (n cap : Nat) (L : List Pr) (k v : ByteArray) (N : Int) (hT : Tr w m L) (hR : RdP w a n L) (hC : Cap a n cap) (hn : L.length ≤ 90000) :
    Calls Try.prog 14 #[.pointer (some ⟨m, 0, none⟩), .slice a n cap, .agg #[.int .i64 1, .string k, .string v, .int .i64 N]] w (PlayP w m L) := by
  have hml := hT.lt
  have hnL : n = L.length := hR.1.symm
  have HQ : Hid (Tr w m L ∧ RdP w a n L ∧ Cap a n cap ∧ L.length ≤ 90000 ∧ n = L.length) := ⟨hT, hR, hC, hn, hnL⟩
  have HB1 : Hid (Below w.heap.size w (w.alloc (.cells #[.int .i64 1, .string k, .string v, .int .i64 N] 29))) := (Below.refl _ w).alloc (Nat.le_refl _) _
  have hbx := Blk.new w #[.int .i64 1, .string k, .string v, .int .i64 N] 29
  have HK : Hid (∀ W, (w.alloc (.cells #[.int .i64 1, .string k, .string v, .int .i64 N] 29)).grownBy W (some m) → W.cell? ⟨w.heap.size, 0, none⟩ = some (.int .i64 1) ∧ W.cell? ⟨w.heap.size, 1, none⟩ = some (.string k) ∧ W.cell? ⟨w.heap.size, 2, none⟩ = some (.string v)) := fun W hW =>
    ⟨hW.cell (hbx.cell (i := 0) rfl) (by simp; omega), hW.cell (hbx.cell (i := 1) rfl) (by simp; omega), hW.cell (hbx.cell (i := 2) rfl) (by simp; omega)⟩
  have d1 := hbx.cell (i := 1) rfl
  clear hT hR hC hn hnL hbx
  go_enter Try.func14, Try.ntmps14
  go_wp2_with fail
  obtain ⟨w1, hw1⟩ : ∃ w1, w.alloc (.cells #[.int .i64 1, .string k, .string v, .int .i64 N] 29) = w1 := ⟨_, rfl⟩
  rw [hw1] at HB1 HK d1 ⊢
  refine (rget_is w1 a n cap L k (HQ.out.2.1.below HB1.out (Nat.le_refl _)) HQ.out.1.ris (by have := HQ.out; omega)).mono ?_
  rintro e w2 ⟨rfl, HB2⟩
  have HG2 : Hid (w1.grownBy w2 (some m)) := below_grown HB2.out _
  have HW2 : Hid (Below w.heap.size w w2) := HB1.out.trans (HB2.out.mono HB1.out.size)
  obtain ⟨k0, k1, k2⟩ := HK.out w2 HG2.out
  have HG2d : Hid (w1.grownBy w2.drew (some m)) := below_grown HB2.out.drew _
  have HS1 : Hid (m < w1.heap.size) := by show _ < _; have := HB1.out.size; omega
  have H25 : Hid (Calls Try.prog 25 #[.slice a n cap, .string k] w2.drew (Rows w2.drew (remP L k))) := rdel_is w2.drew a n cap L k (HQ.out.2.1.below HW2.out.drew (Nat.le_refl _)) HQ.out.2.2.1 HQ.out.1.ris (by have := HQ.out; omega)
  generalize hE : (!(eqs k L).isEmpty) = E
  generalize gv (eqs k L) = V
  have HE : Hid ((!(eqs k L).isEmpty) = E) := hE
  clear d1 hE hw1
  go_wp2_with fail
  go_region_held_law (fun W => W.cell? ⟨w.heap.size, 1, none⟩ = some (.string k) ∧ W.cell? ⟨w.heap.size, 2, none⟩ = some (.string v))
    (first | with_reducible exact (HK.out _ HG2d.out).2 | with_reducible exact (HK.out _ HG3.out).2 | with_reducible exact (HK.out _ HG4.out).2)
    (first
    | (go_at_call 25; (with_reducible refine Calls.mono H25.out ?_); rintro e w3 ⟨a3, n3, cap3, rfl, HR3, hB3⟩; have HW3 : Hid (Below w.heap.size w w3) := HW2.out.drew.trans (hB3.out.mono HW2.out.size); have HG3 : Hid (w1.grownBy w3 (some m)) := grown_tr HG2d.out (below_grown hB3.out _); have H18 : Hid (Calls Try.prog 18 #[.pointer (some ⟨m, 0, none⟩), .string k] w3 fun e w' => e = .returned (.bool E) ∧ Hid (Tr w' m (remP L k)) ∧ Hid (w3.grownBy w' (some m))) := (by show Calls _ _ _ _ _; rw [← HE.out]; exact tdel w3 m L k (HQ.out.1.below HW3.out) (by have := HQ.out; omega)); clear hB3)
    | (go_at_call 18; (with_reducible refine Calls.mono H18.out ?_); rintro e w4 ⟨rfl, HT4, HG34⟩; have HG4 : Hid (w1.grownBy w4 (some m)) := grown_tr HG3.out HG34.out))
  go_wp2
  go_ret2
  refine ⟨a3, n3, cap3, remP L k, by simp, ⟨HT4.out, HR3.out.1.oth HG34.out (HQ.out.1.below HW3.out).oth, HR3.out.2, by have := rem_most HQ.out.1.ris k; omega⟩, grown_tr (below_grown HW3.out _) HG34.out⟩
end Go.Proofs.Ytnagknlfboadkaa.Oct

/- Layer 7 (tree): a call of both, the map and the list: Get. -/
namespace Go.Proofs.Ytnagknlfboadkaa.Oct
open Go.RowKit

set_option maxRecDepth 100000 in
set_option maxHeartbeats 1000000 in
theorem play_get (w : World) (m : Nat) (a : Option Addr) (n cap : Nat) (L : List Pr) (k v : ByteArray) (N K : Int) (h0 : ¬ K = 0) (h1 : ¬ K = 1) (h3 : ¬ K = 3) (h5 : ¬ K = 5) (h6 : ¬ K = 6) (hT : Tr w m L) (hR : RdP w a n L) (hC : Cap a n cap) (hn : L.length ≤ 90000) :
    Calls Try.prog 14 #[.pointer (some ⟨m, 0, none⟩), .slice a n cap, .agg #[.int .i64 K, .string k, .string v, .int .i64 N]] w (PlayP w m L) := by
  have hml := hT.lt
  have hnL : n = L.length := hR.1.symm
  have HQ : Hid (Tr w m L ∧ RdP w a n L ∧ Cap a n cap ∧ L.length ≤ 90000 ∧ n = L.length) := ⟨hT, hR, hC, hn, hnL⟩
  have HB1 : Hid (Below w.heap.size w (w.alloc (.cells #[.int .i64 K, .string k, .string v, .int .i64 N] 29))) := (Below.refl _ w).alloc (Nat.le_refl _) _
  have hbx := Blk.new w #[.int .i64 K, .string k, .string v, .int .i64 N] 29
  have HK : Hid (∀ W, (w.alloc (.cells #[.int .i64 K, .string k, .string v, .int .i64 N] 29)).grownBy W (some m) → W.cell? ⟨w.heap.size, 0, none⟩ = some (.int .i64 K) ∧ W.cell? ⟨w.heap.size, 1, none⟩ = some (.string k) ∧ W.cell? ⟨w.heap.size, 2, none⟩ = some (.string v)) := fun W hW =>
    ⟨hW.cell (hbx.cell (i := 0) rfl) (by simp; omega), hW.cell (hbx.cell (i := 1) rfl) (by simp; omega), hW.cell (hbx.cell (i := 2) rfl) (by simp; omega)⟩
  have d1 := hbx.cell (i := 1) rfl
  clear hT hR hC hn hnL hbx
  go_enter Try.func14, Try.ntmps14
  go_wp2_with fail
  obtain ⟨w1, hw1⟩ : ∃ w1, w.alloc (.cells #[.int .i64 K, .string k, .string v, .int .i64 N] 29) = w1 := ⟨_, rfl⟩
  rw [hw1] at HB1 HK d1 ⊢
  refine (rget_is w1 a n cap L k (HQ.out.2.1.below HB1.out (Nat.le_refl _)) HQ.out.1.ris (by have := HQ.out; omega)).mono ?_
  rintro e w2 ⟨rfl, HB2⟩
  have HG2 : Hid (w1.grownBy w2 (some m)) := below_grown HB2.out _
  have HW2 : Hid (Below w.heap.size w w2) := HB1.out.trans (HB2.out.mono HB1.out.size)
  obtain ⟨k0, k1, k2⟩ := HK.out w2 HG2.out
  generalize hE : (!(eqs k L).isEmpty) = E
  generalize hV : gv (eqs k L) = V
  have HE : Hid ((!(eqs k L).isEmpty) = E ∧ gv (eqs k L) = V) := ⟨hE, hV⟩
  have H21 : Hid (Calls Try.prog 21 #[.pointer (some ⟨m, 0, none⟩), .string k] w2 fun e w' => e = .returned (.tuple #[.string V, .bool E]) ∧ Hid (Below w2.heap.size w2 w')) := by
    show Calls _ _ _ _ _
    rw [← HE.out.1, ← HE.out.2]
    exact tget w2 m L k (HQ.out.1.below HW2.out)
  clear d1 hE hV hw1
  go_wp2_with (go_at_call 21; (with_reducible refine Calls.mono H21.out ?_); rintro e w3 ⟨rfl, HB3⟩)
  go_ret2
  have hB := HW2.out.trans (HB3.out.mono HW2.out.size)
  exact ⟨a, n, cap, L, by simp, ⟨HQ.out.1.below hB, HQ.out.2.1.below hB (Nat.le_refl _), HQ.out.2.2.1, by omega⟩, below_grown hB _⟩
end Go.Proofs.Ytnagknlfboadkaa.Oct

/- Layer 7 (tree): a call of both, the map and the list: Scan. -/
namespace Go.Proofs.Ytnagknlfboadkaa.Oct
open Go.RowKit

set_option maxRecDepth 100000 in
set_option maxHeartbeats 1000000 in
theorem play_scan (w : World) (m : Nat) (a : Option Addr) (n cap : Nat) (L : List Pr) (k v : ByteArray) (N : Int) (hT : Tr w m L) (hR : RdP w a n L) (hC : Cap a n cap) (hn : L.length ≤ 90000) :
    Calls Try.prog 14 #[.pointer (some ⟨m, 0, none⟩), .slice a n cap, .agg #[.int .i64 3, .string k, .string v, .int .i64 N]] w (PlayP w m L) := by
  have hml := hT.lt
  have hnL : n = L.length := hR.1.symm
  have HQ : Hid (Tr w m L ∧ RdP w a n L ∧ Cap a n cap ∧ L.length ≤ 90000 ∧ n = L.length) := ⟨hT, hR, hC, hn, hnL⟩
  have HB1 : Hid (Below w.heap.size w (w.alloc (.cells #[.int .i64 3, .string k, .string v, .int .i64 N] 29))) := (Below.refl _ w).alloc (Nat.le_refl _) _
  have hbx := Blk.new w #[.int .i64 3, .string k, .string v, .int .i64 N] 29
  have HK : Hid (∀ W, (w.alloc (.cells #[.int .i64 3, .string k, .string v, .int .i64 N] 29)).grownBy W (some m) → W.cell? ⟨w.heap.size, 0, none⟩ = some (.int .i64 3) ∧ W.cell? ⟨w.heap.size, 1, none⟩ = some (.string k) ∧ W.cell? ⟨w.heap.size, 2, none⟩ = some (.string v)) := fun W hW =>
    ⟨hW.cell (hbx.cell (i := 0) rfl) (by simp; omega), hW.cell (hbx.cell (i := 1) rfl) (by simp; omega), hW.cell (hbx.cell (i := 2) rfl) (by simp; omega)⟩
  have d1 := hbx.cell (i := 1) rfl
  clear hT hR hC hn hnL hbx
  go_enter Try.func14, Try.ntmps14
  go_wp2_with fail
  obtain ⟨w1, hw1⟩ : ∃ w1, w.alloc (.cells #[.int .i64 3, .string k, .string v, .int .i64 N] 29) = w1 := ⟨_, rfl⟩
  rw [hw1] at HB1 HK d1 ⊢
  refine (rget_is w1 a n cap L k (HQ.out.2.1.below HB1.out (Nat.le_refl _)) HQ.out.1.ris (by have := HQ.out; omega)).mono ?_
  rintro e w2 ⟨rfl, HB2⟩
  have HG2 : Hid (w1.grownBy w2 (some m)) := below_grown HB2.out _
  have HW2 : Hid (Below w.heap.size w w2) := HB1.out.trans (HB2.out.mono HB1.out.size)
  obtain ⟨k0, k1, k2⟩ := HK.out w2 HG2.out
  have HG2d : Hid (w1.grownBy w2.drew (some m)) := below_grown HB2.out.drew _
  have HS1 : Hid (m < w1.heap.size) := by show _ < _; have := HB1.out.size; omega
  have H13 : Hid (Calls Try.prog 13 #[.pointer (some ⟨m, 0, none⟩), .string k, .string v] w2.drew fun e w' => ∃ (a' : Option Addr) (n' c' : Nat), e = .returned (.slice a' n' c') ∧ Hid (RdP w' a' n' (L.filter (inS k v)) ∧ n' ≤ 90000) ∧ Hid (Below w2.drew.heap.size w2.drew w')) := by
    refine Calls.mono (told_all w2.drew m L k v (HQ.out.1.below HW2.out.drew) (by have := HQ.out; omega)) ?_
    rintro e w' ⟨u, rfl, hO, hB⟩
    have hO2 : Bs 40 2 w2.drew.heap.size w' u (scanT k v L).length ((scanT k v L).flatMap pc) := .inr ⟨fun u hu => by
      obtain ⟨x, _, hx⟩ := List.mem_flatMap.1 hu
      simp only [pc, List.mem_cons, List.not_mem_nil, or_false] at hx
      rcases hx with rfl | rfl <;> rfl, hO.out⟩
    obtain ⟨a', c', rfl, _, h2, _⟩ := hO2.read
    refine ⟨a', _, c', rfl, ⟨?_, ?_⟩, hB⟩
    · rw [← scanT_is HQ.out.1.ris]; exact h2.toP
    · rw [scanT_is HQ.out.1.ris]; have := List.length_filter_le (inS k v) L; have := HQ.out.2.2.2.1; omega
  clear d1 hw1
  go_wp2_with fail
  go_region_held_law (fun W => W.cell? ⟨w.heap.size, 1, none⟩ = some (.string k) ∧ W.cell? ⟨w.heap.size, 2, none⟩ = some (.string v))
    (first | with_reducible exact (HK.out _ HG2d.out).2 | with_reducible exact (HK.out _ HG3.out).2 | with_reducible exact (HK.out _ HG4.out).2 | with_reducible exact (HK.out _ HG5.out).2)
    (first
    | (go_at_call 13; (with_reducible refine Calls.mono H13.out ?_); rintro e w3 ⟨a3, n3, cap3, rfl, HR3, hB3⟩; have HW3 : Hid (Below w.heap.size w w3) := HW2.out.drew.trans (hB3.out.mono HW2.out.size); have HG3 : Hid (w1.grownBy w3 (some m)) := grown_tr HG2d.out (below_grown hB3.out _); have H16 : Hid (Calls Try.prog 16 #[.slice a n cap, .string k, .string v] w3 (Rows w3 (L.filter (inS k v)))) := rscan_is w3 a n cap L k v (HQ.out.2.1.below HW3.out (Nat.le_refl _)) (by have := HQ.out; omega); clear hB3)
    | (go_at_call 16; (with_reducible refine Calls.mono H16.out ?_); rintro e w4 ⟨a4, n4, cap4, rfl, HR4, hB4⟩; have HW4 : Hid (Below w.heap.size w w4) := HW3.out.trans (hB4.out.mono HW3.out.size); have HG4 : Hid (w1.grownBy w4 (some m)) := grown_tr HG3.out (below_grown hB4.out _); have H12 : Hid (Calls Try.prog 12 #[.slice a3 n3 cap3, .slice a4 n4 cap4] w4 fun e w' => e = .returned (.bool true) ∧ Hid (Below w4.heap.size w4 w')) := (by show Calls _ _ _ _ _; rw [← sameP_yes (rfl : L.filter (inS k v) = L.filter (inS k v))]; exact same_any w4 a3 n3 cap3 _ a4 n4 cap4 _ (HR3.out.1.below hB4.out (Nat.le_refl _)) HR4.out.1 (by have := HR3.out.2; omega) (by have := HR4.out.1.1; have := HR3.out.1.1; have := HR3.out.2; omega)); clear hB4)
    | (go_at_call 12; (with_reducible refine Calls.mono H12.out ?_); rintro e w5 ⟨rfl, hB5⟩; have HW5 : Hid (Below w.heap.size w w5) := HW4.out.trans (hB5.out.mono HW4.out.size); have HG5 : Hid (w1.grownBy w5 (some m)) := grown_tr HG4.out (below_grown hB5.out _); clear hB5))
  go_wp2
  go_ret2
  exact ⟨a, n, cap, L, by simp, ⟨HQ.out.1.below HW5.out, HQ.out.2.1.below HW5.out (Nat.le_refl _), HQ.out.2.2.1, by omega⟩, below_grown HW5.out _⟩
end Go.Proofs.Ytnagknlfboadkaa.Oct

/- Layer 7 (tree): the laws' lists of calls among their arguments, as the walks take them. -/
namespace Go.Proofs.Ytnagknlfboadkaa.Oct
open Go.RowKit Go.ChangeShapes Go.WideShapes Go.ChangeAt Go.Deep

/-- a call, told -/
structure ActV where
  kind : Int
  key : ByteArray
  val : ByteArray
  n : Int

instance : Inhabited ActV := ⟨⟨0, ⟨#[]⟩, ⟨#[]⟩, 0⟩⟩

/-- a call at its place in memory -/
def ActAt (w : World) (b off : Nat) (x : ActV) : Prop :=
  w.cell? ⟨b, off, none⟩ = some (.int .i64 x.kind) ∧ w.cell? ⟨b, off + 1, none⟩ = some (.string x.key) ∧ w.cell? ⟨b, off + 2, none⟩ = some (.string x.val) ∧ w.cell? ⟨b, off + 3, none⟩ = some (.int .i64 x.n) ∧ x.key.size ≤ 140737488355328 ∧ x.val.size ≤ 140737488355328
theorem ActAt.below {w w' : World} {b off : Nat} {x : ActV} (h : ActAt w b off x) (hb : Below w.heap.size w w') (hl : b < w.heap.size) : ActAt w' b off x :=
  ⟨(hb.cell (p := ⟨b, off, none⟩) hl).trans h.1, (hb.cell (p := ⟨b, off + 1, none⟩) hl).trans h.2.1, (hb.cell (p := ⟨b, off + 2, none⟩) hl).trans h.2.2.1, (hb.cell (p := ⟨b, off + 3, none⟩) hl).trans h.2.2.2.1, h.2.2.2.2⟩

/-- a list of calls that came in -/
def ArgA (w : World) (a : Option Addr) (len cap : Nat) (l : List ActV) : Prop :=
  l.length = len ∧ len ≤ cap ∧ cap ≤ maxLen ∧ (0 < len → ∃ b off, a = some ⟨b, off, none⟩ ∧ b < w.heap.size ∧ ∀ i x, l[i]? = some x → ActAt w b (off + i * 4) x)
theorem ArgA.nil (w : World) : ArgA w none 0 0 [] := ⟨rfl, Nat.le_refl _, by unfold maxLen; omega, fun h => absurd h (by omega)⟩
theorem ArgA.below {w w' : World} {a : Option Addr} {len cap : Nat} {l : List ActV} (h : ArgA w a len cap l) (hb : Below w.heap.size w w') : ArgA w' a len cap l := by
  obtain ⟨h1, h2, h3, h5⟩ := h
  refine ⟨h1, h2, h3, fun hp => ?_⟩
  obtain ⟨b, off, e1, e2, e3⟩ := h5 hp
  exact ⟨b, off, e1, Nat.lt_of_lt_of_le e2 hb.size, fun i x hx => (e3 i x hx).below hb e2⟩

section
variable {H : Type} {enc : TypeId × Value → H} {w : World}

theorem mem_weightsAll {P : Program} {e : TypeId} {d : DataW H} {n : Nat} (hn : n ∈ d.weights P e) : ∀ {ds : List (DataW H)}, d ∈ ds → n ∈ DataW.weightsAll P e ds
  | [], h => by cases h
  | d0 :: r, h => by
    simp only [DataW.weightsAll, List.mem_append]
    rcases List.mem_cons.1 h with rfl | h
    · exact .inl hn
    · exact .inr (mem_weightsAll hn h)
theorem four {α : Type} {l : List α} (h : l.length = 4) : ∃ a b c d, l = [a, b, c, d] := by
  rcases l with _ | ⟨a, _ | ⟨b, _ | ⟨c, _ | ⟨d, _ | ⟨f, l⟩⟩⟩⟩⟩ <;> simp at h
  exact ⟨a, b, c, d, rfl⟩
/-- a string in a field -/
theorem field_str {n : Nat} {v : Value} {x : DataW H × List MemPlace} (h : DataW.trod enc Try.prog w 0 (fun _ => true) true n 9 [v] = some x) (hx : ∀ k ∈ x.1.weights Try.prog 9, k ≤ reachBytes) :
    ∃ s : ByteArray, v = .string s ∧ s.size ≤ 140737488355328 := by
  obtain ⟨s, hs, hd, _⟩ := DataW.trod_string Try.underlying9 h
  refine ⟨s, by simpa using hs, ?_⟩
  have hmem : s.size ∈ x.1.weights Try.prog 9 := by
    rw [hd]
    simp [DataW.weights]
  have := hx _ hmem
  simp only [reachBytes] at this
  omega

/-- a list of calls that was read -/
theorem view_acts {fuel : Nat} {a : Option Addr} {len cap : Nat} {x : DataW H × List MemPlace} (h : DataW.trod enc Try.prog w 0 (fun _ => true) true fuel 22 (Value.slice a len cap).cells.toList = some x) (hx : ∀ n ∈ x.1.weights Try.prog 22, n ≤ reachBytes) :
    ∃ l, ArgA w a len cap l := by
  rcases open_slice Try.underlying22 h with ⟨hcs, _⟩ | ⟨ad, l, c, m, n, D, Pl, hcs, _, hl, hm, hmm, hd, hr⟩
  · simp [Value.cells] at hcs
    obtain ⟨rfl, rfl, rfl⟩ := hcs
    exact ⟨[], ArgA.nil w⟩
  · simp [Value.cells] at hcs
    obtain ⟨rfl, rfl, rfl⟩ := hcs
    simp at hmm
    have ce : Try.prog.cellsOf 29 = 4 := by kernel_rfl
    rw [ce] at hr
    have hsp : 0 < len → ad.spot = none := fun hp => by
      obtain ⟨cs, h1, _⟩ := hr 0 (by omega)
      obtain ⟨_, hlen, hcell⟩ := World.cells?_some h1
      have h0 := hcell 0 (by omega)
      rw [List.getElem?_eq_getElem (by omega)] at h0
      have := World.cell?_spot h0
      simpa [Addr.add] using this
    have each : ∀ i, i < len → ∃ x : ActV, ∃ b off, ad = ⟨b, off, none⟩ ∧ b < w.heap.size ∧ ActAt w b (off + i * 4) x := by
      intro i hi
      obtain ⟨cs, h1, h2⟩ := hr i (by omega)
      obtain ⟨_, hlen, hcell⟩ := World.cells?_some h1
      obtain ⟨xs, k, hk, hxy, _, hxl, hf⟩ := DataW.trod_struct Try.underlying29 h2
      have hxl' : xs.length = 4 := hxl
      obtain ⟨y0, y1, y2, y3, rfl⟩ := four hxl'
      obtain ⟨v0, v1, v2, v3, rfl⟩ := four hlen
      have g0 := hf 0 _ rfl
      have g1 := hf 1 _ rfl
      have g2 := hf 2 _ rfl
      have g3 := hf 3 _ rfl
      have q3 : Try.prog.cellsOf 3 = 1 := by kernel_rfl
      have q9 : Try.prog.cellsOf 9 = 1 := by kernel_rfl
      change DataW.trod enc Try.prog w 0 _ true k 3 (([v0, v1, v2, v3].drop 0).take (Try.prog.cellsOf 3)) = some y0 at g0
      change DataW.trod enc Try.prog w 0 _ true k 9 (([v0, v1, v2, v3].drop 1).take (Try.prog.cellsOf 9)) = some y1 at g1
      change DataW.trod enc Try.prog w 0 _ true k 9 (([v0, v1, v2, v3].drop 2).take (Try.prog.cellsOf 9)) = some y2 at g2
      change DataW.trod enc Try.prog w 0 _ true k 3 (([v0, v1, v2, v3].drop 3).take (Try.prog.cellsOf 3)) = some y3 at g3
      rw [q3] at g0 g3
      rw [q9] at g1 g2
      simp only [List.drop, List.take] at g0 g1 g2 g3
      have e0 := hcell 0 (by omega)
      have e1 := hcell 1 (by omega)
      have e2 := hcell 2 (by omega)
      have e3 := hcell 3 (by omega)
      have hD : D i = .agg [y0.1, y1.1, y2.1, y3.1] := (Prod.mk.inj hxy).1
      have hmem : ∀ q ∈ (D i).weights Try.prog 29, q ≤ reachBytes := fun q hq => by
        refine hx q ?_
        rw [hd]
        simp only [DataW.weights, Try.underlying22]
        exact List.mem_cons.2 (.inr (List.mem_append.2 (.inl (mem_weightsAll hq (List.mem_map.2 ⟨i, List.mem_range.2 hi, rfl⟩)))))
      rw [hD] at hmem
      simp only [DataW.weights, Try.underlying29, List.map, DataW.weightsEach, List.mem_append] at hmem
      obtain ⟨k0, hv0, _, _⟩ := DataW.trod_int Try.underlying3 g0
      obtain ⟨s1, hv1, hs1⟩ := field_str g1 (fun q hq => hmem q (.inr (.inl hq)))
      obtain ⟨s2, hv2, hs2⟩ := field_str g2 (fun q hq => hmem q (.inr (.inr (.inl hq))))
      obtain ⟨k3, hv3, _, _⟩ := DataW.trod_int Try.underlying3 g3
      simp at hv0 hv3
      subst hv0 hv1 hv2 hv3
      obtain ⟨b, off, spot⟩ := ad
      have hspot : spot = none := hsp (by omega)
      subst hspot
      rw [Addr.add_lit, Addr.add_lit] at e0 e1 e2 e3
      refine ⟨⟨k0, s1, s2, k3⟩, b, off, rfl, ?_, by simpa using e0, by simpa using e1, by simpa using e2, by simpa using e3, hs1, hs2⟩
      have := World.block_lt_of_cell? w _ e0
      simpa using this
    obtain ⟨G, hG⟩ := choose_lt (p := fun i x => ∃ b off, ad = ⟨b, off, none⟩ ∧ b < w.heap.size ∧ ActAt w b (off + i * 4) x) each
    refine ⟨(List.range len).map G, by simp, hl, hm, fun hp => ?_⟩
    obtain ⟨b, off, e1, e2, _⟩ := hG 0 hp
    refine ⟨b, off, by rw [e1], e2, fun i x hi => ?_⟩
    have hlt : i < len := by
      have := (List.getElem?_eq_some_iff.1 hi).1
      simpa using this
    have e : G i = x := by simpa [List.getElem?_map, List.getElem?_range hlt] using hi
    subst e
    obtain ⟨b', off', f1, _, f3⟩ := hG i hlt
    rw [e1] at f1
    cases f1
    exact f3
end

/-- a call of both, whatever it is -/
theorem play_is (w : World) (m : Nat) (a : Option Addr) (n cap : Nat) (L : List Pr) (x : ActV) (hT : Tr w m L) (hR : RdP w a n L) (hC : Cap a n cap) (hk : x.key.size ≤ 100000) (hn : L.length ≤ 90000) :
    Calls Try.prog 14 #[.pointer (some ⟨m, 0, none⟩), .slice a n cap, .agg #[.int .i64 x.kind, .string x.key, .string x.val, .int .i64 x.n]] w (PlayP w m L) := by
  obtain ⟨K, k, v, N⟩ := x
  by_cases h0 : K = 0
  · subst h0; exact play_put w m a n cap L k v N hT hR hC hn
  by_cases h1 : K = 1
  · subst h1; exact play_del w m a n cap L k v N hT hR hC hn
  by_cases h3 : K = 3
  · subst h3; exact play_scan w m a n cap L k v N hT hR hC hn
  by_cases h5 : K = 5
  · subst h5; exact play_puts w m a n cap L k v N hT hR hC hk hn
  by_cases h6 : K = 6
  · subst h6; exact play_dels w m a n cap L k v N hT hR hC hk hn
  · exact play_get w m a n cap L k v N K h0 h1 h3 h5 h6 hT hR hC hn
end Go.Proofs.Ytnagknlfboadkaa.Oct

/- Layer 7 (tree): are calls few enough? -/
namespace Go.Proofs.Ytnagknlfboadkaa.Oct
open Go.RowKit

/-- what 'few' answers -/
def FewP (w : World) (len : Nat) (l : List ActV) (e : Ending) (w' : World) : Prop := ∃ b : Bool, e = .returned (.bool b) ∧ Hid (b = true → len ≤ 400 ∧ ∀ x ∈ l, x.key.size ≤ 100000) ∧ Hid (Below w.heap.size w w')

set_option maxRecDepth 100000 in
set_option maxHeartbeats 1000000 in
theorem few_is (w : World) (a : Option Addr) (len cap : Nat) (l : List ActV) (h : ArgA w a len cap l) :
    Calls Try.prog 8 #[.slice a len cap] w (FewP w len l) := by
  have HA : Hid (ArgA w a len cap l) := h
  clear h
  go_enter Try.func8, Try.ntmps8
  go_wp2
  go_loopw [8, 3] (fun u s wr => ∃ (i t : Nat), u = .int .i64 (i : Int) ∧ s = .int .i64 (t : Int) ∧ Hid (i ≤ len ∧ i ≤ t ∧ t ≤ 400 ∧ ∀ j x, j < i → l[j]? = some x → x.key.size ≤ 100000) ∧ Hid (Below w.heap.size w wr)) (fun u _ _ => len - (intOf u).toNat)
  case atStart => exact ⟨0, 0, rfl, rfl, ⟨Nat.zero_le _, Nat.le_refl _, by omega, fun j x hj => absurd hj (by omega)⟩, Below.refl _ _⟩
  case round =>
    obtain ⟨i, t, rfl, rfl, HI, HB⟩ := hrel
    by_cases hi : i < len
    · obtain ⟨x, hx⟩ : ∃ x, l[i]? = some x := ⟨_, List.getElem?_eq_getElem (by rw [HA.out.1]; exact hi)⟩
      obtain ⟨b, off, rfl, hbl, hat⟩ := HA.out.2.2.2 (by omega)
      obtain ⟨c0, c1, c2, c3, s1, s2⟩ := (hat i x hx)
      have d0 := (HB.out.cell (p := ⟨b, off + i * 4, none⟩) hbl).trans c0
      have d1 := (HB.out.cell (p := ⟨b, off + i * 4 + 1, none⟩) hbl).trans c1
      have d2 := (HB.out.cell (p := ⟨b, off + i * 4 + 2, none⟩) hbl).trans c2
      have d3 := (HB.out.cell (p := ⟨b, off + i * 4 + 3, none⟩) hbl).trans c3
      have HX : Hid (l[i]? = some x ∧ i < len) := ⟨hx, hi⟩
      have q1 : (i : Int) < (len : Int) := by omega
      have q2 : (t : Int) ≤ 400 := by have := HI.out; omega
      have q3 : (x.key.size : Int) ≤ 140737488355328 := by omega
      have q4 : (x.val.size : Int) ≤ 140737488355328 := by omega
      have q5 : (len : Int) ≤ 9223372036854775807 := by have h1 := HA.out.2.1; have h2 := HA.out.2.2.1; unfold maxLen at h2; omega
      clear c0 c1 c2 c3 hat hx hi hbl s1 s2
      obtain ⟨kind, key, val, nn⟩ := x
      dsimp only at d0 d1 d2 d3 q3 q4
      obtain ⟨kl, hkl⟩ : ∃ kl, key.size = kl := ⟨_, rfl⟩
      obtain ⟨vl, hvl⟩ : ∃ vl, val.size = vl := ⟨_, rfl⟩
      rw [hkl] at q3
      rw [hvl] at q4
      by_cases hs : t + (1 + (kl + vl) / 50) ≤ 400
      · have q6 : ¬ (t : Int) + (1 + ((kl : Int) + (vl : Int)) / 50) > 400 := by omega
        have q7 : ¬ 400 < (t : Int) + (1 + ((kl : Int) + (vl : Int)) / 50) := by omega
        have HS : Hid (t + (1 + (kl + vl) / 50) ≤ 400 ∧ key.size = kl) := ⟨hs, hkl⟩
        go_wp2
        go_roundw
        case rel =>
          refine ⟨i + 1, t + (1 + (kl + vl) / 50), by simp, by simp, ⟨HX.out.2, by have := HI.out; omega, HS.out.1, fun j x hj hx => ?_⟩, HB.out.alloc HB.out.size _⟩
          by_cases hji : j = i
          · subst hji
            rw [HX.out.1] at hx
            cases hx
            show key.size ≤ _
            have := HS.out; omega
          · exact HI.out.2.2.2 j x (by omega) hx
        case measure => have := HX.out; simp [intOf]; omega
      · have q6 : 400 < (t : Int) + (1 + ((kl : Int) + (vl : Int)) / 50) := by omega
        go_wp2
        go_ret
        exact ⟨false, rfl, (fun h => by cases h), HB.out.alloc HB.out.size _⟩
    · have q1 : ¬ (i : Int) < (len : Int) := by omega
      go_wp2
      go_ret
      refine ⟨true, rfl, (fun _ => ⟨by have := HI.out; omega, fun x hx => ?_⟩), HB⟩
      obtain ⟨j, hj, rfl⟩ := List.mem_iff_getElem.1 hx
      exact HI.out.2.2.2 j _ (by rw [HA.out.1] at hj; omega) (List.getElem?_eq_getElem hj)
end Go.Proofs.Ytnagknlfboadkaa.Oct
