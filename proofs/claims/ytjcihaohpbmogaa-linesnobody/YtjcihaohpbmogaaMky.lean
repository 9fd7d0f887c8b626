/-
  Layer 11 (lines): vertices and hashes as keys of maps.
-/
import Derived.Test.YtjcihaohpbmogaaMp
import Derived.Test.YtjcihaohpbmogaaVtx
import Derived.DeepKeys5
namespace Go.Proofs.Ytjcihaohpbmogaa.Oct
open Go.RowKit Go.WideMaps Go.ChangeMaps Go.MapKept
set_option maxRecDepth 100000
set_option linter.unusedSimpArgs false

theorem arr32 : ArrKey Try.prog 32 5 32 := ⟨Try.underlying32, by kernel_rfl, by kernel_rfl, by kernel_rfl⟩
theorem law32 : KeyLaw Try.prog 32 := arr32.law
theorem size_types : Try.prog.types.size = 172 := by kernel_rfl
theorem law34 : KeyLaw Try.prog 34 := deep_law_gate (by kernel_rfl) (by rw [size_types]; decide) (by rw [size_types]; decide) (by kernel_rfl) (by kernel_rfl)
theorem wf_u8 (c : UInt8) : (Lit.int .u8 (c.toNat : Int)).wf = true := by
  have := c.toNat_lt
  simp [Lit.wf, IntKind.min, IntKind.max, IntKind.signed, IntKind.bits]; omega
theorem mapM_some {α β : Type} {f : α → Option β} : ∀ (l : List α), (∀ x ∈ l, ∃ y, f x = some y) → ∃ ys, l.mapM f = some ys
  | [], _ => ⟨[], rfl⟩
  | x :: l, h => by
    obtain ⟨y, hy⟩ := h x (by simp)
    obtain ⟨ys, hys⟩ := mapM_some l (fun z hz => h z (by simp [hz]))
    exact ⟨y :: ys, by simp [List.mapM_cons, hy, hys]⟩
theorem lits32 (d : Nat) (h : Hs) (hl : h.length = 32) : ∃ ls, Try.prog.keyLits (d + 2) 32 (U h) = some ls := by
  unfold Program.keyLits
  rw [Try.underlying32]
  simp only [U_length, hl, show Try.prog.cellsOf 32 = 32 by kernel_rfl, show Try.prog.cellsOf 5 = 1 by kernel_rfl, if_true, Nat.mul_one]
  obtain ⟨ys, hys⟩ := mapM_some (f := fun i => Try.prog.keyLits (d + 1) 5 (((U h).drop i).take 1)) (List.range 32) (by
    intro i hi
    rw [List.mem_range] at hi
    have e : ((U h).drop i).take 1 = [.int .u8 (h[i].toNat : Int)] := by
      rw [List.drop_eq_getElem_cons (by rw [U_length]; omega)]
      simp [U]
    rw [e]
    unfold Program.keyLits
    rw [Try.underlying5]
    simp [wf_u8])
  exact ⟨ys.flatten, by rw [hys]; rfl⟩
theorem has32 (h : Hs) (hl : h.length = 32) : ∃ l, keyOf Try.prog 32 (hv h) = some l := by
  have hk : Try.prog.keyType 32 = true := by kernel_rfl
  have hf : (hv h).formed Try.prog 32 = true := by
    simp [Value.formed, hv, Try.underlying32, U_length, hl, show Try.prog.cellsOf 32 = 32 by kernel_rfl]
  have hts : Try.prog.types.size + 1 = 171 + 2 := by kernel_rfl
  obtain ⟨ls, hls⟩ := lits32 171 h hl
  unfold keyOf
  rw [Try.underlying32]
  simp only [hk, hf, hts, Bool.and_self, if_true]
  have e : (hv h).cells.toList = U h := by simp [hv, Value.cells]
  rw [e, hls]
  exact ⟨_, rfl⟩
#print axioms has32
/-- a vertex that can be in memory -/
def Vk (v : Vx) : Prop := v.ok ∧ (Lit.int .i64 v.n).wf = true
def vv (v : Vx) : Value := .agg v.cells.toArray
theorem vv_inj {a b : Vx} (h : vv a = vv b) : a = b := by
  have e : a.cells = b.cells := by simpa [vv] using h
  unfold Vx.cells at e
  have h1 := List.append_inj_left' e rfl
  have h2 := List.append_inj_right' e rfl
  have h3 := U_inj h1
  simp at h2
  cases a; cases b; simp_all
theorem has34 (v : Vx) (hv : Vk v) : ∃ l, keyOf Try.prog 34 (vv v) = some l := by
  have hk : Try.prog.keyType 34 = true := by kernel_rfl
  have hf : (vv v).formed Try.prog 34 = true := by
    have := Vx.len hv.1
    obtain ⟨fs, hfs⟩ : ∃ fs, Try.prog.underlying 34 = some (.struct fs) := ⟨_, Try.underlying34⟩
    simp [Value.formed, vv, hfs, this, show Try.prog.cellsOf 34 = 33 by kernel_rfl]
  have hts : Try.prog.types.size + 1 = 171 + 2 := by kernel_rfl
  obtain ⟨ls, hls⟩ := lits32 170 v.h hv.1
  obtain ⟨fs, hfs⟩ : ∃ fs, Try.prog.underlying 34 = some (.struct fs) := ⟨_, Try.underlying34⟩
  have hff : fs.toList.map (fun f => (f.name, f.type, f.offset)) = [("Patch", 32, 0), ("Line", 3, 32)] := by
    have h := fields34
    unfold Program.fieldsOf at h
    rw [hfs] at h
    exact h
  have hbl : (fs.all fun x => x.name != "_") = true := by
    rw [← Array.all_toList]
    have : (fs.toList.all fun x => x.name != "_") = ((fs.toList.map (fun f => (f.name, f.type, f.offset))).all fun x => x.1 != "_") := by rw [List.all_map]; rfl
    rw [this, hff]
    rfl
  have e34 : ∀ cs : List Value, cs.length = 33 → Try.prog.keyLits (171 + 2) 34 cs = ([("Patch", 32, 0), ("Line", 3, 32)].mapM fun x : String × Nat × Nat => Try.prog.keyLits (170 + 2) x.2.1 ((cs.drop x.2.2).take (Try.prog.cellsOf x.2.1))).map List.flatten := fun cs hcs => by
    rw [← hff, List.mapM_map]
    show Try.prog.keyLits (172 + 1) 34 cs = _
    conv => lhs; unfold Program.keyLits
    rw [hfs]
    simp only [hcs, show Try.prog.cellsOf 34 = 33 by kernel_rfl, hbl, and_self, if_true]
    rfl
  unfold keyOf
  rw [Try.underlying34]
  simp only [hk, hf, hts, Bool.and_self, if_true]
  have e : (vv v).cells.toList = v.cells := by simp [vv, Value.cells]
  have e3 : (v.cells.drop 32).take 1 = [.int .i64 v.n] := by
    unfold Vx.cells
    rw [List.drop_append_of_le_length (by rw [U_length, hv.1]; exact Nat.le_refl _), List.drop_of_length_le (by rw [U_length, hv.1]; exact Nat.le_refl _)]
    rfl
  have e4 : Try.prog.keyLits (170 + 2) 3 [.int .i64 v.n] = some [.int .i64 v.n] := by
    unfold Program.keyLits
    rw [Try.underlying3]
    simp [hv.2]
  rw [e, e34 _ (Vx.len hv.1)]
  simp only [List.mapM_cons, List.mapM_nil, List.drop_zero, show Try.prog.cellsOf 32 = 32 by kernel_rfl, show Try.prog.cellsOf 3 = 1 by kernel_rfl, Vx.hash hv.1, hls, e3, e4]
  exact ⟨_, rfl⟩
#print axioms has34
instance mkV : MK Vx := ⟨34, vv, Vk, law34, has34, vv_inj⟩
instance mkH : MK Hs := ⟨32, hv, fun h => h.length = 32, law32, has32, hv_inj⟩
instance decV : DecidableEq Vx := fun a b => if h : a.h = b.h ∧ a.n = b.n then isTrue (by cases a; cases b; simp_all) else isFalse (fun e => h (by rw [e]; exact ⟨rfl, rfl⟩))
end Go.Proofs.Ytjcihaohpbmogaa.Oct
