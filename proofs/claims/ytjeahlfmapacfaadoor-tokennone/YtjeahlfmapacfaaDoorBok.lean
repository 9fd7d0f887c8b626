/-
  Layer 16 (token): a book in memory; what a text stands for.
-/
import Derived.Test.YtjeahlfmapacfaaDoorWro
import Derived.Test.YtjeahlfmapacfaaDoorCon
import Derived.Lib.IndexLaws
namespace Go.Proofs.YtjeahlfmapacfaaDoor.Oct
open Go.RowKit Sha
set_option linter.unusedSimpArgs false
set_option linter.unusedVariables false

theorem Blk.range0 {w : World} {b : Nat} {t : TypeId} {L : List Value} (h : Blk w b t L) : w.rangeAt b 0 L := fun j v hj => by rw [Nat.zero_add]; exact h.cell hj
structure Gr where
  u : BA
  t : Nat
  bk : Bool
def Gr.cells (g : Gr) : List Value := [.string g.u, iv (g.t : Int), .bool g.bk]
theorem Gr.one (g : Gr) : ∀ v ∈ g.cells, v.oneCell' = true := by
  intro v hv
  simp only [Gr.cells, List.mem_cons, List.not_mem_nil, or_false] at hv
  rcases hv with rfl | rfl | rfl <;> rfl
def Gr.ok (g : Gr) : Prop := g.u.size ≤ 15000 ∧ g.t ≤ 1099511627776
def g0 : Gr := ⟨e0, 0, false⟩
theorem size64 (g : Gr) : (Tryd.prog.info? 64).map (·.size) = some g.cells.length := by kernel_rfl
theorem zero64 (W : World) : (zeroValue 64).run Tryd.prog W = .ok (.agg #[.string e0, iv 0, .bool false]) W := by kernel_rfl
def keyG (S : List UInt8) (k : Nat) (g : Gr) : List UInt8 := txtT S (k + 1) g.u.data.toList g.t
/-- what a book's map holds -/
def kvs (S : List UInt8) : Nat → List Gr → Kv
  | _, [] => []
  | k, g :: r => (keyG S k g, .agg g.cells.toArray) :: kvs S (k + 1) r
/-- what a text stands for -/
def atF (S : List UInt8) : Nat → List Gr → List UInt8 → Option Gr
  | _, [], _ => none
  | k, g :: r, h => if keyG S k g = h then some g else atF S (k + 1) r h
/-- taken back -/
def revF (S : List UInt8) : Nat → List Gr → List UInt8 → List Gr
  | _, [], _ => []
  | k, g :: r, h => if keyG S k g = h then { g with bk := true } :: r else g :: revF S (k + 1) r h
theorem kvs_get (S h : List UInt8) : ∀ (k : Nat) (G : List Gr), kget (kvs S k G) h = (atF S k G h).map fun g => .agg g.cells.toArray
  | k, [] => rfl
  | k, g :: r => by
    have ih := kvs_get S h (k + 1) r
    unfold kvs atF kget
    by_cases e : keyG S k g = h
    · rw [List.find?_cons_of_pos (by simpa using e), if_pos e]; rfl
    · rw [List.find?_cons_of_neg (by simpa using e), if_neg e]
      exact ih
theorem kvs_len (S : List UInt8) : ∀ (k : Nat) (G : List Gr), (kvs S k G).length = G.length
  | _, [] => rfl
  | k, g :: r => by unfold kvs; rw [List.length_cons, kvs_len S (k + 1) r, List.length_cons]
theorem kvs_app (S : List UInt8) : ∀ (k : Nat) (G H : List Gr), kvs S k (G ++ H) = kvs S k G ++ kvs S (k + G.length) H
  | _, [], H => rfl
  | k, g :: r, H => by
    show (keyG S k g, _) :: kvs S (k + 1) (r ++ H) = (keyG S k g, _) :: (kvs S (k + 1) r ++ _)
    rw [kvs_app S (k + 1) r H, List.length_cons, show k + 1 + r.length = k + (r.length + 1) by omega]
/-- numbers have no points, and unlike ones are unlike -/
theorem dec_no : ∀ (m u : Nat), u ≤ m → (46 : UInt8) ∉ Lib.decDigits u
  | m, u, h => by
    by_cases h1 : u < 10
    · rw [dec_small h1]
      intro h2
      have h3 := List.mem_singleton.1 h2
      have h4 : (46 : UInt8).toNat = (UInt8.ofNat (48 + u)).toNat := by rw [← h3]
      rw [UInt8.toNat_ofNat', Nat.mod_eq_of_lt (by omega)] at h4
      have h5 : (46 : UInt8).toNat = 46 := rfl
      omega
    · match m, h with
      | 0, h => omega
      | m + 1, h =>
        rw [dec_big h1]
        intro h2
        rcases List.mem_append.1 h2 with h2 | h2
        · exact dec_no m (u / 10) (by omega) h2
        · exact dec_no m (u % 10) (by omega) h2
def decV (l : List UInt8) : Nat := l.foldl (fun a c => 10 * a + (c.toNat - 48)) 0
theorem dec_v : ∀ (m u : Nat), u ≤ m → decV (Lib.decDigits u) = u
  | m, u, h => by
    by_cases h1 : u < 10
    · rw [dec_small h1]
      show 10 * 0 + ((UInt8.ofNat (48 + u)).toNat - 48) = u
      rw [UInt8.toNat_ofNat', Nat.mod_eq_of_lt (by omega)]
      omega
    · match m, h with
      | 0, h => omega
      | m + 1, h =>
        have ih := dec_v m (u / 10) (by omega)
        rw [dec_big h1, dec_small (u := u % 10) (by omega)]
        unfold decV at ih ⊢
        rw [List.foldl_append, ih]
        show 10 * (u / 10) + ((UInt8.ofNat (48 + u % 10)).toNat - 48) = u
        rw [UInt8.toNat_ofNat', Nat.mod_eq_of_lt (by omega)]
        omega
theorem dec_inj {k j : Nat} (h : Lib.decDigits k = Lib.decDigits j) : k = j := by
  have h1 := dec_v k k (Nat.le_refl _)
  rw [h, dec_v j j (Nat.le_refl _)] at h1
  exact h1.symm
theorem split_pt {a b c d : List UInt8} (ha : (46 : UInt8) ∉ a) (hc : (46 : UInt8) ∉ c) (h : a ++ 46 :: b = c ++ 46 :: d) : a = c := by
  induction a generalizing c with
  | nil =>
    cases c with
    | nil => rfl
    | cons y c => simp at h; simp only [List.mem_cons, not_or] at hc; exact absurd h.1 hc.1
  | cons x a ih =>
    cases c with
    | nil => simp at h; simp only [List.mem_cons, not_or] at ha; exact absurd h.1.symm ha.1
    | cons y c =>
      simp only [List.cons_append, List.cons.injEq] at h
      simp only [List.mem_cons, not_or] at ha hc
      rw [h.1, ih ha.2 hc.2 h.2]
theorem key_inj {S : List UInt8} {k j : Nat} {g g' : Gr} (hk : k < 399) (hj : j < 399) (h : keyG S k g = keyG S j g') : k = j := by
  unfold keyG txtT sealT bodyT at h
  rw [List.append_assoc, List.append_assoc, List.cons_append, List.cons_append] at h
  have := dec_inj (k := k + 1) (j := j + 1) (split_pt (dec_no _ _ (Nat.le_refl _)) (dec_no _ _ (Nat.le_refl _)) h)
  omega
theorem at_none {S : List UInt8} {j : Nat} {g : Gr} (hj : j < 399) : ∀ (k : Nat) (G : List Gr), k + G.length ≤ j → atF S k G (keyG S j g) = none
  | _, [], _ => rfl
  | k, x :: r, h => by
    unfold atF
    rw [List.length_cons] at h
    rw [if_neg (fun e => by have := key_inj (by omega) hj e; omega)]
    exact at_none hj (k + 1) r (by omega)
theorem at_app {S : List UInt8} {h : List UInt8} : ∀ (k : Nat) (G H : List Gr), atF S k (G ++ H) h = (atF S k G h).or (atF S (k + G.length) H h)
  | _, [], H => by simp [atF]
  | k, g :: r, H => by
    show (if keyG S k g = h then some g else atF S (k + 1) (r ++ H) h) = (if keyG S k g = h then some g else atF S (k + 1) r h).or (atF S (k + (r.length + 1)) H h)
    by_cases e : keyG S k g = h
    · rw [if_pos e, if_pos e]; rfl
    · rw [if_neg e, if_neg e, at_app (k + 1) r H, show k + 1 + r.length = k + (r.length + 1) by omega]
theorem at_mem {S : List UInt8} {h : List UInt8} {g : Gr} : ∀ (k : Nat) (G : List Gr), atF S k G h = some g → g ∈ G ∧ ∃ bd, h = sealT S bd
  | _, [], e => by simp [atF] at e
  | k, x :: r, e => by
    unfold atF at e
    by_cases hx : keyG S k x = h
    · rw [if_pos hx] at e
      cases e
      exact ⟨by simp, _, hx.symm⟩
    · rw [if_neg hx] at e
      obtain ⟨h1, h2⟩ := at_mem (k + 1) r e
      exact ⟨by simp [h1], h2⟩
theorem rev_len {S : List UInt8} {h : List UInt8} : ∀ (k : Nat) (G : List Gr), (revF S k G h).length = G.length
  | _, [] => rfl
  | k, g :: r => by
    unfold revF
    split
    · simp
    · rw [List.length_cons, rev_len (k + 1) r, List.length_cons]
theorem rev_ok {S : List UInt8} {h : List UInt8} : ∀ (k : Nat) (G : List Gr), (∀ g ∈ G, g.ok) → ∀ g ∈ revF S k G h, g.ok
  | _, [], _, g, hg => by simp [revF] at hg
  | k, x :: r, hG, g, hg => by
    unfold revF at hg
    split at hg
    · rcases List.mem_cons.1 hg with rfl | hg
      · exact hG x (by simp)
      · exact hG g (by simp [hg])
    · rcases List.mem_cons.1 hg with rfl | hg
      · exact hG g (by simp)
      · exact rev_ok (k + 1) r (fun y hy => hG y (by simp [hy])) g hg
/-- a put of a key that is there -/
theorem kvs_rev {S : List UInt8} {h : List UInt8} {g : Gr} : ∀ (k : Nat) (G : List Gr), k + G.length ≤ 398 → atF S k G h = some g → (kvs S k G).map (fun x => if x.1 = h then (h, Value.agg (Gr.cells { g with bk := true }).toArray) else x) = kvs S k (revF S k G h)
  | _, [], _, e => by simp [atF] at e
  | k, x :: r, hl, e => by
    rw [List.length_cons] at hl
    unfold atF at e
    unfold kvs revF
    rw [List.map_cons]
    by_cases hx : keyG S k x = h
    · rw [if_pos hx] at e
      cases e
      rw [if_pos hx, if_pos hx]
      have hrest : ∀ (j : Nat) (L : List Gr), k < j → j + L.length ≤ 398 → (kvs S j L).map (fun x => if x.1 = h then (h, Value.agg (Gr.cells { g with bk := true }).toArray) else x) = kvs S j L := by
        intro j L
        induction L generalizing j with
        | nil => intros; rfl
        | cons y L ih =>
          intro h1 h2
          rw [List.length_cons] at h2
          unfold kvs
          rw [List.map_cons, if_neg (fun e => by rw [← hx] at e; have := key_inj (by omega) (by omega) e; omega), ih (j + 1) (by omega) (by omega)]
      rw [hrest (k + 1) r (by omega) (by omega)]
      show (h, _) :: _ = (keyG S k { g with bk := true }, _) :: _
      rw [show keyG S k { g with bk := true } = keyG S k g from rfl, hx]
    · rw [if_neg hx] at e
      rw [if_neg hx, if_neg hx, kvs_rev (k + 1) r (by omega) e]
/-- a book in memory: its block, its map's, its secret, what it gave out -/
structure BkAt (w : World) (b m : Nat) (S : List UInt8) (G : List Gr) : Prop where
  sec : ∃ a n c, Blk w b 57 [.slice a n c, .map (some m)] ∧ In w a n c S ∧ n ≤ 20000
  map : MP w m (kvs S 0 G)
  few : G.length ≤ 256
  ok : ∀ g ∈ G, g.ok
theorem BkAt.below {w w' : World} {b m : Nat} {S : List UInt8} {G : List Gr} (h : BkAt w b m S G) (hb : Below w.heap.size w w') : BkAt w' b m S G := by
  obtain ⟨a, n, c, h1, h2, h3⟩ := h.sec
  exact ⟨⟨a, n, c, h1.below hb h1.lt, h2.below hb, h3⟩, h.map.same (hb.block m h.map.lt), h.few, h.ok⟩
theorem BkAt.c1 {w : World} {b m : Nat} {S : List UInt8} {G : List Gr} (h : BkAt w b m S G) : w.cell? ⟨b, 1, none⟩ = some (.map (some m)) ∧ b < w.heap.size := by
  obtain ⟨a, n, c, h1, _⟩ := h.sec
  exact ⟨h1.cell rfl, h1.lt⟩
theorem mp_not_cells {w : World} {m : Nat} {l : Kv} (h : MP w m l) {i : Nat} {v : Value} (hc : w.cell? ⟨m, i, none⟩ = some v) : False := by
  obtain ⟨es, ⟨clock, h1, _⟩, _⟩ := h
  simp [World.cell?, h1] at hc
/-- another state of the map alone -/
theorem BkAt.turned {w w' : World} {b m : Nat} {S : List UInt8} {G G' : List Gr} (h : BkAt w b m S G) (hg : w.grownBy w' (some m)) (hm : MP w' m (kvs S 0 G')) (hf : G'.length ≤ 256) (hok : ∀ g ∈ G', g.ok) : BkAt w' b m S G' := by
  obtain ⟨a, n, c, h1, h2, h3⟩ := h.sec
  have hbm : b ≠ m := fun e => by subst e; exact mp_not_cells h.map (h1.cell (i := 0) rfl)
  refine ⟨⟨a, n, c, h1.kept hg (by simp; omega), ?_, h3⟩, hm, hf, hok⟩
  refine ⟨h2.1, h2.2.1, h2.2.2.1, h2.2.2.2.1, fun hp => ?_⟩
  obtain ⟨sb, off, e1, e2, e3⟩ := h2.2.2.2.2 hp
  refine ⟨sb, off, e1, Nat.lt_of_lt_of_le e2 hg.size, fun i cc hcc => ?_⟩
  have hne : sb ≠ m := fun e => by subst e; exact mp_not_cells h.map (e3 i cc hcc)
  exact (World.cell?_of_block (a := ⟨sb, off + i, none⟩) (hg.block sb e2 (by simp; omega))).trans (e3 i cc hcc)
theorem ret_c2 {R : Ending → World → Prop} {fn : Func} {p1 t2 : Tmp} {ty : TypeId} {a : Act} {w : World} {g : Nat} {X : List Value} {d : TypeDesc} (hr : fn.results = #[.cell p1 ty, .tmp t2]) (hd : a.defers = []) (hp : a.tmps.getD p1 undef = .pointer (some ⟨g, 0, none⟩))
    (hb : Blk w g ty X) (hu : Tryd.prog.underlying ty = some d) (hrow : d.isRow = true) (hi : (Tryd.prog.info? ty).map (·.size) = some X.length) (hR : R (.returned (.tuple #[.agg X.toArray, a.tmps.getD t2 undef])) w) : bodyPost Tryd.prog fn R .ret a w := by
  have hl := run_loadVar_mid (P := Tryd.prog) w g 0 ty X _ hb.range0 hu hrow hi
  refine bodyPost_ret (v := .tuple #[.agg X.toArray, a.tmps.getD t2 undef]) ?_ hd hR
  simp only [results, hr]
  simp [Sem.run_bind, Array.getD] at hp ⊢
  simp [hp, asAddr, hl, Result.andThen]
end Go.Proofs.YtjeahlfmapacfaaDoor.Oct
