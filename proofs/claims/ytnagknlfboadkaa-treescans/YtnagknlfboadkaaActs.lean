/-
  Layer 7 (tree): the laws' lists of calls among their arguments, as the walks take them.
-/
import Derived.Test.YtnagknlfboadkaaPlayPuts
import Derived.Test.YtnagknlfboadkaaPlayDels
import Derived.Test.YtnagknlfboadkaaPlayDel
import Derived.Test.YtnagknlfboadkaaPlayGet
import Derived.Test.YtnagknlfboadkaaPlayScan
import Derived.Deep.Slices
import Derived.ChangeSame
import Derived.OpenShut
import Derived.ShutString
import Derived.ChangeOld
namespace Go.Proofs.Ytnagknlfboadkaa.Oct
open Go.RowKit Go.ChangeShapes Go.WideShapes Go.ChangeAt Go.Deep

/-- a call, told -/
structure ActV where
  kind : Int
  key : ByteArray
  val : ByteArray
  n : Int

instance : Inhabited ActV := ⟨⟨0, ⟨#[]⟩, ⟨#[]⟩, 0⟩⟩

/-- a call at its place in memory -/
def ActAt (w : World) (b off : Nat) (x : ActV) : Prop :=
  w.cell? ⟨b, off, none⟩ = some (.int .i64 x.kind) ∧ w.cell? ⟨b, off + 1, none⟩ = some (.string x.key) ∧ w.cell? ⟨b, off + 2, none⟩ = some (.string x.val) ∧ w.cell? ⟨b, off + 3, none⟩ = some (.int .i64 x.n) ∧ x.key.size ≤ 140737488355328 ∧ x.val.size ≤ 140737488355328
theorem ActAt.below {w w' : World} {b off : Nat} {x : ActV} (h : ActAt w b off x) (hb : Below w.heap.size w w') (hl : b < w.heap.size) : ActAt w' b off x :=
  ⟨(hb.cell (p := ⟨b, off, none⟩) hl).trans h.1, (hb.cell (p := ⟨b, off + 1, none⟩) hl).trans h.2.1, (hb.cell (p := ⟨b, off + 2, none⟩) hl).trans h.2.2.1, (hb.cell (p := ⟨b, off + 3, none⟩) hl).trans h.2.2.2.1, h.2.2.2.2⟩

/-- a list of calls that came in -/
def ArgA (w : World) (a : Option Addr) (len cap : Nat) (l : List ActV) : Prop :=
  l.length = len ∧ len ≤ cap ∧ cap ≤ maxLen ∧ (0 < len → ∃ b off, a = some ⟨b, off, none⟩ ∧ b < w.heap.size ∧ ∀ i x, l[i]? = some x → ActAt w b (off + i * 4) x)
theorem ArgA.nil (w : World) : ArgA w none 0 0 [] := ⟨rfl, Nat.le_refl _, by unfold maxLen; omega, fun h => absurd h (by omega)⟩
theorem ArgA.below {w w' : World} {a : Option Addr} {len cap : Nat} {l : List ActV} (h : ArgA w a len cap l) (hb : Below w.heap.size w w') : ArgA w' a len cap l := by
  obtain ⟨h1, h2, h3, h5⟩ := h
  refine ⟨h1, h2, h3, fun hp => ?_⟩
  obtain ⟨b, off, e1, e2, e3⟩ := h5 hp
  exact ⟨b, off, e1, Nat.lt_of_lt_of_le e2 hb.size, fun i x hx => (e3 i x hx).below hb e2⟩

section
variable {H : Type} {enc : TypeId × Value → H} {w : World}

theorem mem_weightsAll {P : Program} {e : TypeId} {d : DataW H} {n : Nat} (hn : n ∈ d.weights P e) : ∀ {ds : List (DataW H)}, d ∈ ds → n ∈ DataW.weightsAll P e ds
  | [], h => by cases h
  | d0 :: r, h => by
    simp only [DataW.weightsAll, List.mem_append]
    rcases List.mem_cons.1 h with rfl | h
    · exact .inl hn
    · exact .inr (mem_weightsAll hn h)
theorem four {α : Type} {l : List α} (h : l.length = 4) : ∃ a b c d, l = [a, b, c, d] := by
  rcases l with _ | ⟨a, _ | ⟨b, _ | ⟨c, _ | ⟨d, _ | ⟨f, l⟩⟩⟩⟩⟩ <;> simp at h
  exact ⟨a, b, c, d, rfl⟩
/-- a string in a field -/
theorem field_str {n : Nat} {v : Value} {x : DataW H × List MemPlace} (h : DataW.trod enc Try.prog w 0 (fun _ => true) true n 9 [v] = some x) (hx : ∀ k ∈ x.1.weights Try.prog 9, k ≤ reachBytes) :
    ∃ s : ByteArray, v = .string s ∧ s.size ≤ 140737488355328 := by
  obtain ⟨s, hs, hd, _⟩ := DataW.trod_string Try.underlying9 h
  refine ⟨s, by simpa using hs, ?_⟩
  have hmem : s.size ∈ x.1.weights Try.prog 9 := by
    rw [hd]
    simp [DataW.weights]
  have := hx _ hmem
  simp only [reachBytes] at this
  omega

/-- a list of calls that was read -/
theorem view_acts {fuel : Nat} {a : Option Addr} {len cap : Nat} {x : DataW H × List MemPlace} (h : DataW.trod enc Try.prog w 0 (fun _ => true) true fuel 22 (Value.slice a len cap).cells.toList = some x) (hx : ∀ n ∈ x.1.weights Try.prog 22, n ≤ reachBytes) :
    ∃ l, ArgA w a len cap l := by
  rcases open_slice Try.underlying22 h with ⟨hcs, _⟩ | ⟨ad, l, c, m, n, D, Pl, hcs, _, hl, hm, hmm, hd, hr⟩
  · simp [Value.cells] at hcs
    obtain ⟨rfl, rfl, rfl⟩ := hcs
    exact ⟨[], ArgA.nil w⟩
  · simp [Value.cells] at hcs
    obtain ⟨rfl, rfl, rfl⟩ := hcs
    simp at hmm
    have ce : Try.prog.cellsOf 29 = 4 := by kernel_rfl
    rw [ce] at hr
    have hsp : 0 < len → ad.spot = none := fun hp => by
      obtain ⟨cs, h1, _⟩ := hr 0 (by omega)
      obtain ⟨_, hlen, hcell⟩ := World.cells?_some h1
      have h0 := hcell 0 (by omega)
      rw [List.getElem?_eq_getElem (by omega)] at h0
      have := World.cell?_spot h0
      simpa [Addr.add] using this
    have each : ∀ i, i < len → ∃ x : ActV, ∃ b off, ad = ⟨b, off, none⟩ ∧ b < w.heap.size ∧ ActAt w b (off + i * 4) x := by
      intro i hi
      obtain ⟨cs, h1, h2⟩ := hr i (by omega)
      obtain ⟨_, hlen, hcell⟩ := World.cells?_some h1
      obtain ⟨xs, k, hk, hxy, _, hxl, hf⟩ := DataW.trod_struct Try.underlying29 h2
      have hxl' : xs.length = 4 := hxl
      obtain ⟨y0, y1, y2, y3, rfl⟩ := four hxl'
      obtain ⟨v0, v1, v2, v3, rfl⟩ := four hlen
      have g0 := hf 0 _ rfl
      have g1 := hf 1 _ rfl
      have g2 := hf 2 _ rfl
      have g3 := hf 3 _ rfl
      have q3 : Try.prog.cellsOf 3 = 1 := by kernel_rfl
      have q9 : Try.prog.cellsOf 9 = 1 := by kernel_rfl
      change DataW.trod enc Try.prog w 0 _ true k 3 (([v0, v1, v2, v3].drop 0).take (Try.prog.cellsOf 3)) = some y0 at g0
      change DataW.trod enc Try.prog w 0 _ true k 9 (([v0, v1, v2, v3].drop 1).take (Try.prog.cellsOf 9)) = some y1 at g1
      change DataW.trod enc Try.prog w 0 _ true k 9 (([v0, v1, v2, v3].drop 2).take (Try.prog.cellsOf 9)) = some y2 at g2
      change DataW.trod enc Try.prog w 0 _ true k 3 (([v0, v1, v2, v3].drop 3).take (Try.prog.cellsOf 3)) = some y3 at g3
      rw [q3] at g0 g3
      rw [q9] at g1 g2
      simp only [List.drop, List.take] at g0 g1 g2 g3
      have e0 := hcell 0 (by omega)
      have e1 := hcell 1 (by omega)
      have e2 := hcell 2 (by omega)
      have e3 := hcell 3 (by omega)
      have hD : D i = .agg [y0.1, y1.1, y2.1, y3.1] := (Prod.mk.inj hxy).1
      have hmem : ∀ q ∈ (D i).weights Try.prog 29, q ≤ reachBytes := fun q hq => by
        refine hx q ?_
        rw [hd]
        simp only [DataW.weights, Try.underlying22]
        exact List.mem_cons.2 (.inr (List.mem_append.2 (.inl (mem_weightsAll hq (List.mem_map.2 ⟨i, List.mem_range.2 hi, rfl⟩)))))
      rw [hD] at hmem
      simp only [DataW.weights, Try.underlying29, List.map, DataW.weightsEach, List.mem_append] at hmem
      obtain ⟨k0, hv0, _, _⟩ := DataW.trod_int Try.underlying3 g0
      obtain ⟨s1, hv1, hs1⟩ := field_str g1 (fun q hq => hmem q (.inr (.inl hq)))
      obtain ⟨s2, hv2, hs2⟩ := field_str g2 (fun q hq => hmem q (.inr (.inr (.inl hq))))
      obtain ⟨k3, hv3, _, _⟩ := DataW.trod_int Try.underlying3 g3
      simp at hv0 hv3
      subst hv0 hv1 hv2 hv3
      obtain ⟨b, off, spot⟩ := ad
      have hspot : spot = none := hsp (by omega)
      subst hspot
      rw [Addr.add_lit, Addr.add_lit] at e0 e1 e2 e3
      refine ⟨⟨k0, s1, s2, k3⟩, b, off, rfl, ?_, by simpa using e0, by simpa using e1, by simpa using e2, by simpa using e3, hs1, hs2⟩
      have := World.block_lt_of_cell? w _ e0
      simpa using this
    obtain ⟨G, hG⟩ := choose_lt (p := fun i x => ∃ b off, ad = ⟨b, off, none⟩ ∧ b < w.heap.size ∧ ActAt w b (off + i * 4) x) each
    refine ⟨(List.range len).map G, by simp, hl, hm, fun hp => ?_⟩
    obtain ⟨b, off, e1, e2, _⟩ := hG 0 hp
    refine ⟨b, off, by rw [e1], e2, fun i x hi => ?_⟩
    have hlt : i < len := by
      have := (List.getElem?_eq_some_iff.1 hi).1
      simpa using this
    have e : G i = x := by simpa [List.getElem?_map, List.getElem?_range hlt] using hi
    subst e
    obtain ⟨b', off', f1, _, f3⟩ := hG i hlt
    rw [e1] at f1
    cases f1
    exact f3
end
#print axioms view_acts

/-- a call of both, whatever it is -/
theorem play_is (w : World) (m : Nat) (a : Option Addr) (n cap : Nat) (L : List Pr) (x : ActV) (hT : Tr w m L) (hR : RdP w a n L) (hC : Cap a n cap) (hk : x.key.size ≤ 100000) (hn : L.length ≤ 90000) :
    Calls Try.prog 14 #[.pointer (some ⟨m, 0, none⟩), .slice a n cap, .agg #[.int .i64 x.kind, .string x.key, .string x.val, .int .i64 x.n]] w (PlayP w m L) := by
  obtain ⟨K, k, v, N⟩ := x
  by_cases h0 : K = 0
  · subst h0; exact play_put w m a n cap L k v N hT hR hC hn
  by_cases h1 : K = 1
  · subst h1; exact play_del w m a n cap L k v N hT hR hC hn
  by_cases h3 : K = 3
  · subst h3; exact play_scan w m a n cap L k v N hT hR hC hn
  by_cases h5 : K = 5
  · subst h5; exact play_puts w m a n cap L k v N hT hR hC hk hn
  by_cases h6 : K = 6
  · subst h6; exact play_dels w m a n cap L k v N hT hR hC hk hn
  · exact play_get w m a n cap L k v N K h0 h1 h3 h5 h6 hT hR hC hn
#print axioms play_is
end Go.Proofs.Ytnagknlfboadkaa.Oct
