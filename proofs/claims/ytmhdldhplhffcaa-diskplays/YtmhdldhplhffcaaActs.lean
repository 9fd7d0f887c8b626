/-
  Layer 5 (disk): the laws' lists of calls among their arguments, as the walks take them.
-/
import Derived.Test.YtmhdldhplhffcaaDk
import Derived.Deep.Slices
import Derived.ChangeSame
import Derived.Test.YtmhdldhplhffcaaArgs
namespace Go.Proofs.Ytmhdldhplhffcaa.Oct
open Go.RowKit Go.ChangeShapes Go.WideShapes Go.ChangeAt Go.Deep

/-- a call, told -/
structure ActV where
  kind : Int
  n : Int
  bytes : List UInt8
  short : Bool
  keep : List Int

instance : Inhabited ActV := ⟨⟨0, 0, [], false, []⟩⟩

/-- a call at its place in memory -/
def ActAt (w : World) (b off : Nat) (x : ActV) : Prop :=
  ∃ A L C KA KL KC, w.cell? ⟨b, off, none⟩ = some (.int .i64 x.kind) ∧ w.cell? ⟨b, off + 1, none⟩ = some (.int .i64 x.n) ∧ w.cell? ⟨b, off + 2, none⟩ = some (.slice A L C) ∧ w.cell? ⟨b, off + 3, none⟩ = some (.bool x.short) ∧ w.cell? ⟨b, off + 4, none⟩ = some (.slice KA KL KC) ∧
    In w A L C x.bytes ∧ InI w KA KL KC x.keep ∧ KL ≤ 17592186044416 ∧ (-9223372036854775808 ≤ x.n ∧ x.n ≤ 9223372036854775807)
theorem ActAt.below {w w' : World} {b off : Nat} {x : ActV} (h : ActAt w b off x) (hb : Below w.heap.size w w') (hl : b < w.heap.size) : ActAt w' b off x := by
  obtain ⟨A, L, C, KA, KL, KC, h0, h1, h2, h3, h4, h5, h6, h7, h8⟩ := h
  exact ⟨A, L, C, KA, KL, KC, (hb.cell (p := ⟨b, off, none⟩) hl).trans h0, (hb.cell (p := ⟨b, off + 1, none⟩) hl).trans h1, (hb.cell (p := ⟨b, off + 2, none⟩) hl).trans h2, (hb.cell (p := ⟨b, off + 3, none⟩) hl).trans h3, (hb.cell (p := ⟨b, off + 4, none⟩) hl).trans h4, h5.below hb, h6.below hb, h7, h8⟩

/-- a list of calls that came in -/
def ArgA (w : World) (a : Option Addr) (len cap : Nat) (l : List ActV) : Prop :=
  l.length = len ∧ len ≤ cap ∧ cap ≤ maxLen ∧ (0 < len → ∃ b off, a = some ⟨b, off, none⟩ ∧ b < w.heap.size ∧ ∀ i x, l[i]? = some x → ActAt w b (off + i * 5) x)
theorem ArgA.nil (w : World) : ArgA w none 0 0 [] := ⟨rfl, Nat.le_refl _, by unfold maxLen; omega, fun h => absurd h (by omega)⟩
theorem ArgA.below {w w' : World} {a : Option Addr} {len cap : Nat} {l : List ActV} (h : ArgA w a len cap l) (hb : Below w.heap.size w w') : ArgA w' a len cap l := by
  obtain ⟨h1, h2, h3, h5⟩ := h
  refine ⟨h1, h2, h3, fun hp => ?_⟩
  obtain ⟨b, off, e1, e2, e3⟩ := h5 hp
  exact ⟨b, off, e1, Nat.lt_of_lt_of_le e2 hb.size, fun i x hx => (e3 i x hx).below hb e2⟩

section
variable {H : Type} {enc : TypeId × Value → H} {w : World}

theorem mem_weightsAll {P : Program} {e : TypeId} {d : DataW H} {n : Nat} (hn : n ∈ d.weights P e) : ∀ {ds : List (DataW H)}, d ∈ ds → n ∈ DataW.weightsAll P e ds
  | [], h => by cases h
  | d0 :: r, h => by
    simp only [DataW.weightsAll, List.mem_append]
    rcases List.mem_cons.1 h with rfl | h
    · exact .inl hn
    · exact .inr (mem_weightsAll hn h)

/-- bytes in a field -/
theorem field_bytes {n : Nat} {v : Value} {x : DataW H × List MemPlace} (h : DataW.trod enc Try.prog w 0 (fun _ => true) true n 30 [v] = some x) (hx : ∀ k ∈ x.1.weights Try.prog 30, k ≤ reachBytes) :
    ∃ A L C l, v = .slice A L C ∧ In w A L C l := by
  rcases open_ints Try.underlying30 Try.underlying5 (by kernel_rfl) h with ⟨hcs, _⟩ | ⟨y, l, c, zs, hcs, _, hl, hm, hz, hd, hcell, hwz⟩
  · simp at hcs
    exact ⟨none, 0, 0, [], hcs, In.nil w⟩
  · simp at hcs
    have hz' : zs.length = c := by simpa using hz
    obtain ⟨r, hr⟩ := arg_of_ints y l c zs hl hm hz' hcell hwz
    refine ⟨_, _, _, r, hcs, hr.toIn ?_⟩
    have hmem : c ∈ x.1.weights Try.prog 30 := by
      rw [hd]
      simp only [DataW.weights, Try.underlying30]
      refine List.mem_cons.2 (.inl ?_)
      rw [show Try.prog.bytesOf 5 = 1 by kernel_rfl]
      simp [lits]
      omega
    have := hx c hmem
    simp only [reachBytes] at this
    omega
/-- numbers in a field -/
theorem field_ints {n : Nat} {v : Value} {x : DataW H × List MemPlace} (h : DataW.trod enc Try.prog w 0 (fun _ => true) true n 31 [v] = some x) (hx : ∀ k ∈ x.1.weights Try.prog 31, k ≤ reachBytes) :
    ∃ A L C l, v = .slice A L C ∧ InI w A L C l ∧ L ≤ 17592186044416 := by
  rcases open_ints Try.underlying31 Try.underlying3 (by kernel_rfl) h with ⟨hcs, _⟩ | ⟨y, l, c, zs, hcs, _, hl, hm, hz, hd, hcell, hwz⟩
  · simp at hcs
    exact ⟨none, 0, 0, [], hcs, ⟨rfl, Nat.le_refl _, fun h => by cases h⟩, by omega⟩
  · simp at hcs
    have hz' : zs.length = c := by simpa using hz
    refine ⟨_, _, _, zs.take l, hcs, ⟨by simp; omega, hl, fun hp => ?_⟩, ?_⟩
    · obtain ⟨b, off, spot⟩ := y
      have h0 := hcell 0 (by omega)
      have hspot : spot = none := by simpa [Addr.add] using World.cell?_spot h0
      subst hspot
      refine ⟨b, off, rfl, ?_, fun i z hi => ?_⟩
      · have := World.block_lt_of_cell? w _ h0
        simpa [Addr.add] using this
      · have hlt : i < l := by
          have := (List.getElem?_eq_some_iff.1 hi).1
          simp at this; omega
        have hc := hcell i (by omega)
        rw [Addr.add_lit] at hc
        rw [hc]
        rw [List.getElem?_take, if_pos hlt] at hi
        simp [List.getD, hi]
    · have hmem : c * 8 ∈ x.1.weights Try.prog 31 := by
        rw [hd]
        simp only [DataW.weights, Try.underlying31]
        refine List.mem_cons.2 (.inl ?_)
        rw [show Try.prog.bytesOf 3 = 8 by kernel_rfl]
        simp [lits]
        omega
      have := hx _ hmem
      simp only [reachBytes] at this
      omega

theorem five {α : Type} {l : List α} (h : l.length = 5) : ∃ a b c d e, l = [a, b, c, d, e] := by
  rcases l with _ | ⟨a, _ | ⟨b, _ | ⟨c, _ | ⟨d, _ | ⟨e, _ | ⟨f, l⟩⟩⟩⟩⟩⟩ <;> simp at h
  exact ⟨a, b, c, d, e, rfl⟩

/-- a list of calls that was read -/
theorem view_acts {fuel : Nat} {a : Option Addr} {len cap : Nat} {x : DataW H × List MemPlace} (h : DataW.trod enc Try.prog w 0 (fun _ => true) true fuel 22 (Value.slice a len cap).cells.toList = some x) (hx : ∀ n ∈ x.1.weights Try.prog 22, n ≤ reachBytes) :
    ∃ l, ArgA w a len cap l := by
  rcases open_slice Try.underlying22 h with ⟨hcs, _⟩ | ⟨ad, l, c, m, n, D, Pl, hcs, _, hl, hm, hmm, hd, hr⟩
  · simp [Value.cells] at hcs
    obtain ⟨rfl, rfl, rfl⟩ := hcs
    exact ⟨[], ArgA.nil w⟩
  · simp [Value.cells] at hcs
    obtain ⟨rfl, rfl, rfl⟩ := hcs
    simp at hmm
    have ce : Try.prog.cellsOf 33 = 5 := by kernel_rfl
    rw [ce] at hr
    have hsp : 0 < len → ad.spot = none := fun hp => by
      obtain ⟨cs, h1, _⟩ := hr 0 (by omega)
      obtain ⟨_, hlen, hcell⟩ := World.cells?_some h1
      have h0 := hcell 0 (by omega)
      rw [List.getElem?_eq_getElem (by omega)] at h0
      have := World.cell?_spot h0
      simpa [Addr.add] using this
    have each : ∀ i, i < len → ∃ x : ActV, ∃ b off, ad = ⟨b, off, none⟩ ∧ b < w.heap.size ∧ ActAt w b (off + i * 5) x := by
      intro i hi
      obtain ⟨cs, h1, h2⟩ := hr i (by omega)
      obtain ⟨_, hlen, hcell⟩ := World.cells?_some h1
      obtain ⟨xs, k, hk, hxy, _, hxl, hf⟩ := DataW.trod_struct Try.underlying33 h2
      have hxl' : xs.length = 5 := hxl
      obtain ⟨y0, y1, y2, y3, y4, rfl⟩ := five hxl'
      obtain ⟨v0, v1, v2, v3, v4, rfl⟩ := five hlen
      have g0 := hf 0 _ rfl
      have g1 := hf 1 _ rfl
      have g2 := hf 2 _ rfl
      have g3 := hf 3 _ rfl
      have g4 := hf 4 _ rfl
      have q3 : Try.prog.cellsOf 3 = 1 := by kernel_rfl
      have q30 : Try.prog.cellsOf 30 = 1 := by kernel_rfl
      have q4 : Try.prog.cellsOf 4 = 1 := by kernel_rfl
      have q31 : Try.prog.cellsOf 31 = 1 := by kernel_rfl
      change DataW.trod enc Try.prog w 0 _ true k 3 (([v0, v1, v2, v3, v4].drop 0).take (Try.prog.cellsOf 3)) = some y0 at g0
      change DataW.trod enc Try.prog w 0 _ true k 3 (([v0, v1, v2, v3, v4].drop 1).take (Try.prog.cellsOf 3)) = some y1 at g1
      change DataW.trod enc Try.prog w 0 _ true k 30 (([v0, v1, v2, v3, v4].drop 2).take (Try.prog.cellsOf 30)) = some y2 at g2
      change DataW.trod enc Try.prog w 0 _ true k 4 (([v0, v1, v2, v3, v4].drop 3).take (Try.prog.cellsOf 4)) = some y3 at g3
      change DataW.trod enc Try.prog w 0 _ true k 31 (([v0, v1, v2, v3, v4].drop 4).take (Try.prog.cellsOf 31)) = some y4 at g4
      rw [q3] at g0 g1
      rw [q30] at g2
      rw [q4] at g3
      rw [q31] at g4
      simp only [List.drop, List.take] at g0 g1 g2 g3 g4
      have e0 := hcell 0 (by omega)
      have e1 := hcell 1 (by omega)
      have e2 := hcell 2 (by omega)
      have e3 := hcell 3 (by omega)
      have e4 := hcell 4 (by omega)
      have hD : D i = .agg [y0.1, y1.1, y2.1, y3.1, y4.1] := (Prod.mk.inj hxy).1
      have hmem : ∀ q ∈ (D i).weights Try.prog 33, q ≤ reachBytes := fun q hq => by
        refine hx q ?_
        rw [hd]
        simp only [DataW.weights, Try.underlying22]
        exact List.mem_cons.2 (.inr (List.mem_append.2 (.inl (mem_weightsAll hq (List.mem_map.2 ⟨i, List.mem_range.2 hi, rfl⟩)))))
      rw [hD] at hmem
      simp only [DataW.weights, Try.underlying33, List.map, DataW.weightsEach, List.mem_append] at hmem
      obtain ⟨k0, hv0, _, _⟩ := DataW.trod_int Try.underlying3 g0
      obtain ⟨k1, hv1, _, hw1⟩ := DataW.trod_int Try.underlying3 g1
      obtain ⟨A, L, C, bs, hv2, hb⟩ := field_bytes g2 (fun q hq => hmem q (.inr (.inr (.inl hq))))
      obtain ⟨k3, hv3, _⟩ := DataW.trod_bool Try.underlying4 g3
      obtain ⟨KA, KL, KC, ks, hv4, hks, hkl⟩ := field_ints g4 (fun q hq => hmem q (.inr (.inr (.inr (.inr (.inl hq))))))
      simp at hv0 hv1 hv3
      subst hv0 hv1 hv2 hv3 hv4
      obtain ⟨b, off, spot⟩ := ad
      have hspot : spot = none := hsp (by omega)
      subst hspot
      rw [Addr.add_lit, Addr.add_lit] at e0 e1 e2 e3 e4
      refine ⟨⟨k0, k1, bs, k3, ks⟩, b, off, rfl, ?_, A, L, C, KA, KL, KC, by simpa using e0, by simpa using e1, by simpa using e2, by simpa using e3, by simpa using e4, hb, hks, hkl, by simp [Lit.wf, IntKind.min, IntKind.max, IntKind.bits, IntKind.signed] at hw1; omega⟩
      have := World.block_lt_of_cell? w _ e0
      simpa using this
    obtain ⟨G, hG⟩ := choose_lt (p := fun i x => ∃ b off, ad = ⟨b, off, none⟩ ∧ b < w.heap.size ∧ ActAt w b (off + i * 5) x) each
    refine ⟨(List.range len).map G, by simp, hl, hm, fun hp => ?_⟩
    obtain ⟨b, off, e1, e2, _⟩ := hG 0 hp
    refine ⟨b, off, by rw [e1], e2, fun i x hi => ?_⟩
    have hlt : i < len := by
      have := (List.getElem?_eq_some_iff.1 hi).1
      simpa using this
    have e : G i = x := by simpa [List.getElem?_map, List.getElem?_range hlt] using hi
    subst e
    obtain ⟨b', off', f1, _, f3⟩ := hG i hlt
    rw [e1] at f1
    cases f1
    exact f3
end
#print axioms view_acts
end Go.Proofs.Ytmhdldhplhffcaa.Oct
