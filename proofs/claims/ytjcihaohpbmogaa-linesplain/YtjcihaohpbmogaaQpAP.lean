/-
  Layer 11 (lines): rows of acts.
  Layer 11 (lines): acts among the arguments.
  Layer 11 (lines): edits among the arguments.
  Layer 11 (lines): how many ones a word has.
-/
import Derived.Test.YtjcihaohpbmogaaQpAO
import Derived.Deep.Slices
import Derived.ProofKit
import Derived.SizedLaws
import Derived.ChangeSame
import Derived.OpenShut
import Derived.ShutString
import Derived.ChangeOld
import Derived.Test.YtjcihaohpbmogaaQpAM
import Derived.Lib.QuoteBits
/- Layer 11 (lines): rows of acts. -/
namespace Go.Proofs.Ytjcihaohpbmogaa.Oct
open Go.RowKit Go.ChangeShapes Go.WideShapes Go.ChangeAt Go.Deep
set_option maxRecDepth 100000
set_option linter.unusedSimpArgs false
set_option linter.unusedVariables false
set_option linter.unusedSectionVars false

/-- acts that can be read -/
def ActsR (w : World) (a : Option Addr) (n : Nat) (l : List AV) : Prop := l.length = n ∧ (∀ x ∈ l, AR w x) ∧ (0 < n → ∃ g off, a = some ⟨g, off, none⟩ ∧ g < w.heap.size ∧ ∀ i x, l[i]? = some x → w.rangeAt g (off + i * 101) x.cells)
theorem AR.below {w w' : World} {a : AV} (h : AR w a) (hb : Below w.heap.size w w') : AR w' a := ⟨h.1, h.2.1, h.2.2.1.below hb, h.2.2.2.1.below hb, h.2.2.2.2⟩
theorem ActsR.below {w w' : World} {a : Option Addr} {n : Nat} {l : List AV} (h : ActsR w a n l) (hb : Below w.heap.size w w') : ActsR w' a n l := by
  refine ⟨h.1, fun x hx => (h.2.1 x hx).below hb, fun hp => ?_⟩
  obtain ⟨g, off, e, h1, h2⟩ := h.2.2 hp
  exact ⟨g, off, e, Nat.lt_of_lt_of_le h1 hb.size, fun i x hx => rangeAt_same (h2 i x hx) (hb.block g h1)⟩
instance : Inhabited AV := ⟨⟨0, vTop, vTop, none, 0, 0, [], none, 0, 0, [], []⟩⟩
theorem AV.c0 (a : AV) : a.cells[0]? = some (iv a.k) := rfl
section
variable {H : Type} {enc : TypeId × Value → H} {w : World}
theorem view_acts {fuel : Nat} {cs : List Value} {x : DataW H × List MemPlace} (h : DataW.trod enc Try.prog w 0 (fun _ => true) true fuel 22 cs = some x) (hx : ∀ n ∈ x.1.weights Try.prog 22, n ≤ reachBytes) :
    ∃ a len cap l, cs = [.slice a len cap] ∧ ActsR w a len l ∧ len ≤ cap ∧ cap ≤ maxLen ∧ len ≤ 140737488355328 := by
  rcases open_slice Try.underlying22 h with ⟨hcs, _⟩ | ⟨ad, len, cap, m, n, D, Pl, hcs, _, hl, hm, hmm, hd, hr⟩
  · exact ⟨none, 0, 0, [], hcs, ⟨rfl, by simp, fun h => absurd h (by omega)⟩, Nat.le_refl _, by unfold maxLen; omega, by omega⟩
  · refine ⟨some ad, len, cap, ?_⟩
    simp at hmm
    have hw : (len + (m - len)) * Try.prog.bytesOf 38 ∈ x.1.weights Try.prog 22 := by
      rw [hd]
      simp only [DataW.weights, Try.underlying22]
      simp
    have hsz := hx _ hw
    have hby : 1 ≤ Try.prog.bytesOf 38 := of_decide_eq_true (by kernel_rfl)
    have hsz : len * 1 ≤ reachBytes := Nat.le_trans (Nat.mul_le_mul (by omega) hby) hsz
    simp only [reachBytes] at hsz
    have ce : Try.prog.cellsOf 38 = 101 := by kernel_rfl
    rw [ce] at hr
    have hsp : 0 < len → ad.spot = none := fun hp => by
      obtain ⟨cs, h1, _⟩ := hr 0 (by omega)
      obtain ⟨_, hlen, hcell⟩ := World.cells?_some h1
      have h0 := hcell 0 (by omega)
      rw [List.getElem?_eq_getElem (by omega)] at h0
      have := World.cell?_spot h0
      simpa [Addr.add] using this
    have each : ∀ i, i < len → ∃ x : AV, AR w x ∧ ∃ b off, ad = ⟨b, off, none⟩ ∧ b < w.heap.size ∧ w.rangeAt b (off + i * 101) x.cells := by
      intro i hi
      obtain ⟨cs, h1, h2⟩ := hr i (by omega)
      have hmem : ∀ q ∈ (D i, Pl i).1.weights Try.prog 38, q ≤ reachBytes := fun q hq => by
        refine hx q ?_
        rw [hd]
        simp only [DataW.weights, Try.underlying22]
        exact List.mem_cons.2 (.inr (List.mem_append.2 (.inl (mem_weightsAll hq (List.mem_map.2 ⟨i, List.mem_range.2 hi, rfl⟩)))))
      obtain ⟨o, rfl, ho⟩ := view_act (x := (D i, Pl i)) h2 hmem
      obtain ⟨b, off, spot⟩ := ad
      have hspot := hsp (by omega)
      simp only at hspot
      subst hspot
      rw [Addr.add_lit] at h1
      have hra := range_of_cells h1
      have e0 := hra 0 _ o.c0
      refine ⟨o, ho, b, off, rfl, ?_, hra⟩
      have := World.block_lt_of_cell? w _ e0
      simpa using this
    obtain ⟨G, hG⟩ := choose_lt (p := fun i (x : AV) => AR w x ∧ ∃ b off, ad = ⟨b, off, none⟩ ∧ b < w.heap.size ∧ w.rangeAt b (off + i * 101) x.cells) each
    refine ⟨(List.range len).map G, hcs, ⟨by simp, ?_, fun hp => ?_⟩, hl, hm, by omega⟩
    · intro t ht
      obtain ⟨i, hi, rfl⟩ := List.mem_map.1 ht
      exact (hG i (List.mem_range.1 hi)).1
    · obtain ⟨_, b, off, e1, e2, _⟩ := hG 0 hp
      refine ⟨b, off, by rw [e1], e2, fun i x hi => ?_⟩
      have hlt : i < len := by
        have := (List.getElem?_eq_some_iff.1 hi).1
        simpa using this
      have e : G i = x := by simpa [List.getElem?_map, List.getElem?_range hlt] using hi
      subst e
      obtain ⟨_, b', off', f1, _, f3⟩ := hG i hlt
      rw [e1] at f1
      cases f1
      exact f3
end
end Go.Proofs.Ytjcihaohpbmogaa.Oct

/- Layer 11 (lines): acts among the arguments. -/
namespace Go.Proofs.Ytjcihaohpbmogaa.Oct
open Go.RowKit Go.ChangeShapes Go.WideShapes Go.ChangeAt
set_option maxRecDepth 100000
set_option linter.unusedSimpArgs false
set_option linter.unusedVariables false
set_option linter.unusedSectionVars false

variable {H : Type} {enc : TypeId × Value → H} {w : World}
/-- a []Act among the arguments -/
def ArgA (w : World) (a : Option Addr) (len cap : Nat) (l : List AV) : Prop := ActsR w a len l ∧ len ≤ cap ∧ cap ≤ maxLen ∧ len ≤ 140737488355328
theorem view_argA {fuel : Nat} {a : Option Addr} {len cap : Nat} {x : DataW H × List MemPlace} (h : DataW.trod enc Try.prog w 0 (fun _ => true) true fuel 22 (Value.slice a len cap).cells.toList = some x) (hx : ∀ n ∈ x.1.weights Try.prog 22, n ≤ reachBytes) :
    ∃ l, ArgA w a len cap l := by
  obtain ⟨a', len', cap', l, e, h1, h2, h3, h4⟩ := view_acts h hx
  have e : [Value.slice a len cap] = [.slice a' len' cap'] := e
  injection e with e
  injection e with e1 e2 e3
  subst e1 e2 e3
  exact ⟨l, h1, h2, h3, h4⟩
end Go.Proofs.Ytjcihaohpbmogaa.Oct

/- Layer 11 (lines): edits among the arguments. -/
namespace Go.Proofs.Ytjcihaohpbmogaa.Oct
open Go.RowKit Go.ChangeShapes Go.WideShapes Go.ChangeAt Go.Deep
set_option maxRecDepth 100000
set_option linter.unusedSimpArgs false
set_option linter.unusedVariables false
set_option linter.unusedSectionVars false

structure EV where
  at_ : Int
  kill : Bool
  la : Option Addr
  ln : Nat
  lc : Nat
  ls : List BA
instance : Inhabited EV := ⟨⟨0, false, none, 0, 0, []⟩⟩
def EV.cells (e : EV) : List Value := [iv e.at_, .bool e.kill, .slice e.la e.ln e.lc]
def ER (w : World) (e : EV) : Prop := TsR w e.la e.ln e.ls ∧ e.ln ≤ e.lc ∧ e.lc ≤ maxLen ∧ e.ln ≤ 140737488355328 ∧ (Lit.int .i64 e.at_).wf = true
theorem ER.below {w w' : World} {e : EV} (h : ER w e) (hb : Below w.heap.size w w') : ER w' e := ⟨h.1.below hb, h.2⟩
theorem EV.c0 (e : EV) : e.cells[0]? = some (iv e.at_) := rfl
variable {H : Type} {enc : TypeId × Value → H} {w : World}
theorem view_edit {fuel : Nat} {cs : List Value} {x : DataW H × List MemPlace} (h : DataW.trod enc Try.prog w 0 (fun _ => true) true fuel 54 cs = some x) (hx : ∀ n ∈ x.1.weights Try.prog 54, n ≤ reachBytes) :
    ∃ e : EV, cs = e.cells ∧ ER w e := by
  obtain ⟨ys, k, hk, hxy, hcl, hxl, hf⟩ := DataW.trod_struct Try.underlying54 h
  have hcl' : cs.length = 3 := by rw [hcl]; kernel_rfl
  have hxl' : ys.length = 3 := hxl
  obtain ⟨y0, y1, y2, rfl⟩ : ∃ y0 y1 y2, ys = [y0, y1, y2] := by
    rcases ys with _ | ⟨y0, _ | ⟨y1, _ | ⟨y2, _ | ⟨z, l⟩⟩⟩⟩ <;> simp at hxl'
    exact ⟨y0, y1, y2, rfl⟩
  have g0 := hf 0 _ rfl
  change DataW.trod enc Try.prog w 0 _ true k 3 ((cs.drop 0).take (Try.prog.cellsOf 3)) = some y0 at g0
  rw [show Try.prog.cellsOf 3 = 1 by kernel_rfl] at g0
  have g1 := hf 1 _ rfl
  change DataW.trod enc Try.prog w 0 _ true k 4 ((cs.drop 1).take (Try.prog.cellsOf 4)) = some y1 at g1
  rw [show Try.prog.cellsOf 4 = 1 by kernel_rfl] at g1
  have g2 := hf 2 _ rfl
  change DataW.trod enc Try.prog w 0 _ true k 36 ((cs.drop 2).take (Try.prog.cellsOf 36)) = some y2 at g2
  rw [show Try.prog.cellsOf 36 = 1 by kernel_rfl] at g2
  have w2 : ∀ q ∈ y2.1.weights Try.prog 36, q ≤ reachBytes := fun q hq => hx q (by
    rw [show x.1 = DataW.agg [y0.1, y1.1, y2.1] from congrArg Prod.fst hxy]
    simp only [DataW.weights, Try.underlying54, DataW.weightsEach, List.map, List.mem_append]
    exact .inr (.inr (.inl hq)))
  obtain ⟨f0, e0, _, b0⟩ := DataW.trod_int Try.underlying3 g0
  obtain ⟨f1, e1, _⟩ := DataW.trod_bool Try.underlying4 g1
  obtain ⟨a2, n2, c2, l2, e2, r2, t2, q2, m2, z2⟩ := view_strs g2 w2
  have hcs : cs = (cs.drop 0).take 1 ++ ((cs.drop 1).take 1 ++ (cs.drop 2).take 1) :=
    (List.drop_zero (l := cs)).symm.trans ((cut_at cs 0 1 1 rfl).trans (congrArg ((cs.drop 0).take 1 ++ ·) ((cut_at cs 1 1 2 rfl).trans (congrArg ((cs.drop 1).take 1 ++ ·) (cut_last cs 2 1 hcl')))))
  rw [e0, e1, e2] at hcs
  exact ⟨⟨f0, f1, a2, n2, c2, l2⟩, hcs, r2, q2, m2, z2, b0⟩
def EdsR (w : World) (a : Option Addr) (n : Nat) (l : List EV) : Prop := l.length = n ∧ (∀ x ∈ l, ER w x) ∧ (0 < n → ∃ g off, a = some ⟨g, off, none⟩ ∧ g < w.heap.size ∧ ∀ i x, l[i]? = some x → w.rangeAt g (off + i * 3) x.cells)
theorem view_edits {fuel : Nat} {cs : List Value} {x : DataW H × List MemPlace} (h : DataW.trod enc Try.prog w 0 (fun _ => true) true fuel 52 cs = some x) (hx : ∀ n ∈ x.1.weights Try.prog 52, n ≤ reachBytes) :
    ∃ a len cap l, cs = [.slice a len cap] ∧ EdsR w a len l ∧ len ≤ cap ∧ cap ≤ maxLen ∧ len ≤ 140737488355328 := by
  rcases open_slice Try.underlying52 h with ⟨hcs, _⟩ | ⟨ad, len, cap, m, n, D, Pl, hcs, _, hl, hm, hmm, hd, hr⟩
  · exact ⟨none, 0, 0, [], hcs, ⟨rfl, by simp, fun h => absurd h (by omega)⟩, Nat.le_refl _, by unfold maxLen; omega, by omega⟩
  · refine ⟨some ad, len, cap, ?_⟩
    simp at hmm
    have hw : (len + (m - len)) * Try.prog.bytesOf 54 ∈ x.1.weights Try.prog 52 := by
      rw [hd]
      simp only [DataW.weights, Try.underlying52]
      simp
    have hsz := hx _ hw
    have hby : 1 ≤ Try.prog.bytesOf 54 := of_decide_eq_true (by kernel_rfl)
    have hsz : len * 1 ≤ reachBytes := Nat.le_trans (Nat.mul_le_mul (by omega) hby) hsz
    simp only [reachBytes] at hsz
    have ce : Try.prog.cellsOf 54 = 3 := by kernel_rfl
    rw [ce] at hr
    have hsp : 0 < len → ad.spot = none := fun hp => by
      obtain ⟨cs, h1, _⟩ := hr 0 (by omega)
      obtain ⟨_, hlen, hcell⟩ := World.cells?_some h1
      have h0 := hcell 0 (by omega)
      rw [List.getElem?_eq_getElem (by omega)] at h0
      have := World.cell?_spot h0
      simpa [Addr.add] using this
    have each : ∀ i, i < len → ∃ x   : EV, ER w x ∧ ∃ b off, ad = ⟨b, off, none⟩ ∧ b < w.heap.size ∧ w.rangeAt b (off + i * 3) x.cells := by
      intro i hi
      obtain ⟨cs, h1, h2⟩ := hr i (by omega)
      have hmem : ∀ q ∈ (D i, Pl i).1.weights Try.prog 54, q ≤ reachBytes := fun q hq => by
        refine hx q ?_
        rw [hd]
        simp only [DataW.weights, Try.underlying52]
        exact List.mem_cons.2 (.inr (List.mem_append.2 (.inl (mem_weightsAll hq (List.mem_map.2 ⟨i, List.mem_range.2 hi, rfl⟩)))))
      obtain ⟨o, rfl, ho⟩ := view_edit (x := (D i, Pl i)) h2 hmem
      obtain ⟨b, off, spot⟩ := ad
      have hspot := hsp (by omega)
      simp only at hspot
      subst hspot
      rw [Addr.add_lit] at h1
      have hra := range_of_cells h1
      have e0 := hra 0 _ o.c0
      refine ⟨o, ho, b, off, rfl, ?_, hra⟩
      have := World.block_lt_of_cell? w _ e0
      simpa using this
    obtain ⟨G, hG⟩ := choose_lt (p := fun i (x   : EV) => ER w x ∧ ∃ b off, ad = ⟨b, off, none⟩ ∧ b < w.heap.size ∧ w.rangeAt b (off + i * 3) x.cells) each
    refine ⟨(List.range len).map G, hcs, ⟨by simp, ?_, fun hp => ?_⟩, hl, hm, by omega⟩
    · intro t ht
      obtain ⟨i, hi, rfl⟩ := List.mem_map.1 ht
      exact (hG i (List.mem_range.1 hi)).1
    · obtain ⟨_, b, off, e1, e2, _⟩ := hG 0 hp
      refine ⟨b, off, by rw [e1], e2, fun i x hi => ?_⟩
      have hlt : i < len := by
        have := (List.getElem?_eq_some_iff.1 hi).1
        simpa using this
      have e : G i = x := by simpa [List.getElem?_map, List.getElem?_range hlt] using hi
      subst e
      obtain ⟨_, b', off', f1, _, f3⟩ := hG i hlt
      rw [e1] at f1
      cases f1
      exact f3
def ArgE (w : World) (a : Option Addr) (len cap : Nat) (l : List EV) : Prop := EdsR w a len l ∧ len ≤ cap ∧ cap ≤ maxLen ∧ len ≤ 140737488355328
theorem view_argE {fuel : Nat} {a : Option Addr} {len cap : Nat} {x : DataW H × List MemPlace} (h : DataW.trod enc Try.prog w 0 (fun _ => true) true fuel 52 (Value.slice a len cap).cells.toList = some x) (hx : ∀ n ∈ x.1.weights Try.prog 52, n ≤ reachBytes) :
    ∃ l, ArgE w a len cap l := by
  obtain ⟨a', len', cap', l, e, h1, h2, h3, h4⟩ := view_edits h hx
  have e : [Value.slice a len cap] = [.slice a' len' cap'] := e
  injection e with e
  injection e with e1 e2 e3
  subst e1 e2 e3
  exact ⟨l, h1, h2, h3, h4⟩
end Go.Proofs.Ytjcihaohpbmogaa.Oct

/- Layer 11 (lines): how many ones a word has. -/
namespace Go.Proofs.Ytjcihaohpbmogaa.Oct
open Go.RowKit
set_option maxRecDepth 100000
set_option linter.unusedSimpArgs false
set_option linter.unusedVariables false
set_option linter.unusedSectionVars false

theorem and_split (c x M m : Nat) (hm : m < 2 ^ c) : x &&& (2 ^ c * M + m) = 2 ^ c * (x / 2 ^ c &&& M) + (x % 2 ^ c &&& m) := by
  have h1 : (2 ^ c * M + m) / 2 ^ c = M := by
    rw [Nat.mul_add_div (Nat.two_pow_pos c), Nat.div_eq_of_lt hm, Nat.add_zero]
  have h2 : (2 ^ c * M + m) % 2 ^ c = m := by
    rw [Nat.mul_add_mod, Nat.mod_eq_of_lt hm]
  have h3 := Nat.div_add_mod (x &&& (2 ^ c * M + m)) (2 ^ c)
  rw [Nat.and_div_two_pow, Nat.and_mod_two_pow, h1, h2] at h3
  exact h3.symm
def msk (b : Nat) : Nat → Nat
  | 0 => 0
  | k + 1 => 2 ^ (2 * b) * msk b k + (2 ^ b - 1)
/-- the sum of k digits of b bits -/
def dg (b : Nat) : Nat → Nat → Nat
  | 0, _ => 0
  | k + 1, x => x % 2 ^ b + dg b k (x / 2 ^ b)
/-- each of them at most c -/
def bd (b c : Nat) : Nat → Nat → Prop
  | 0, _ => True
  | k + 1, x => x % 2 ^ b ≤ c ∧ bd b c k (x / 2 ^ b)
def fh (b k x : Nat) : Nat := (x / 2 ^ b &&& msk b k) + (x &&& msk b k)
theorem low_lt (b : Nat) : 2 ^ b - 1 < 2 ^ (2 * b) := by
  have h1 : 2 ^ b ≤ 2 ^ (2 * b) := Nat.pow_le_pow_right (by omega) (by omega)
  have h2 := Nat.two_pow_pos b
  omega
theorem mod_low (b x : Nat) : x % 2 ^ (2 * b) &&& (2 ^ b - 1) = x % 2 ^ b := by
  rw [Nat.and_two_pow_sub_one_eq_mod]
  exact Nat.mod_mod_of_dvd x (Nat.pow_dvd_pow 2 (by omega))
theorem fh_succ (b k x : Nat) : fh b (k + 1) x = 2 ^ (2 * b) * fh b k (x / 2 ^ (2 * b)) + (x / 2 ^ b % 2 ^ b + x % 2 ^ b) := by
  unfold fh
  rw [show msk b (k + 1) = 2 ^ (2 * b) * msk b k + (2 ^ b - 1) from rfl, and_split _ _ _ _ (low_lt b), and_split _ _ _ _ (low_lt b), mod_low, mod_low, Nat.div_div_eq_div_mul, Nat.mul_comm (2 ^ b), ← Nat.div_div_eq_div_mul, Nat.mul_add]
  omega
theorem pow2b (b : Nat) : 2 ^ (2 * b) = 2 ^ b * 2 ^ b := by rw [Nat.two_mul, Nat.pow_add]
theorem digit_lt {b : Nat} (hb : 1 ≤ b) (x : Nat) : x / 2 ^ b % 2 ^ b + x % 2 ^ b < 2 ^ (2 * b) := by
  have h1 := Nat.mod_lt (x / 2 ^ b) (Nat.two_pow_pos b)
  have h2 := Nat.mod_lt x (Nat.two_pow_pos b)
  have h3 : 2 ≤ 2 ^ b := by
    have : 2 ^ 1 ≤ 2 ^ b := Nat.pow_le_pow_right (by omega) hb
    simpa using this
  have h4 : 2 * 2 ^ b ≤ 2 ^ b * 2 ^ b := Nat.mul_le_mul_right _ h3
  rw [pow2b]
  omega
theorem fh_dg {b : Nat} (hb : 1 ≤ b) : ∀ (k x : Nat), dg (2 * b) k (fh b k x) = dg b (2 * k) x
  | 0, x => rfl
  | k + 1, x => by
    have hl := digit_lt hb x
    rw [fh_succ]
    show (2 ^ (2 * b) * fh b k (x / 2 ^ (2 * b)) + (x / 2 ^ b % 2 ^ b + x % 2 ^ b)) % 2 ^ (2 * b) + dg (2 * b) k ((2 ^ (2 * b) * fh b k (x / 2 ^ (2 * b)) + (x / 2 ^ b % 2 ^ b + x % 2 ^ b)) / 2 ^ (2 * b)) = _
    rw [Nat.mul_add_mod, Nat.mod_eq_of_lt hl, Nat.mul_add_div (Nat.two_pow_pos _), Nat.div_eq_of_lt hl, Nat.add_zero, fh_dg hb k]
    show _ = x % 2 ^ b + (x / 2 ^ b % 2 ^ b + dg b (2 * k) (x / 2 ^ b / 2 ^ b))
    rw [Nat.div_div_eq_div_mul, ← pow2b]
    omega
theorem fh_bd {b c : Nat} (hb : 1 ≤ b) : ∀ (k x : Nat), bd b c (2 * k) x → bd (2 * b) (2 * c) k (fh b k x)
  | 0, x, _ => trivial
  | k + 1, x, h => by
    have hl := digit_lt hb x
    have h : x % 2 ^ b ≤ c ∧ x / 2 ^ b % 2 ^ b ≤ c ∧ bd b c (2 * k) (x / 2 ^ b / 2 ^ b) := h
    rw [fh_succ]
    show (2 ^ (2 * b) * fh b k (x / 2 ^ (2 * b)) + (x / 2 ^ b % 2 ^ b + x % 2 ^ b)) % 2 ^ (2 * b) ≤ 2 * c ∧ bd (2 * b) (2 * c) k ((2 ^ (2 * b) * fh b k (x / 2 ^ (2 * b)) + (x / 2 ^ b % 2 ^ b + x % 2 ^ b)) / 2 ^ (2 * b))
    rw [Nat.mul_add_mod, Nat.mod_eq_of_lt hl, Nat.mul_add_div (Nat.two_pow_pos _), Nat.div_eq_of_lt hl, Nat.add_zero]
    refine ⟨by omega, fh_bd hb k _ ?_⟩
    have h2 := h.2.2
    rw [Nat.div_div_eq_div_mul, ← pow2b] at h2
    exact h2
theorem bd_one : ∀ (k x : Nat), bd 1 1 k x
  | 0, _ => trivial
  | k + 1, x => ⟨by have := Nat.mod_lt x (show 0 < 2 by omega); show x % 2 ^ 1 ≤ 1; rw [Nat.pow_one]; omega, bd_one k _⟩
def gh (k x : Nat) : Nat := (x / 16 + x) &&& msk 4 k
theorem gh_succ (k x : Nat) (h : bd 4 4 (2 * (k + 1)) x) : gh (k + 1) x = 256 * gh k (x / 256) + (x / 16 % 16 + x % 16) := by
  have h : x % 16 ≤ 4 ∧ x / 16 % 16 ≤ 4 ∧ bd 4 4 (2 * k) (x / 16 / 16) := h
  unfold gh
  rw [show msk 4 (k + 1) = 2 ^ 8 * msk 4 k + 15 from rfl, and_split 8 _ _ 15 (by decide)]
  have e1 : (x / 16 + x) % 2 ^ 8 &&& 15 = x / 16 % 16 + x % 16 := by
    rw [show (15 : Nat) = 2 ^ 4 - 1 from rfl, Nat.and_two_pow_sub_one_eq_mod]
    omega
  rw [e1]
  cases k with
  | zero => simp [msk]
  | succ k =>
    have h3 : x / 16 / 16 % 16 ≤ 4 := h.2.2.1
    have e2 : (x / 16 + x) / 2 ^ 8 = x / 256 / 16 + x / 256 := by
      have hg : x / 256 = x / 16 / 16 := by rw [Nat.div_div_eq_div_mul]
      rw [hg]
      have a1 := Nat.div_add_mod x 16
      have a2 := Nat.div_add_mod (x / 16) 16
      have a3 := Nat.div_add_mod (x / 16 / 16) 16
      have a4 := h.1
      have a5 := h.2.1
      generalize x % 16 = l at *
      generalize x / 16 = a at *
      generalize a % 16 = h' at *
      generalize a / 16 = b at *
      generalize b % 16 = r at *
      generalize b / 16 = q at *
      have : a + x = 256 * (q + b) + (16 * r + 17 * h' + l) := by omega
      omega
    rw [e2]
theorem gh_dg : ∀ (k x : Nat), bd 4 4 (2 * k) x → dg 8 k (gh k x) = dg 4 (2 * k) x ∧ bd 8 8 k (gh k x)
  | 0, x, _ => ⟨rfl, trivial⟩
  | k + 1, x, h => by
    rw [gh_succ k x h]
    have h : x % 16 ≤ 4 ∧ x / 16 % 16 ≤ 4 ∧ bd 4 4 (2 * k) (x / 16 / 16) := h
    have h2 : bd 4 4 (2 * k) (x / 256) := by
      have := h.2.2
      rw [Nat.div_div_eq_div_mul] at this
      exact this
    have ih := gh_dg k (x / 256) h2
    have e1 : (256 * gh k (x / 256) + (x / 16 % 16 + x % 16)) % 256 = x / 16 % 16 + x % 16 := by omega
    have e2 : (256 * gh k (x / 256) + (x / 16 % 16 + x % 16)) / 256 = gh k (x / 256) := by omega
    refine ⟨?_, ?_⟩
    · show (256 * gh k (x / 256) + (x / 16 % 16 + x % 16)) % 256 + dg 8 k ((256 * gh k (x / 256) + (x / 16 % 16 + x % 16)) / 256) = x % 16 + (x / 16 % 16 + dg 4 (2 * k) (x / 16 / 16))
      have e3 : x / 16 / 16 = x / 256 := by rw [Nat.div_div_eq_div_mul]
      rw [e1, e2, ih.1, e3]
      omega
    · show (256 * gh k (x / 256) + (x / 16 % 16 + x % 16)) % 256 ≤ 8 ∧ bd 8 8 k ((256 * gh k (x / 256) + (x / 16 % 16 + x % 16)) / 256)
      rw [e1, e2]
      exact ⟨by omega, ih.2⟩
theorem fin_a (d0 d1 d2 d3 d4 d5 d6 d7 : Nat) (h : d0 ≤ 8 ∧ d1 ≤ 8 ∧ d2 ≤ 8 ∧ d3 ≤ 8 ∧ d4 ≤ 8 ∧ d5 ≤ 8 ∧ d6 ≤ 8 ∧ d7 ≤ 8) : (d0 + 256 * d1 + 65536 * d2 + 16777216 * d3 + 4294967296 * d4 + 1099511627776 * d5 + 281474976710656 * d6 + 72057594037927936 * d7) / 256 = d1 + 256 * d2 + 65536 * d3 + 16777216 * d4 + 4294967296 * d5 + 1099511627776 * d6 + 281474976710656 * d7 := by omega
theorem fin_b (d0 d1 d2 d3 d4 d5 d6 d7 : Nat) (h : d0 ≤ 16 ∧ d1 ≤ 16 ∧ d2 ≤ 16 ∧ d3 ≤ 16 ∧ d4 ≤ 16 ∧ d5 ≤ 16 ∧ d6 ≤ 16 ∧ d7 ≤ 16) : (d0 + 256 * d1 + 65536 * d2 + 16777216 * d3 + 4294967296 * d4 + 1099511627776 * d5 + 281474976710656 * d6 + 72057594037927936 * d7) / 65536 = d2 + 256 * d3 + 65536 * d4 + 16777216 * d5 + 4294967296 * d6 + 1099511627776 * d7 := by omega
theorem fin_c (d0 d1 d2 d3 d4 d5 d6 d7 : Nat) (h : d0 ≤ 32 ∧ d1 ≤ 32 ∧ d2 ≤ 32 ∧ d3 ≤ 32 ∧ d4 ≤ 32 ∧ d5 ≤ 32 ∧ d6 ≤ 32 ∧ d7 ≤ 32) : (d0 + 256 * d1 + 65536 * d2 + 16777216 * d3 + 4294967296 * d4 + 1099511627776 * d5 + 281474976710656 * d6 + 72057594037927936 * d7) / 4294967296 = d4 + 256 * d5 + 65536 * d6 + 16777216 * d7 := by omega
def sm8 (d0 d1 d2 d3 d4 d5 d6 d7 : Nat) : Nat := d0 + 256 * d1 + 65536 * d2 + 16777216 * d3 + 4294967296 * d4 + 1099511627776 * d5 + 281474976710656 * d6 + 72057594037927936 * d7
theorem sum_a (d0 d1 d2 d3 d4 d5 d6 d7 : Nat) (h : d0 ≤ 8 ∧ d1 ≤ 8 ∧ d2 ≤ 8 ∧ d3 ≤ 8 ∧ d4 ≤ 8 ∧ d5 ≤ 8 ∧ d6 ≤ 8 ∧ d7 ≤ 8) : sm8 d0 d1 d2 d3 d4 d5 d6 d7 + sm8 d0 d1 d2 d3 d4 d5 d6 d7 / 256 = sm8 (d0 + d1) (d1 + d2) (d2 + d3) (d3 + d4) (d4 + d5) (d5 + d6) (d6 + d7) d7 := by
  unfold sm8
  rw [fin_a _ _ _ _ _ _ _ _ h]
  clear h
  omega
theorem sum_b (d0 d1 d2 d3 d4 d5 d6 d7 : Nat) (h : d0 ≤ 16 ∧ d1 ≤ 16 ∧ d2 ≤ 16 ∧ d3 ≤ 16 ∧ d4 ≤ 16 ∧ d5 ≤ 16 ∧ d6 ≤ 16 ∧ d7 ≤ 16) : sm8 d0 d1 d2 d3 d4 d5 d6 d7 + sm8 d0 d1 d2 d3 d4 d5 d6 d7 / 65536 = sm8 (d0 + d2) (d1 + d3) (d2 + d4) (d3 + d5) (d4 + d6) (d5 + d7) d6 d7 := by
  unfold sm8
  rw [fin_b _ _ _ _ _ _ _ _ h]
  clear h
  omega
theorem sum_c (d0 d1 d2 d3 d4 d5 d6 d7 : Nat) (h : d0 ≤ 32 ∧ d1 ≤ 32 ∧ d2 ≤ 32 ∧ d3 ≤ 32 ∧ d4 ≤ 32 ∧ d5 ≤ 32 ∧ d6 ≤ 32 ∧ d7 ≤ 32) : sm8 d0 d1 d2 d3 d4 d5 d6 d7 + sm8 d0 d1 d2 d3 d4 d5 d6 d7 / 4294967296 = sm8 (d0 + d4) (d1 + d5) (d2 + d6) (d3 + d7) d4 d5 d6 d7 := by
  unfold sm8
  rw [fin_c _ _ _ _ _ _ _ _ h]
  clear h
  omega
theorem sm8_lt (d0 d1 d2 d3 d4 d5 d6 d7 : Nat) (h : d0 ≤ 64 ∧ d1 ≤ 64 ∧ d2 ≤ 64 ∧ d3 ≤ 64 ∧ d4 ≤ 64 ∧ d5 ≤ 64 ∧ d6 ≤ 64 ∧ d7 ≤ 64) : sm8 d0 d1 d2 d3 d4 d5 d6 d7 < 9223372036854775808 ∧ sm8 d0 d1 d2 d3 d4 d5 d6 d7 % 128 = d0 := by
  unfold sm8
  exact ⟨by omega, by omega⟩
theorem digits8 (y : Nat) (hy : y < 18446744073709551616) : y = sm8 (y % 256) (y / 256 % 256) (y / 256 / 256 % 256) (y / 256 / 256 / 256 % 256) (y / 256 / 256 / 256 / 256 % 256) (y / 256 / 256 / 256 / 256 / 256 % 256) (y / 256 / 256 / 256 / 256 / 256 / 256 % 256) (y / 256 / 256 / 256 / 256 / 256 / 256 / 256 % 256) := by
  have a0 := Nat.div_add_mod y 256
  have a1 := Nat.div_add_mod (y / 256) 256
  have a2 := Nat.div_add_mod (y / 256 / 256) 256
  have a3 := Nat.div_add_mod (y / 256 / 256 / 256) 256
  have a4 := Nat.div_add_mod (y / 256 / 256 / 256 / 256) 256
  have a5 := Nat.div_add_mod (y / 256 / 256 / 256 / 256 / 256) 256
  have a6 := Nat.div_add_mod (y / 256 / 256 / 256 / 256 / 256 / 256) 256
  have a7 : y / 256 / 256 / 256 / 256 / 256 / 256 / 256 % 256 = y / 256 / 256 / 256 / 256 / 256 / 256 / 256 := by
    refine Nat.mod_eq_of_lt ?_
    rw [Nat.div_div_eq_div_mul, Nat.div_div_eq_div_mul, Nat.div_div_eq_div_mul, Nat.div_div_eq_div_mul, Nat.div_div_eq_div_mul, Nat.div_div_eq_div_mul]
    omega
  rw [a7]
  unfold sm8
  omega
/-- the last three steps -/
theorem fin8 (y : Nat) (hy : y < 18446744073709551616) (hb : bd 8 8 8 y) : ∃ a b c, y + y / 256 = a ∧ a + a / 65536 = b ∧ b + b / 4294967296 = c ∧ a < 9223372036854775808 ∧ b < 9223372036854775808 ∧ c < 9223372036854775808 ∧ c % 128 = dg 8 8 y := by
  obtain ⟨h0, h1, h2, h3, h4, h5, h6, h7, _⟩ := hb
  simp only [show (2 : Nat) ^ 8 = 256 from rfl] at h0 h1 h2 h3 h4 h5 h6 h7
  simp only [dg, show (2 : Nat) ^ 8 = 256 from rfl]
  have hY := digits8 y hy
  generalize y % 256 = d0 at *
  generalize y / 256 / 256 / 256 / 256 / 256 / 256 / 256 % 256 = d7 at *
  generalize y / 256 / 256 / 256 / 256 / 256 / 256 % 256 = d6 at *
  generalize y / 256 / 256 / 256 / 256 / 256 % 256 = d5 at *
  generalize y / 256 / 256 / 256 / 256 % 256 = d4 at *
  generalize y / 256 / 256 / 256 % 256 = d3 at *
  generalize y / 256 / 256 % 256 = d2 at *
  generalize y / 256 % 256 = d1 at *
  subst hY
  refine ⟨_, _, _, sum_a _ _ _ _ _ _ _ _ ⟨h0, h1, h2, h3, h4, h5, h6, h7⟩, sum_b _ _ _ _ _ _ _ _ (by omega), sum_c _ _ _ _ _ _ _ _ (by omega), (sm8_lt _ _ _ _ _ _ _ _ (by omega)).1, (sm8_lt _ _ _ _ _ _ _ _ (by omega)).1, (sm8_lt _ _ _ _ _ _ _ _ (by omega)).1, ?_⟩
  rw [(sm8_lt _ _ _ _ _ _ _ _ (by omega)).2]
  omega
end Go.Proofs.Ytjcihaohpbmogaa.Oct
