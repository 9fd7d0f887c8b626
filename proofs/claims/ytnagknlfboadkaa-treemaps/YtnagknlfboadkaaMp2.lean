/-
  Layer 7 (tree): lists with others in a part's place; a node cut in two where it is too great.
  Layer 7 (tree): 'cut'.
  Layer 7 (tree): Put of a map that has nothing, or one leaf with room.
  Layer 7 (tree): 'put' into a tree of any depth.
  Layer 7 (tree): 'last', 'isSmall'.
  Layer 7 (tree): two kids put together, and cut again.
-/
import Derived.Test.YtnagknlfboadkaaMp1
/- Layer 7 (tree): lists with others in a part's place; a node cut in two where it is too great. -/
namespace Go.Proofs.Ytnagknlfboadkaa.Oct
open Go.RowKit

def kp (b : Nat) : Value := .pointer (some ⟨b, 0, none⟩)
theorem RdP.toRd {w : World} {a : Option Addr} {n : Nat} {ps : List Pr} (h : RdP w a n ps) : Rd w 40 2 a n (ps.flatMap pc) := by
  refine ⟨by rw [flat_len, h.1], flat_one ps, fun hp => ?_⟩
  obtain ⟨g, off, rfl, h1, _⟩ := h.2 hp
  exact ⟨g, off, rfl, h1, h.cells⟩
theorem Rd.toP {w : World} {a : Option Addr} {n : Nat} {ps : List Pr} (h : Rd w 40 2 a n (ps.flatMap pc)) : RdP w a n ps := by
  have hl : ps.length = n := by have := h.1; rw [flat_len] at this; omega
  by_cases hp : 0 < n
  · obtain ⟨g, off, rfl, h1, h2⟩ := h.2.2 hp
    have := rd_of_cells (ps := ps) (g := g) (off := off) (fun _ => h1) h2
    rw [hl] at this
    exact this
  · exact ⟨hl, fun h => absurd h hp⟩
theorem RdK.toRd {w : World} {a : Option Addr} {n : Nat} {bs : List Nat} (h : RdK w a n bs) : Rd w 46 1 a n (bs.map kp) := by
  refine ⟨by simp [h.1], by intro u hu; obtain ⟨b, _, rfl⟩ := List.mem_map.1 hu; rfl, fun hp => ?_⟩
  obtain ⟨g, off, rfl, h1, h2⟩ := h.2 hp
  refine ⟨g, off, rfl, h1, fun j u hu => ?_⟩
  rw [List.getElem?_map] at hu
  obtain ⟨b, hb, rfl⟩ := Option.map_eq_some_iff.1 hu
  exact h2 j b hb
theorem Rd.toK {w : World} {a : Option Addr} {n : Nat} {bs : List Nat} (h : Rd w 46 1 a n (bs.map kp)) : RdK w a n bs := by
  refine ⟨by simpa using h.1, fun hp => ?_⟩
  obtain ⟨g, off, rfl, h1, h2⟩ := h.2.2 hp
  exact ⟨g, off, rfl, h1, fun i b hb => h2 i _ (by rw [List.getElem?_map, hb]; rfl)⟩
theorem flat_take (ps : List Pr) (i : Nat) : (ps.flatMap pc).take (i * 2) = (ps.take i).flatMap pc := by
  induction ps generalizing i with
  | nil => simp
  | cons x r ih =>
    cases i with
    | zero => simp
    | succ i => rw [show (i + 1) * 2 = i * 2 + 2 by omega]; simp [pc]; exact ih i
theorem flat_drop (ps : List Pr) (i : Nat) : (ps.flatMap pc).drop (i * 2) = (ps.drop i).flatMap pc := by
  induction ps generalizing i with
  | nil => simp
  | cons x r ih =>
    cases i with
    | zero => simp
    | succ i => rw [show (i + 1) * 2 = i * 2 + 2 by omega]; simp [pc]; exact ih i
def SpP (w : World) (i j n q : Nat) (ps qs : List Pr) (e : Ending) (w' : World) : Prop := ∃ (a' : Option Addr) (n' cap' : Nat) (ps' : List Pr), e = .returned (.slice a' n' cap') ∧ Hid (ps' = ps.take i ++ qs ++ ps.drop j ∧ n' = i + q + (n - j)) ∧ Hid (RdP w' a' n' ps' ∧ Cap a' n' cap') ∧ Hid (Below w.heap.size w w')
theorem spP (w : World) (a : Option Addr) (n cap i j : Nat) (I J : Int) (hI : I = (i : Int)) (hJ : J = (j : Int)) (ps : List Pr) (o : Option Addr) (q c : Nat) (qs : List Pr) (h : RdP w a n ps) (hc : Cap a n cap) (hij : i ≤ j) (hjn : j ≤ n) (ho : RdP w o q qs) (hb : n + q ≤ 1000000) :
    Calls Try.prog 40 #[.slice a n cap, .int .i64 I, .int .i64 J, .slice o q c] w (SpP w i j n q ps qs) := by
  refine (splP w a n cap i j I J hI hJ _ o q c _ h.toRd hc.2 hc.1 hij hjn ho.toRd hb).mono ?_
  rintro e w' ⟨a', n', cap', cs', rfl, h1, h2, h3⟩
  refine ⟨a', n', cap', _, rfl, ⟨rfl, h1.out.2.1⟩, ⟨?_, h1.out.2.2.1, h1.out.2.2.2⟩, h3⟩
  have e := h2.out
  rw [h1.out.1, flat_take, flat_drop, ← List.flatMap_append, ← List.flatMap_append] at e
  exact e.toP
def SpK (w : World) (i j n q : Nat) (bs qs : List Nat) (e : Ending) (w' : World) : Prop := ∃ (a' : Option Addr) (n' cap' : Nat) (bs' : List Nat), e = .returned (.slice a' n' cap') ∧ Hid (bs' = bs.take i ++ qs ++ bs.drop j ∧ n' = i + q + (n - j)) ∧ Hid (RdK w' a' n' bs' ∧ Cap a' n' cap') ∧ Hid (Below w.heap.size w w')
theorem spK (w : World) (a : Option Addr) (n cap i j : Nat) (I J : Int) (hI : I = (i : Int)) (hJ : J = (j : Int)) (bs : List Nat) (o : Option Addr) (q c : Nat) (qs : List Nat) (h : RdK w a n bs) (hc : Cap a n cap) (hij : i ≤ j) (hjn : j ≤ n) (ho : RdK w o q qs) (hb : n + q ≤ 1000000) :
    Calls Try.prog 45 #[.slice a n cap, .int .i64 I, .int .i64 J, .slice o q c] w (SpK w i j n q bs qs) := by
  refine (splK w a n cap i j I J hI hJ _ o q c _ h.toRd hc.2 hc.1 hij hjn ho.toRd hb).mono ?_
  rintro e w' ⟨a', n', cap', cs', rfl, h1, h2, h3⟩
  refine ⟨a', n', cap', _, rfl, ⟨rfl, h1.out.2.1⟩, ⟨?_, h1.out.2.2.1, h1.out.2.2.2⟩, h3⟩
  have e := h2.out
  rw [h1.out.1, Nat.mul_one, Nat.mul_one, ← List.map_take, ← List.map_drop, ← List.map_append, ← List.map_append] at e
  exact e.toK
/-- what stands where one node stood -/
inductive Half (d : Nat) where
  | one (t : T d)
  | two (l : T d) (m : Pr) (r : T d)
def Half.list {d : Nat} : Half d → List Pr
  | .one t => tl d t
  | .two l m r => tl d l ++ m :: tl d r
def two (b : Nat) (m : Pr) (b2 : Nat) : Value := .agg #[.pointer (some ⟨b, 0, none⟩), .string m.1, .string m.2, .pointer (some ⟨b2, 0, none⟩)]
def Half.lies {d : Nat} (w : World) (v : Value) : Half d → Prop
  | .one t => ∃ b, v = Oct.one b ∧ Lies w d t b
  | .two l m r => ∃ b b2, v = Oct.two b m b2 ∧ Lies w d l b ∧ Lies w d r b2
theorem Half.lies.below {w w' : World} {d : Nat} {v : Value} {H : Half d} (h : H.lies w v) (hb : Below w.heap.size w w') : H.lies w' v := by
  cases H with
  | one t => obtain ⟨b, h1, h2⟩ := h; exact ⟨b, h1, h2.below hb (Nat.le_refl _)⟩
  | two l m r => obtain ⟨b, b2, h1, h2, h3⟩ := h; exact ⟨b, b2, h1, h2.below hb (Nat.le_refl _), h3.below hb (Nat.le_refl _)⟩

theorem partP_is (w : World) (g off n cap i j : Nat) (I J : Int) (hI : I = (i : Int)) (hJ : J = (j : Int)) (h1 : i < j) (h2 : j ≤ cap) : Calls Try.prog 48 #[.slice (some ⟨g, off, none⟩) n cap, .int .i64 I, .int .i64 J] w fun e w' => e = .returned (.slice (some ⟨g, off + i * 2, none⟩) (j - i) (j - i)) ∧ w = w' := by
  subst hI; subst hJ
  have q1 : (0 : Int) ≤ (i : Int) := by omega
  have q2 : (i : Int) ≤ (j : Int) := by omega
  have q3 : (j : Int) ≤ (cap : Int) := by omega
  have q4 : ¬ j - i = 0 := by omega
  have q5 : ¬ j = i := by omega
  go_enter Try.func48, Try.ntmps48
  go_wp2
  go_ret
  exact ⟨rfl, rfl⟩
theorem partK_is (w : World) (g off n cap i j : Nat) (I J : Int) (hI : I = (i : Int)) (hJ : J = (j : Int)) (h1 : i < j) (h2 : j ≤ cap) : Calls Try.prog 50 #[.slice (some ⟨g, off, none⟩) n cap, .int .i64 I, .int .i64 J] w fun e w' => e = .returned (.slice (some ⟨g, off + i, none⟩) (j - i) (j - i)) ∧ w = w' := by
  subst hI; subst hJ
  have q1 : (0 : Int) ≤ (i : Int) := by omega
  have q2 : (i : Int) ≤ (j : Int) := by omega
  have q3 : (j : Int) ≤ (cap : Int) := by omega
  have q4 : ¬ j - i = 0 := by omega
  have q5 : ¬ j = i := by omega
  go_enter Try.func50, Try.ntmps50
  go_wp2
  go_ret
  exact ⟨rfl, rfl⟩
end Go.Proofs.Ytnagknlfboadkaa.Oct

/- Layer 7 (tree): 'cut'. -/
namespace Go.Proofs.Ytnagknlfboadkaa.Oct
open Go.RowKit

theorem cut_one (w : World) (a a' : Option Addr) (n cap n' cap' : Nat) (ps : List Pr) (h : RdP w a n ps) (hn : n ≤ 7) :
    Calls Try.prog 44 #[.slice a n cap, .slice a' n' cap'] w fun e w' => ∃ nd, e = .returned (one nd) ∧ Hid (Nd w' nd a n cap ps (.slice a' n' cap')) ∧ Hid (Below w.heap.size w w') := by
  have HR : Hid (RdP w a n ps) := h
  have q1 : (n : Int) ≤ 7 := by omega
  clear h hn
  go_enter Try.func44, Try.ntmps44
  go_wp2
  have hb := Blk.alloc (Blk.new w #[Value.pointer (some { block := w.heap.size + 1, off := 0 }), Value.string { data := #[] }, Value.string { data := #[] }, Value.pointer none] 59) (Obj.cells #[Value.slice a n cap, Value.slice a' n' cap'] 67)
  have hB : Below w.heap.size w (w.alloc (Obj.cells #[Value.pointer (some { block := w.heap.size + 1, off := 0 }), Value.string { data := #[] }, Value.string { data := #[] }, Value.pointer none] 59)) := (Below.refl _ w).alloc (Nat.le_refl _) _
  refine bodyPost_ret (results_half rfl rfl hb) rfl ?_
  refine ⟨_, rfl, ⟨?_, (HR.out.below hB (Nat.le_refl _)).below ((Below.refl _ _).alloc (Nat.le_refl _) _) (Nat.le_refl _)⟩, hB.alloc (by simp) _⟩
  have e := Blk.new (w.alloc (Obj.cells #[Value.pointer (some { block := w.heap.size + 1, off := 0 }), Value.string { data := #[] }, Value.string { data := #[] }, Value.pointer none] 59)) #[Value.slice a n cap, Value.slice a' n' cap'] 67
  rw [World.size_alloc] at e
  exact e

theorem results_two {fn : Func} {p : Tmp} (hf : fn.results = #[.cell p 59]) {tm : Array Value} {W : World} {b b1 b2 : Nat} {m : Pr} (h : tm.getD p undef = .pointer (some ⟨b, 0, none⟩)) (hb : Blk W b 59 [.pointer (some ⟨b1, 0, none⟩), .string m.1, .string m.2, .pointer (some ⟨b2, 0, none⟩)]) : (results fn tm).run Try.prog W = .ok (two b1 m b2) W := by
  exact results_cell_row (P := Try.prog) hf tm W b 59 _ (0, 0) _ h hb Try.underlying59 rfl (by kernel_rfl)
theorem cut_done (w : World) (m : Pr) (x1 x2 y1 y2 : Value) (W : World) (hW : W = ((w.alloc (Obj.cells #[Value.pointer (some { block := w.heap.size + 1, off := 0 }), Value.string m.1, Value.string m.2, Value.pointer (some { block := w.heap.size + 1 + 1, off := 0 })] 59)).alloc (Obj.cells #[x1, x2] 67)).alloc (Obj.cells #[y1, y2] 67)) :
    Blk W w.heap.size 59 [.pointer (some ⟨w.heap.size + 1, 0, none⟩), .string m.1, .string m.2, .pointer (some ⟨w.heap.size + 1 + 1, 0, none⟩)] ∧ Blk W (w.heap.size + 1) 67 [x1, x2] ∧ Blk W (w.heap.size + 1 + 1) 67 [y1, y2] ∧ Below w.heap.size w W := by
  subst hW
  refine ⟨((Blk.new w _ 59).alloc _).alloc _, ?_, ?_, (((Below.refl _ w).alloc (Nat.le_refl _) _).alloc (by simp) _).alloc (by simp; omega) _⟩
  · have e := Blk.new (w.alloc (Obj.cells #[Value.pointer (some { block := w.heap.size + 1, off := 0 }), Value.string m.1, Value.string m.2, Value.pointer (some { block := w.heap.size + 1 + 1, off := 0 })] 59)) #[x1, x2] 67
    rw [World.size_alloc] at e
    exact e.alloc _
  · have e := Blk.new ((w.alloc (Obj.cells #[Value.pointer (some { block := w.heap.size + 1, off := 0 }), Value.string m.1, Value.string m.2, Value.pointer (some { block := w.heap.size + 1 + 1, off := 0 })] 59)).alloc (Obj.cells #[x1, x2] 67)) #[y1, y2] 67
    rw [World.size_alloc, World.size_alloc] at e
    exact e
set_option maxRecDepth 100000 in
theorem cut_leaf2 (w : World) (g off n cap : Nat) (ps : List Pr) (m : Pr) (h : RdP w (some ⟨g, off, none⟩) n ps) (hn : 8 ≤ n ∧ n ≤ 12 ∧ n ≤ cap) (hm : ps[n / 2]? = some m) :
    Calls Try.prog 44 #[.slice (some ⟨g, off, none⟩) n cap, .slice none 0 0] w fun e w' => ∃ b b2, e = .returned (two b m b2) ∧ Hid (Nd w' b (some ⟨g, off, none⟩) (n / 2) (n / 2) (ps.take (n / 2)) (.slice none 0 0)) ∧ Hid (Nd w' b2 (some ⟨g, off + (n / 2 + 1) * 2, none⟩) (n - (n / 2 + 1)) (n - (n / 2 + 1)) (ps.drop (n / 2 + 1)) (.slice none 0 0)) ∧ Hid (Below w.heap.size w w') := by
  have HR : Hid (RdP w (some ⟨g, off, none⟩) n ps) := h
  have q1 : ¬ (n : Int) ≤ 7 := by omega
  obtain ⟨i, hi⟩ : ∃ i, n / 2 = i := ⟨_, rfl⟩
  have HI : Hid (n / 2 = i) := hi
  rw [hi] at hm ⊢
  have HN : Hid (4 ≤ i ∧ i < n ∧ i + 1 < n ∧ n ≤ cap ∧ n ≤ 12) := by show _ ∧ _; omega
  obtain ⟨g', off', e, hg, hc⟩ := h.2 (by omega)
  cases e
  have m1 := (hc i m hm).1
  have m2 := (hc i m hm).2
  have HG : Hid (g < w.heap.size) := hg.lt
  have q2 : (n : Int).tdiv 2 = (i : Int) := by rw [← hi]; rfl
  have b1 : (i : Int) ≤ 12 := by omega
  have b2 : (i : Int) + 1 ≤ (n : Int) := by omega
  have b3 : (n : Int) ≤ 12 := by omega
  clear h hc hg hm hi hn
  go_enter Try.func44, Try.ntmps44
  go_wp2_with fail
  refine (partP_zero _ g off n cap i (by have := HN.out; omega)).mono ?_
  rintro e w1 ⟨rfl, rfl⟩
  go_wp2_with fail
  refine (partP_is _ g off n cap (i + 1) n _ _ (by omega) rfl (by have := HN.out; omega) (by have := HN.out; omega)).mono ?_
  rintro e w1 ⟨rfl, rfl⟩
  have B3 : Hid (∀ A B C, Below w.heap.size w (((w.alloc A).alloc B).alloc C)) := fun A B C => (((Below.refl _ w).alloc (Nat.le_refl _) _).alloc (by simp) _).alloc (by simp; omega) _
  have e1 := (B3.out (Obj.cells #[Value.pointer none, Value.string { data := #[] }, Value.string { data := #[] }, Value.pointer none] 59) (Obj.cells #[Value.slice (some { block := g, off := off }) i i, Value.slice none 0 0] 67) (Obj.cells #[Value.slice (some { block := g, off := off + (i + 1) * 2 }) (n - (i + 1)) (n - (i + 1)), Value.slice none 0 0] 67))
  have m1' := (e1.cell (p := ⟨g, off + i * 2, none⟩) HG.out).trans m1
  have m2' := (e1.cell (p := ⟨g, off + i * 2 + 1, none⟩) HG.out).trans m2
  clear e1
  go_wp2
  obtain ⟨k1, k2, k3, k4⟩ := cut_done w m _ _ _ _ _ rfl
  refine bodyPost_ret (results_two rfl rfl k1) rfl ?_
  exact ⟨_, _, rfl, ⟨k2, (HR.out.below k4 (Nat.le_refl _)).take (by have := HN.out; omega)⟩, ⟨k3, (HR.out.below k4 (Nat.le_refl _)).drop (by have := HN.out; omega)⟩, k4⟩
set_option maxRecDepth 100000 in
theorem cut_node2 (w : World) (g off n cap g' off' n' cap' : Nat) (ps : List Pr) (hk : n' = n + 1 ∧ n' ≤ cap') (m : Pr) (h : RdP w (some ⟨g, off, none⟩) n ps) (hn : 8 ≤ n ∧ n ≤ 12 ∧ n ≤ cap) (hm : ps[n / 2]? = some m) :
    Calls Try.prog 44 #[.slice (some ⟨g, off, none⟩) n cap, .slice (some ⟨g', off', none⟩) n' cap'] w fun e w' => ∃ b b2, e = .returned (two b m b2) ∧ Hid (Nd w' b (some ⟨g, off, none⟩) (n / 2) (n / 2) (ps.take (n / 2)) (.slice (some ⟨g', off', none⟩) (n / 2 + 1) (n / 2 + 1))) ∧ Hid (Nd w' b2 (some ⟨g, off + (n / 2 + 1) * 2, none⟩) (n - (n / 2 + 1)) (n - (n / 2 + 1)) (ps.drop (n / 2 + 1)) (.slice (some ⟨g', off' + (n / 2 + 1), none⟩) (n' - (n / 2 + 1)) (n' - (n / 2 + 1)))) ∧ Hid (Below w.heap.size w w') := by
  have HR : Hid (RdP w (some ⟨g, off, none⟩) n ps) := h
  have q1 : ¬ (n : Int) ≤ 7 := by omega
  obtain ⟨i, hi⟩ : ∃ i, n / 2 = i := ⟨_, rfl⟩
  have HI : Hid (n / 2 = i) := hi
  rw [hi] at hm ⊢
  have HN : Hid (4 ≤ i ∧ i < n ∧ i + 1 < n ∧ n ≤ cap ∧ n ≤ 12) := by show _ ∧ _; omega
  obtain ⟨g9, off9, e, hg, hc⟩ := h.2 (by omega)
  cases e
  have m1 := (hc i m hm).1
  have m2 := (hc i m hm).2
  have HG : Hid (g < w.heap.size) := hg.lt
  have q2 : (n : Int).tdiv 2 = (i : Int) := by rw [← hi]; rfl
  have b1 : (i : Int) ≤ 12 := by omega
  have b2 : (i : Int) + 1 ≤ (n : Int) := by omega
  have b3 : (n : Int) ≤ 12 := by omega
  have HK : Hid (n' = n + 1 ∧ n' ≤ cap') := hk
  have b4 : 0 < n' := by omega
  have b5 : (n' : Int) ≤ 13 := by omega
  clear h hc hg hm hi hn hk
  go_enter Try.func44, Try.ntmps44
  go_wp2_with fail
  refine (partP_zero _ g off n cap i (by have := HN.out; omega)).mono ?_
  rintro e w1 ⟨rfl, rfl⟩
  go_wp2_with fail
  refine (partP_is _ g off n cap (i + 1) n _ _ (by omega) rfl (by have := HN.out; omega) (by have := HN.out; omega)).mono ?_
  rintro e w1 ⟨rfl, rfl⟩
  go_wp2_with fail
  refine (partK_zero _ g' off' n' cap' (i + 1) (by have := HN.out; have := HK.out; omega)).mono ?_
  rintro e w1 ⟨rfl, rfl⟩
  go_wp2_with fail
  refine (partK_is _ g' off' n' cap' (i + 1) n' _ _ (by omega) rfl (by have := HN.out; have := HK.out; omega) (by have := HN.out; have := HK.out; omega)).mono ?_
  rintro e w1 ⟨rfl, rfl⟩
  have B3 : Hid (∀ A B C, Below w.heap.size w (((w.alloc A).alloc B).alloc C)) := fun A B C => (((Below.refl _ w).alloc (Nat.le_refl _) _).alloc (by simp) _).alloc (by simp; omega) _
  have e1 := (B3.out (Obj.cells #[Value.pointer none, Value.string { data := #[] }, Value.string { data := #[] }, Value.pointer none] 59) (Obj.cells #[Value.slice (some { block := g, off := off }) i i, Value.slice (some { block := g', off := off' }) (i + 1) (i + 1)] 67) (Obj.cells #[Value.slice (some { block := g, off := off + (i + 1) * 2 }) (n - (i + 1)) (n - (i + 1)), Value.slice (some { block := g', off := off' + (i + 1) }) (n' - (i + 1)) (n' - (i + 1))] 67))
  have m1' := (e1.cell (p := ⟨g, off + i * 2, none⟩) HG.out).trans m1
  have m2' := (e1.cell (p := ⟨g, off + i * 2 + 1, none⟩) HG.out).trans m2
  clear e1
  go_wp2
  obtain ⟨k1, k2, k3, k4⟩ := cut_done w m _ _ _ _ _ rfl
  refine bodyPost_ret (results_two rfl rfl k1) rfl ?_
  exact ⟨_, _, rfl, ⟨k2, (HR.out.below k4 (Nat.le_refl _)).take (by have := HN.out; omega)⟩, ⟨k3, (HR.out.below k4 (Nat.le_refl _)).drop (by have := HN.out; omega)⟩, k4⟩
theorem RdK.take {w : World} {a : Option Addr} {n : Nat} {bs : List Nat} (h : RdK w a n bs) {i : Nat} (hi : i ≤ n) : RdK w a i (bs.take i) := by
  have := h.toRd.take hi
  rw [Nat.mul_one, ← List.map_take] at this
  exact this.toK
theorem RdK.drop {w : World} {g off n : Nat} {bs : List Nat} (h : RdK w (some ⟨g, off, none⟩) n bs) {i : Nat} (hi : i ≤ n) : RdK w (some ⟨g, off + i, none⟩) (n - i) (bs.drop i) := by
  have := h.toRd.drop hi
  rw [Nat.mul_one, ← List.map_drop] at this
  exact this.toK
/-- a good half: its nodes are neither too small nor too great -/
def Half.ok {d : Nat} : Half d → Prop
  | .one t => WF d t ∧ (prs d t).length ≤ 7
  | .two l _ r => (WF d l ∧ 3 ≤ (prs d l).length ∧ (prs d l).length ≤ 7) ∧ (WF d r ∧ 3 ≤ (prs d r).length ∧ (prs d r).length ≤ 7)
theorem Ad.some_of {a : Option Addr} {n cap : Nat} (h : Cap a n cap) (hn : 0 < n) : ∃ g off, a = some ⟨g, off, none⟩ := by
  rcases h.2 with ⟨_, h0⟩ | h
  · have := h.1; omega
  · exact h
theorem cut_leaf (w : World) (a : Option Addr) (n cap : Nat) (ps : List Pr) (h : RdP w a n ps) (hc : Cap a n cap) (hn : n ≤ 12) :
    Calls Try.prog 44 #[.slice a n cap, .slice none 0 0] w fun e w' => ∃ (v : Value) (H : Half 0), e = .returned v ∧ Hid (H.lies w' v) ∧ Hid (H.list = ps ∧ H.ok ∧ (n ≤ 7 → ∃ t, H = .one t ∧ (prs 0 t).length = n) ∧ (7 < n → ∃ l m r, H = .two l m r)) ∧ Hid (Below w.heap.size w w') := by
  by_cases h7 : n ≤ 7
  · refine (cut_one w a none n cap 0 0 ps h h7).mono ?_
    rintro e w' ⟨nd, rfl, h1, h2⟩
    exact ⟨_, .one ps, rfl, ⟨nd, rfl, a, n, cap, h1, hc⟩, ⟨rfl, ⟨trivial, by show ps.length ≤ 7; rw [h.1]; exact h7⟩, fun _ => ⟨ps, rfl, h.1⟩, fun h8 => absurd h8 (by omega)⟩, h2⟩
  · obtain ⟨g, off, rfl⟩ := Ad.some_of hc (by omega)
    have hlt : n / 2 < ps.length := by rw [h.1]; omega
    refine (cut_leaf2 w g off n cap ps ps[n / 2] h ⟨by omega, hn, hc.1⟩ (List.getElem?_eq_getElem hlt)).mono ?_
    rintro e w' ⟨b, b2, rfl, h1, h2, h3⟩
    refine ⟨_, .two (ps.take (n / 2)) ps[n / 2] (ps.drop (n / 2 + 1)), rfl, ⟨b, b2, rfl, ⟨_, _, _, h1, Nat.le_refl _, .inr ⟨_, _, rfl⟩⟩, ⟨_, _, _, h2, Nat.le_refl _, .inr ⟨_, _, rfl⟩⟩⟩, ⟨?_, ⟨⟨trivial, ?_, ?_⟩, ⟨trivial, ?_, ?_⟩⟩, fun h => absurd h h7, fun _ => ⟨_, _, _, rfl⟩⟩, h3⟩
    · show ps.take (n / 2) ++ ps[n / 2] :: ps.drop (n / 2 + 1) = ps
      rw [← List.drop_eq_getElem_cons hlt, List.take_append_drop]
    · show 3 ≤ (ps.take (n / 2)).length; rw [List.length_take, h.1]; omega
    · show (ps.take (n / 2)).length ≤ 7; rw [List.length_take, h.1]; omega
    · show 3 ≤ (ps.drop (n / 2 + 1)).length; rw [List.length_drop, h.1]; omega
    · show (ps.drop (n / 2 + 1)).length ≤ 7; rw [List.length_drop, h.1]; omega
/-- kids of a node, in memory -/
def Kids (w : World) (d : Nat) (ts : List (T d)) (bs : List Nat) : Prop := bs.length = ts.length ∧ ∀ (i : Nat) (k : T d) (b : Nat), ts[i]? = some k → bs[i]? = some b → Lies w d k b
def KidsOk (d : Nat) (ts : List (T d)) : Prop := ∀ k ∈ ts, WF d k ∧ 3 ≤ (prs d k).length ∧ (prs d k).length ≤ 7
theorem Kids.below {w w' : World} {d : Nat} {ts : List (T d)} {bs : List Nat} (h : Kids w d ts bs) (hb : Below w.heap.size w w') : Kids w' d ts bs := ⟨h.1, fun i k b hi hb' => (h.2 i k b hi hb').below hb (Nat.le_refl _)⟩
theorem Kids.take {w : World} {d : Nat} {ts : List (T d)} {bs : List Nat} (h : Kids w d ts bs) (m : Nat) : Kids w d (ts.take m) (bs.take m) := by
  refine ⟨by simp [h.1], fun i k b hi hb => ?_⟩
  rw [List.getElem?_take] at hi hb
  by_cases hm : i < m
  · rw [if_pos hm] at hi hb; exact h.2 i k b hi hb
  · rw [if_neg hm] at hi; cases hi
theorem Kids.drop {w : World} {d : Nat} {ts : List (T d)} {bs : List Nat} (h : Kids w d ts bs) (m : Nat) : Kids w d (ts.drop m) (bs.drop m) := by
  refine ⟨by simp [h.1], fun i k b hi hb => ?_⟩
  rw [List.getElem?_drop] at hi hb
  exact h.2 _ k b hi hb
theorem Kids.append {w : World} {d : Nat} {ts ts' : List (T d)} {bs bs' : List Nat} (h : Kids w d ts bs) (h' : Kids w d ts' bs') : Kids w d (ts ++ ts') (bs ++ bs') := by
  refine ⟨by simp [h.1, h'.1], fun i k b hi hb => ?_⟩
  by_cases hlt : i < ts.length
  · rw [List.getElem?_append_left hlt] at hi
    rw [List.getElem?_append_left (by rw [h.1]; exact hlt)] at hb
    exact h.2 i k b hi hb
  · rw [List.getElem?_append_right (by omega)] at hi
    rw [List.getElem?_append_right (by rw [h.1]; omega), h.1] at hb
    exact h'.2 _ k b hi hb
theorem Kids.one {w : World} {d : Nat} {k : T d} {b : Nat} (h : Lies w d k b) : Kids w d [k] [b] := by
  refine ⟨rfl, fun i k' b' hi hb => ?_⟩
  cases i with
  | zero => simp at hi hb; subst hi; subst hb; exact h
  | succ i => simp at hi
theorem cut_node (w : World) (d : Nat) (a a' : Option Addr) (n cap n' cap' : Nat) (ps : List Pr) (ts : List (T d)) (bs : List Nat) (h : RdP w a n ps) (hc : Cap a n cap) (hn : n ≤ 12) (hk : RdK w a' n' bs) (hc' : Cap a' n' cap') (hl : ts.length = ps.length + 1) (hks : Kids w d ts bs) (hok : KidsOk d ts) :
    Calls Try.prog 44 #[.slice a n cap, .slice a' n' cap'] w fun e w' => ∃ (v : Value) (H : Half (d + 1)), e = .returned v ∧ Hid (H.lies w' v) ∧ Hid (H.list = inter (ts.map (tl d)) ps ∧ H.ok ∧ (n ≤ 7 → ∃ t, H = .one t ∧ (prs (d + 1) t).length = n) ∧ (7 < n → ∃ l m r, H = .two l m r)) ∧ Hid (Below w.heap.size w w') := by
  have hnn : n' = n + 1 := by rw [← hk.1, hks.1, hl, h.1]
  by_cases h7 : n ≤ 7
  · refine (cut_one w a a' n cap n' cap' ps h h7).mono ?_
    rintro e w' ⟨nd, rfl, h1, h2⟩
    refine ⟨_, .one (ps, ts), rfl, ⟨nd, rfl, a, n, cap, a', n', cap', bs, h1, hc, hk.below h2.out (Nat.le_refl _), hc', hks.1, (hks.below h2.out).2⟩, ⟨rfl, ⟨⟨hl, hok⟩, by show ps.length ≤ 7; rw [h.1]; exact h7⟩, fun _ => ⟨(ps, ts), rfl, h.1⟩, fun h8 => absurd h8 (by omega)⟩, h2⟩
  · obtain ⟨g, off, rfl⟩ := Ad.some_of hc (by omega)
    obtain ⟨g', off', rfl⟩ := Ad.some_of hc' (by omega)
    have hlt : n / 2 < ps.length := by rw [h.1]; omega
    refine (cut_node2 w g off n cap g' off' n' cap' ps ⟨hnn, hc'.1⟩ ps[n / 2] h ⟨by omega, hn, hc.1⟩ (List.getElem?_eq_getElem hlt)).mono ?_
    rintro e w' ⟨b, b2, rfl, h1, h2, h3⟩
    have hk2 := hks.below h3.out
    have hr2 := hk.below h3.out (Nat.le_refl _)
    refine ⟨_, .two (ps.take (n / 2), ts.take (n / 2 + 1)) ps[n / 2] (ps.drop (n / 2 + 1), ts.drop (n / 2 + 1)), rfl, ⟨b, b2, rfl, ⟨_, _, _, _, _, _, bs.take (n / 2 + 1), h1, ⟨Nat.le_refl _, .inr ⟨_, _, rfl⟩⟩, hr2.take (by omega), ⟨Nat.le_refl _, .inr ⟨_, _, rfl⟩⟩, (hk2.take _).1, (hk2.take _).2⟩, ⟨_, _, _, _, _, _, bs.drop (n / 2 + 1), h2, ⟨Nat.le_refl _, .inr ⟨_, _, rfl⟩⟩, hr2.drop (by omega), ⟨Nat.le_refl _, .inr ⟨_, _, rfl⟩⟩, (hk2.drop _).1, (hk2.drop _).2⟩⟩, ⟨?_, ⟨⟨⟨?_, ?_⟩, ?_, ?_⟩, ⟨⟨?_, ?_⟩, ?_, ?_⟩⟩, fun h => absurd h h7, fun _ => ⟨_, _, _, rfl⟩⟩, h3⟩
    · show inter ((ts.take (n / 2 + 1)).map (tl d)) (ps.take (n / 2)) ++ ps[n / 2] :: inter ((ts.drop (n / 2 + 1)).map (tl d)) (ps.drop (n / 2 + 1)) = _
      rw [List.map_take, List.map_drop]
      exact (inter_cut (by simpa using hl) (List.getElem?_eq_getElem hlt)).symm
    · show (ts.take (n / 2 + 1)).length = (ps.take (n / 2)).length + 1
      rw [List.length_take, List.length_take, hl, h.1]; omega
    · intro k hk'; exact hok k (List.mem_of_mem_take hk')
    · show 3 ≤ (ps.take (n / 2)).length; rw [List.length_take, h.1]; omega
    · show (ps.take (n / 2)).length ≤ 7; rw [List.length_take, h.1]; omega
    · show (ts.drop (n / 2 + 1)).length = (ps.drop (n / 2 + 1)).length + 1
      rw [List.length_drop, List.length_drop, hl, h.1]; omega
    · intro k hk'; exact hok k (List.mem_of_mem_drop hk')
    · show 3 ≤ (ps.drop (n / 2 + 1)).length; rw [List.length_drop, h.1]; omega
    · show (ps.drop (n / 2 + 1)).length ≤ 7; rw [List.length_drop, h.1]; omega
end Go.Proofs.Ytnagknlfboadkaa.Oct

/- Layer 7 (tree): Put of a map that has nothing, or one leaf with room. -/
namespace Go.Proofs.Ytnagknlfboadkaa.Oct
open Go.RowKit

theorem AtP.uniq {ps : List Pr} {key : ByteArray} {k l : Nat} (h : AtP ps key k) (h' : AtP ps key l) : k = l := by
  have aux : ∀ {k l : Nat}, AtP ps key k → AtP ps key l → ¬ k < l := by
    intro k l h h' hlt
    have hk : k < ps.length := Nat.lt_of_lt_of_le hlt h'.1
    have e1 := h'.2.1 k _ hlt (List.getElem?_eq_getElem hk)
    have e2 := h.2.2 k _ (Nat.le_refl _) (List.getElem?_eq_getElem hk)
    rw [e1] at e2; cases e2
  have := aux h h'
  have := aux h' h
  omega
theorem Mp.keep {w w' : World} {m : Nat} {r : Value} {n B : Nat} (h : Mp w m r n) (hb : Below B w w') (hB : w.heap.size ≤ B) : Mp w' m r n := h.below hb (Nat.lt_of_lt_of_le h.lt hB)

theorem below_grown {w w' : World} (h : Below w.heap.size w w') (row : Option Nat) : w.grownBy w' row := ⟨h.os, h.tape, h.output, h.size, fun k hk _ => h.block k hk⟩
/-- the pairs lie in no map -/
theorem Nd.far {w : World} {m nd g n cap c off : Nat} {r kv : Value} {ps : List Pr} (h : Mp w m r c) (hn : Nd w nd (some ⟨g, off, none⟩) n cap ps kv) (hp : 0 < n) : g ≠ m := by
  rintro rfl
  obtain ⟨g', off', e, _, hc⟩ := hn.rd.2 hp
  cases e
  have hl : 0 < ps.length := by rw [hn.rd.1]; exact hp
  have h0 := hc 0 _ (List.getElem?_eq_getElem hl)
  have e : ∀ j, w.cell? ⟨g, j, none⟩ = [r, .int .i64 (c : Int), .bool true][j]? := fun j => by rw [cell_of_row w g j _ 48 (0, 0) h, List.getElem?_toArray]
  rw [Nat.zero_mul, Nat.add_zero, e, e] at h0
  match off, h0 with
  | 0, h0 => simp at h0
  | 1, h0 => simp at h0
  | 2, h0 => simp at h0
  | k + 3, h0 => simp at h0
theorem Nd.apart {w : World} {m nd n cap c : Nat} {a : Option Addr} {r kv : Value} {ps : List Pr} (h : Mp w m r c) (hn : Nd w nd a n cap ps kv) (e : nd = m) : False := by
  subst e
  have := h.symm.trans hn.blk
  simp at this

set_option maxRecDepth 100000 in
theorem mput_nil (w : World) (m : Nat) (x : Pr) (h : Mp w m (.pointer none) 0) :
    Calls Try.prog 19 #[.pointer (some ⟨m, 0, none⟩), .string x.1, .string x.2] w fun e w' => ∃ nd g, e = .returned (.bool false) ∧ Hid (Mp w' m (.pointer (some ⟨nd, 0, none⟩)) 1) ∧ Hid (Nd w' nd (some ⟨g, 0, none⟩) 1 1 [x] (.slice none 0 0)) ∧ Hid (w.grownBy w' (some m) ∧ w.heap.size ≤ nd) := by
  obtain ⟨k, v⟩ := x
  have HM : Hid (Mp w m (.pointer none) 0) := h
  have c0 := h.cell (i := 0) rfl
  have c1 := h.cell (i := 1) rfl
  have c2 := h.cell (i := 2) rfl
  have f0 := h.free 0
  have f1 := h.free 1
  clear h
  go_enter Try.func19, Try.ntmps19
  go_wp2_with (first | (go_at_call 22; refine (made_is w m true c2).mono ?_; rintro e w2 ⟨rfl, rfl⟩) | fail)
  refine (get_nil w k).mono ?_
  rintro e w1 ⟨rfl, hB1⟩
  have HB1 : Hid (Below w.heap.size w w1) := hB1
  have HM1 : Hid (Mp w1 m (.pointer none) 0) := HM.out.keep hB1 (Nat.le_refl _)
  have HL : Hid (m < w.heap.size) := HM.out.lt
  have d0 := HM1.out.cell (i := 0) rfl
  have d1 := HM1.out.cell (i := 1) rfl
  have g1 := HM1.out.free 1
  clear hB1 c0 c1 c2 f0 f1
  go_wp2_with fail
  have HG1 : Hid (w.grownBy (w1.setCell ⟨m, 1, none⟩ (.int .i64 1)) (some m)) := grown_tr (below_grown HB1.out _) (grown_setCell _ _ _ _)
  have HM2 : Hid (Mp (w1.setCell ⟨m, 1, none⟩ (.int .i64 1)) m (.pointer none) 1) := HM1.out.set 1 (.int .i64 1)
  refine (put_nil _ (k, v)).mono ?_
  rintro e w3 ⟨nd, g, rfl, HN3, HB3⟩
  have HM3 : Hid (Mp w3 m (.pointer none) 1) := HM2.out.keep HB3.out.1 (Nat.le_refl _)
  go_wp2_with fail
  refine (whole_is w3 nd).mono ?_
  rintro e w4 ⟨rfl, HB4⟩
  have HM4 : Hid (Mp w4 m (.pointer none) 1) := HM3.out.keep HB4.out (Nat.le_refl _)
  have HN4 : Hid (Nd w4 nd (some ⟨g, 0, none⟩) 1 1 [(k, v)] (.slice none 0 0)) := HN3.out.below HB4.out (Nat.le_refl _)
  have e0 := HM4.out.cell (i := 0) rfl
  have g0 := HM4.out.free 0
  clear d0 d1 g1
  go_wp2
  go_ret
  have hnd : w.heap.size ≤ nd := Nat.le_trans HG1.out.size HB3.out.2
  have hml := HL.out
  refine ⟨nd, g, rfl, HM4.out.set 0 _, ⟨HN4.out.blk.kept (grown_setCell _ _ _ _) (by simp; omega), HN4.out.rd.grown (grown_setCell _ _ _ _) ?_⟩, grown_tr (grown_tr HG1.out (below_grown (HB3.out.1.trans (HB4.out.mono HB3.out.1.size)) _)) (grown_setCell _ _ _ _), hnd⟩
  exact Nd.far HM4.out HN4.out (by omega)

/-- a map of one leaf, behind a Put -/
def Putd (w w' : World) (m c : Nat) (ps : List Pr) : Prop := ∃ nd' g' cap' N, Mp w' m (.pointer (some ⟨nd', 0, none⟩)) c ∧ Nd w' nd' (some ⟨g', 0, none⟩) N cap' ps (.slice none 0 0) ∧ w.grownBy w' (some m) ∧ w.heap.size ≤ nd' ∧ N ≤ cap'
set_option maxRecDepth 100000 in
theorem mput_leaf (w : World) (m nd g off n cap c : Nat) (ps : List Pr) (x : Pr) (h : Mp w m (.pointer (some ⟨nd, 0, none⟩)) c) (hn : Nd w nd (some ⟨g, off, none⟩) n cap ps (.slice none 0 0)) (hm : Mono ps x.1) (hn6 : 0 < n ∧ n ≤ 6) (hnc : n ≤ cap) (hc : c ≤ 1000) (b : Bool) (k0 : Nat) (ha : AtP ps x.1 k0) (hi : isP ps x.1 k0 = b) :
    Calls Try.prog 19 #[.pointer (some ⟨m, 0, none⟩), .string x.1, .string x.2] w fun e w' => e = .returned (.bool b) ∧ Hid (Putd w w' m (if b = true then c else c + 1) (putP ps x k0)) := by
  obtain ⟨k, v⟩ := x
  have HM : Hid (Mp w m (.pointer (some ⟨nd, 0, none⟩)) c) := h
  have HN : Hid (Nd w nd (some ⟨g, off, none⟩) n cap ps (.slice none 0 0)) := hn
  have HO : Hid (Mono ps k) := hm
  have HS : Hid ((0 < n ∧ n ≤ 6) ∧ n ≤ cap ∧ c ≤ 1000) := ⟨hn6, hnc, hc⟩
  have HA : Hid (AtP ps k k0) := ha
  have HI : Hid (isP ps k k0 = b) := hi
  have c0 := h.cell (i := 0) rfl
  have c2 := h.cell (i := 2) rfl
  have HL : Hid (m < w.heap.size) := h.lt
  clear h hn hm hn6 hnc hc ha hi
  go_enter Try.func19, Try.ntmps19
  go_wp2_with (first | (go_at_call 22; refine (made_is w m true c2).mono ?_; rintro e w2 ⟨rfl, rfl⟩) | fail)
  refine (get_leaf w nd _ n cap ps k HN.out HO.out (by have := HS.out; omega)).mono ?_
  rintro e w1 ⟨k1, rfl, HA1, HB1⟩
  have hk1 : k1 = k0 := HA1.out.uniq HA.out
  subst hk1
  rw [HI.out]
  have HM1 : Hid (Mp w1 m (.pointer (some ⟨nd, 0, none⟩)) c) := HM.out.keep HB1.out (Nat.le_refl _)
  have HN1 : Hid (Nd w1 nd (some ⟨g, off, none⟩) n cap ps (.slice none 0 0)) := HN.out.below HB1.out (Nat.le_refl _)
  have d0 := HM1.out.cell (i := 0) rfl
  have d1 := HM1.out.cell (i := 1) rfl
  have g1 := HM1.out.free 1
  obtain ⟨vv, hvv⟩ : ∃ vv, valP ps k k1 = vv := ⟨_, rfl⟩
  rw [hvv]
  have HF : Hid (g ≠ m ∧ nd ≠ m) := ⟨Nd.far HM.out HN.out HS.out.1.1, fun e => Nd.apart HM.out HN.out e⟩
  clear c0 c2 hvv
  have fin : ∀ (W : World) (c' : Nat), Mp W m (.pointer (some ⟨nd, 0, none⟩)) c' → Nd W nd (some ⟨g, off, none⟩) n cap ps (.slice none 0 0) → w.grownBy W (some m) → Calls Try.prog 33 #[.pointer (some ⟨nd, 0, none⟩), .agg #[.string k, .string v]] W fun e w3 => ∃ nd' g' cap' N, e = .returned (one nd') ∧ Hid (Mp w3 m (.pointer (some ⟨nd, 0, none⟩)) c') ∧ Hid (Nd w3 nd' (some ⟨g', 0, none⟩) N cap' (putP ps (k, v) k1) (.slice none 0 0) ∧ N ≤ cap' ∧ 0 < N) ∧ Hid (w.grownBy w3 (some m) ∧ w.heap.size ≤ nd') := by
    intro W c' h1 h2 h3
    refine (put_leaf W nd g off n cap ps (k, v) h2 HO.out HS.out.1.2 HS.out.2.1).mono ?_
    rintro e w3 ⟨nd', g', cap', k2, rfl, h4, h5, h6⟩
    have hk2 : k2 = k1 := h5.out.uniq HA.out
    subst hk2
    exact ⟨nd', g', cap', _, rfl, h1.keep h6.out.1 (Nat.le_refl _), ⟨h4.out, h6.out.2.2, by rw [putP]; simp; omega⟩, grown_tr h3 (below_grown h6.out.1 _), Nat.le_trans h3.size h6.out.2.1⟩
  have FIN : Hid (∀ (W : World) (c' : Nat), Mp W m (.pointer (some ⟨nd, 0, none⟩)) c' → Nd W nd (some ⟨g, off, none⟩) n cap ps (.slice none 0 0) → w.grownBy W (some m) → Calls Try.prog 33 #[.pointer (some ⟨nd, 0, none⟩), .agg #[.string k, .string v]] W fun e w3 => ∃ nd' g' cap' N, e = .returned (one nd') ∧ Hid (Mp w3 m (.pointer (some ⟨nd, 0, none⟩)) c') ∧ Hid (Nd w3 nd' (some ⟨g', 0, none⟩) N cap' (putP ps (k, v) k1) (.slice none 0 0) ∧ N ≤ cap' ∧ 0 < N) ∧ Hid (w.grownBy w3 (some m) ∧ w.heap.size ≤ nd')) := fin
  clear fin
  have q1 : (c : Int) ≤ 1000 := by have := HS.out; omega
  have END : Hid (∀ (w3 w4 : World) (nd' g' cap' N c' : Nat), Mp w3 m (.pointer (some ⟨nd, 0, none⟩)) c' → Nd w3 nd' (some ⟨g', 0, none⟩) N cap' (putP ps (k, v) k1) (.slice none 0 0) → 0 < N → w.grownBy w3 (some m) → w.heap.size ≤ nd' → Below w3.heap.size w3 w4 →
      Mp (w4.setCell ⟨m, 0, none⟩ (.pointer (some ⟨nd', 0, none⟩))) m (.pointer (some ⟨nd', 0, none⟩)) c' ∧ Nd (w4.setCell ⟨m, 0, none⟩ (.pointer (some ⟨nd', 0, none⟩))) nd' (some ⟨g', 0, none⟩) N cap' (putP ps (k, v) k1) (.slice none 0 0) ∧ w.grownBy (w4.setCell ⟨m, 0, none⟩ (.pointer (some ⟨nd', 0, none⟩))) (some m)) := by
    intro w3 w4 nd' g' cap' N c' h1 h2 hp h3 h4 h5
    have h6 := h1.keep h5 (Nat.le_refl _)
    have h7 := h2.below h5 (Nat.le_refl _)
    have hml := HL.out
    exact ⟨h6.set 0 _, ⟨h7.blk.kept (grown_setCell _ _ _ _) (by simp; omega), h7.rd.grown (grown_setCell _ _ _ _) (Nd.far h6 h7 hp)⟩, grown_tr (grown_tr h3 (below_grown h5 _)) (grown_setCell _ _ _ _)⟩
  cases b with
  | true =>
    go_wp2_with fail
    refine (FIN.out w1 c HM1.out HN1.out (below_grown HB1.out _)).mono ?_
    rintro e w3 ⟨nd', g', cap', N, rfl, HM3, HN3, HG3⟩
    go_wp2_with fail
    refine (whole_is w3 nd').mono ?_
    rintro e w4 ⟨rfl, HB4⟩
    have HM4 : Hid (Mp w4 m (.pointer (some ⟨nd, 0, none⟩)) c) := HM3.out.keep HB4.out (Nat.le_refl _)
    have e0 := HM4.out.cell (i := 0) rfl
    have g0 := HM4.out.free 0
    clear d0 d1 g1
    go_wp2
    go_ret
    have hE := END.out w3 w4 nd' g' cap' N c HM3.out HN3.out.1 HN3.out.2.2 HG3.out.1 HG3.out.2 HB4.out
    exact ⟨rfl, nd', g', cap', N, by simpa using hE.1, hE.2.1, hE.2.2, HG3.out.2, HN3.out.2.1⟩
  | false =>
    go_wp2_with fail
    have HM2 : Hid (Mp (w1.setCell ⟨m, 1, none⟩ (.int .i64 ((c : Int) + 1))) m (.pointer (some ⟨nd, 0, none⟩)) (c + 1)) := HM1.out.set 1 _
    refine (FIN.out _ (c + 1) HM2.out ⟨HN1.out.blk.kept (grown_setCell _ _ _ _) (by simpa using HF.out.2), HN1.out.rd.grown (grown_setCell _ _ _ _) HF.out.1⟩ (grown_tr (below_grown HB1.out _) (grown_setCell _ _ _ _))).mono ?_
    rintro e w3 ⟨nd', g', cap', N, rfl, HM3, HN3, HG3⟩
    go_wp2_with fail
    refine (whole_is w3 nd').mono ?_
    rintro e w4 ⟨rfl, HB4⟩
    have HM4 : Hid (Mp w4 m (.pointer (some ⟨nd, 0, none⟩)) (c + 1)) := HM3.out.keep HB4.out (Nat.le_refl _)
    have e0 := HM4.out.cell (i := 0) rfl
    have g0 := HM4.out.free 0
    clear d0 d1 g1
    go_wp2
    go_ret
    have hE := END.out w3 w4 nd' g' cap' N (c + 1) HM3.out HN3.out.1 HN3.out.2.2 HG3.out.1 HG3.out.2 HB4.out
    exact ⟨rfl, nd', g', cap', N, by simpa using hE.1, hE.2.1, hE.2.2, HG3.out.2, HN3.out.2.1⟩
end Go.Proofs.Ytnagknlfboadkaa.Oct

/- Layer 7 (tree): 'put' into a tree of any depth. -/
namespace Go.Proofs.Ytnagknlfboadkaa.Oct
open Go.RowKit

/-- what 'put' tells: a node, and perhaps a pair and another node -/
def hv (b : Nat) (y : Pr) (r : Option Addr) : Value := .agg #[.pointer (some ⟨b, 0, none⟩), .string y.1, .string y.2, .pointer r]
theorem Half.lies.form {d : Nat} {w : World} {v : Value} {H : Half d} (h : H.lies w v) : ∃ b y r, v = hv b y r := by
  cases H with
  | one t => obtain ⟨b, h1, _⟩ := h; exact ⟨b, (⟨#[]⟩, ⟨#[]⟩), none, h1⟩
  | two l m r => obtain ⟨b, b2, h1, _⟩ := h; exact ⟨b, m, some ⟨b2, 0, none⟩, h1⟩
theorem results_hv {fn : Func} {p : Tmp} (hf : fn.results = #[.cell p 59]) {tm : Array Value} {W : World} {b b1 : Nat} {y : Pr} {r : Option Addr} (h : tm.getD p undef = .pointer (some ⟨b, 0, none⟩)) (hb : Blk W b 59 [.pointer (some ⟨b1, 0, none⟩), .string y.1, .string y.2, .pointer r]) : (results fn tm).run Try.prog W = .ok (hv b1 y r) W := by
  exact results_cell_row (P := Try.prog) hf tm W b 59 _ (0, 0) _ h hb Try.underlying59 rfl (by kernel_rfl)
def put4v (W : World) (b nd : Nat) (y : Pr) (r : Option Addr) : World := (((W.setCell ⟨b, 0, none⟩ (.pointer (some ⟨nd, 0, none⟩))).setCell ⟨b, 1, none⟩ (.string y.1)).setCell ⟨b, 2, none⟩ (.string y.2)).setCell ⟨b, 3, none⟩ (.pointer r)
theorem put4v_blk {W : World} {b nd : Nat} {y : Pr} {r : Option Addr} {L : List Value} (h : Blk W b 59 L) (hl : L.length = 4) : Blk (put4v W b nd y r) b 59 [.pointer (some ⟨nd, 0, none⟩), .string y.1, .string y.2, .pointer r] := by
  match L, hl with
  | [l0, l1, l2, l3], _ => exact (((h.set 0 (.pointer (some ⟨nd, 0, none⟩))).set 1 (.string y.1)).set 2 (.string y.2)).set 3 (.pointer r)
theorem put4v_grown (W : World) (b nd : Nat) (y : Pr) (r : Option Addr) : W.grownBy (put4v W b nd y r) (some b) :=
  grown_tr (grown_tr (grown_tr (grown_setCell _ _ _ _) (grown_setCell _ _ _ _)) (grown_setCell _ _ _ _)) (grown_setCell _ _ _ _)
theorem put4v_size (W : World) (b nd : Nat) (y : Pr) (r : Option Addr) : (put4v W b nd y r).heap.size = W.heap.size := by simp [put4v]
theorem put4v_below {B : Nat} {W W' : World} {b nd : Nat} {y : Pr} {r : Option Addr} (h : Below B W W') (hb : B ≤ b) : Below B W (put4v W' b nd y r) :=
  (((h.setCell (p := ⟨b, 0, none⟩) hb _).setCell (p := ⟨b, 1, none⟩) hb _).setCell (p := ⟨b, 2, none⟩) hb _).setCell (p := ⟨b, 3, none⟩) hb _
/-- a block that is no row of a tree's, and none of its nodes -/
def Oth (w : World) (b : Nat) : Prop := ∃ cs e fr, w.heap[b]? = some (.cells cs e fr) ∧ e ≠ 40 ∧ e ≠ 46 ∧ e ≠ 67
theorem Oth.ne {w : World} {b g : Nat} {e : TypeId} (h : Oth w b) (hr : RowT w e g) (he : e = 40 ∨ e = 46 ∨ e = 67) : g ≠ b := by
  rintro rfl
  obtain ⟨cs, e', fr, h1, h2, h3, h4⟩ := h
  obtain ⟨cs2, fr2, h5⟩ := hr
  rw [h1] at h5
  cases h5
  rcases he with rfl | rfl | rfl
  · exact h2 rfl
  · exact h3 rfl
  · exact h4 rfl
theorem Blk.oth {w : World} {b : Nat} {t : TypeId} {L : List Value} (h : Blk w b t L) (h1 : t ≠ 40) (h2 : t ≠ 46) (h3 : t ≠ 67) : Oth w b := ⟨_, t, _, h, h1, h2, h3⟩
theorem RdP.oth {w w' : World} {b : Nat} {a : Option Addr} {n : Nat} {ps : List Pr} (h : RdP w a n ps) (hg : w.grownBy w' (some b)) (ho : Oth w b) : RdP w' a n ps := by
  refine ⟨h.1, fun hp => ?_⟩
  obtain ⟨g, off, e, h1, h2⟩ := h.2 hp
  have hne := ho.ne h1 (.inl rfl)
  refine ⟨g, off, e, h1.same (hg.block g h1.lt (by simpa using hne)), fun k x hk => ?_⟩
  have := h2 k x hk
  exact ⟨hg.cell this.1 (by simpa using hne), hg.cell this.2 (by simpa using hne)⟩
theorem RdK.oth {w w' : World} {b : Nat} {a : Option Addr} {n : Nat} {bs : List Nat} (h : RdK w a n bs) (hg : w.grownBy w' (some b)) (ho : Oth w b) : RdK w' a n bs := by
  refine ⟨h.1, fun hp => ?_⟩
  obtain ⟨g, off, e, h1, h2⟩ := h.2 hp
  have hne := ho.ne h1 (.inr (.inl rfl))
  exact ⟨g, off, e, h1.same (hg.block g h1.lt (by simpa using hne)), fun k x hk => hg.cell (h2 k x hk) (by simpa using hne)⟩
theorem Nd.oth {w w' : World} {b nd : Nat} {a : Option Addr} {n cap : Nat} {ps : List Pr} {kv : Value} (h : Nd w nd a n cap ps kv) (hg : w.grownBy w' (some b)) (ho : Oth w b) : Nd w' nd a n cap ps kv :=
  ⟨h.blk.kept hg (by have := ho.ne h.blk.row (.inr (.inr rfl)); simpa using this), h.rd.oth hg ho⟩
theorem Lies.oth {w w' : World} {b : Nat} (hg : w.grownBy w' (some b)) (ho : Oth w b) : ∀ {d : Nat} {t : T d} {nd : Nat}, Lies w d t nd → Lies w' d t nd
  | 0, _, _, h => by
    obtain ⟨a, n, cap, h1, h2⟩ := h
    exact ⟨a, n, cap, h1.oth hg ho, h2⟩
  | d + 1, _, _, h => by
    obtain ⟨a, n, cap, a', n', cap', bs, h1, h2, h3, h4, h5, h6⟩ := h
    exact ⟨a, n, cap, a', n', cap', bs, h1.oth hg ho, h2, h3.oth hg ho, h4, h5, fun i k b' hi hb' => Lies.oth hg ho (h6 i k b' hi hb')⟩
theorem Half.lies.oth {w w' : World} {b d : Nat} {v : Value} {H : Half d} (h : H.lies w v) (hg : w.grownBy w' (some b)) (ho : Oth w b) : H.lies w' v := by
  cases H with
  | one t => obtain ⟨b, h1, h2⟩ := h; exact ⟨b, h1, h2.oth hg ho⟩
  | two l m r => obtain ⟨b, b2, h1, h2, h3⟩ := h; exact ⟨b, b2, h1, h2.oth hg ho, h3.oth hg ho⟩

set_option maxRecDepth 100000 in
set_option maxHeartbeats 1000000 in
theorem put_eq (w : World) (nd n cap n' cap' : Nat) (a a' : Option Addr) (ps : List Pr) (x : Pr) (k : Nat) (h : Nd w nd a n cap ps (.slice a' n' cap')) (hm : Mono ps x.1) (hn : n ≤ 7) (hc : Cap a n cap) (ha : AtP ps x.1 k) (hi : isP ps x.1 k = true) :
    Calls Try.prog 33 #[.pointer (some ⟨nd, 0, none⟩), .agg #[.string x.1, .string x.2]] w fun e w' => ∃ (nd2 : Nat) (a2 : Option Addr) (n2 cap2 : Nat) (ps2 : List Pr), e = .returned (one nd2) ∧ Hid (ps2 = ps.take k ++ [x] ++ ps.drop (k + 1)) ∧ Hid (Nd w' nd2 a2 n2 cap2 ps2 (.slice a' n' cap') ∧ Cap a2 n2 cap2) ∧ Hid (Below w.heap.size w w') := by
  obtain ⟨k0, v0⟩ := x
  have HM : Hid (Mono ps k0 ∧ AtP ps k0 k) := ⟨hm, ha⟩
  have HC : Hid (n ≤ 7 ∧ Cap a n cap) := ⟨hn, hc⟩
  have HI : Hid (isP ps k0 k = true) := hi
  have HD : Hid (Nd w nd a n cap ps (.slice a' n' cap')) := h
  have HL : Hid (nd < w.heap.size) := h.blk.lt
  have HB0 : Hid (Below w.heap.size w ((w.alloc (Obj.cells #[Value.string k0, Value.string v0] 40)).alloc (Obj.cells #[Value.pointer none, Value.string { data := #[] }, Value.string { data := #[] }, Value.pointer none] 59))) := ((Below.refl _ w).alloc (Nat.le_refl _) _).alloc (by simp) _
  clear hm hn hc h ha hi
  go_enter Try.func33, Try.ntmps33
  go_wp2_with fail
  refine (place_is _ nd _ n cap ps _ k0 (HD.out.below HB0.out (Nat.le_refl _)) HM.out.1 (by have := HC.out; omega)).mono ?_
  rintro e w1 ⟨k', rfl, HA, HB1⟩
  have hk' : k' = k := HA.out.uniq HM.out.2
  subst hk'
  rw [HI.out]
  have hS : w.heap.size + 2 ≤ w1.heap.size := by have := HB1.out.size; simp at this; omega
  have HD1 : Hid (Nd w1 nd a n cap ps (.slice a' n' cap')) := (HD.out.below HB0.out (Nat.le_refl _)).below HB1.out (Nat.le_refl _)
  have HW : Hid (Below w.heap.size w w1) := HB0.out.trans (HB1.out.mono (by simp; omega))
  have HX : Hid (Blk w1 w.heap.size 40 [.string k0, .string v0]) := ((Blk.new w #[Value.string k0, Value.string v0] 40).alloc _).below HB1.out (by simp; omega)
  have HY : Hid (Blk w1 (w.heap.size + 1) 59 [Value.pointer none, Value.string { data := #[] }, Value.string { data := #[] }, Value.pointer none]) := by
    have e := Blk.new (w.alloc (Obj.cells #[Value.string k0, Value.string v0] 40)) #[Value.pointer none, Value.string { data := #[] }, Value.string { data := #[] }, Value.pointer none] 59
    rw [World.size_alloc] at e
    exact e.below HB1.out (by simp)
  have c0 := HD1.out.blk.cell (i := 0) rfl
  have c1 := HD1.out.blk.cell (i := 1) rfl
  have x0 := HX.out.cell (i := 0) rfl
  have x1 := HX.out.cell (i := 1) rfl
  clear HB1 HB0
  have hkn : k' ≤ n := by rw [← HD.out.rd.1]; exact HA.out.1
  have HR1 : Hid (RdP (w1.alloc (.cells #[.string k0, .string v0] 40)).drew (some ⟨w1.heap.size, 0, none⟩) 1 [(k0, v0)]) := by
    have hb2 := (Blk.new w1 #[.string k0, .string v0] 40).drew
    exact rd_of_cells (ps := [(k0, v0)]) (off := 0) (fun _ => hb2.row) (fun j u hu => by rw [Nat.zero_add]; exact hb2.cell hu)
  have HB2 : Hid (Below w1.heap.size w1 (w1.alloc (.cells #[.string k0, .string v0] 40)).drew) := ((Below.refl _ w1).alloc (Nat.le_refl _) _).drew
  have HKEEP : Hid (∀ W, Below (w.heap.size + 1) w1 W → (fun w' => w'.cell? ⟨nd, 0, none⟩ = some (.slice a n cap) ∧ w'.cell? ⟨nd, 1, none⟩ = some (.slice a' n' cap') ∧ w'.cell? ⟨w.heap.size, 0, none⟩ = some (.string k0) ∧ w'.cell? ⟨w.heap.size, 1, none⟩ = some (.string v0)) W) := fun W hW => ⟨(hW.cell (p := ⟨nd, 0, none⟩) (by have := HL.out; show nd < w.heap.size + 1; omega)).trans c0, (hW.cell (p := ⟨nd, 1, none⟩) (by have := HL.out; show nd < w.heap.size + 1; omega)).trans c1, (hW.cell (p := ⟨w.heap.size, 0, none⟩) (by show w.heap.size < w.heap.size + 1; omega)).trans x0, (hW.cell (p := ⟨w.heap.size, 1, none⟩) (by show w.heap.size < w.heap.size + 1; omega)).trans x1⟩
  have HL1 : Hid (w.heap.size + 1 ≤ w1.heap.size) := by show _ ≤ _; omega
  have hk1 : k' < n := by
    rw [← HD.out.rd.1]
    have e := HI.out
    cases hx : ps[k']? with
    | some x => exact (List.getElem?_eq_some_iff.1 hx).1
    | none => simp only [isP, hx] at e; cases e
  have q1 : (k' : Int) + 1 ≤ 7 := by have := HC.out; omega
  have HJ : Hid (IntKind.i64.wrap ((k' : Int) + 1) = ((k' + 1 : Nat) : Int)) := by show _ = _; rw [IntKind.wrap_i64]; omega
  go_wp2_with fail
  go_region_held_law (fun w' => w'.cell? ⟨nd, 0, none⟩ = some (.slice a n cap) ∧ w'.cell? ⟨nd, 1, none⟩ = some (.slice a' n' cap') ∧ w'.cell? ⟨w.heap.size, 0, none⟩ = some (.string k0) ∧ w'.cell? ⟨w.heap.size, 1, none⟩ = some (.string v0))
    (first | with_reducible exact HKEEP.out _ (Below.refl _ w1).drew | with_reducible exact HKEEP.out _ (HB2.out.mono HL1.out) | with_reducible exact HKEEP.out _ HB4.out | with_reducible exact HKEEP.out _ (HB4.out.alloc (Nat.le_of_lt hS2) _) | exact HKEEP.out _ (Below.alloc (Below.setCell (Below.setCell (Below.setCell (Below.setCell HB4.out (Nat.le_refl _) _) (Nat.le_refl _) _) (Nat.le_refl _) _) (Nat.le_refl _) _) (by simp; omega) _))
    (first
    | (go_at_call 40; refine (spP (w1.alloc (.cells #[.string k0, .string v0] 40)).drew a n cap k' (k' + 1) _ _ rfl HJ.out ps (some ⟨w1.heap.size, 0, none⟩) 1 1 [(k0, v0)] ((HD1.out.below HB2.out (Nat.le_refl _)).rd) HC.out.2 (by omega) (by omega) HR1.out (by have := HC.out; omega)).mono ?_; rintro e w2 ⟨a2, n2, cap2, R2, rfl, HE2, HR2, hB2⟩; have HB3 : Hid (Below w1.heap.size w1 w2) := HB2.out.trans (hB2.out.mono HB2.out.size); clear hB2;
        have HY2 : Hid (Blk w2 (w.heap.size + 1) 59 [Value.pointer none, Value.string { data := #[] }, Value.string { data := #[] }, Value.pointer none]) := HY.out.below HB3.out (by omega);
        have hS2 : w.heap.size + 1 < w2.heap.size := HY2.out.lt; have HB4 : Hid (Below (w.heap.size + 1) w1 w2) := HB3.out.mono HL1.out;
        have y0 := HY2.out.cell (i := 0) rfl; have y1 := HY2.out.cell (i := 1) rfl; have y2 := HY2.out.cell (i := 2) rfl; have y3 := HY2.out.cell (i := 3) rfl;
        have f0 := HY2.out.free 0; have f1 := HY2.out.free 1; have f2 := HY2.out.free 2; have f3 := HY2.out.free 3))
  go_wp2
  have hb := (put4_blk (nd := w2.heap.size) HY2.out).alloc (Obj.cells #[Value.slice a2 n2 cap2, Value.slice a' n' cap'] 67)
  refine bodyPost_ret (results_half rfl rfl hb) rfl ?_
  have hO : Oth w2 (w.heap.size + 1) := HY2.out.oth (by decide) (by decide) (by decide)
  have hrd := HR2.out.1.oth (put4_grown w2 (w.heap.size + 1) w2.heap.size) hO
  have hbk := Blk.new (put4 w2 (w.heap.size + 1) w2.heap.size) #[Value.slice a2 n2 cap2, Value.slice a' n' cap'] 67
  rw [put4_size] at hbk
  refine ⟨w2.heap.size, a2, n2, cap2, R2, rfl, HE2.out.1, ⟨⟨hbk, hrd.below ((Below.refl _ _).alloc (Nat.le_refl _) _) (Nat.le_refl _)⟩, HR2.out.2⟩, ?_⟩
  exact (put4_below (HW.out.trans (HB3.out.mono (by omega))) (by omega)).alloc (by rw [put4_size]; omega) _

set_option maxRecDepth 100000 in
set_option maxHeartbeats 1000000 in
theorem put_lf (w : World) (nd n cap : Nat) (a : Option Addr) (ps : List Pr) (x : Pr) (k : Nat) (h : Nd w nd a n cap ps (.slice none 0 0)) (hm : Mono ps x.1) (hn : n ≤ 7) (hc : Cap a n cap) (ha : AtP ps x.1 k) (hi : isP ps x.1 k = false) :
    Calls Try.prog 33 #[.pointer (some ⟨nd, 0, none⟩), .agg #[.string x.1, .string x.2]] w fun e w' => ∃ (b : Nat) (y : Pr) (r : Option Addr) (H : Half 0), e = .returned (hv b y r) ∧ Hid (H.lies w' (hv b y r)) ∧ Hid (H.list = ps.take k ++ [x] ++ ps.drop k ∧ H.ok ∧ (∀ t, H = .one t → ps.length ≤ (prs 0 t).length)) ∧ Hid (Below w.heap.size w w') := by
  obtain ⟨k0, v0⟩ := x
  have HM : Hid (Mono ps k0 ∧ AtP ps k0 k) := ⟨hm, ha⟩
  have HC : Hid (n ≤ 7 ∧ Cap a n cap) := ⟨hn, hc⟩
  have HI : Hid (isP ps k0 k = false) := hi
  have HD : Hid (Nd w nd a n cap ps (.slice none 0 0)) := h
  have HL : Hid (nd < w.heap.size) := h.blk.lt
  have HB0 : Hid (Below w.heap.size w ((w.alloc (Obj.cells #[Value.string k0, Value.string v0] 40)).alloc (Obj.cells #[Value.pointer none, Value.string { data := #[] }, Value.string { data := #[] }, Value.pointer none] 59))) := ((Below.refl _ w).alloc (Nat.le_refl _) _).alloc (by simp) _
  clear hm hn hc h ha hi
  go_enter Try.func33, Try.ntmps33
  go_wp2_with fail
  refine (place_is _ nd _ n cap ps _ k0 (HD.out.below HB0.out (Nat.le_refl _)) HM.out.1 (by have := HC.out; omega)).mono ?_
  rintro e w1 ⟨k', rfl, HA, HB1⟩
  have hk' : k' = k := HA.out.uniq HM.out.2
  subst hk'
  rw [HI.out]
  have hS : w.heap.size + 2 ≤ w1.heap.size := by have := HB1.out.size; simp at this; omega
  have HD1 : Hid (Nd w1 nd a n cap ps (.slice none 0 0)) := (HD.out.below HB0.out (Nat.le_refl _)).below HB1.out (Nat.le_refl _)
  have HW : Hid (Below w.heap.size w w1) := HB0.out.trans (HB1.out.mono (by simp; omega))
  have HX : Hid (Blk w1 w.heap.size 40 [.string k0, .string v0]) := ((Blk.new w #[Value.string k0, Value.string v0] 40).alloc _).below HB1.out (by simp; omega)
  have HY : Hid (Blk w1 (w.heap.size + 1) 59 [Value.pointer none, Value.string { data := #[] }, Value.string { data := #[] }, Value.pointer none]) := by
    have e := Blk.new (w.alloc (Obj.cells #[Value.string k0, Value.string v0] 40)) #[Value.pointer none, Value.string { data := #[] }, Value.string { data := #[] }, Value.pointer none] 59
    rw [World.size_alloc] at e
    exact e.below HB1.out (by simp)
  have c0 := HD1.out.blk.cell (i := 0) rfl
  have c1 := HD1.out.blk.cell (i := 1) rfl
  have x0 := HX.out.cell (i := 0) rfl
  have x1 := HX.out.cell (i := 1) rfl
  clear HB1 HB0
  have hkn : k' ≤ n := by rw [← HD.out.rd.1]; exact HA.out.1
  have HR1 : Hid (RdP (w1.alloc (.cells #[.string k0, .string v0] 40)).drew (some ⟨w1.heap.size, 0, none⟩) 1 [(k0, v0)]) := by
    have hb2 := (Blk.new w1 #[.string k0, .string v0] 40).drew
    exact rd_of_cells (ps := [(k0, v0)]) (off := 0) (fun _ => hb2.row) (fun j u hu => by rw [Nat.zero_add]; exact hb2.cell hu)
  have HB2 : Hid (Below w1.heap.size w1 (w1.alloc (.cells #[.string k0, .string v0] 40)).drew) := ((Below.refl _ w1).alloc (Nat.le_refl _) _).drew
  have HKEEP : Hid (∀ W, Below (w.heap.size + 1) w1 W → (fun w' => w'.cell? ⟨nd, 0, none⟩ = some (.slice a n cap) ∧ w'.cell? ⟨nd, 1, none⟩ = some (.slice none 0 0) ∧ w'.cell? ⟨w.heap.size, 0, none⟩ = some (.string k0) ∧ w'.cell? ⟨w.heap.size, 1, none⟩ = some (.string v0)) W) := fun W hW => ⟨(hW.cell (p := ⟨nd, 0, none⟩) (by have := HL.out; show nd < w.heap.size + 1; omega)).trans c0, (hW.cell (p := ⟨nd, 1, none⟩) (by have := HL.out; show nd < w.heap.size + 1; omega)).trans c1, (hW.cell (p := ⟨w.heap.size, 0, none⟩) (by show w.heap.size < w.heap.size + 1; omega)).trans x0, (hW.cell (p := ⟨w.heap.size, 1, none⟩) (by show w.heap.size < w.heap.size + 1; omega)).trans x1⟩
  have HL1 : Hid (w.heap.size + 1 ≤ w1.heap.size) := by show _ ≤ _; omega
  go_wp2_with (go_at_call 39; refine (leaf_is w1 nd c1).mono ?_; rintro e w2 ⟨rfl, rfl⟩)
  go_region_held_law (fun w' => w'.cell? ⟨nd, 0, none⟩ = some (.slice a n cap) ∧ w'.cell? ⟨nd, 1, none⟩ = some (.slice none 0 0) ∧ w'.cell? ⟨w.heap.size, 0, none⟩ = some (.string k0) ∧ w'.cell? ⟨w.heap.size, 1, none⟩ = some (.string v0))
    (first | with_reducible exact HKEEP.out _ (Below.refl _ w1).drew | with_reducible exact HKEEP.out _ (HB2.out.mono HL1.out) | with_reducible exact HKEEP.out _ HB4.out | with_reducible exact HKEEP.out _ HB6.out | exact HKEEP.out _ (Below.setCell (Below.setCell (Below.setCell (Below.setCell HB6.out (Nat.le_refl _) _) (Nat.le_refl _) _) (Nat.le_refl _) _) (Nat.le_refl _) _))
    (first
    | (go_at_call 40; refine (spP (w1.alloc (.cells #[.string k0, .string v0] 40)).drew a n cap k' k' _ _ rfl rfl ps (some ⟨w1.heap.size, 0, none⟩) 1 1 [(k0, v0)] ((HD1.out.below HB2.out (Nat.le_refl _)).rd) HC.out.2 (by omega) (by omega) HR1.out (by have := HC.out; omega)).mono ?_; rintro e w2 ⟨a2, n2, cap2, R2, rfl, HE2, HR2, hB2⟩; have HB3 : Hid (Below w1.heap.size w1 w2) := HB2.out.trans (hB2.out.mono HB2.out.size); clear hB2;
        have HB4 : Hid (Below (w.heap.size + 1) w1 w2) := HB3.out.mono HL1.out)
    | (go_at_call 44; refine (cut_leaf w2 a2 n2 cap2 R2 HR2.out.1 HR2.out.2 (by have := HE2.out.2; have := HC.out; omega)).mono ?_; rintro e w3 ⟨v3, H3, rfl, HL3, HO3, HB5⟩; obtain ⟨b3, y3', r3, rfl⟩ := HL3.out.form; unfold hv; have HB6 : Hid (Below (w.heap.size + 1) w1 w3) := HB4.out.trans (HB5.out.mono (Nat.le_trans HL1.out HB3.out.size));
        have HY2 : Hid (Blk w3 (w.heap.size + 1) 59 [Value.pointer none, Value.string { data := #[] }, Value.string { data := #[] }, Value.pointer none]) := HY.out.below (HB3.out.trans (HB5.out.mono HB3.out.size)) (by omega);
        have hS2 : w.heap.size + 1 < w3.heap.size := HY2.out.lt;
        have y0 := HY2.out.cell (i := 0) rfl; have y1 := HY2.out.cell (i := 1) rfl; have y2 := HY2.out.cell (i := 2) rfl; have y3 := HY2.out.cell (i := 3) rfl;
        have f0 := HY2.out.free 0; have f1 := HY2.out.free 1; have f2 := HY2.out.free 2; have f3 := HY2.out.free 3))
  go_wp2
  have hb := put4v_blk (nd := b3) (y := y3') (r := r3) HY2.out rfl
  refine bodyPost_ret (results_hv rfl rfl hb) rfl ?_
  have hO : Oth w3 (w.heap.size + 1) := HY2.out.oth (by decide) (by decide) (by decide)
  have hB := HB3.out.trans (HB5.out.mono HB3.out.size)
  refine ⟨b3, y3', r3, H3, rfl, HL3.out.oth (put4v_grown _ _ _ _ _) hO, ⟨by rw [HO3.out.1, HE2.out.1], HO3.out.2.1, ?_⟩, put4v_below (HW.out.trans (hB.mono (by omega))) (by omega)⟩
  intro t ht
  subst ht
  have e1 : tl 0 t = R2 := HO3.out.1
  show ps.length ≤ (tl 0 t).length
  rw [e1, HE2.out.1]
  simp
  omega
end Go.Proofs.Ytnagknlfboadkaa.Oct

/- Layer 7 (tree): 'last', 'isSmall'. -/
namespace Go.Proofs.Ytnagknlfboadkaa.Oct
open Go.RowKit

theorem small_is (w : World) (nd n cap : Nat) (a : Option Addr) (b : Bool) (hb : decide ((n : Int) < 3) = b) (h : w.cell? ⟨nd, 0, none⟩ = some (.slice a n cap)) : Calls Try.prog 49 #[.pointer (some ⟨nd, 0, none⟩)] w fun e w' => e = .returned (.bool b) ∧ w = w' := by
  subst hb
  go_enter Try.func49, Try.ntmps49
  go_wp2
  go_ret
  exact ⟨rfl, rfl⟩
theorem inter_last {d : Nat} {ps : List Pr} {ts : List (T d)} {k : T d} (hl : ts.length = ps.length + 1) (hk : ts[ps.length]? = some k) : inter (ts.map (tl d)) ps = upp ((ts.map (tl d)).take ps.length) (ps.take ps.length) ++ tl d k := by
  rw [inter_at ps.length (tl d k) (by simpa using hl) (kid_map hk)]
  rw [List.drop_eq_nil_of_le (Nat.le_refl _)]
  simp [dn]
theorem results_pair {fn : Func} {p : Tmp} (hf : fn.results = #[.cell p 40]) {tm : Array Value} {W : World} {b : Nat} {x y : ByteArray} (h : tm.getD p undef = .pointer (some ⟨b, 0, none⟩)) (hb : Blk W b 40 [.string x, .string y]) : (results fn tm).run Try.prog W = .ok (.agg #[.string x, .string y]) W := by
  exact results_cell_row (P := Try.prog) hf tm W b 40 _ (0, 0) _ h hb Try.underlying40 rfl (by kernel_rfl)
set_option maxRecDepth 100000 in
set_option maxHeartbeats 1000000 in
theorem last_is (w : World) (d : Nat) (t : T d) (nd : Nat) (h : Lies w d t nd) (hg : Good d t) (h1 : 1 ≤ (prs d t).length) :
    Calls Try.prog 41 #[.pointer (some ⟨nd, 0, none⟩)] w fun e w' => ∃ p : Pr, e = .returned (.agg #[.string p.1, .string p.2]) ∧ Hid (∃ A, tl d t = A ++ [p]) ∧ Hid (Below w.heap.size w w') := by
  have HL : Hid (Lies w d t nd ∧ Good d t ∧ 1 ≤ (prs d t).length) := ⟨h, hg, h1⟩
  obtain ⟨L, hL⟩ : ∃ L, tl d t = L := ⟨_, rfl⟩
  have HLL : Hid (tl d t = L) := hL
  rw [hL]
  clear h hg h1 hL
  have HB0 : Hid (Below w.heap.size w (w.alloc (.cells #[.string ⟨#[]⟩, .string ⟨#[]⟩] 40))) := (Below.refl _ w).alloc (Nat.le_refl _) _
  have HR0 : Hid (Blk (w.alloc (.cells #[.string ⟨#[]⟩, .string ⟨#[]⟩] 40)) w.heap.size 40 [.string ⟨#[]⟩, .string ⟨#[]⟩]) := Blk.new _ _ _
  go_enter Try.func41, Try.ntmps41
  go_wp2
  obtain ⟨w0, hw0⟩ : ∃ w0, w0 = w.alloc (.cells #[.string ⟨#[]⟩, .string ⟨#[]⟩] 40) := ⟨_, rfl⟩
  rw [← hw0] at HB0 HR0
  have HW0 : Hid (w0 = w.alloc (.cells #[.string ⟨#[]⟩, .string ⟨#[]⟩] 40)) := hw0
  clear hw0
  go_loopg [0] d (fun k u wr => ∃ (t' : T k) (nd' : Nat), u = .pointer (some ⟨nd', 0, none⟩) ∧ Hid (Lies w k t' nd') ∧ Hid (Good k t' ∧ 1 ≤ (prs k t').length) ∧ Hid (∃ A, L = A ++ tl k t') ∧ Hid (Below w0.heap.size w0 wr))
  case atStart => exact ⟨t, nd, rfl, HL.out.1, HL.out.2, ⟨[], HLL.out.symm⟩, by rw [← HW0.out]; exact Below.refl _ _⟩
  case round =>
    obtain ⟨t', nd', rfl, HL1, HG1, HA1, HB1⟩ := hrel
    have HW : Hid (Below w.heap.size w wr) := HB0.out.trans (HB1.out.mono HB0.out.size)
    cases gk with
    | zero =>
      obtain ⟨ps, hps⟩ : ∃ ps : List Pr, ps = t' := ⟨t', rfl⟩
      subst hps
      obtain ⟨a, n, cap, hnd0, hcap⟩ := HL1.out
      have hnd := hnd0.below HW.out (Nat.le_refl _)
      have hlen : ps.length = n := hnd.rd.1
      have h1 : 1 ≤ ps.length := HG1.out.2
      have h7 : ps.length ≤ 7 := HG1.out.1.most
      obtain ⟨g, off, rfl, hgr0, _⟩ := hnd0.rd.2 (by omega)
      obtain ⟨g', off', eg, _, hcell⟩ := hnd.rd.2 (by omega)
      cases eg
      have HGL : Hid (g < w.heap.size ∧ nd' < w.heap.size) := ⟨hgr0.lt, hnd0.blk.lt⟩
      have hlt : n - 1 < ps.length := by omega
      have e0 := (hcell (n - 1) _ (List.getElem?_eq_getElem hlt)).1
      have e1 := (hcell (n - 1) _ (List.getElem?_eq_getElem hlt)).2
      have c0 := hnd.blk.cell (i := 0) rfl
      have c1 := hnd.blk.cell (i := 1) rfl
      have HR : Hid (Blk wr w.heap.size 40 [.string ⟨#[]⟩, .string ⟨#[]⟩]) := HR0.out.below HB1.out HR0.out.lt
      have r0 := HR.out.cell (i := 0) rfl
      have r1 := HR.out.cell (i := 1) rfl
      have f0 := HR.out.free 0
      have f1 := HR.out.free 1
      have HP : Hid (∃ A, L = A ++ [ps[n - 1]]) := by
        obtain ⟨A, hA⟩ := HA1.out
        refine ⟨A ++ ps.take (n - 1), ?_⟩
        rw [hA, List.append_assoc]
        congr 1
        show (ps : List Pr) = _
        have e := List.take_append_drop (n - 1) ps
        have e2 : ps.drop (n - 1 + 1) = [] := List.drop_eq_nil_of_le (by omega)
        rw [List.drop_eq_getElem_cons hlt, e2] at e
        exact e.symm
      have q1 : IntKind.i64.wrap ((n : Int) - 1) = ((n - 1 : Nat) : Int) := by rw [IntKind.wrap_i64]; omega
      obtain ⟨j, hj⟩ : ∃ j, n - 1 = j := ⟨_, rfl⟩
      have q2 : (n : Int) - 1 = (j : Int) := by omega
      have q3 : (j : Int) < (n : Int) := by omega
      have q4 : (n : Int) ≤ 7 := by omega
      have q5 : IntKind.i64.wrap (j : Int) = (j : Int) := by rw [IntKind.wrap_i64]; omega
      have q6 : j < n := by omega
      have q7 : ¬ (j : Int) < 0 := by omega
      have q8 : (0 : Int) ≤ (j : Int) := by omega
      generalize hpp : ps[n - 1] = pp at *
      rw [hj] at e0 e1 q1
      clear hcell hpp
      go_wp2_with (go_at_call 39; refine (leaf_is wr nd' c1).mono ?_; rintro e w2 ⟨rfl, rfl⟩)
      have HKE : Hid ((fun w' => w'.cell? ⟨nd', 0, none⟩ = some (.slice (some ⟨g, off, none⟩) n cap) ∧ w'.cell? ⟨g, off + j * 2, none⟩ = some (.string pp.1) ∧ w'.cell? ⟨g, off + j * 2 + 1, none⟩ = some (.string pp.2)) ((wr.setCell ⟨w.heap.size, 0, none⟩ (.string pp.1)).setCell ⟨w.heap.size, 1, none⟩ (.string pp.2)).drew) := by
        have hg := grown_tr (grown_setCell wr w.heap.size 0 (.string pp.1)) (grown_setCell _ w.heap.size 1 (.string pp.2))
        have := HGL.out
        exact ⟨hg.cell c0 (by simp; omega), hg.cell e0 (by simp; omega), hg.cell e1 (by simp; omega)⟩
      go_region_held (fun w' => w'.cell? ⟨nd', 0, none⟩ = some (.slice (some ⟨g, off, none⟩) n cap) ∧ w'.cell? ⟨g, off + j * 2, none⟩ = some (.string pp.1) ∧ w'.cell? ⟨g, off + j * 2 + 1, none⟩ = some (.string pp.2)) (first | exact ⟨c0, e0, e1⟩ | exact HKE.out) (fail)
      go_wp2
      have hb := (HR.out.set 0 (.string pp.1)).set 1 (.string pp.2)
      refine bodyPost_ret (results_pair rfl rfl hb) rfl ?_
      exact ⟨pp.1, pp.2, rfl, HP, (HW.out.drew.setCell (p := ⟨w.heap.size, 0, none⟩) (Nat.le_refl _) _).setCell (p := ⟨w.heap.size, 1, none⟩) (Nat.le_refl _) _⟩
    | succ d' =>
      obtain ⟨a, n, cap, a', n', cap', bs, h1, h2, h3, h4, h5, h6⟩ := HL1.out
      have hwf := HG1.out.1.wf.1
      have hnn : n' = n + 1 := by rw [← h3.1, h5, hwf]; exact congrArg (· + 1) h1.rd.1
      have hpl : t'.1.length = n := h1.rd.1
      obtain ⟨g, off, rfl, hg, _⟩ := h3.2 (by omega)
      obtain ⟨g', off', eg, _, hc⟩ := (h3.below HW.out (Nat.le_refl _)).2 (by omega)
      cases eg
      have hib : n < bs.length := by rw [h3.1]; omega
      have hit : n < t'.2.length := by rw [← h5]; exact hib
      have c2 := hc n _ (List.getElem?_eq_getElem hib)
      have HK : Hid (t'.2[n]? = some t'.2[n]) := List.getElem?_eq_getElem hit
      have HL3 : Hid (Lies w d' t'.2[n] bs[n]) := h6 n _ _ HK.out (List.getElem?_eq_getElem hib)
      have HE3 : Hid (∃ A, L = A ++ tl d' t'.2[n]) := by
        obtain ⟨A, hA⟩ := HA1.out
        have hk : t'.2[t'.1.length]? = some t'.2[n] := by rw [hpl]; exact HK.out
        have e : tl (d' + 1) t' = _ := inter_last hwf hk
        exact ⟨A ++ _, by rw [hA, e, List.append_assoc]⟩
      have HG3 := HG1.out.1.kid HK.out
      have HG3' : Hid (Good d' t'.2[n] ∧ 3 ≤ (prs d' t'.2[n]).length) := HG3
      have c1 := (h1.below HW.out (Nat.le_refl _)).blk.cell (i := 1) rfl
      have hm7 : n ≤ 7 := by rw [← hpl]; exact HG1.out.1.most
      have q1 : IntKind.i64.wrap ((n' : Int) - 1) = (n : Int) := by rw [IntKind.wrap_i64]; omega
      have q2 : (n' : Int) - 1 = (n : Int) := by omega
      have q3 : (n : Int) < (n' : Int) := by omega
      have q4 : (n' : Int) ≤ 8 := by omega
      have HB0' : Hid (((n' : Int) == 0) = false) := by show _ = _; simp; omega
      generalize bs[n] = b2 at *
      clear h1 h2 h3 h4 h6 hc HG3
      go_wp2_with (go_at_call 39; refine (isLeaf_any wr nd' _ n' cap' false HB0'.out c1).mono ?_; rintro e w2 ⟨rfl, rfl⟩)
      go_quiet (fail)
      go_wp2
      go_roundg d'
      case measure => omega
      case rel => exact ⟨t'.2[n], b2, rfl, HL3, ⟨HG3'.out.1, by have := HG3'.out.2; omega⟩, HE3, below_drewN HB1.out _⟩
end Go.Proofs.Ytnagknlfboadkaa.Oct

/- Layer 7 (tree): two kids put together, and cut again. -/
namespace Go.Proofs.Ytnagknlfboadkaa.Oct
open Go.RowKit

/-- a slice that holds the kids of two nodes put together -/
def KM (w : World) : (d : Nat) → T d → T d → Option Addr → Nat → Nat → Prop
  | 0, _, _, a, n, cap => a = none ∧ n = 0 ∧ cap = 0
  | d + 1, l, r, a, n, cap => ∃ bs, RdK w a n bs ∧ Cap a n cap ∧ Kids w d (l.2 ++ r.2) bs
theorem KM.below {w w' : World} (hb : Below w.heap.size w w') : ∀ {d : Nat} {l r : T d} {a : Option Addr} {n cap : Nat}, KM w d l r a n cap → KM w' d l r a n cap
  | 0, _, _, _, _, _, h => h
  | _ + 1, _, _, _, _, _, h => by
    obtain ⟨bs, h1, h2, h3⟩ := h
    exact ⟨bs, h1.below hb (Nat.le_refl _), h2, h3.below hb⟩
theorem step_append_zero {P : Program} {ops : Array Oper} {o : Oper} {a : Act} {K : Act → World → Prop} {Q : Exit → Act → World → Prop} {E : Prop} (hw : Region.wanted o (yielded ops a.tmps) = true) (dd : Tmp) (hdd : o.dst = some dd) (s x : Operand) (t : TypeId)
    (hop : o.op = .call { callee := .builtin .append, args := #[s, x], argTypes := #[t, t] }) (w : World) (e : TypeId) (i : TypeInfo) (ht : P.underlying t = some (.slice e)) (hi : P.info? e = some i) (hs : a.eval s = .slice none 0 0) (hx : a.eval x = .slice none 0 0)
    (hk : K (a.put (some dd) (.slice none 0 0)) w) : if Region.wanted o (yielded ops a.tmps) = true then Oper.wp P o a w K Q else E := by
  rw [if_pos hw]
  have hr := run_append_zero (P := P) w t o.type e i ht hi none none 0 0 0 (Nat.le_refl _)
  unfold Oper.wp execOp
  simp only [hop, resolve, invoke, builtin, Sem.run_bind, Sem.run_pure, Result.andThen_ok, List.map_toArray, List.map_cons, List.map_nil, hs, hx, hr]
  rw [← hdd] at hk
  exact hk
theorem spK_nil (w : World) : Calls Try.prog 45 #[.slice none 0 0, .int .i64 0, .int .i64 0, .slice none 0 0] w fun e w' => e = .returned (.slice none 0 0) ∧ Below w.heap.size w w' := by
  obtain ⟨i0, hi0, hii⟩ := Option.map_eq_some_iff.1 infoK
  go_enter Try.func45, Try.ntmps45
  go_wp2
  go_region_held_law (fun _ => True) (trivial) (first
    | (go_at_call 50; refine (partK_nil w.drew).mono ?_; rintro e w2 ⟨rfl, rfl⟩)
    | (refine step_append_zero (by rfl) 13 rfl _ _ 65 rfl w.drew 46 i0 Try.underlying65 hi0 rfl rfl ?_)
    | (refine step_append_zero (by rfl) 17 rfl _ _ 65 rfl w.drew 46 i0 Try.underlying65 hi0 rfl rfl ?_))
  go_wp2
  go_ret
  exact ⟨rfl, (Below.refl _ w).drew⟩
def Mg (d : Nat) (W : World) (l r : T d) (e : Ending) (w' : World) : Prop := ∃ a n cap, e = .returned (.slice a n cap) ∧ Hid (KM w' d l r a n cap) ∧ Hid (Below W.heap.size W w')
theorem kids_merge (w : World) (d : Nat) (l r : T d) (bl br : Nat) (hl : Lies w d l bl) (hr : Lies w d r br) (a1 a2 : Option Addr) (n1 cap1 n2 cap2 : Nat) (c1 : w.cell? ⟨bl, 1, none⟩ = some (.slice a1 n1 cap1)) (c2 : w.cell? ⟨br, 1, none⟩ = some (.slice a2 n2 cap2)) (hn : n1 + n2 ≤ 1000) (W : World) (hW : Below w.heap.size w W) :
    Calls Try.prog 45 #[.slice a1 n1 cap1, .int .i64 (n1 : Int), .int .i64 (n1 : Int), .slice a2 n2 cap2] W (Mg d W l r) := by
  cases d with
  | zero =>
    obtain ⟨_, _, _, h1, _⟩ := hl
    obtain ⟨_, _, _, h2, _⟩ := hr
    have e1 := c1.symm.trans (h1.blk.cell (i := 1) rfl)
    have e2 := c2.symm.trans (h2.blk.cell (i := 1) rfl)
    cases e1; cases e2
    refine (spK_nil W).mono ?_
    rintro e w' ⟨rfl, hb⟩
    exact ⟨none, 0, 0, rfl, ⟨rfl, rfl, rfl⟩, hb⟩
  | succ d =>
    obtain ⟨_, _, _, a3, n3, cap3, bs, h1, _, h3, h4, h5, h6⟩ := hl
    obtain ⟨_, _, _, a4, n4, cap4, bs', h1', _, h3', h4', h5', h6'⟩ := hr
    have e1 := c1.symm.trans (h1.blk.cell (i := 1) rfl)
    have e2 := c2.symm.trans (h1'.blk.cell (i := 1) rfl)
    cases e1; cases e2
    refine (spK W a1 n1 cap1 n1 n1 _ _ rfl rfl bs a2 n2 cap2 bs' (h3.below hW (Nat.le_refl _)) h4 (Nat.le_refl _) (Nat.le_refl _) (h3'.below hW (Nat.le_refl _)) (by omega)).mono ?_
    rintro e w' ⟨a, n, cap, R, rfl, hE, hR, hB⟩
    refine ⟨a, n, cap, rfl, ⟨R, hR.out.1, hR.out.2, ?_⟩, hB⟩
    have e3 : R = bs ++ bs' := by
      rw [hE.out.1, ← h3.1, List.take_length, List.drop_length, List.append_nil]
    rw [e3]
    have hbw : Below w.heap.size w w' := hW.trans (hB.out.mono hW.size)
    exact (Kids.below ⟨h5, h6⟩ hbw).append (Kids.below ⟨h5', h6'⟩ hbw)
theorem cut_merge (w : World) (d : Nat) (l r : T d) (p : Pr) (a a' : Option Addr) (n cap n' cap' : Nat) (h : RdP w a n (prs d l ++ [p] ++ prs d r)) (hc : Cap a n cap) (hn : n ≤ 12) (hk : KM w d l r a' n' cap') (hl : WF d l) (hr : WF d r) :
    Calls Try.prog 44 #[.slice a n cap, .slice a' n' cap'] w fun e w' => ∃ (b : Nat) (y : Pr) (q : Option Addr) (H : Half d), e = .returned (hv b y q) ∧ Hid (H.lies w' (hv b y q)) ∧ Hid (H.list = tl d l ++ p :: tl d r ∧ H.ok ∧ (n ≤ 7 → ∃ t, H = .one t ∧ (prs d t).length = n) ∧ (7 < n → ∃ x m z, H = .two x m z)) ∧ Hid (Below w.heap.size w w') := by
  cases d with
  | zero =>
    obtain ⟨rfl, rfl, rfl⟩ := hk
    refine (cut_leaf w a n cap _ h hc hn).mono ?_
    rintro e w' ⟨v, H, rfl, h1, h2, h3⟩
    obtain ⟨b, y, q, rfl⟩ := h1.out.form
    refine ⟨b, y, q, H, rfl, h1, ⟨?_, h2.out.2⟩, h3⟩
    rw [h2.out.1]
    show prs 0 l ++ [p] ++ prs 0 r = prs 0 l ++ p :: prs 0 r
    simp
  | succ d =>
    obtain ⟨bs, h1, h2, h3⟩ := hk
    have e : inter ((l.2 ++ r.2).map (tl d)) (l.1 ++ [p] ++ r.1) = tl (d + 1) l ++ p :: tl (d + 1) r := by
      rw [List.map_append, List.append_assoc, List.singleton_append]
      have hrl := hr.1
      exact inter_join (by simpa using hl.1) (by
        intro h0
        have := congrArg List.length h0
        simp at this
        rw [this] at hrl
        simp at hrl)
    refine (cut_node w d a a' n cap n' cap' (l.1 ++ [p] ++ r.1) (l.2 ++ r.2) bs h hc hn h1 h2 (by have := hl.1; have := hr.1; simp; omega) h3 (by
      intro k hk
      rcases List.mem_append.1 hk with hk | hk
      · exact hl.2 k hk
      · exact hr.2 k hk)).mono ?_
    rintro e' w' ⟨v, H, rfl, h4, h5, h6⟩
    obtain ⟨b, y, q, rfl⟩ := h4.out.form
    exact ⟨b, y, q, H, rfl, h4, ⟨by rw [h5.out.1, e], h5.out.2⟩, h6⟩
/-- a node's pairs at two of its kids -/
theorem inter_pair {ls : List (List Pr)} {ps : List Pr} {i : Nat} {a b : List Pr} {p : Pr} (hl : ls.length = ps.length + 1) (ha : ls[i]? = some a) (hb : ls[i + 1]? = some b) (hp : ps[i]? = some p) :
    inter ls ps = upp (ls.take i) (ps.take i) ++ (a ++ p :: b) ++ dn (ps.drop (i + 1)) (ls.drop (i + 2)) := by
  obtain ⟨h1, ea⟩ := List.getElem?_eq_some_iff.1 ha
  obtain ⟨h2, eb⟩ := List.getElem?_eq_some_iff.1 hb
  obtain ⟨h3, ep⟩ := List.getElem?_eq_some_iff.1 hp
  have e1 : ls = ls.take i ++ [a, b] ++ ls.drop (i + 2) := by
    have : ls.drop i = a :: b :: ls.drop (i + 2) := by rw [List.drop_eq_getElem_cons h1, List.drop_eq_getElem_cons h2, ea, eb]
    rw [List.append_assoc]
    have k := List.take_append_drop i ls
    rw [this] at k
    exact k.symm
  have e2 : ps = ps.take i ++ [p] ++ ps.drop (i + 1) := by
    have : ps.drop i = p :: ps.drop (i + 1) := by rw [List.drop_eq_getElem_cons h3, ep]
    rw [List.append_assoc]
    have k := List.take_append_drop i ps
    rw [this] at k
    exact k.symm
  have hls0 : (ls.take i ++ [a] ++ ls.drop (i + 2)).length = (ps.take i ++ ps.drop (i + 1)).length + 1 := by simp; omega
  have hx : (ls.take i ++ [a] ++ ls.drop (i + 2))[i]? = some a := by
    rw [List.append_assoc, List.getElem?_append_right (by rw [List.length_take]; omega), List.length_take, Nat.min_eq_left (by omega)]; simp
  have k := inter_two (m := p) (a := a) (b := b) hls0 hx
  have t1 : (ls.take i ++ [a] ++ ls.drop (i + 2)).take i = ls.take i := by
    rw [List.append_assoc, List.take_append_of_le_length (by rw [List.length_take]; omega), List.take_take, Nat.min_self]
  have t2 : (ls.take i ++ [a] ++ ls.drop (i + 2)).drop (i + 1) = ls.drop (i + 2) := by
    rw [List.drop_append, List.drop_eq_nil_of_le (by simp; omega)]
    simp [Nat.min_eq_left (Nat.le_of_lt h1)]
  have t3 : (ps.take i ++ ps.drop (i + 1)).take i = ps.take i := by
    rw [List.take_append_of_le_length (by rw [List.length_take]; omega), List.take_take, Nat.min_self]
  have t4 : (ps.take i ++ ps.drop (i + 1)).drop i = ps.drop (i + 1) := by
    rw [List.drop_append, List.drop_eq_nil_of_le (by rw [List.length_take]; omega), List.length_take, Nat.min_eq_left (by omega), Nat.sub_self]
    simp
  rw [t1, t2, t3, t4, ← e1, ← e2] at k
  exact k
end Go.Proofs.Ytnagknlfboadkaa.Oct
