/-
  Layer 7 (tree): 'cut'.
-/
import Derived.Test.YtnagknlfboadkaaCut
namespace Go.Proofs.Ytnagknlfboadkaa.Oct
open Go.RowKit

theorem cut_one (w : World) (a a' : Option Addr) (n cap n' cap' : Nat) (ps : List Pr) (h : RdP w a n ps) (hn : n ≤ 7) :
    Calls Try.prog 44 #[.slice a n cap, .slice a' n' cap'] w fun e w' => ∃ nd, e = .returned (one nd) ∧ Hid (Nd w' nd a n cap ps (.slice a' n' cap')) ∧ Hid (Below w.heap.size w w') := by
  have HR : Hid (RdP w a n ps) := h
  have q1 : (n : Int) ≤ 7 := by omega
  clear h hn
  go_enter Try.func44, Try.ntmps44
  go_wp2
  have hb := Blk.alloc (Blk.new w #[Value.pointer (some { block := w.heap.size + 1, off := 0 }), Value.string { data := #[] }, Value.string { data := #[] }, Value.pointer none] 59) (Obj.cells #[Value.slice a n cap, Value.slice a' n' cap'] 67)
  have hB : Below w.heap.size w (w.alloc (Obj.cells #[Value.pointer (some { block := w.heap.size + 1, off := 0 }), Value.string { data := #[] }, Value.string { data := #[] }, Value.pointer none] 59)) := (Below.refl _ w).alloc (Nat.le_refl _) _
  refine bodyPost_ret (results_half rfl rfl hb) rfl ?_
  refine ⟨_, rfl, ⟨?_, (HR.out.below hB (Nat.le_refl _)).below ((Below.refl _ _).alloc (Nat.le_refl _) _) (Nat.le_refl _)⟩, hB.alloc (by simp) _⟩
  have e := Blk.new (w.alloc (Obj.cells #[Value.pointer (some { block := w.heap.size + 1, off := 0 }), Value.string { data := #[] }, Value.string { data := #[] }, Value.pointer none] 59)) #[Value.slice a n cap, Value.slice a' n' cap'] 67
  rw [World.size_alloc] at e
  exact e
#print axioms cut_one

theorem results_two {fn : Func} {p : Tmp} (hf : fn.results = #[.cell p 59]) {tm : Array Value} {W : World} {b b1 b2 : Nat} {m : Pr} (h : tm.getD p undef = .pointer (some ⟨b, 0, none⟩)) (hb : Blk W b 59 [.pointer (some ⟨b1, 0, none⟩), .string m.1, .string m.2, .pointer (some ⟨b2, 0, none⟩)]) : (results fn tm).run Try.prog W = .ok (two b1 m b2) W := by
  exact results_cell_row (P := Try.prog) hf tm W b 59 _ (0, 0) _ h hb Try.underlying59 rfl (by kernel_rfl)
theorem cut_done (w : World) (m : Pr) (x1 x2 y1 y2 : Value) (W : World) (hW : W = ((w.alloc (Obj.cells #[Value.pointer (some { block := w.heap.size + 1, off := 0 }), Value.string m.1, Value.string m.2, Value.pointer (some { block := w.heap.size + 1 + 1, off := 0 })] 59)).alloc (Obj.cells #[x1, x2] 67)).alloc (Obj.cells #[y1, y2] 67)) :
    Blk W w.heap.size 59 [.pointer (some ⟨w.heap.size + 1, 0, none⟩), .string m.1, .string m.2, .pointer (some ⟨w.heap.size + 1 + 1, 0, none⟩)] ∧ Blk W (w.heap.size + 1) 67 [x1, x2] ∧ Blk W (w.heap.size + 1 + 1) 67 [y1, y2] ∧ Below w.heap.size w W := by
  subst hW
  refine ⟨((Blk.new w _ 59).alloc _).alloc _, ?_, ?_, (((Below.refl _ w).alloc (Nat.le_refl _) _).alloc (by simp) _).alloc (by simp; omega) _⟩
  · have e := Blk.new (w.alloc (Obj.cells #[Value.pointer (some { block := w.heap.size + 1, off := 0 }), Value.string m.1, Value.string m.2, Value.pointer (some { block := w.heap.size + 1 + 1, off := 0 })] 59)) #[x1, x2] 67
    rw [World.size_alloc] at e
    exact e.alloc _
  · have e := Blk.new ((w.alloc (Obj.cells #[Value.pointer (some { block := w.heap.size + 1, off := 0 }), Value.string m.1, Value.string m.2, Value.pointer (some { block := w.heap.size + 1 + 1, off := 0 })] 59)).alloc (Obj.cells #[x1, x2] 67)) #[y1, y2] 67
    rw [World.size_alloc, World.size_alloc] at e
    exact e
set_option maxRecDepth 100000 in
theorem cut_leaf2 (w : World) (g off n cap : Nat) (ps : List Pr) (m : Pr) (h : RdP w (some ⟨g, off, none⟩) n ps) (hn : 8 ≤ n ∧ n ≤ 12 ∧ n ≤ cap) (hm : ps[n / 2]? = some m) :
    Calls Try.prog 44 #[.slice (some ⟨g, off, none⟩) n cap, .slice none 0 0] w fun e w' => ∃ b b2, e = .returned (two b m b2) ∧ Hid (Nd w' b (some ⟨g, off, none⟩) (n / 2) (n / 2) (ps.take (n / 2)) (.slice none 0 0)) ∧ Hid (Nd w' b2 (some ⟨g, off + (n / 2 + 1) * 2, none⟩) (n - (n / 2 + 1)) (n - (n / 2 + 1)) (ps.drop (n / 2 + 1)) (.slice none 0 0)) ∧ Hid (Below w.heap.size w w') := by
  have HR : Hid (RdP w (some ⟨g, off, none⟩) n ps) := h
  have q1 : ¬ (n : Int) ≤ 7 := by omega
  obtain ⟨i, hi⟩ : ∃ i, n / 2 = i := ⟨_, rfl⟩
  have HI : Hid (n / 2 = i) := hi
  rw [hi] at hm ⊢
  have HN : Hid (4 ≤ i ∧ i < n ∧ i + 1 < n ∧ n ≤ cap ∧ n ≤ 12) := by show _ ∧ _; omega
  obtain ⟨g', off', e, hg, hc⟩ := h.2 (by omega)
  cases e
  have m1 := (hc i m hm).1
  have m2 := (hc i m hm).2
  have HG : Hid (g < w.heap.size) := hg.lt
  have q2 : (n : Int).tdiv 2 = (i : Int) := by rw [← hi]; rfl
  have b1 : (i : Int) ≤ 12 := by omega
  have b2 : (i : Int) + 1 ≤ (n : Int) := by omega
  have b3 : (n : Int) ≤ 12 := by omega
  clear h hc hg hm hi hn
  go_enter Try.func44, Try.ntmps44
  go_wp2_with fail
  refine (partP_zero _ g off n cap i (by have := HN.out; omega)).mono ?_
  rintro e w1 ⟨rfl, rfl⟩
  go_wp2_with fail
  refine (partP_is _ g off n cap (i + 1) n _ _ (by omega) rfl (by have := HN.out; omega) (by have := HN.out; omega)).mono ?_
  rintro e w1 ⟨rfl, rfl⟩
  have B3 : Hid (∀ A B C, Below w.heap.size w (((w.alloc A).alloc B).alloc C)) := fun A B C => (((Below.refl _ w).alloc (Nat.le_refl _) _).alloc (by simp) _).alloc (by simp; omega) _
  have e1 := (B3.out (Obj.cells #[Value.pointer none, Value.string { data := #[] }, Value.string { data := #[] }, Value.pointer none] 59) (Obj.cells #[Value.slice (some { block := g, off := off }) i i, Value.slice none 0 0] 67) (Obj.cells #[Value.slice (some { block := g, off := off + (i + 1) * 2 }) (n - (i + 1)) (n - (i + 1)), Value.slice none 0 0] 67))
  have m1' := (e1.cell (p := ⟨g, off + i * 2, none⟩) HG.out).trans m1
  have m2' := (e1.cell (p := ⟨g, off + i * 2 + 1, none⟩) HG.out).trans m2
  clear e1
  go_wp2
  obtain ⟨k1, k2, k3, k4⟩ := cut_done w m _ _ _ _ _ rfl
  refine bodyPost_ret (results_two rfl rfl k1) rfl ?_
  exact ⟨_, _, rfl, ⟨k2, (HR.out.below k4 (Nat.le_refl _)).take (by have := HN.out; omega)⟩, ⟨k3, (HR.out.below k4 (Nat.le_refl _)).drop (by have := HN.out; omega)⟩, k4⟩
#print axioms cut_leaf2
set_option maxRecDepth 100000 in
theorem cut_node2 (w : World) (g off n cap g' off' n' cap' : Nat) (ps : List Pr) (hk : n' = n + 1 ∧ n' ≤ cap') (m : Pr) (h : RdP w (some ⟨g, off, none⟩) n ps) (hn : 8 ≤ n ∧ n ≤ 12 ∧ n ≤ cap) (hm : ps[n / 2]? = some m) :
    Calls Try.prog 44 #[.slice (some ⟨g, off, none⟩) n cap, .slice (some ⟨g', off', none⟩) n' cap'] w fun e w' => ∃ b b2, e = .returned (two b m b2) ∧ Hid (Nd w' b (some ⟨g, off, none⟩) (n / 2) (n / 2) (ps.take (n / 2)) (.slice (some ⟨g', off', none⟩) (n / 2 + 1) (n / 2 + 1))) ∧ Hid (Nd w' b2 (some ⟨g, off + (n / 2 + 1) * 2, none⟩) (n - (n / 2 + 1)) (n - (n / 2 + 1)) (ps.drop (n / 2 + 1)) (.slice (some ⟨g', off' + (n / 2 + 1), none⟩) (n' - (n / 2 + 1)) (n' - (n / 2 + 1)))) ∧ Hid (Below w.heap.size w w') := by
  have HR : Hid (RdP w (some ⟨g, off, none⟩) n ps) := h
  have q1 : ¬ (n : Int) ≤ 7 := by omega
  obtain ⟨i, hi⟩ : ∃ i, n / 2 = i := ⟨_, rfl⟩
  have HI : Hid (n / 2 = i) := hi
  rw [hi] at hm ⊢
  have HN : Hid (4 ≤ i ∧ i < n ∧ i + 1 < n ∧ n ≤ cap ∧ n ≤ 12) := by show _ ∧ _; omega
  obtain ⟨g9, off9, e, hg, hc⟩ := h.2 (by omega)
  cases e
  have m1 := (hc i m hm).1
  have m2 := (hc i m hm).2
  have HG : Hid (g < w.heap.size) := hg.lt
  have q2 : (n : Int).tdiv 2 = (i : Int) := by rw [← hi]; rfl
  have b1 : (i : Int) ≤ 12 := by omega
  have b2 : (i : Int) + 1 ≤ (n : Int) := by omega
  have b3 : (n : Int) ≤ 12 := by omega
  have HK : Hid (n' = n + 1 ∧ n' ≤ cap') := hk
  have b4 : 0 < n' := by omega
  have b5 : (n' : Int) ≤ 13 := by omega
  clear h hc hg hm hi hn hk
  go_enter Try.func44, Try.ntmps44
  go_wp2_with fail
  refine (partP_zero _ g off n cap i (by have := HN.out; omega)).mono ?_
  rintro e w1 ⟨rfl, rfl⟩
  go_wp2_with fail
  refine (partP_is _ g off n cap (i + 1) n _ _ (by omega) rfl (by have := HN.out; omega) (by have := HN.out; omega)).mono ?_
  rintro e w1 ⟨rfl, rfl⟩
  go_wp2_with fail
  refine (partK_zero _ g' off' n' cap' (i + 1) (by have := HN.out; have := HK.out; omega)).mono ?_
  rintro e w1 ⟨rfl, rfl⟩
  go_wp2_with fail
  refine (partK_is _ g' off' n' cap' (i + 1) n' _ _ (by omega) rfl (by have := HN.out; have := HK.out; omega) (by have := HN.out; have := HK.out; omega)).mono ?_
  rintro e w1 ⟨rfl, rfl⟩
  have B3 : Hid (∀ A B C, Below w.heap.size w (((w.alloc A).alloc B).alloc C)) := fun A B C => (((Below.refl _ w).alloc (Nat.le_refl _) _).alloc (by simp) _).alloc (by simp; omega) _
  have e1 := (B3.out (Obj.cells #[Value.pointer none, Value.string { data := #[] }, Value.string { data := #[] }, Value.pointer none] 59) (Obj.cells #[Value.slice (some { block := g, off := off }) i i, Value.slice (some { block := g', off := off' }) (i + 1) (i + 1)] 67) (Obj.cells #[Value.slice (some { block := g, off := off + (i + 1) * 2 }) (n - (i + 1)) (n - (i + 1)), Value.slice (some { block := g', off := off' + (i + 1) }) (n' - (i + 1)) (n' - (i + 1))] 67))
  have m1' := (e1.cell (p := ⟨g, off + i * 2, none⟩) HG.out).trans m1
  have m2' := (e1.cell (p := ⟨g, off + i * 2 + 1, none⟩) HG.out).trans m2
  clear e1
  go_wp2
  obtain ⟨k1, k2, k3, k4⟩ := cut_done w m _ _ _ _ _ rfl
  refine bodyPost_ret (results_two rfl rfl k1) rfl ?_
  exact ⟨_, _, rfl, ⟨k2, (HR.out.below k4 (Nat.le_refl _)).take (by have := HN.out; omega)⟩, ⟨k3, (HR.out.below k4 (Nat.le_refl _)).drop (by have := HN.out; omega)⟩, k4⟩
#print axioms cut_node2
theorem RdK.take {w : World} {a : Option Addr} {n : Nat} {bs : List Nat} (h : RdK w a n bs) {i : Nat} (hi : i ≤ n) : RdK w a i (bs.take i) := by
  have := h.toRd.take hi
  rw [Nat.mul_one, ← List.map_take] at this
  exact this.toK
theorem RdK.drop {w : World} {g off n : Nat} {bs : List Nat} (h : RdK w (some ⟨g, off, none⟩) n bs) {i : Nat} (hi : i ≤ n) : RdK w (some ⟨g, off + i, none⟩) (n - i) (bs.drop i) := by
  have := h.toRd.drop hi
  rw [Nat.mul_one, ← List.map_drop] at this
  exact this.toK
/-- a good half: its nodes are neither too small nor too great -/
def Half.ok {d : Nat} : Half d → Prop
  | .one t => WF d t ∧ (prs d t).length ≤ 7
  | .two l _ r => (WF d l ∧ 3 ≤ (prs d l).length ∧ (prs d l).length ≤ 7) ∧ (WF d r ∧ 3 ≤ (prs d r).length ∧ (prs d r).length ≤ 7)
theorem Ad.some_of {a : Option Addr} {n cap : Nat} (h : Cap a n cap) (hn : 0 < n) : ∃ g off, a = some ⟨g, off, none⟩ := by
  rcases h.2 with ⟨_, h0⟩ | h
  · have := h.1; omega
  · exact h
theorem cut_leaf (w : World) (a : Option Addr) (n cap : Nat) (ps : List Pr) (h : RdP w a n ps) (hc : Cap a n cap) (hn : n ≤ 12) :
    Calls Try.prog 44 #[.slice a n cap, .slice none 0 0] w fun e w' => ∃ (v : Value) (H : Half 0), e = .returned v ∧ Hid (H.lies w' v) ∧ Hid (H.list = ps ∧ H.ok ∧ (n ≤ 7 → ∃ t, H = .one t ∧ (prs 0 t).length = n) ∧ (7 < n → ∃ l m r, H = .two l m r)) ∧ Hid (Below w.heap.size w w') := by
  by_cases h7 : n ≤ 7
  · refine (cut_one w a none n cap 0 0 ps h h7).mono ?_
    rintro e w' ⟨nd, rfl, h1, h2⟩
    exact ⟨_, .one ps, rfl, ⟨nd, rfl, a, n, cap, h1, hc⟩, ⟨rfl, ⟨trivial, by show ps.length ≤ 7; rw [h.1]; exact h7⟩, fun _ => ⟨ps, rfl, h.1⟩, fun h8 => absurd h8 (by omega)⟩, h2⟩
  · obtain ⟨g, off, rfl⟩ := Ad.some_of hc (by omega)
    have hlt : n / 2 < ps.length := by rw [h.1]; omega
    refine (cut_leaf2 w g off n cap ps ps[n / 2] h ⟨by omega, hn, hc.1⟩ (List.getElem?_eq_getElem hlt)).mono ?_
    rintro e w' ⟨b, b2, rfl, h1, h2, h3⟩
    refine ⟨_, .two (ps.take (n / 2)) ps[n / 2] (ps.drop (n / 2 + 1)), rfl, ⟨b, b2, rfl, ⟨_, _, _, h1, Nat.le_refl _, .inr ⟨_, _, rfl⟩⟩, ⟨_, _, _, h2, Nat.le_refl _, .inr ⟨_, _, rfl⟩⟩⟩, ⟨?_, ⟨⟨trivial, ?_, ?_⟩, ⟨trivial, ?_, ?_⟩⟩, fun h => absurd h h7, fun _ => ⟨_, _, _, rfl⟩⟩, h3⟩
    · show ps.take (n / 2) ++ ps[n / 2] :: ps.drop (n / 2 + 1) = ps
      rw [← List.drop_eq_getElem_cons hlt, List.take_append_drop]
    · show 3 ≤ (ps.take (n / 2)).length; rw [List.length_take, h.1]; omega
    · show (ps.take (n / 2)).length ≤ 7; rw [List.length_take, h.1]; omega
    · show 3 ≤ (ps.drop (n / 2 + 1)).length; rw [List.length_drop, h.1]; omega
    · show (ps.drop (n / 2 + 1)).length ≤ 7; rw [List.length_drop, h.1]; omega
/-- kids of a node, in memory -/
def Kids (w : World) (d : Nat) (ts : List (T d)) (bs : List Nat) : Prop := bs.length = ts.length ∧ ∀ (i : Nat) (k : T d) (b : Nat), ts[i]? = some k → bs[i]? = some b → Lies w d k b
def KidsOk (d : Nat) (ts : List (T d)) : Prop := ∀ k ∈ ts, WF d k ∧ 3 ≤ (prs d k).length ∧ (prs d k).length ≤ 7
theorem Kids.below {w w' : World} {d : Nat} {ts : List (T d)} {bs : List Nat} (h : Kids w d ts bs) (hb : Below w.heap.size w w') : Kids w' d ts bs := ⟨h.1, fun i k b hi hb' => (h.2 i k b hi hb').below hb (Nat.le_refl _)⟩
theorem Kids.take {w : World} {d : Nat} {ts : List (T d)} {bs : List Nat} (h : Kids w d ts bs) (m : Nat) : Kids w d (ts.take m) (bs.take m) := by
  refine ⟨by simp [h.1], fun i k b hi hb => ?_⟩
  rw [List.getElem?_take] at hi hb
  by_cases hm : i < m
  · rw [if_pos hm] at hi hb; exact h.2 i k b hi hb
  · rw [if_neg hm] at hi; cases hi
theorem Kids.drop {w : World} {d : Nat} {ts : List (T d)} {bs : List Nat} (h : Kids w d ts bs) (m : Nat) : Kids w d (ts.drop m) (bs.drop m) := by
  refine ⟨by simp [h.1], fun i k b hi hb => ?_⟩
  rw [List.getElem?_drop] at hi hb
  exact h.2 _ k b hi hb
theorem Kids.append {w : World} {d : Nat} {ts ts' : List (T d)} {bs bs' : List Nat} (h : Kids w d ts bs) (h' : Kids w d ts' bs') : Kids w d (ts ++ ts') (bs ++ bs') := by
  refine ⟨by simp [h.1, h'.1], fun i k b hi hb => ?_⟩
  by_cases hlt : i < ts.length
  · rw [List.getElem?_append_left hlt] at hi
    rw [List.getElem?_append_left (by rw [h.1]; exact hlt)] at hb
    exact h.2 i k b hi hb
  · rw [List.getElem?_append_right (by omega)] at hi
    rw [List.getElem?_append_right (by rw [h.1]; omega), h.1] at hb
    exact h'.2 _ k b hi hb
theorem Kids.one {w : World} {d : Nat} {k : T d} {b : Nat} (h : Lies w d k b) : Kids w d [k] [b] := by
  refine ⟨rfl, fun i k' b' hi hb => ?_⟩
  cases i with
  | zero => simp at hi hb; subst hi; subst hb; exact h
  | succ i => simp at hi
theorem cut_node (w : World) (d : Nat) (a a' : Option Addr) (n cap n' cap' : Nat) (ps : List Pr) (ts : List (T d)) (bs : List Nat) (h : RdP w a n ps) (hc : Cap a n cap) (hn : n ≤ 12) (hk : RdK w a' n' bs) (hc' : Cap a' n' cap') (hl : ts.length = ps.length + 1) (hks : Kids w d ts bs) (hok : KidsOk d ts) :
    Calls Try.prog 44 #[.slice a n cap, .slice a' n' cap'] w fun e w' => ∃ (v : Value) (H : Half (d + 1)), e = .returned v ∧ Hid (H.lies w' v) ∧ Hid (H.list = inter (ts.map (tl d)) ps ∧ H.ok ∧ (n ≤ 7 → ∃ t, H = .one t ∧ (prs (d + 1) t).length = n) ∧ (7 < n → ∃ l m r, H = .two l m r)) ∧ Hid (Below w.heap.size w w') := by
  have hnn : n' = n + 1 := by rw [← hk.1, hks.1, hl, h.1]
  by_cases h7 : n ≤ 7
  · refine (cut_one w a a' n cap n' cap' ps h h7).mono ?_
    rintro e w' ⟨nd, rfl, h1, h2⟩
    refine ⟨_, .one (ps, ts), rfl, ⟨nd, rfl, a, n, cap, a', n', cap', bs, h1, hc, hk.below h2.out (Nat.le_refl _), hc', hks.1, (hks.below h2.out).2⟩, ⟨rfl, ⟨⟨hl, hok⟩, by show ps.length ≤ 7; rw [h.1]; exact h7⟩, fun _ => ⟨(ps, ts), rfl, h.1⟩, fun h8 => absurd h8 (by omega)⟩, h2⟩
  · obtain ⟨g, off, rfl⟩ := Ad.some_of hc (by omega)
    obtain ⟨g', off', rfl⟩ := Ad.some_of hc' (by omega)
    have hlt : n / 2 < ps.length := by rw [h.1]; omega
    refine (cut_node2 w g off n cap g' off' n' cap' ps ⟨hnn, hc'.1⟩ ps[n / 2] h ⟨by omega, hn, hc.1⟩ (List.getElem?_eq_getElem hlt)).mono ?_
    rintro e w' ⟨b, b2, rfl, h1, h2, h3⟩
    have hk2 := hks.below h3.out
    have hr2 := hk.below h3.out (Nat.le_refl _)
    refine ⟨_, .two (ps.take (n / 2), ts.take (n / 2 + 1)) ps[n / 2] (ps.drop (n / 2 + 1), ts.drop (n / 2 + 1)), rfl, ⟨b, b2, rfl, ⟨_, _, _, _, _, _, bs.take (n / 2 + 1), h1, ⟨Nat.le_refl _, .inr ⟨_, _, rfl⟩⟩, hr2.take (by omega), ⟨Nat.le_refl _, .inr ⟨_, _, rfl⟩⟩, (hk2.take _).1, (hk2.take _).2⟩, ⟨_, _, _, _, _, _, bs.drop (n / 2 + 1), h2, ⟨Nat.le_refl _, .inr ⟨_, _, rfl⟩⟩, hr2.drop (by omega), ⟨Nat.le_refl _, .inr ⟨_, _, rfl⟩⟩, (hk2.drop _).1, (hk2.drop _).2⟩⟩, ⟨?_, ⟨⟨⟨?_, ?_⟩, ?_, ?_⟩, ⟨⟨?_, ?_⟩, ?_, ?_⟩⟩, fun h => absurd h h7, fun _ => ⟨_, _, _, rfl⟩⟩, h3⟩
    · show inter ((ts.take (n / 2 + 1)).map (tl d)) (ps.take (n / 2)) ++ ps[n / 2] :: inter ((ts.drop (n / 2 + 1)).map (tl d)) (ps.drop (n / 2 + 1)) = _
      rw [List.map_take, List.map_drop]
      exact (inter_cut (by simpa using hl) (List.getElem?_eq_getElem hlt)).symm
    · show (ts.take (n / 2 + 1)).length = (ps.take (n / 2)).length + 1
      rw [List.length_take, List.length_take, hl, h.1]; omega
    · intro k hk'; exact hok k (List.mem_of_mem_take hk')
    · show 3 ≤ (ps.take (n / 2)).length; rw [List.length_take, h.1]; omega
    · show (ps.take (n / 2)).length ≤ 7; rw [List.length_take, h.1]; omega
    · show (ts.drop (n / 2 + 1)).length = (ps.drop (n / 2 + 1)).length + 1
      rw [List.length_drop, List.length_drop, hl, h.1]; omega
    · intro k hk'; exact hok k (List.mem_of_mem_drop hk')
    · show 3 ≤ (ps.drop (n / 2 + 1)).length; rw [List.length_drop, h.1]; omega
    · show (ps.drop (n / 2 + 1)).length ≤ 7; rw [List.length_drop, h.1]; omega
#print axioms cut_node
end Go.Proofs.Ytnagknlfboadkaa.Oct
