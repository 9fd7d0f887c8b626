/-
  Layer 7 (tree): two kids put together, and cut again.
-/
import Derived.Test.YtnagknlfboadkaaPutAll
import Derived.Test.YtnagknlfboadkaaLast
namespace Go.Proofs.Ytnagknlfboadkaa.Oct
open Go.RowKit

/-- a slice that holds the kids of two nodes put together -/
def KM (w : World) : (d : Nat) → T d → T d → Option Addr → Nat → Nat → Prop
  | 0, _, _, a, n, cap => a = none ∧ n = 0 ∧ cap = 0
  | d + 1, l, r, a, n, cap => ∃ bs, RdK w a n bs ∧ Cap a n cap ∧ Kids w d (l.2 ++ r.2) bs
theorem KM.below {w w' : World} (hb : Below w.heap.size w w') : ∀ {d : Nat} {l r : T d} {a : Option Addr} {n cap : Nat}, KM w d l r a n cap → KM w' d l r a n cap
  | 0, _, _, _, _, _, h => h
  | _ + 1, _, _, _, _, _, h => by
    obtain ⟨bs, h1, h2, h3⟩ := h
    exact ⟨bs, h1.below hb (Nat.le_refl _), h2, h3.below hb⟩
theorem step_append_zero {P : Program} {ops : Array Oper} {o : Oper} {a : Act} {K : Act → World → Prop} {Q : Exit → Act → World → Prop} {E : Prop} (hw : Region.wanted o (yielded ops a.tmps) = true) (dd : Tmp) (hdd : o.dst = some dd) (s x : Operand) (t : TypeId)
    (hop : o.op = .call { callee := .builtin .append, args := #[s, x], argTypes := #[t, t] }) (w : World) (e : TypeId) (i : TypeInfo) (ht : P.underlying t = some (.slice e)) (hi : P.info? e = some i) (hs : a.eval s = .slice none 0 0) (hx : a.eval x = .slice none 0 0)
    (hk : K (a.put (some dd) (.slice none 0 0)) w) : if Region.wanted o (yielded ops a.tmps) = true then Oper.wp P o a w K Q else E := by
  rw [if_pos hw]
  have hr := run_append_zero (P := P) w t o.type e i ht hi none none 0 0 0 (Nat.le_refl _)
  unfold Oper.wp execOp
  simp only [hop, resolve, invoke, builtin, Sem.run_bind, Sem.run_pure, Result.andThen_ok, List.map_toArray, List.map_cons, List.map_nil, hs, hx, hr]
  rw [← hdd] at hk
  exact hk
theorem spK_nil (w : World) : Calls Try.prog 45 #[.slice none 0 0, .int .i64 0, .int .i64 0, .slice none 0 0] w fun e w' => e = .returned (.slice none 0 0) ∧ Below w.heap.size w w' := by
  obtain ⟨i0, hi0, hii⟩ := Option.map_eq_some_iff.1 infoK
  go_enter Try.func45, Try.ntmps45
  go_wp2
  go_region_held_law (fun _ => True) (trivial) (first
    | (go_at_call 50; refine (partK_nil w.drew).mono ?_; rintro e w2 ⟨rfl, rfl⟩)
    | (refine step_append_zero (by rfl) 13 rfl _ _ 65 rfl w.drew 46 i0 Try.underlying65 hi0 rfl rfl ?_)
    | (refine step_append_zero (by rfl) 17 rfl _ _ 65 rfl w.drew 46 i0 Try.underlying65 hi0 rfl rfl ?_))
  go_wp2
  go_ret
  exact ⟨rfl, (Below.refl _ w).drew⟩
def Mg (d : Nat) (W : World) (l r : T d) (e : Ending) (w' : World) : Prop := ∃ a n cap, e = .returned (.slice a n cap) ∧ Hid (KM w' d l r a n cap) ∧ Hid (Below W.heap.size W w')
theorem kids_merge (w : World) (d : Nat) (l r : T d) (bl br : Nat) (hl : Lies w d l bl) (hr : Lies w d r br) (a1 a2 : Option Addr) (n1 cap1 n2 cap2 : Nat) (c1 : w.cell? ⟨bl, 1, none⟩ = some (.slice a1 n1 cap1)) (c2 : w.cell? ⟨br, 1, none⟩ = some (.slice a2 n2 cap2)) (hn : n1 + n2 ≤ 1000) (W : World) (hW : Below w.heap.size w W) :
    Calls Try.prog 45 #[.slice a1 n1 cap1, .int .i64 (n1 : Int), .int .i64 (n1 : Int), .slice a2 n2 cap2] W (Mg d W l r) := by
  cases d with
  | zero =>
    obtain ⟨_, _, _, h1, _⟩ := hl
    obtain ⟨_, _, _, h2, _⟩ := hr
    have e1 := c1.symm.trans (h1.blk.cell (i := 1) rfl)
    have e2 := c2.symm.trans (h2.blk.cell (i := 1) rfl)
    cases e1; cases e2
    refine (spK_nil W).mono ?_
    rintro e w' ⟨rfl, hb⟩
    exact ⟨none, 0, 0, rfl, ⟨rfl, rfl, rfl⟩, hb⟩
  | succ d =>
    obtain ⟨_, _, _, a3, n3, cap3, bs, h1, _, h3, h4, h5, h6⟩ := hl
    obtain ⟨_, _, _, a4, n4, cap4, bs', h1', _, h3', h4', h5', h6'⟩ := hr
    have e1 := c1.symm.trans (h1.blk.cell (i := 1) rfl)
    have e2 := c2.symm.trans (h1'.blk.cell (i := 1) rfl)
    cases e1; cases e2
    refine (spK W a1 n1 cap1 n1 n1 _ _ rfl rfl bs a2 n2 cap2 bs' (h3.below hW (Nat.le_refl _)) h4 (Nat.le_refl _) (Nat.le_refl _) (h3'.below hW (Nat.le_refl _)) (by omega)).mono ?_
    rintro e w' ⟨a, n, cap, R, rfl, hE, hR, hB⟩
    refine ⟨a, n, cap, rfl, ⟨R, hR.out.1, hR.out.2, ?_⟩, hB⟩
    have e3 : R = bs ++ bs' := by
      rw [hE.out.1, ← h3.1, List.take_length, List.drop_length, List.append_nil]
    rw [e3]
    have hbw : Below w.heap.size w w' := hW.trans (hB.out.mono hW.size)
    exact (Kids.below ⟨h5, h6⟩ hbw).append (Kids.below ⟨h5', h6'⟩ hbw)
theorem cut_merge (w : World) (d : Nat) (l r : T d) (p : Pr) (a a' : Option Addr) (n cap n' cap' : Nat) (h : RdP w a n (prs d l ++ [p] ++ prs d r)) (hc : Cap a n cap) (hn : n ≤ 12) (hk : KM w d l r a' n' cap') (hl : WF d l) (hr : WF d r) :
    Calls Try.prog 44 #[.slice a n cap, .slice a' n' cap'] w fun e w' => ∃ (b : Nat) (y : Pr) (q : Option Addr) (H : Half d), e = .returned (hv b y q) ∧ Hid (H.lies w' (hv b y q)) ∧ Hid (H.list = tl d l ++ p :: tl d r ∧ H.ok ∧ (n ≤ 7 → ∃ t, H = .one t ∧ (prs d t).length = n) ∧ (7 < n → ∃ x m z, H = .two x m z)) ∧ Hid (Below w.heap.size w w') := by
  cases d with
  | zero =>
    obtain ⟨rfl, rfl, rfl⟩ := hk
    refine (cut_leaf w a n cap _ h hc hn).mono ?_
    rintro e w' ⟨v, H, rfl, h1, h2, h3⟩
    obtain ⟨b, y, q, rfl⟩ := h1.out.form
    refine ⟨b, y, q, H, rfl, h1, ⟨?_, h2.out.2⟩, h3⟩
    rw [h2.out.1]
    show prs 0 l ++ [p] ++ prs 0 r = prs 0 l ++ p :: prs 0 r
    simp
  | succ d =>
    obtain ⟨bs, h1, h2, h3⟩ := hk
    have e : inter ((l.2 ++ r.2).map (tl d)) (l.1 ++ [p] ++ r.1) = tl (d + 1) l ++ p :: tl (d + 1) r := by
      rw [List.map_append, List.append_assoc, List.singleton_append]
      have hrl := hr.1
      exact inter_join (by simpa using hl.1) (by
        intro h0
        have := congrArg List.length h0
        simp at this
        rw [this] at hrl
        simp at hrl)
    refine (cut_node w d a a' n cap n' cap' (l.1 ++ [p] ++ r.1) (l.2 ++ r.2) bs h hc hn h1 h2 (by have := hl.1; have := hr.1; simp; omega) h3 (by
      intro k hk
      rcases List.mem_append.1 hk with hk | hk
      · exact hl.2 k hk
      · exact hr.2 k hk)).mono ?_
    rintro e' w' ⟨v, H, rfl, h4, h5, h6⟩
    obtain ⟨b, y, q, rfl⟩ := h4.out.form
    exact ⟨b, y, q, H, rfl, h4, ⟨by rw [h5.out.1, e], h5.out.2⟩, h6⟩
#print axioms cut_merge
/-- a node's pairs at two of its kids -/
theorem inter_pair {ls : List (List Pr)} {ps : List Pr} {i : Nat} {a b : List Pr} {p : Pr} (hl : ls.length = ps.length + 1) (ha : ls[i]? = some a) (hb : ls[i + 1]? = some b) (hp : ps[i]? = some p) :
    inter ls ps = upp (ls.take i) (ps.take i) ++ (a ++ p :: b) ++ dn (ps.drop (i + 1)) (ls.drop (i + 2)) := by
  obtain ⟨h1, ea⟩ := List.getElem?_eq_some_iff.1 ha
  obtain ⟨h2, eb⟩ := List.getElem?_eq_some_iff.1 hb
  obtain ⟨h3, ep⟩ := List.getElem?_eq_some_iff.1 hp
  have e1 : ls = ls.take i ++ [a, b] ++ ls.drop (i + 2) := by
    have : ls.drop i = a :: b :: ls.drop (i + 2) := by rw [List.drop_eq_getElem_cons h1, List.drop_eq_getElem_cons h2, ea, eb]
    rw [List.append_assoc]
    have k := List.take_append_drop i ls
    rw [this] at k
    exact k.symm
  have e2 : ps = ps.take i ++ [p] ++ ps.drop (i + 1) := by
    have : ps.drop i = p :: ps.drop (i + 1) := by rw [List.drop_eq_getElem_cons h3, ep]
    rw [List.append_assoc]
    have k := List.take_append_drop i ps
    rw [this] at k
    exact k.symm
  have hls0 : (ls.take i ++ [a] ++ ls.drop (i + 2)).length = (ps.take i ++ ps.drop (i + 1)).length + 1 := by simp; omega
  have hx : (ls.take i ++ [a] ++ ls.drop (i + 2))[i]? = some a := by
    rw [List.append_assoc, List.getElem?_append_right (by rw [List.length_take]; omega), List.length_take, Nat.min_eq_left (by omega)]; simp
  have k := inter_two (m := p) (a := a) (b := b) hls0 hx
  have t1 : (ls.take i ++ [a] ++ ls.drop (i + 2)).take i = ls.take i := by
    rw [List.append_assoc, List.take_append_of_le_length (by rw [List.length_take]; omega), List.take_take, Nat.min_self]
  have t2 : (ls.take i ++ [a] ++ ls.drop (i + 2)).drop (i + 1) = ls.drop (i + 2) := by
    rw [List.drop_append, List.drop_eq_nil_of_le (by simp; omega)]
    simp [Nat.min_eq_left (Nat.le_of_lt h1)]
  have t3 : (ps.take i ++ ps.drop (i + 1)).take i = ps.take i := by
    rw [List.take_append_of_le_length (by rw [List.length_take]; omega), List.take_take, Nat.min_self]
  have t4 : (ps.take i ++ ps.drop (i + 1)).drop i = ps.drop (i + 1) := by
    rw [List.drop_append, List.drop_eq_nil_of_le (by rw [List.length_take]; omega), List.length_take, Nat.min_eq_left (by omega), Nat.sub_self]
    simp
  rw [t1, t2, t3, t4, ← e1, ← e2] at k
  exact k
#print axioms inter_pair
end Go.Proofs.Ytnagknlfboadkaa.Oct
