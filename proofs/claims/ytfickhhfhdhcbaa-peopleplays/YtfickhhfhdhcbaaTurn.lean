/-
  Layer 15 (people): one organisation of people is changed; one more.
-/
import Derived.Test.YtfickhhfhdhcbaaOrg
namespace Go.Proofs.Ytfickhhfhdhcbaa.Oct
open Go.RowKit

theorem Hp.at.append {H G : Hp} {w : World} (h : H.at w) (g : G.at w) (hd : ∀ b ∈ H.map (·.1), b ∉ G.map (·.1)) : Hp.at (H ++ G) w := by
  refine ⟨fun x hx => (List.mem_append.1 hx).elim (h.all x) (g.all x), ?_⟩
  rw [List.map_append, List.nodup_append]
  exact ⟨h.apart, g.apart, fun a ha b hb e => hd a ha (e ▸ hb)⟩
theorem Hp.at.left {H G : Hp} {w : World} (h : Hp.at (H ++ G) w) : H.at w :=
  ⟨fun x hx => h.all x (List.mem_append.2 (.inl hx)), by have := h.apart; rw [List.map_append, List.nodup_append] at this; exact this.1⟩
section
variable {w w' : World} {p : Nat} {M : Pm} {A B : List Og} {o : Og}
theorem Pm.hp_split (hA : M.orgs = A ++ o :: B) : M.hp p = ((p, .cells 51 [.map (some M.ub), .map (some M.ob)]) :: (M.ub, .kv (unit M.users)) :: (M.ob, .kv (orgsKv M.orgs)) :: A.flatMap Og.hp) ++ (o.hp ++ B.flatMap Og.hp) := by
  unfold Pm.hp
  rw [hA, List.flatMap_append, List.flatMap_cons]
  rfl
theorem Pm.org_mem (ho : o ∈ M.orgs) : ∀ x ∈ o.hp, x ∈ M.hp p := by
  intro x hx
  unfold Pm.hp
  have : x ∈ M.orgs.flatMap Og.hp := List.mem_flatMap.2 ⟨o, ho, hx⟩
  simp [this]
theorem PAt.oblk (h : PAt w p M) (ho : o ∈ M.orgs) : Blk w o.blk 73 [.map (some o.tb), .map (some o.rb)] := h.hp.all (o.blk, .cells 73 _) (Pm.org_mem ho _ (by simp [Og.hp]))
theorem PAt.oteams (h : PAt w p M) (ho : o ∈ M.orgs) : MP w o.tb (teamsKv o.teams) := h.hp.all (o.tb, .kv _) (Pm.org_mem ho _ (by simp [Og.hp]))
theorem PAt.oroles (h : PAt w p M) (ho : o ∈ M.orgs) : MP w o.rb (rolesKv o.roles) := h.hp.all (o.rb, .kv _) (Pm.org_mem ho _ (by simp [Og.hp]))
theorem PAt.oteam (h : PAt w p M) (ho : o ∈ M.orgs) {t : Tm} (ht : t ∈ o.teams) : MP w t.blk (unit t.mem) := h.hp.all (t.blk, .kv _) (Pm.org_mem ho _ (by simp only [Og.hp, List.mem_cons]; exact .inr (.inr (.inr (List.mem_map.2 ⟨t, ht, rfl⟩)))))
/-- the organisations but one -/
theorem PAt.split (h : PAt w p M) {x : Hs} (ho : M.org x = some o) : o ∈ M.orgs ∧ o.name = x ∧ ∃ A B, M.orgs = A ++ o :: B ∧ (∀ y ∈ A ++ B, y.name ≠ x) := by
  have h1 := List.mem_of_find?_eq_some ho
  have h2 : o.name = x := by simpa using List.find?_some ho
  obtain ⟨A, B, e⟩ := List.append_of_mem h1
  refine ⟨h1, h2, A, B, e, fun y hy hn => ?_⟩
  have hnd := h.os.nodup
  have hk : (orgsKv M.orgs).map (·.1) = M.orgs.map (·.name) := by unfold orgsKv; rw [List.map_map]; rfl
  rw [hk, e] at hnd
  have hp : (o :: (A ++ B)).Perm (A ++ o :: B) := List.perm_middle.symm
  have h3 := ((hp.map (·.name)).nodup_iff).2 hnd
  rw [List.map_cons, List.nodup_cons] at h3
  exact h3.1 (List.mem_map.2 ⟨y, hy, by rw [hn, h2]⟩)
/-- an organisation's part is changed -/
theorem PAt.turnOrg (h : PAt w p M) (hA : M.orgs = A ++ o :: B) {o' : Og} (hn : o'.name = o.name) (hb : o'.blk = o.blk) {P Q : Hp} {b : Nat} {c c' : Cont} (e1 : o.hp = P ++ (b, c) :: Q) (e2 : o'.hp = P ++ (b, c') :: Q) (hg : w.grownBy w' (some b)) (hc : c'.at w' b) (hok : OgOk M.users o') :
    PAfter w p M { M with orgs := A ++ o' :: B } w' := by
  have hkv : orgsKv (A ++ o' :: B) = orgsKv M.orgs := by
    rw [hA]
    unfold orgsKv
    simp [hn, hb]
  have hbl : ({ M with orgs := A ++ o' :: B } : Pm).bl p = M.bl p := by
    unfold Pm.bl
    rw [Pm.hp_split (M := { M with orgs := A ++ o' :: B }) (A := A) (B := B) (o := o') rfl, Pm.hp_split hA, e1, e2]
    simp
  refine ⟨⟨?_, h.users, ?_, fun x hx => ?_⟩, fun k hk => .inl (by rw [← hbl]; exact hk), Keep.grown hg ?_⟩
  · have h1 := h.hp
    rw [Pm.hp_split hA, e1] at h1
    rw [Pm.hp_split (M := { M with orgs := A ++ o' :: B }) (A := A) (B := B) (o := o') rfl, e2]
    show Hp.at (((p, .cells 51 [.map (some M.ub), .map (some M.ob)]) :: (M.ub, .kv (unit M.users)) :: (M.ob, .kv (orgsKv (A ++ o' :: B))) :: A.flatMap Og.hp) ++ (P ++ (b, c') :: Q ++ B.flatMap Og.hp)) w'
    rw [hkv]
    have a1 : ∀ (X : Hp) (k : Cont), X ++ (P ++ (b, k) :: Q ++ B.flatMap Og.hp) = (X ++ P) ++ (b, k) :: (Q ++ B.flatMap Og.hp) := fun X k => by simp
    rw [a1] at h1 ⊢
    exact h1.turn hg hc
  · have := h.orgs
    rw [hA] at this
    simpa using this
  · rcases List.mem_append.1 hx with hx | hx
    · exact h.ok x (by rw [hA]; exact List.mem_append.2 (.inl hx))
    · rcases List.mem_cons.1 hx with rfl | hx
      · exact hok
      · exact h.ok x (by rw [hA]; exact List.mem_append.2 (.inr (List.mem_cons_of_mem _ hx)))
  · show b ∈ M.bl p
    unfold Pm.bl
    rw [Pm.hp_split hA, e1]
    simp
/-- .. and it has one more block -/
theorem PAt.moreOrg (h : PAt w p M) (hA : M.orgs = A ++ o :: B) {o' : Og} (hn : o'.name = o.name) (hb : o'.blk = o.blk) {w1 : World} (h1 : Below w.heap.size w w1) {P Q : Hp} {b nb : Nat} {c c' c2 : Cont} (e1 : o.hp = P ++ (b, c) :: Q) (e2 : o'.hp = P ++ (b, c') :: (Q ++ [(nb, c2)])) (hg : w1.grownBy w' (some b)) (hc : c'.at w' b) (hnb : w.heap.size ≤ nb) (hc2 : c2.at w' nb) (hok : OgOk M.users o') :
    PAfter w p M { M with orgs := A ++ o' :: B } w' := by
  have hkv : orgsKv (A ++ o' :: B) = orgsKv M.orgs := by
    rw [hA]
    unfold orgsKv
    simp [hn, hb]
  have hbm : b ∈ M.bl p := by
    unfold Pm.bl
    rw [Pm.hp_split hA, e1]
    simp
  have hlt := h.hp.lt
  refine ⟨⟨?_, h.users, ?_, fun x hx => ?_⟩, fun k hk => ?_, (Keep.below h1).trans (Keep.grown (S := fun k => k ∈ M.bl p) hg hbm) (fun _ hj _ => hj)⟩
  · have h2 := (h.hp.below h1)
    rw [Pm.hp_split hA, e1] at h2
    have a1 : ∀ (X : Hp) (k : Cont), X ++ (P ++ (b, k) :: Q ++ B.flatMap Og.hp) = (X ++ P) ++ (b, k) :: (Q ++ B.flatMap Og.hp) := fun X k => by simp
    rw [a1] at h2
    have h3 := h2.turn hg hc
    have h4 := h3.cons hc2 (by
      intro hm
      have : nb ∈ M.bl p := by
        unfold Pm.bl
        rw [Pm.hp_split hA, e1, a1]
        simpa using hm
      have := hlt nb this
      omega)
    rw [Pm.hp_split (M := { M with orgs := A ++ o' :: B }) (A := A) (B := B) (o := o') rfl, e2]
    show Hp.at (((p, .cells 51 [.map (some M.ub), .map (some M.ob)]) :: (M.ub, .kv (unit M.users)) :: (M.ob, .kv (orgsKv (A ++ o' :: B))) :: A.flatMap Og.hp) ++ (P ++ (b, c') :: (Q ++ [(nb, c2)]) ++ B.flatMap Og.hp)) w'
    rw [hkv]
    refine h4.perm ?_
    have a2 : ∀ (X : Hp), X ++ (P ++ (b, c') :: (Q ++ [(nb, c2)]) ++ B.flatMap Og.hp) = (X ++ P ++ (b, c') :: Q) ++ (nb, c2) :: B.flatMap Og.hp := fun X => by simp
    have a3 : ∀ (X : Hp), X ++ P ++ (b, c') :: (Q ++ B.flatMap Og.hp) = (X ++ P ++ (b, c') :: Q) ++ B.flatMap Og.hp := fun X => by simp
    rw [a2, a3]
    exact List.perm_middle.symm
  · have := h.orgs
    rw [hA] at this
    simpa using this
  · rcases List.mem_append.1 hx with hx | hx
    · exact h.ok x (by rw [hA]; exact List.mem_append.2 (.inl hx))
    · rcases List.mem_cons.1 hx with rfl | hx
      · exact hok
      · exact h.ok x (by rw [hA]; exact List.mem_append.2 (.inr (List.mem_cons_of_mem _ hx)))
  · unfold Pm.bl at hk
    rw [Pm.hp_split (M := { M with orgs := A ++ o' :: B }) (A := A) (B := B) (o := o') rfl, e2] at hk
    by_cases e : k = nb
    · exact .inr (by rw [e]; exact hnb)
    · left
      unfold Pm.bl
      rw [Pm.hp_split hA, e1]
      simp only [List.map_append, List.map_cons, List.mem_append, List.mem_cons, List.map_nil, List.not_mem_nil, or_false] at hk ⊢
      rcases hk with hk | (hk | hk | hk | hk) | hk
      · exact .inl hk
      · exact .inr (.inl (.inl hk))
      · exact .inr (.inl (.inr (.inl hk)))
      · exact .inr (.inl (.inr (.inr hk)))
      · exact absurd hk e
      · exact .inr (.inr hk)
/-- one more organisation -/
theorem PAt.newOrg (h : PAt w p M) {w1 : World} (h1 : Below w.heap.size w w1) {o' : Og} (hg : w1.grownBy w' (some M.ob)) (hc : MP w' M.ob (orgsKv (M.orgs ++ [o']))) (hlen : M.orgs.length < 8) (hat : o'.hp.at w') (hnew : ∀ b ∈ o'.hp.map (·.1), w.heap.size ≤ b) (hok : OgOk M.users o') :
    PAfter w p M { M with orgs := M.orgs ++ [o'] } w' := by
  have hlt := h.hp.lt
  refine ⟨⟨?_, h.users, ?_, fun x hx => ?_⟩, fun k hk => ?_, (Keep.below h1).trans (Keep.grown (S := fun k => k ∈ M.bl p) hg (by simp [Pm.bl, Pm.hp])) (fun _ hj _ => hj)⟩
  · have h2 := (h.hp.below h1)
    have h3 := Hp.at.turn (A := [(p, .cells 51 [.map (some M.ub), .map (some M.ob)]), (M.ub, .kv (unit M.users))]) (B := M.orgs.flatMap Og.hp) (c := .kv (orgsKv M.orgs)) (c' := .kv (orgsKv (M.orgs ++ [o']))) h2 hg hc
    have h4 := h3.append hat (by
      intro b hb hb2
      have h5 := hnew b hb2
      have h6 := hlt b (by
        unfold Pm.hp
        simpa using hb)
      omega)
    have e : ({ M with orgs := M.orgs ++ [o'] } : Pm).hp p = [(p, .cells 51 [.map (some M.ub), .map (some M.ob)]), (M.ub, .kv (unit M.users))] ++ (M.ob, .kv (orgsKv (M.orgs ++ [o']))) :: M.orgs.flatMap Og.hp ++ o'.hp := by
      unfold Pm.hp
      simp
    rw [e]
    exact h4
  · show (M.orgs ++ [o']).length ≤ 8
    rw [List.length_append]
    exact hlen
  · rcases List.mem_append.1 hx with hx | hx
    · exact h.ok x hx
    · obtain rfl : x = o' := by simpa using hx
      exact hok
  · have e : ({ M with orgs := M.orgs ++ [o'] } : Pm).bl p = M.bl p ++ o'.hp.map (·.1) := by
      unfold Pm.bl Pm.hp
      simp
    rw [e] at hk
    exact (List.mem_append.1 hk).imp id (hnew k)
end
#print axioms PAt.turnOrg
#print axioms PAt.moreOrg
#print axioms PAt.newOrg
end Go.Proofs.Ytfickhhfhdhcbaa.Oct
