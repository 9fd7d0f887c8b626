/-
  Layer 15 (people): what Leave and Out make of an organisation.
-/
import Derived.Test.YtfickhhfhdhcbaaLives
namespace Go.Proofs.Ytfickhhfhdhcbaa.Oct
open Go.RowKit
set_option linter.unusedSimpArgs false
set_option linter.unusedVariables false

def rdel (l : List (Hs × Int)) (u : Hs) : List (Hs × Int) := l.filter (fun y => y.1 != u)
def kout (ks : List Hs) (u : Hs) : List Hs := ks.filter (fun y => y != u)
def tout (u : Hs) (t : Tm) : Tm := { t with mem := kout t.mem u }
def Og.out (o : Og) (u : Hs) : Og := { o with roles := rdel o.roles u, teams := o.teams.map (tout u) }
theorem rdel_kv (l : List (Hs × Int)) (u : Hs) : kdel (rolesKv l) u = rolesKv (rdel l u) := by
  unfold kdel rolesKv rdel
  rw [List.filter_map]
  rfl
theorem unit_del (ks : List Hs) (u : Hs) : kdel (unit ks) u = unit (kout ks u) := by
  unfold kdel unit kout
  rw [List.filter_map]
  rfl
theorem teamsKv_tout (l : List Tm) (u : Hs) : teamsKv (l.map (tout u)) = teamsKv l := by
  unfold teamsKv
  rw [List.map_map]
  rfl
theorem blks_tout (l : List Tm) (u : Hs) : (l.map (tout u)).map (·.blk) = l.map (·.blk) := by
  rw [List.map_map]
  rfl
theorem Og.hp_blks (o : Og) : o.hp.map (·.1) = o.blk :: o.tb :: o.rb :: o.teams.map (·.blk) := by
  unfold Og.hp
  simp only [List.map_cons, List.map_map]
  rfl
section
variable {w w' : World} {p : Nat} {M : Pm} {A B : List Og} {o o' : Og}
/-- the roles and teams of an organisation are changed -/
theorem PAt.turnAll (h : PAt w p M) (hA : M.orgs = A ++ o :: B) (hn : o'.name = o.name) (hb : o'.blk = o.blk) (ht : o'.tb = o.tb) (hr : o'.rb = o.rb) (hkv : teamsKv o'.teams = teamsKv o.teams) (hbl : o'.teams.map (·.blk) = o.teams.map (·.blk)) (hk : Keep (fun k => k = o.rb ∨ k ∈ o.teams.map (·.blk)) w w') (hrole : MP w' o.rb (rolesKv o'.roles)) (hmem : ∀ t ∈ o'.teams, MP w' t.blk (unit t.mem)) (hok : OgOk M.users o') :
    PAfter w p M { M with orgs := A ++ o' :: B } w' := by
  have hkvo : orgsKv (A ++ o' :: B) = orgsKv M.orgs := by
    rw [hA]
    unfold orgsKv
    simp [hn, hb]
  have hob : o'.hp.map (·.1) = o.hp.map (·.1) := by rw [Og.hp_blks, Og.hp_blks, hb, ht, hr, hbl]
  have hS : ∀ k, (k = o.rb ∨ k ∈ o.teams.map (·.blk)) → k ∈ o.hp.map (·.1) := fun k e => by
    rw [Og.hp_blks]
    rcases e with rfl | e
    · simp
    · simp only [List.mem_cons]; exact .inr (.inr (.inr e))
  have hap := h.hp.apart
  have hall := h.hp.all
  have hlt := h.hp.lt
  have hsp := Pm.hp_split (M := M) (p := p) hA
  have hsp' := Pm.hp_split (M := { M with orgs := A ++ o' :: B }) (p := p) (A := A) (B := B) (o := o') rfl
  have hblM : ({ M with orgs := A ++ o' :: B } : Pm).bl p = M.bl p := by
    unfold Pm.bl
    rw [hsp, hsp']
    simp only [List.map_append, List.map_cons, hob]
  rw [hsp, List.map_append, List.map_append] at hap
  obtain ⟨n1, n2, n3⟩ := List.nodup_append.1 hap
  obtain ⟨m1, m2, m3⟩ := List.nodup_append.1 n2
  rw [Og.hp_blks] at m1
  obtain ⟨r1, r2⟩ := List.nodup_cons.1 m1
  obtain ⟨r3, r4⟩ := List.nodup_cons.1 r2
  have same : ∀ b, b ∈ (M.hp p).map (·.1) → ¬ (b = o.rb ∨ b ∈ o.teams.map (·.blk)) → w'.heap[b]? = w.heap[b]? := fun b hb' hn' => hk.block b (hlt b hb') hn'
  refine ⟨⟨⟨fun x hx => ?_, ?_⟩, h.users, ?_, fun x hx => ?_⟩, fun k hk' => .inl (by rw [← hblM]; exact hk'), hk.mono (fun j _ hj => ?_)⟩
  · rw [hsp'] at hx
    rcases List.mem_append.1 hx with hx | hx
    · have hx' : x ∈ M.hp p := by
        rw [hsp]
        refine List.mem_append.2 (.inl ?_)
        have hx2 : x ∈ (p, Cont.cells 51 [.map (some M.ub), .map (some M.ob)]) :: (M.ub, .kv (unit M.users)) :: (M.ob, .kv (orgsKv (A ++ o' :: B))) :: A.flatMap Og.hp := hx
        rw [hkvo] at hx2
        exact hx2
      refine Cont.at_same (c := x.2) (hall x hx') (same x.1 (List.mem_map.2 ⟨x, hx', rfl⟩) (fun e => ?_))
      refine n3 x.1 ?_ x.1 (List.mem_append.2 (.inl (hS _ e))) rfl
      have hx2 : x ∈ (p, Cont.cells 51 [.map (some M.ub), .map (some M.ob)]) :: (M.ub, .kv (unit M.users)) :: (M.ob, .kv (orgsKv (A ++ o' :: B))) :: A.flatMap Og.hp := hx
      rw [hkvo] at hx2
      exact List.mem_map.2 ⟨x, hx2, rfl⟩
    · rcases List.mem_append.1 hx with hx | hx
      · have hom : ∀ y ∈ o.hp, y ∈ M.hp p := fun y hy => by rw [hsp]; exact List.mem_append.2 (.inr (List.mem_append.2 (.inl hy)))
        unfold Og.hp at hx
        rcases List.mem_cons.1 hx with rfl | hx
        · have hx' : (o.blk, Cont.cells 73 [.map (some o.tb), .map (some o.rb)]) ∈ o.hp := by simp [Og.hp]
          rw [hb, ht, hr]
          refine Cont.at_same (c := .cells 73 [.map (some o.tb), .map (some o.rb)]) (hall _ (hom _ hx')) (same o.blk (List.mem_map.2 ⟨_, hom _ hx', rfl⟩) (fun e => r1 ?_))
          rcases e with e | e
          · rw [e]; simp
          · simp only [List.mem_cons]; exact .inr (.inr e)
        · rcases List.mem_cons.1 hx with rfl | hx
          · have hx' : (o.tb, Cont.kv (teamsKv o.teams)) ∈ o.hp := by simp [Og.hp]
            rw [ht, hkv]
            refine Cont.at_same (c := .kv (teamsKv o.teams)) (hall _ (hom _ hx')) (same o.tb (List.mem_map.2 ⟨_, hom _ hx', rfl⟩) (fun e => r3 ?_))
            rcases e with e | e
            · rw [e]; simp
            · simp only [List.mem_cons]; exact .inr e
          · rcases List.mem_cons.1 hx with rfl | hx
            · rw [hr]; exact hrole
            · obtain ⟨t, ht', rfl⟩ := List.mem_map.1 hx
              exact hmem t ht'
      · have hx' : x ∈ M.hp p := by rw [hsp]; exact List.mem_append.2 (.inr (List.mem_append.2 (.inr hx)))
        refine Cont.at_same (c := x.2) (hall x hx') (same x.1 (List.mem_map.2 ⟨x, hx', rfl⟩) (fun e => ?_))
        exact m3 x.1 (hS _ e) x.1 (List.mem_map.2 ⟨x, hx, rfl⟩) rfl
  · have h1 := h.hp.apart
    have h2 : (({ M with orgs := A ++ o' :: B } : Pm).hp p).map (·.1) = (M.hp p).map (·.1) := hblM
    rw [h2]
    exact h1
  · have := h.orgs
    rw [hA] at this
    simpa using this
  · rcases List.mem_append.1 hx with hx | hx
    · exact h.ok x (by rw [hA]; exact List.mem_append.2 (.inl hx))
    · rcases List.mem_cons.1 hx with rfl | hx
      · exact hok
      · exact h.ok x (by rw [hA]; exact List.mem_append.2 (.inr (List.mem_cons_of_mem _ hx)))
  · show j ∈ M.bl p
    unfold Pm.bl
    rw [hsp, List.map_append, List.map_append]
    exact List.mem_append.2 (.inr (List.mem_append.2 (.inl (hS _ hj))))
end
theorem OgOk.out {us : List Hs} {o : Og} (h : OgOk us o) (hnd : (o.roles.map (·.1)).Nodup) {u : Hs} (hl : lastOwner o.roles u = false) : OgOk us (o.out u) := by
  refine ⟨by simpa [Og.out] using h.teams, fun r hr => h.roles r ((List.mem_filter.1 hr).1), ?_, fun t ht k hk => ?_⟩
  · obtain ⟨r, h1, h2, h3⟩ := owner_left hnd h.owner hl
    exact ⟨r, List.mem_filter.2 ⟨h1, by simpa using h3⟩, h2⟩
  · obtain ⟨t', ht', rfl⟩ := List.mem_map.1 ht
    have hk' : k ∈ kout t'.mem u := hk
    obtain ⟨h1, h2⟩ := List.mem_filter.1 hk'
    obtain ⟨r, hr, rfl⟩ := List.mem_map.1 (h.mem t' ht' k h1)
    exact List.mem_map.2 ⟨r, List.mem_filter.2 ⟨hr, h2⟩, rfl⟩
#print axioms PAt.turnAll
end Go.Proofs.Ytfickhhfhdhcbaa.Oct
