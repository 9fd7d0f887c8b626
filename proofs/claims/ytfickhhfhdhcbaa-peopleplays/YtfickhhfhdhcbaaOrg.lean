/-
  Layer 15 (people): an organisation's own calls.
-/
import Derived.Test.YtfickhhfhdhcbaaPpl
import Derived.Carry
namespace Go.Proofs.Ytfickhhfhdhcbaa.Oct
open Go.RowKit

theorem kget_roles (l : List (Hs × Int)) (h : Hs) : kget (rolesKv l) h = (l.find? (fun r => r.1 == h)).map fun r => .int .i64 r.2 := by
  unfold kget rolesKv
  rw [List.find?_map, Option.map_map]
  rfl
/-- a user's role, 0 for none -/
def roleOf (l : List (Hs × Int)) (h : Hs) : Int := ((l.find? (fun r => r.1 == h)).map (·.2)).getD 0
theorem look_roles (l : List (Hs × Int)) (h : Hs) : (kget (rolesKv l) h).getD (.int .i64 0) = .int .i64 (roleOf l h) := by
  rw [kget_roles]
  unfold roleOf
  cases l.find? (fun r => r.1 == h) <;> rfl
/-- is a user a member? -/
def inRoles (l : List (Hs × Int)) (h : Hs) : Bool := decide (h ∈ l.map (·.1))
theorem khas_roles (l : List (Hs × Int)) (h : Hs) : khas (rolesKv l) h = inRoles l h := by
  unfold khas inRoles
  rw [kget_roles]
  cases hf : l.find? (fun r => r.1 == h) with
  | none =>
    have hn : h ∉ l.map (·.1) := fun hm => by
      obtain ⟨r, hr, e⟩ := List.mem_map.1 hm
      have := List.find?_eq_none.1 hf r hr
      simp [e] at this
    simp [hn]
  | some r =>
    have h1 := List.mem_of_find?_eq_some hf
    have h2 := List.find?_some hf
    have h3 : r.1 = h := by simpa using h2
    have hm : h ∈ l.map (·.1) := List.mem_map.2 ⟨r, h1, h3⟩
    simp [hm]
def isTeam (l : List Tm) (h : Hs) : Bool := decide (h ∈ l.map (·.name))
theorem kget_teams (l : List Tm) (h : Hs) : kget (teamsKv l) h = (l.find? (fun r => r.name == h)).map fun r => .map (some r.blk) := by
  unfold kget teamsKv
  rw [List.find?_map, Option.map_map]
  rfl
theorem khas_teams (l : List Tm) (h : Hs) : khas (teamsKv l) h = isTeam l h := by
  unfold khas isTeam
  rw [kget_teams]
  cases hf : l.find? (fun r => r.name == h) with
  | none =>
    have hn : h ∉ l.map (·.name) := fun hm => by
      obtain ⟨r, hr, e⟩ := List.mem_map.1 hm
      have := List.find?_eq_none.1 hf r hr
      simp [e] at this
    simp [hn]
  | some r =>
    have h1 := List.mem_of_find?_eq_some hf
    have h2 := List.find?_some hf
    have h3 : r.name = h := by simpa using h2
    have hm : h ∈ l.map (·.name) := List.mem_map.2 ⟨r, h1, h3⟩
    simp [hm]

theorem built73 (x y : Nat) (W : World) : (Instr.build 73 #[(0, .map (some x)), (1, .map (some y))]).run Try.prog W = .ok (.agg #[.map (some x), .map (some y)]) W := by kernel_rfl
set_option maxRecDepth 100000 in
theorem newOrg_is (u : Hs) (hl : u.length ≤ 140737488355328) (w : World) :
    Calls Try.prog 52 #[hv u] w fun e w' => e = .returned (.pointer (some ⟨w.heap.size + 1 + 1, 0, none⟩)) ∧ MP w' w.heap.size [] ∧ MP w' (w.heap.size + 1) [(u, .int .i64 2)] ∧ Blk w' (w.heap.size + 1 + 1) 73 [.map (some w.heap.size), .map (some (w.heap.size + 1))] ∧ Below w.heap.size w w' := by
  have hm2 : MP ((w.alloc (.map #[] 0)).alloc (.map #[] 0)) (w.heap.size + 1) [] := by simpa using MP.made (w.alloc (.map #[] 0))
  obtain ⟨w3, hrun, h3, hg, hs⟩ := hm2.put (t := 71) (h := u) Try.underlying71 (len_max hl) (.int .i64 2)
  have hsz : w3.heap.size = w.heap.size + 1 + 1 := by rw [hs]; simp
  have h1 : MP w3 w.heap.size [] := (MP.made w).same (by
    rw [hg.block w.heap.size (by simp; omega) (by simp)]
    exact Below.heap_alloc _ _ _ (by simp))
  have hb : Below w.heap.size w w3 := (((Below.refl _ w).alloc (Nat.le_refl _) _).alloc (by simp) _).grown hg (by simp; omega) (fun j hj => by cases hj; omega)
  have H : Hid (MP w3 w.heap.size [] ∧ MP w3 (w.heap.size + 1) [(u, .int .i64 2)] ∧ Below w.heap.size w w3 ∧ w3.heap.size = w.heap.size + 1 + 1) := ⟨h1, by simpa [kput, khas, kget] using h3, hb, hsz⟩
  have hmm := @run_makeMap Try.prog
  have hbd := built73
  clear hm2 h3 hg hs h1 hb
  generalize hv u = s at hrun ⊢
  go_enter Try.func52, Try.ntmps52
  go_wp2
  go_ret
  refine ⟨rfl, ?_⟩
  rw [← hsz]
  refine ⟨H.out.1.same (Below.heap_alloc _ _ _ (by rw [hsz]; omega)), H.out.2.1.same (Below.heap_alloc _ _ _ (by rw [hsz]; omega)), by simpa using Blk.new w3 #[.map (some w.heap.size), .map (some (w.heap.size + 1))] 73, H.out.2.2.1.alloc (by rw [hsz]; omega) _⟩
#print axioms newOrg_is

set_option maxRecDepth 100000 in
theorem member_is {w : World} {o tb rb : Nat} {l : List (Hs × Int)} (hb : Blk w o 73 [.map (some tb), .map (some rb)]) (hr : MP w rb (rolesKv l)) (h : Hs) (hl : h.length ≤ 140737488355328) :
    Calls Try.prog 53 #[.pointer (some ⟨o, 0, none⟩), hv h] w fun e w' => e = .returned (.bool (inRoles l h)) ∧ w = w' := by
  have c1 : w.cell? ⟨o, 1, none⟩ = some (.map (some rb)) := hb.cell rfl
  have hlk := hr.look2 (t := 71) (h := h) Try.underlying71 (len_max hl) (zero3 w)
  rw [look_roles, khas_roles] at hlk
  generalize inRoles l h = c at hlk ⊢
  generalize roleOf l h = z at hlk
  generalize hv h = s at hlk ⊢
  clear hb hr
  go_enter Try.func53, Try.ntmps53
  go_wp2
  go_ret
  exact ⟨rfl, rfl⟩
set_option maxRecDepth 100000 in
theorem isTeam_is {w : World} {tb : Nat} {l : List Tm} (hr : MP w tb (teamsKv l)) (h : Hs) (hl : h.length ≤ 140737488355328) :
    Calls Try.prog 57 #[.map (some tb), hv h] w fun e w' => e = .returned (.bool (isTeam l h)) ∧ w = w' := by
  have hlk := hr.look2 (t := 70) (h := h) Try.underlying70 (len_max hl) (zero48 w)
  rw [khas_teams] at hlk
  generalize isTeam l h = c at hlk ⊢
  generalize (kget (teamsKv l) h).getD (.map none) = z at hlk
  generalize hv h = s at hlk ⊢
  clear hr
  go_enter Try.func57, Try.ntmps57
  go_wp2
  go_ret
  exact ⟨rfl, rfl⟩
#print axioms member_is
#print axioms isTeam_is

theorem HMR.left {w : World} {b r : Nat} {es left : List Ent} (h : HMR w b r es left) : w.rangeLeft b r = left.length := by
  obtain ⟨clock, seen, h1, h2, h3, _⟩ := h
  unfold World.rangeLeft
  rw [h1, h2]
  have := congrArg List.length (filter_seen es seen)
  simp only [List.length_map, ← h3] at this
  simpa using this
/-- how many owners -/
def owners (l : List (Hs × Int)) : Nat := l.countP (fun r => r.2 == 2)
def lastOwner (l : List (Hs × Int)) (h : Hs) : Bool := roleOf l h == 2 && owners l == 1
def two : Value → Bool
  | .int _ z => z == 2
  | _ => false
theorem owners_ents {es : List Ent} {l : List (Hs × Int)} (he : es.map (fun e => (e.k, e.v)) = rolesKv l) : owners l = es.countP (fun e => two e.v) := by
  unfold owners
  have h1 : l.countP (fun r => r.2 == 2) = (rolesKv l).countP (fun x => two x.2) := by
    unfold rolesKv
    rw [List.countP_map]
    rfl
  rw [h1, ← he, List.countP_map]
  rfl
/-- what the count keeps -/
def CInv (w wr : World) (rb r0 : Nat) (es left : List Ent) (k : Nat) : Prop := HMR wr rb r0 es left ∧ Below w.heap.size w wr ∧ k + left.countP (fun e => two e.v) = es.countP (fun e => two e.v) ∧ k + left.length ≤ es.length ∧ ∀ e ∈ left, ∃ z : Int, e.v = .int .i64 z
theorem CInv.next {w wr w3 : World} {rb r0 : Nat} {es left left' : List Ent} {k : Nat} {e : Ent} {z : Int} (h : CInv w wr rb r0 es left k) (hr : w.heap.size ≤ r0) (hp : left.Perm (e :: left')) (h3 : HMR w3 rb r0 es left') (hg : wr.grownBy w3 (some r0)) (hz : e.v = .int .i64 z) : CInv w w3 rb r0 es left' (k + if z == 2 then 1 else 0) := by
  obtain ⟨h1, h2, h4, h5, h6⟩ := h
  refine ⟨h3, h2.grown hg h2.size (fun j hj => by cases hj; exact hr), ?_, ?_, fun x hx => h6 x (hp.mem_iff.2 (List.mem_cons_of_mem _ hx))⟩
  · rw [hp.countP_eq, List.countP_cons, hz] at h4
    rw [show two (.int .i64 z) = (z == 2) from rfl] at h4
    omega
  · rw [hp.length_eq, List.length_cons] at h5
    split <;> omega
set_option maxRecDepth 100000 in
set_option maxHeartbeats 1000000 in
theorem lastOwner_is {w : World} {o tb rb : Nat} {l : List (Hs × Int)} (hb : Blk w o 73 [.map (some tb), .map (some rb)]) (hr : MP w rb (rolesKv l)) (hlen : l.length ≤ 1000000) (h : Hs) (hl : h.length ≤ 140737488355328) :
    Calls Try.prog 54 #[.pointer (some ⟨o, 0, none⟩), hv h] w fun e w' => e = .returned (.bool (lastOwner l h)) ∧ Below w.heap.size w w' := by
  have c1 : w.cell? ⟨o, 1, none⟩ = some (.map (some rb)) := hb.cell rfl
  have hlk := hr.look (t := 71) (h := h) Try.underlying71 (len_max hl) (zero3 w)
  rw [look_roles] at hlk
  unfold lastOwner
  generalize roleOf l h = z at hlk ⊢
  generalize hv h = s at hlk ⊢
  by_cases hz : z = 2
  · subst hz
    obtain ⟨es, hm, he⟩ := hr
    obtain ⟨w1, hrun, hR, hbel, hsz⟩ := hm.range (t := 71) Try.underlying71
    have HO : Hid (owners l = es.countP (fun e => two e.v) ∧ es.length ≤ 1000000) := ⟨owners_ents he, by
      have := congrArg List.length he
      rw [List.length_map, rolesKv, List.length_map] at this
      show _ ≤ _
      omega⟩
    obtain ⟨r0, hr0⟩ : ∃ r0, w.heap.size = r0 := ⟨_, rfl⟩
    rw [hr0] at hrun hR
    have HC : Hid (CInv w w1 rb r0 es es 0) := ⟨hR, hbel, by omega, by omega, fun e hee => by
      have : (e.k, e.v) ∈ rolesKv l := by rw [← he]; exact List.mem_map.2 ⟨e, hee, rfl⟩
      obtain ⟨r, _, hre⟩ := List.mem_map.1 this
      exact ⟨r.2, (congrArg Prod.snd hre).symm⟩⟩
    have HR0 : Hid (w.heap.size ≤ r0) := Nat.le_of_eq hr0
    have q0 : ((2 : Int) == 2 && (owners l == 1)) = (owners l == 1) := by simp
    rw [q0]
    obtain ⟨n, hn⟩ : ∃ n, owners l = n := ⟨_, rfl⟩
    have HN : Hid (owners l = n) := hn
    rw [hn]
    clear hb hm he hR hbel hsz hr0 q0 hn
    go_enter Try.func54, Try.ntmps54
    go_wp2
    go_loopw [5] (fun u wr => ∃ (k : Nat) (left : List Ent), u = .int .i64 (k : Int) ∧ Hid (CInv w wr rb r0 es left k)) (fun _ wr => wr.rangeLeft rb r0)
    case atStart => exact ⟨0, es, rfl, HC.out⟩
    case round =>
      obtain ⟨k, left, rfl, HB⟩ := hrel
      have HLL : Hid (wr.rangeLeft rb r0 = left.length) := HB.out.1.left
      clear hrun hlk c1
      rcases HB.out.1.next 0 with ⟨h0, hrun⟩ | ⟨e, left', w3, he, hp, hrun, h3, hg3, hz3, hen⟩
      · have HE : Hid (k = n) := by
          have h1 := HB.out.2.2.1
          rw [h0] at h1
          have h2 := HO.out.1
          have h3 := HN.out
          simp at h1
          show k = n
          omega
        clear h0
        go_wp2
        go_ret
        refine ⟨?_, HB.out.2.1⟩
        rw [HE.out]
        by_cases hn1 : n = 1
        · subst hn1; rfl
        · have a1 : ((n : Int) == 1) = false := by simp; omega
          have a2 : (n == 1) = false := by simpa using hn1
          rw [a1, a2]
          rfl
      · obtain ⟨z, hz⟩ := HB.out.2.2.2.2 e he
        rw [hz] at hrun hen
        have HE : Hid (CInv w w3 rb r0 es left' (k + if z == 2 then 1 else 0) ∧ left.length = left'.length + 1) := ⟨HB.out.next HR0.out hp h3 hg3 hz, by rw [hp.length_eq]; rfl⟩
        have q3 : (k : Int) ≤ 1000000 := by have := HB.out.2.2.2.1; have := HO.out.2; omega
        clear he hp h3 hg3 hz3 hz
        by_cases h2 : z = 2
        · subst h2
          go_wp2
          go_roundw
          case rel => exact ⟨k + 1, left', by simp, by show CInv _ _ _ _ _ _ _; simpa using HE.out.1⟩
          case measure => rw [HE.out.1.1.left, HLL.out, HE.out.2]; omega
        · have q4 : (z == 2) = false := by simpa using h2
          clear h2
          go_wp2
          go_roundw
          case rel => exact ⟨k, left', rfl, by show CInv _ _ _ _ _ _ _; have := HE.out.1; rw [q4] at this; simpa using this⟩
          case measure => rw [HE.out.1.1.left, HLL.out, HE.out.2]; omega
  · have q1 : (z == 2) = false := by simpa using hz
    have q2 : (z != 2) = true := by simpa using hz
    rw [q1, Bool.false_and]
    clear hb hr hz
    go_enter Try.func54, Try.ntmps54
    go_wp2
    go_ret
    exact ⟨rfl, Below.refl _ _⟩
#print axioms lastOwner_is
end Go.Proofs.Ytfickhhfhdhcbaa.Oct
