/-
  Layer 12 (deps): items that say the same have the same answers. Plain facts.
-/
import Derived.Test.YtijkpkcopjkhkaaBehindPure
namespace Go.Proofs.Ytijkpkcopjkhkaa.Oct

/-- items that say the same -/
structure Alike (l m : List It) : Prop where
  len : l.length = m.length
  nd : (l.map (·.name)).Nodup ↔ (m.map (·.name)).Nodup
  names : ∀ h, h ∈ l.map (·.name) ↔ h ∈ m.map (·.name)
  needs : ∀ n d, (∃ x ∈ l, x.name = n ∧ d ∈ x.deps) ↔ ∃ x ∈ m, x.name = n ∧ d ∈ x.deps
theorem Alike.symm {l m : List It} (h : Alike l m) : Alike m l := ⟨h.len.symm, h.nd.symm, fun x => (h.names x).symm, fun n d => (h.needs n d).symm⟩
theorem rdy_iff (l : List It) (told : List Hs) (h : Hs) : Rdy l told h ↔ h ∈ l.map (·.name) ∧ h ∉ told ∧ ∀ d, (∃ x ∈ l, x.name = h ∧ d ∈ x.deps) → d ∈ told :=
  ⟨fun ⟨a, b, c⟩ => ⟨a, b, fun d ⟨x, hx, e, hd⟩ => c x hx e d hd⟩, fun ⟨a, b, c⟩ => ⟨a, b, fun x hx e d hd => c d ⟨x, hx, e, hd⟩⟩⟩
theorem Alike.rdy {l m : List It} (h : Alike l m) (told : List Hs) (k : Hs) : Rdy l told k ↔ Rdy m told k := by
  rw [rdy_iff, rdy_iff, h.names]
  exact and_congr Iff.rfl (and_congr Iff.rfl (forall_congr' fun d => by rw [h.needs]))
theorem Alike.missing {l m : List It} (h : Alike l m) (x : Hs) : missing l x ↔ missing m x := by
  have key : ∀ {l m : List It}, Alike l m → Oct.missing l x → Oct.missing m x := by
    rintro l m h ⟨⟨it, h1, h2⟩, h3⟩
    obtain ⟨y, hy, _, hd⟩ := (h.needs it.name x).1 ⟨it, h1, rfl, h2⟩
    exact ⟨⟨y, hy, hd⟩, fun e => h3 ((h.names x).2 e)⟩
  exact ⟨key h, key h.symm⟩
theorem Alike.down {l m : List It} (h : Alike l m) (a b : Hs) : Reach (getS (downS l)) a b ↔ Reach (getS (downS m)) a b :=
  reach_same fun x y => by rw [mem_down, mem_down, h.needs]
theorem Alike.up {l m : List It} (h : Alike l m) (a b : Hs) : Reach (getS (upS l)) a b ↔ Reach (getS (upS m)) a b := by
  rw [← mirror, ← mirror]; exact h.down b a
theorem Alike.closed {l m : List It} (h : Alike l m) : ClosedL l.length l ↔ ClosedL m.length m := by
  unfold ClosedL
  rw [h.len, h.nd]
  exact and_congr Iff.rfl (and_congr Iff.rfl (forall_congr' fun x => by rw [h.missing]))
/-- one answer alone -/
theorem OrdA.same {l m : List It} (h : Alike l m) {hs ks : List Hs} {er fr : Int} (ha : OrdA l hs er) (hb : OrdA m ks fr) : hs = ks ∧ er = fr := by
  have hl := h.len
  rcases ha with ⟨a1, a2, a3⟩ | ⟨a1, a2, a3, a4⟩ | ⟨a1, a2, ⟨x, a3⟩, a4, a5⟩ | ⟨a1, a2, a3, ⟨u, a4, a5⟩, a6, a7⟩ | ⟨a1, a2, a3, a4, a5, a6⟩ <;>
  rcases hb with ⟨b1, b2, b3⟩ | ⟨b1, b2, b3, b4⟩ | ⟨b1, b2, ⟨y, b3⟩, b4, b5⟩ | ⟨b1, b2, b3, ⟨v, b4, b5⟩, b6, b7⟩ | ⟨b1, b2, b3, b4, b5, b6⟩ <;>
  first
    | exact ⟨by rw [a2, b2], by rw [a3, b3]⟩
    | exact ⟨by rw [a3, b3], by rw [a4, b4]⟩
    | exact ⟨by rw [a4, b4], by rw [a5, b5]⟩
    | exact ⟨by rw [a6, b6], by rw [a7, b7]⟩
    | exact ⟨OrderS.same h.rdy a4 b4, by rw [a6, b6]⟩
    | (exfalso; omega)
    | exact absurd (h.nd.2 b2) a2
    | exact absurd (h.nd.1 a2) b2
    | exact absurd ((h.missing _).1 a3) (b3 _)
    | exact absurd ((h.missing _).2 b3) (a3 _)
    | (exfalso; have e := congrArg List.length (OrderS.same h.rdy a4 b4); omega)
#print axioms OrdA.same
end Go.Proofs.Ytijkpkcopjkhkaa.Oct
