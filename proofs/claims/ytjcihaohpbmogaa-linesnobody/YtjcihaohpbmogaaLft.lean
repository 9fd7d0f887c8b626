/-
  Layer 11 (lines), plain: what is left by a drop is ahead of what it was ahead of.
-/
import Derived.Test.YtjcihaohpbmogaaDrp
namespace Go.Proofs.Ytjcihaohpbmogaa.Gr
set_option linter.unusedVariables false
variable {α : Type} [DecidableEq α]

theorem left_add {β : Type} (p : β → Bool) (L : List (Ad β)) (a : Ad β) : left p (L ++ [a]) = left p L ++ (if a.ids.all p = true then [a] else []) := by
  unfold left
  rw [List.filter_append]
  congr 1
  rw [List.filter_cons, List.filter_nil]
theorem Made.left {top bot : α} {p : α → Bool} (ht : p top = true) (hb : p bot = true) {L : List (Ad α)} {O : List α} (h : Made top bot L O) (hw : Whole p L) :
    ∃ O', Made top bot (left p L) O' ∧ (∀ x, x ∈ O' ↔ x ∈ O ∧ p x = true) ∧ ∀ x z, x ∈ O' → z ∈ O' → (Reach (steps top bot (left p L)) x z ↔ Reach (steps top bot L) x z) := by
  induction h with
  | none hne =>
    refine ⟨[top, bot], .none hne, fun x => ?_, fun x z _ _ => Iff.rfl⟩
    constructor
    · intro hx
      refine ⟨hx, ?_⟩
      rcases List.mem_cons.1 hx with rfl | hx
      · exact ht
      · rw [List.mem_singleton.1 hx]; exact hb
    · exact fun hx => hx.1
  | @add L O l r a hm hud hf hn e hr ih =>
    obtain ⟨O1, m1, mem1, re1⟩ := ih fun c hc => hw c (List.mem_append_left _ hc)
    have hro := hm.rises
    obtain ⟨hu, hd⟩ := hro.ins hud
    have memN : ∀ x, x ∈ l ++ a.up :: (a.ids ++ r) ↔ x ∈ O ∨ x ∈ a.ids := by
      intro x
      rw [e]
      simp only [List.mem_append, List.mem_cons]
      constructor
      · rintro (h | h | h | h)
        · exact .inl (.inl h)
        · exact .inl (.inr (.inl h))
        · exact .inr h
        · exact .inl (.inr (.inr h))
      · rintro ((h | h | h) | h)
        · exact .inl h
        · exact .inr (.inl h)
        · exact .inr (.inr (.inr h))
        · exact .inr (.inr (.inl h))
    rw [left_add]
    rcases hw a (List.mem_append_right _ (List.mem_singleton.2 rfl)) with ⟨h1, h2, h3⟩ | ⟨h1, h2⟩
    · rw [if_pos h1]
      have hall := List.all_eq_true.1 h1
      have hu1 : a.up ∈ O1 := (mem1 _).2 ⟨hu, h2⟩
      have hd1 : a.down ∈ O1 := (mem1 _).2 ⟨hd, h3⟩
      have hud1 : Reach (steps top bot (Gr.left p L)) a.up a.down := (re1 _ _ hu1 hd1).2 hud
      have hf1 : ∀ x ∈ a.ids, x ∉ O1 := fun x hx ho => hf x hx ((mem1 x).1 ho).1
      obtain ⟨O2, m2, mem2⟩ := m1.next a hud1 hf1 hn
      have r1 := m1.rises
      refine ⟨O2, m2, fun x => ?_, fun x z hx hz => ?_⟩
      · rw [mem2, memN, mem1]
        constructor
        · rintro (h | h)
          · exact ⟨.inl h.1, h.2⟩
          · exact ⟨.inr h, hall x h⟩
        · rintro ⟨h | h, hp⟩
          · exact .inl ⟨h, hp⟩
          · exact .inr h
      · rcases (mem2 x).1 hx with hx | hx <;> rcases (mem2 z).1 hz with hz | hz
        · rw [reach_add r1 hu1 hd1 hud1 hf1 hx hz, re1 x z hx hz, reach_add hro hu hd hud hf ((mem1 x).1 hx).1 ((mem1 z).1 hz).1]
        · rw [reach_new r1 hu1 hd1 hud1 hf1 hn hx hz, reach_new hro hu hd hud hf hn ((mem1 x).1 hx).1 hz, re1 x a.up hx hu1]
        · rw [new_reach r1 hu1 hd1 hud1 hf1 hn hx hz, new_reach hro hu hd hud hf hn hx ((mem1 z).1 hz).1, re1 a.down z hd1 hz]
        · rw [new_new r1 hu1 hd1 hud1 hf1 hn hx hz, new_new hro hu hd hud hf hn hx hz]
    · have hna : ¬ a.ids.all p = true := fun hall => by
        cases hi : a.ids with
        | nil => exact h1 hi
        | cons y t =>
          have hy : y ∈ a.ids := by rw [hi]; simp
          have := List.all_eq_true.1 hall y hy
          rw [h2 y hy] at this
          cases this
      rw [if_neg hna, List.append_nil]
      refine ⟨O1, m1, fun x => ?_, fun x z hx hz => ?_⟩
      · rw [memN, mem1]
        constructor
        · exact fun h => ⟨.inl h.1, h.2⟩
        · rintro ⟨h | h, hp⟩
          · exact ⟨h, hp⟩
          · rw [h2 x h] at hp; cases hp
      · rw [re1 x z hx hz, reach_add hro hu hd hud hf ((mem1 x).1 hx).1 ((mem1 z).1 hz).1]
#print axioms Made.left
end Go.Proofs.Ytjcihaohpbmogaa.Gr
