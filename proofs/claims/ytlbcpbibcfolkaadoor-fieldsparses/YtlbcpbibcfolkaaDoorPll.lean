/-
  Layer 22 (fields): FieldsPlain: an escape has plain bytes, + and % alone, and is read as the text that it is of.
-/
import Derived.Test.YtlbcpbibcfolkaaDoorRpl
namespace Go.Proofs.YtlbcpbibcfolkaaDoor.Oct
open Go.RowKit
set_option linter.unusedSimpArgs false
set_option linter.unusedVariables false

theorem esc_bytes_f : ∀ x : Fin 256, (escB (UInt8.ofNat x.val)).all (fun c => plainI (c.toNat : Int) || c == 43 || c == 37) = true := by decide +kernel
theorem ofNat_toNat' (b : UInt8) : UInt8.ofNat b.toNat = b := by simp
theorem esc_bytes (b : UInt8) : (escB b).all (fun c => plainI (c.toNat : Int) || c == 43 || c == 37) = true := by
  have := esc_bytes_f ⟨b.toNat, b.toNat_lt⟩
  simpa using this
theorem escL_bytes (l : List UInt8) : ∀ c ∈ escL l, plainI (c.toNat : Int) = true ∨ c = 43 ∨ c = 37 := by
  intro c hc
  unfold escL at hc
  obtain ⟨b, _, hb⟩ := List.mem_flatMap.1 hc
  have := List.all_eq_true.1 (esc_bytes b) c hb
  simp only [Bool.or_eq_true, beq_iff_eq] at this
  rcases this with (h | h) | h
  · exact .inl h
  · exact .inr (.inl h)
  · exact .inr (.inr h)
theorem esc_hex_f : ∀ x : Fin 256, 0 ≤ dg (digits.getD (x.val / 16) 0) ∧ 0 ≤ dg (digits.getD (x.val % 16) 0) ∧ hx (digits.getD (x.val / 16) 0) (digits.getD (x.val % 16) 0) = UInt8.ofNat x.val := by decide +kernel
theorem one_esc (b : UInt8) (t : List UInt8) : oneE (escB b ++ t) = .inr (b, (escB b).length) := by
  unfold escB
  by_cases h1 : b = 32
  · subst h1; rfl
  · rw [if_neg h1]
    by_cases h2 : plainI (b.toNat : Int) = true
    · rw [if_pos h2]
      have n1 : b ≠ 37 := fun h => by subst h; exact absurd h2 (by decide)
      have n2 : b ≠ 43 := fun h => by subst h; exact absurd h2 (by decide)
      show oneE (b :: t) = _
      unfold oneE
      dsimp only
      rw [if_neg n1, if_neg n2, if_pos h2]
      rfl
    · rw [if_neg h2]
      have h3 := esc_hex_f ⟨b.toNat, b.toNat_lt⟩
      show oneE (37 :: digits.getD (b.toNat / 16) 0 :: digits.getD (b.toNat % 16) 0 :: t) = _
      unfold oneE
      dsimp only at h3 ⊢
      rw [if_pos rfl, if_pos ⟨h3.1, h3.2.1⟩, h3.2.2, ofNat_toNat']
      rfl
theorem upTo_esc : ∀ l : List UInt8, upTo [] (escL l) = (l, (escL l).length, 0)
  | [] => rfl
  | b :: l => by
    have ih := upTo_esc l
    have h1 := one_esc b (escL l)
    have hl := escB_len b
    have e : escL (b :: l) = escB b ++ escL l := rfl
    rw [e]
    cases hb : escB b with
    | nil => rw [hb] at hl; simp at hl
    | cons c r =>
      rw [hb] at h1
      show upTo [] (c :: (r ++ escL l)) = _
      have hd : (c :: (r ++ escL l)).drop (c :: r).length = escL l := List.drop_left (l₁ := c :: r) (l₂ := escL l)
      rw [upTo_step (st := []) (by rfl) (show oneE (c :: (r ++ escL l)) = _ from h1), hd, ih]
      simp
      omega
#print axioms upTo_esc
set_option maxRecDepth 100000 in
set_option maxHeartbeats 1000000 in
theorem plain_law (s t : BA) (hs : s.size ≤ 140737488355328) (ht : t.size ≤ 140737488355328) (w : World) (hE : ET w) : Calls Tryd.prog 7 #[.string s, .string t] w fun e w' => e = .returned (.bool true) ∧ Below w.heap.size w w' := by
  have HE : Hid (ET w) := hE
  have q1 : (s.size : Int) ≤ 140737488355328 := by omega
  have q2 : (t.size : Int) ≤ 140737488355328 := by omega
  by_cases hb : 20000 < s.size + t.size
  · have q3 : (20000 : Int) < (s.size : Int) + (t.size : Int) := by omega
    clear hb hs ht hE
    go_enter Tryd.func7, Tryd.ntmps7
    go_wp2_with fail
    refine (lives_is w HE.out).mono ?_
    rintro e W ⟨rfl, hb⟩
    have HB : Hid (Below w.heap.size w W) := hb
    clear hb
    go_wp2
    go_ret
    exact ⟨rfl, HB.out⟩
  have q3 : (s.size : Int) + (t.size : Int) ≤ 20000 := by omega
  have HZ : Hid (s.size + t.size ≤ 20000) := by show s.size + t.size ≤ 20000; omega
  obtain ⟨E, hEq⟩ : ∃ E : BA, E = ⟨(escL s.data.toList).toArray⟩ := ⟨_, rfl⟩
  obtain ⟨F, hFq⟩ : ∃ F : BA, F = ⟨(escL t.data.toList).toArray⟩ := ⟨_, rfl⟩
  have HEq : Hid (E.data.toList = escL s.data.toList) := by rw [hEq]; rfl
  have HFq : Hid (F.data.toList = escL t.data.toList) := by rw [hFq]; rfl
  obtain ⟨n, hn⟩ : ∃ n, E.size = n := ⟨_, rfl⟩
  have HN : Hid (E.data.toList.length = n ∧ n ≤ 60000) := ⟨hn, by
    have h1 := (escL_len s.data.toList).2
    have h2 : E.data.toList.length = n := hn
    have h3 : s.data.toList.length = s.size := rfl
    rw [HEq.out] at h2
    have := HZ.out
    omega⟩
  have qn : (E.size : Int) = (n : Int) := by omega
  have qn2 : (n : Int) ≤ 60000 := by have := HN.out.2; omega
  have HFN : Hid (F.size ≤ 60000) := by
    have h1 := (escL_len t.data.toList).2
    have h3 : t.data.toList.length = t.size := rfl
    have h2 : F.data.toList.length = F.size := rfl
    rw [HFq.out] at h2
    show F.size ≤ 60000
    have := HZ.out
    omega
  have qf : (F.size : Int) ≤ 60000 := by have := HFN.out; omega
  have C12 : Hid (∀ V, Calls Tryd.prog 12 #[.string s] V fun e w' => e = .returned (.string E) ∧ Below V.heap.size V w') := fun V => by rw [hEq]; exact escape_is s (by have := HZ.out; omega) V
  have C12b : Hid (∀ V, Calls Tryd.prog 12 #[.string t] V fun e w' => e = .returned (.string F) ∧ Below V.heap.size V w') := fun V => by rw [hFq]; exact escape_is t (by have := HZ.out; omega) V
  have hst : (s ++ t).data.toList = s.data.toList ++ t.data.toList := by simp [ByteArray.data_append]
  have C12c : Hid (∀ V, Calls Tryd.prog 12 #[.string (s ++ t)] V fun e w' => e = .returned (.string (E ++ F)) ∧ Below V.heap.size V w') := fun V => by
    have := escape_is (s ++ t) (by have := HZ.out; rw [ByteArray.size_append]; omega) V
    rw [hst, escL_app] at this
    have e : (⟨(escL s.data.toList ++ escL t.data.toList).toArray⟩ : BA) = E ++ F := ba_ext (by rw [hEq, hFq]; simp [ByteArray.data_append])
    rw [e] at this
    exact this
  have C11 : Hid (∀ V, ET V → Calls Tryd.prog 11 #[.string E] V fun e w' => e = .returned (.tuple #[.string s, .nilIface]) ∧ Below V.heap.size V w') := fun V hV => by
    refine unesc_is E (by have := HN.out.2; omega) V hV _ ?_
    rw [HEq.out, upTo_esc]
    unfold ansE
    rw [if_pos rfl, if_pos rfl]
  clear hb hs ht hE hEq hFq hn hst
  go_enter Tryd.func7, Tryd.ntmps7
  go_wp2_with fail
  refine (C12.out w).mono ?_
  rintro e W1 ⟨rfl, hb1⟩
  have H1 : Hid (Below w.heap.size w W1) := hb1
  clear hb1
  go_wp2_with fail
  go_loopw [20] (fun i wr => ∃ (k : Nat), i = .int .i64 k ∧ k ≤ n ∧ Hid (Below w.heap.size w wr)) (fun i _ => n - (intOf i).toNat)
  case atStart => exact ⟨0, rfl, by omega, H1.out⟩
  case round =>
    obtain ⟨k, rfl, hk, hb⟩ := hrel
    by_cases hlt : k = n
    · subst hlt
      have HB : Hid (Below w.heap.size w wr) := hb
      clear hb hk
      go_wp2_with fail
      refine (C11.out wr (HE.out.below HB.out)).mono ?_
      rintro e W2 ⟨rfl, hb2⟩
      have H2 : Hid (Below w.heap.size w W2) := below_tr HB.out hb2
      clear hb2
      have hss : (s.toList == s.toList) = true := beq_self_eq_true _
      go_wp2_with fail
      refine (C12c.out W2).mono ?_
      rintro e W3 ⟨rfl, hb3⟩
      have H3 : Hid (Below w.heap.size w W3) := below_tr H2.out hb3
      clear hb3
      go_wp2_with fail
      refine (C12b.out W3).mono ?_
      rintro e W4 ⟨rfl, hb4⟩
      have H4 : Hid (Below w.heap.size w W4) := below_tr H3.out hb4
      clear hb4
      go_wp2_with fail
      refine (lives_is W4 (HE.out.below H4.out)).mono ?_
      rintro e W5 ⟨rfl, hb5⟩
      have H5 : Hid (Below w.heap.size w W5) := below_tr H4.out hb5
      clear hb5
      go_wp2
      go_ret
      exact ⟨rfl, H5.out⟩
    · have q5 : (k : Int) < (n : Int) := by omega
      have HT : Hid (k < n) := by show k < n; omega
      obtain ⟨c, hc⟩ : ∃ c, E.data.toList[k]? = some c := ⟨_, List.getElem?_eq_getElem (by rw [HN.out.1]; exact HT.out)⟩
      have hix := run_idx E k c hc
      have HC : Hid (E.data.toList[k]? = some c) := hc
      have hcc : plainI (c.toNat : Int) = true ∨ c = 43 ∨ c = 37 := escL_bytes _ c (by rw [← HEq.out]; exact List.mem_of_getElem? hc)
      have HB : Hid (Below w.heap.size w wr) := hb
      clear hb hlt hc hk
      by_cases hp : plainI (c.toNat : Int) = true
      · clear hcc
        go_wp2_with (with_reducible change wpList _ _ _ ({ dst := some 25, op := _, type := _, pos := _, after := _, guard := _ } :: _) _ _; refine Hid.out ?_)
        show wpList _ _ _ _ _ _
        refine wpList_idx rfl (.tmp 23) (.tmp 24) rfl E k c rfl rfl HC.out ?_
        go_wp2_with fail
        refine (rplain_is _ wr true hp).mono ?_
        rintro e W2 ⟨rfl, rfl⟩
        go_wp2
        go_roundw
        case rel => exact ⟨k + 1, rfl, HT.out, HB.out⟩
        case measure => show n - (k + 1) < n - k; have := HT.out; omega
      · rcases hcc with h | h | h
        · exact absurd h hp
        · subst h
          go_wp2_with (with_reducible change wpList _ _ _ ({ dst := some 25, op := _, type := _, pos := _, after := _, guard := _ } :: _) _ _; refine Hid.out ?_)
          show wpList _ _ _ _ _ _
          refine wpList_idx rfl (.tmp 23) (.tmp 24) rfl E k 43 rfl rfl HC.out ?_
          go_wp2_with fail
          refine (rplain_is _ wr false rfl).mono ?_
          rintro e W2 ⟨rfl, rfl⟩
          go_wp2
          go_roundw
          case rel => exact ⟨k + 1, rfl, HT.out, HB.out⟩
          case measure => show n - (k + 1) < n - k; have := HT.out; omega
        · subst h
          go_wp2_with (with_reducible change wpList _ _ _ ({ dst := some 25, op := _, type := _, pos := _, after := _, guard := _ } :: _) _ _; refine Hid.out ?_)
          show wpList _ _ _ _ _ _
          refine wpList_idx rfl (.tmp 23) (.tmp 24) rfl E k 37 rfl rfl HC.out ?_
          go_wp2_with fail
          refine (rplain_is _ wr false rfl).mono ?_
          rintro e W2 ⟨rfl, rfl⟩
          go_wp2
          go_roundw
          case rel => exact ⟨k + 1, rfl, HT.out, HB.out⟩
          case measure => show n - (k + 1) < n - k; have := HT.out; omega
#print axioms plain_law
end Go.Proofs.YtlbcpbibcfolkaaDoor.Oct
