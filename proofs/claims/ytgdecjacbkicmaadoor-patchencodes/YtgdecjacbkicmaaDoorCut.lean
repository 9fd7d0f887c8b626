/-
  Layer 10 (patch): 'strings.Cut' at a slash.
-/
import Derived.Test.YtgdecjacbkicmaaDoorRows
import Derived.Test.YtgdecjacbkicmaaDoorWord
import Derived.WalkKit
import Derived.Lib.Strings
import Derived.Lib.Bytealg
import Derived.Lib.CutLaws
import Derived.Deep.Draws
import Derived.Shelf.RegionOpen
namespace Go.Proofs.YtgdecjacbkicmaaDoor.Oct
open Go.RowKit Go.Shelf
set_option maxRecDepth 100000

theorem indexByte_none : ∀ {l : List UInt8} {c : UInt8}, Lib.indexByte l c = -1 → c ∉ l
  | [], _, _ => by simp
  | b :: l, c, h => by
    unfold Lib.indexByte at h
    split at h
    · cases h
    · rename_i hb
      split at h
      · rename_i hi
        have ih := indexByte_none (l := l) (c := c) (by simpa using hi)
        simp only [List.mem_cons, not_or]
        exact ⟨fun e => hb (by simp [e]), ih⟩
      · have := Lib.indexByte_ge l c
        rename_i hi
        simp at hi; omega
theorem indexByte_some : ∀ {l : List UInt8} {c : UInt8} {i : Nat}, Lib.indexByte l c = (i : Int) → i < l.length ∧ l = l.take i ++ c :: l.drop (i + 1) ∧ c ∉ l.take i
  | [], _, _, h => by simp [Lib.indexByte] at h
  | b :: l, c, i, h => by
    unfold Lib.indexByte at h
    split at h
    · rename_i hb
      have : i = 0 := by omega
      subst this
      simp at hb; subst hb; simp
    · rename_i hb
      split at h
      · omega
      · have hge := Lib.indexByte_ge l c
        cases i with
        | zero => rename_i hi; simp at hi; omega
        | succ j =>
          obtain ⟨h1, h2, h3⟩ := indexByte_some (l := l) (c := c) (i := j) (by omega)
          refine ⟨by simp; omega, ?_, ?_⟩
          · simp only [List.take_succ_cons, List.cons_append, List.drop_succ_cons]
            rw [← h2]
          · simp only [List.take_succ_cons, List.mem_cons, not_or]
            exact ⟨fun e => hb (by simp [e]), h3⟩

theorem indexB_is (s : ByteArray) (c : Int) (w : World) : Calls Tryd.prog 86 #[.string s, .int .u8 c] w fun e w' => e = .returned (.int .i64 (Lib.indexByte s.data.toList c.toNat.toUInt8)) ∧ w = w' := by
  go_enter Tryd.func86, Tryd.ntmps86
  go_wp2
  rw [run_callFunc_extern Tryd.func90 (by kernel_rfl) (by kernel_rfl) (by kernel_rfl) (e := Extern.BytealgIndexByte.indexByte) (by kernel_rfl), Lib.run_indexByteString]
  simp only [Result.andThen]
  rw [Oper.upon_value]
  go_wp2
  go_ret
  exact ⟨rfl, rfl⟩

theorem indexB_x (s : ByteArray) (x : Int) (hx : Lib.indexByte s.data.toList 47 = x) (w : World) : Calls Tryd.prog 86 #[.string s, .int .u8 47] w fun e w' => e = .returned (.int .i64 x) ∧ w = w' := by
  subst hx; exact indexB_is s 47 w

set_option maxRecDepth 100000 in
theorem index_x (s : ByteArray) (x : Int) (hx : Lib.indexByte s.data.toList 47 = x) (w : World) : Calls Tryd.prog 85 #[.string s, .string ⟨#[47]⟩] w fun e w' => e = .returned (.int .i64 x) ∧ w = w' := by
  by_cases h : s.data.toList = [47]
  · have e := of_list h
    subst e
    have e : x = 0 := by rw [← hx]; rfl
    subst e
    clear hx h
    go_enter Tryd.func85, Tryd.ntmps85
    go_wp2_with fail
    go_ret
    exact ⟨rfl, rfl⟩
  · have HX : Hid (Lib.indexByte s.data.toList 47 = x) := hx
    have e1 : (s.toList == [47]) = false := by rw [toList_is]; simpa using h
    have e2 : ([47] == s.toList) = false := by rw [toList_is]; simpa using fun e => h e.symm
    clear h hx
    go_enter Tryd.func85, Tryd.ntmps85
    go_wp2_with (go_at_call 86; refine (indexB_x s x HX.out _).mono ?_; rintro e w2 ⟨rfl, rfl⟩)
    go_ret
    exact ⟨rfl, rfl⟩

set_option maxHeartbeats 2000000 in
set_option maxRecDepth 100000 in
theorem cut33_is (s : ByteArray) (w : World) (hs : s.size ≤ 140737488355328) : Calls Tryd.prog 82 #[.string s, .string ⟨#[47]⟩] w fun e w' => ∃ (p r : ByteArray) (m : Bool), e = .returned (.tuple #[.string p, .string r, .bool m]) ∧ Hid (CutAs s.data.toList p.data.toList r.data.toList m) ∧ ∃ n, w' = w.drewN n := by
  have hge := Lib.indexByte_ge s.data.toList 47
  by_cases h : Lib.indexByte s.data.toList 47 = -1
  · have HX : Hid (Lib.indexByte s.data.toList 47 = -1) := h
    clear h hge
    go_enter Tryd.func82, Tryd.ntmps82
    go_wp2_with (go_at_call 85; refine (index_x s (-1) HX.out _).mono ?_; rintro e w2 ⟨rfl, rfl⟩)
    go_ret3
    exact ⟨s, _, false, rfl, .inr ⟨rfl, rfl, rfl, indexByte_none HX.out⟩, 0, rfl⟩
  · obtain ⟨i, hi⟩ : ∃ i : Nat, Lib.indexByte s.data.toList 47 = (i : Int) := ⟨(Lib.indexByte s.data.toList 47).toNat, by omega⟩
    have HX : Hid (Lib.indexByte s.data.toList 47 = (i : Int)) := hi
    obtain ⟨h1, h2, h3⟩ := indexByte_some hi
    have HC : Hid (CutAs s.data.toList (s.extract 0 i).data.toList (s.extract (i + 1) s.size).data.toList true) := by
      refine .inl ⟨rfl, ?_, ?_⟩
      · rw [Lib.extract_data, Lib.extract_data, List.drop_zero, Nat.sub_zero, List.take_of_length_le (l := List.drop (i + 1) _) (by rw [List.length_drop]; exact Nat.le_refl _)]
        exact h2
      · rw [Lib.extract_data, List.drop_zero, Nat.sub_zero]; exact h3
    obtain ⟨n, hn⟩ : ∃ n, s.size = n := ⟨_, rfl⟩
    have hl : s.data.toList.length = n := by rw [← hn]; rfl
    rw [hn] at HC hs
    have c1 : (0 : Int) ≤ (i : Int) := by omega
    have c2 : (i : Int) ≤ (n : Int) := by omega
    have c3 : (0 : Int) ≤ (i : Int) + 1 := by omega
    have c4 : (i : Int) + 1 ≤ (n : Int) := by omega
    have c5 : ((i : Int) + 1).toNat = i + 1 := by omega
    have c6 : (n : Int) ≤ 140737488355328 := by omega
    have mixed : Tryd.prog.follows .mixedOrders = true := by kernel_rfl
    clear h hge hi h1 h2 h3 hl hs
    go_enter Tryd.func82, Tryd.ntmps82
    go_wp2_with (go_at_call 85; refine (index_x s (i : Int) HX.out _).mono ?_; rintro e w2 ⟨rfl, rfl⟩)
    go_region
    go_wp2
    go_ret3
    exact ⟨_, _, _, rfl, HC, 1, rfl⟩

theorem cut_is (s : ByteArray) (w : World) (hs : s.size ≤ 140737488355328) : Calls Tryd.prog 76 #[.string s, .string ⟨#[47]⟩] w fun e w' => ∃ (p r : ByteArray) (m : Bool), e = .returned (.tuple #[.string p, .string r, .bool m]) ∧ Hid (CutAs s.data.toList p.data.toList r.data.toList m) ∧ ∃ n, w' = w.drewN n := by
  have HS : Hid (s.size ≤ 140737488355328) := hs
  clear hs
  go_enter Tryd.func76, Tryd.ntmps76
  go_wp2_with (go_at_call 82; refine (cut33_is s _ HS.out).mono ?_; rintro e w2 ⟨p, r, m, rfl, HC, n, rfl⟩)
  go_ret3
  exact ⟨p, r, m, rfl, HC, n, rfl⟩
end Go.Proofs.YtgdecjacbkicmaaDoor.Oct
