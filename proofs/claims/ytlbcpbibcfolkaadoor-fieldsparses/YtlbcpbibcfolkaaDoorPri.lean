/-
  Layer 22 (fields): Print of the program.
-/
import Derived.Test.YtlbcpbibcfolkaaDoorPce
namespace Go.Proofs.YtlbcpbibcfolkaaDoor.Oct
open Go.RowKit
set_option linter.unusedSimpArgs false
set_option linter.unusedVariables false

def pcL (p : Pr) : List UInt8 := escL p.k.data.toList ++ 61 :: escL p.v.data.toList
theorem pcL_len (p : Pr) : (pcL p).length = pcN p.k p.v := by simp [pcL, pcN]; omega
/-- pairs as a text -/
def txt (l : List Pr) : List UInt8 := (l.flatMap fun p => 38 :: pcL p).drop 1
theorem txt_nil : txt [] = [] := rfl
theorem txt_first (p : Pr) : txt [p] = pcL p := by simp [txt]
theorem txt_snoc {l : List Pr} (h : l ≠ []) (p : Pr) : txt (l ++ [p]) = txt l ++ 38 :: pcL p := by
  unfold txt
  rw [List.flatMap_append]
  cases l with
  | nil => exact absurd rfl h
  | cons q l => simp
def PnP (l : List Pr) (v : Value) : Prop :=
  (64 < l.length ∧ v = .tuple #[.string e0, .iface 58 (fl 64 3)]) ∨
  (l.length ≤ 64 ∧ ∃ i, i < l.length ∧ (∀ j, j ≤ i → (txt (l.take j)).length ≤ 16384) ∧ 16384 < (txt (l.take (i + 1))).length ∧ v = .tuple #[.string e0, .iface 58 (fl i 3)]) ∨
  (l.length ≤ 64 ∧ (∀ j, j ≤ l.length → (txt (l.take j)).length ≤ 16384) ∧ v = .tuple #[.string ⟨(txt l).toArray⟩, .nilIface])
theorem piece_is (k v : BA) (hk : k.size ≤ 140737488355328) (hv : v.size ≤ 140737488355328) (room : Int) (hr : room ≤ 16384) (w : World) : Calls Tryd.prog 30 #[.agg #[.string k, .string v], iv room] w fun e w' => (((pcN k v : Int) ≤ room ∧ e = .returned (.tuple #[.string (pcS k v), .bool true])) ∨ (room < (pcN k v : Int) ∧ ∃ x, e = .returned (.tuple #[.string x, .bool false]))) ∧ Below w.heap.size w w' := by
  have hn1 := (escL_len k.data.toList).1
  have hn2 := (escL_len v.data.toList).1
  have l1 : k.data.toList.length = k.size := rfl
  have l2 : v.data.toList.length = v.size := rfl
  by_cases h : room < (k.size : Int) ∨ room < (v.size : Int)
  · refine (piece_long k v hk hv room hr h w).mono fun e w' hh => ⟨.inr ⟨?_, hh.1⟩, hh.2⟩
    unfold pcN
    omega
  · refine (piece_short k v room hr (by omega) (by omega) w).mono fun e w' hh => ?_
    by_cases h3 : (pcN k v : Int) ≤ room
    · refine ⟨.inl ⟨h3, ?_⟩, hh.2⟩
      rw [hh.1, decide_eq_true h3]
    · refine ⟨.inr ⟨by omega, pcS k v, ?_⟩, hh.2⟩
      rw [hh.1, decide_eq_false h3]
theorem build58l (W : World) : (Instr.build 58 #[(0, iv 64), (1, iv 3)]).run Tryd.prog W = .ok (.agg #[iv 64, iv 3]) W := by kernel_rfl
abbrev amp : BA := ⟨#[38]⟩
/-- where printing stands -/
def PnI (w : World) (l : List Pr) (i : Nat) (S : BA) (wr : World) : Prop := i ≤ l.length ∧ S.data.toList = txt (l.take i) ∧ (∀ j, j ≤ i → (txt (l.take j)).length ≤ 16384) ∧ Below w.heap.size w wr
theorem pni0 (w : World) (l : List Pr) : PnI w l 0 e0 w := by
  refine ⟨Nat.zero_le _, rfl, fun j hj => ?_, Below.refl _ _⟩
  obtain rfl : j = 0 := by omega
  rw [List.take_zero, txt_nil]
  simp
set_option maxRecDepth 100000 in
set_option maxHeartbeats 2000000 in
theorem print_is {w : World} {a : Option Addr} {n cap : Nat} {l : List Pr} (h : PsR w (.slice a l.length cap) l) (hn : l.length = n) : Calls Tryd.prog 17 #[.slice a n cap] w fun e w' => ∃ v, e = .returned v ∧ PnP l v ∧ Below w.heap.size w w' := by
  have HE : Hid (PsR w (.slice a n cap) l ∧ l.length = n) := ⟨by rw [← hn]; exact h, hn⟩
  obtain ⟨hok, a', cap', heq, hle, hcap, hr⟩ := h
  cases heq
  have qn : (n : Int) ≤ 9223372036854775807 := by unfold maxLen at hcap; omega
  rw [hn] at hr
  have HRA : Hid (0 < n → ∃ b off, a = some ⟨b, off, none⟩ ∧ b < w.heap.size ∧ ∀ i e, l[i]? = some e → w.rangeAt b (off + i * 2) e.cells) := hr
  have HOK : Hid (∀ e ∈ l, e.ok) := hok
  have hz := zero49
  clear hok hle hcap hr hn
  go_enter Tryd.func17, Tryd.ntmps17
  by_cases hbig : 64 < (n : Int)
  · have HBG : Hid (64 < l.length) := by show 64 < _; have := HE.out.2; omega
    have hb5 := build58l
    go_wp2
    go_ret2
    exact ⟨_, rfl, .inl ⟨HBG.out, rfl⟩, Below.refl _ _⟩
  have qn2 : (n : Int) ≤ 64 := by omega
  have HN64 : Hid (l.length ≤ 64) := by show _ ≤ 64; have := HE.out.2; omega
  clear hbig qn
  go_wp2
  go_loopw [16, 4] (fun u t wr => ∃ (i : Nat) (S : BA), u = iv (i : Int) ∧ t = .string S ∧ (S.size : Int) ≤ 16384 ∧ Hid (PnI w l i S wr)) (fun u _ _ => n - (intOf u).toNat)
  case atStart => exact ⟨0, e0, rfl, rfl, by show ((0 : Nat) : Int) ≤ 16384; omega, pni0 w l⟩
  case round =>
    obtain ⟨i, S, rfl, rfl, qS, HI⟩ := hrel
    by_cases hi : i = n
    · subst hi
      have HF : Hid (PnP l (.tuple #[.string S, .nilIface]) ∧ Below w.heap.size w wr) := by
        refine ⟨.inr (.inr ⟨HN64.out, fun j hj => HI.out.2.2.1 j (by have := HE.out.2; omega), ?_⟩), HI.out.2.2.2⟩
        have e1 : S = ⟨(txt l).toArray⟩ := ba_ext (by rw [HI.out.2.1, List.take_of_length_le (by have := HE.out.2; omega)])
        rw [e1]
      go_wp2
      go_ret2
      exact ⟨_, rfl, HF.out.1, HF.out.2⟩
    · have hlt : i < n := by have := HI.out.1; have := HE.out.2; omega
      have q1 : (i : Int) < (n : Int) := by omega
      obtain ⟨x, hx⟩ : ∃ x, l[i]? = some x := ⟨_, List.getElem?_eq_getElem (by have := HE.out.2; omega)⟩
      obtain ⟨b, off, rfl, hb, hel⟩ := HRA.out (by omega)
      have hxo := HOK.out x (List.mem_of_getElem? hx)
      obtain ⟨k, v⟩ := x
      have htk : l.take (i + 1) = l.take i ++ [⟨k, v⟩] := by rw [List.take_add_one, hx]; rfl
      have HX : Hid (wr.rangeAt b (off + i * 2) (Pr.mk k v).cells ∧ i < n ∧ k.size ≤ 140737488355328 ∧ v.size ≤ 140737488355328 ∧ l.take (i + 1) = l.take i ++ [⟨k, v⟩]) := ⟨rangeAt_same (hel i _ hx) (HI.out.2.2.2.block b hb), hlt, hxo.1, hxo.2, htk⟩
      obtain ⟨g, hg⟩ : ∃ g, wr.heap.size = g := ⟨_, rfl⟩
      have HG : Hid (wr.heap.size = g ∧ w.heap.size ≤ g) := ⟨hg, by have := HI.out.2.2.2.size; omega⟩
      clear hi hlt hx hel hb hxo htk
      go_wp2_with (with_reducible change wpList _ _ _ ({ dst := some 20, op := _, type := _, pos := _, after := _, guard := _ } :: _) _ _; refine Hid.out ?_)
      show wpList _ _ _ _ _ _
      refine wpList_load_mid rfl 49 (.tmp 19) rfl b (off + i * 2) rfl (Pr.mk k v).cells _ HX.out.1 Tryd.underlying49 rfl (size49 _) ?_
      go_wp2_with (with_reducible change wpList _ _ _ ({ dst := none, op := Op.store 49 _ _, type := _, pos := _, after := _, guard := _ } :: _) _ _; refine Hid.out ?_)
      show wpList _ _ _ _ _ _
      refine wpList_store_blk rfl 49 (.tmp 6) (.tmp 20) rfl g 0 49 [.string e0, .string e0] (Pr.mk k v).cells rfl rfl (by rw [← HG.out.1]; exact Blk.new wr _ _) (by show 0 + 2 ≤ 2; omega) (size49 _) (Pr.one _) ?_
      intro W1 hx1 hg1
      have H1 : Hid (Below w.heap.size w W1 ∧ Blk W1 g 49 (Pr.mk k v).cells) := ⟨below_gr (below_tr HI.out.2.2.2 (below_al _ _)) hg1.out HG.out.2, blk_all hx1.out rfl⟩
      clear hx1 hg1 hg
      obtain ⟨T, hT⟩ : ∃ T : BA, T.data.toList = (if i = 0 then [] else txt (l.take i) ++ [38]) ∧ (i = 0 → T = S) ∧ (i ≠ 0 → S ++ amp = T) ∧ (T.size : Int) ≤ 16385 := by
        by_cases h0 : i = 0
        · subst h0
          refine ⟨S, ?_, fun _ => rfl, fun h => absurd rfl h, by omega⟩
          rw [if_pos rfl, HI.out.2.1]
          rfl
        · refine ⟨S ++ amp, ?_, fun h => absurd h h0, fun _ => rfl, ?_⟩
          · rw [if_neg h0, ← HI.out.2.1]; simp [ByteArray.data_append]
          · rw [ByteArray.size_append]; show ((S.size + 1 : Nat) : Int) ≤ _; omega
      have HT : Hid (T.data.toList = (if i = 0 then [] else txt (l.take i) ++ [38]) ∧ txt (l.take (i + 1)) = T.data.toList ++ pcL ⟨k, v⟩ ∧ (txt (l.take (i + 1))).length = T.size + pcN k v) := by
        have e2 : txt (l.take (i + 1)) = T.data.toList ++ pcL ⟨k, v⟩ := by
          rw [hT.1, HX.out.2.2.2.2]
          by_cases h0 : i = 0
          · subst h0; rw [if_pos rfl, List.take_zero, List.nil_append, txt_first]; rfl
          · rw [if_neg h0, txt_snoc (fun h => by have h2 := congrArg List.length h; rw [List.length_take, List.length_nil] at h2; have := HX.out.2.1; have := HE.out.2; omega)]; simp
        refine ⟨hT.1, e2, ?_⟩
        rw [e2, List.length_append, pcL_len]
        rfl
      have qT := hT.2.2.2
      have hT0 := hT.2.1
      have hT1 := hT.2.2.1
      clear hT
      obtain ⟨room, hroom⟩ : ∃ room : Int, 16384 - (T.size : Int) = room := ⟨_, rfl⟩
      have HRM : Hid (16384 - (T.size : Int) = room ∧ room ≤ 16384) := ⟨hroom, by omega⟩
      by_cases h0 : i = 0
      · subst h0
        obtain rfl := hT0 rfl
        clear hT1
        go_wp2_with (with_reducible change wpList _ _ _ ({ dst := some 26, op := _, type := _, pos := _, after := _, guard := _ } :: _) _ _; refine Hid.out ?_)
        show wpList _ _ _ _ _ _
        refine wpList_load_mid rfl 49 (.tmp 6) rfl g 0 rfl (Pr.mk k v).cells _ H1.out.2.range0 Tryd.underlying49 rfl (size49 _) ?_
        go_wp2_with fail
        refine (piece_is k v HX.out.2.2.1 HX.out.2.2.2.1 room HRM.out.2 W1).mono ?_
        rintro e W2 ⟨hc, hb2⟩
        have H2 : Hid (Below w.heap.size w W2) := below_tr H1.out.1 hb2
        clear hb2
        rcases hc with ⟨hc, rfl⟩ | ⟨hc, x, rfl⟩
        · have HPS : Hid (((pcS k v).size : Int) ≤ 16384 ∧ (T ++ pcS k v).data.toList = txt (l.take (0 + 1)) ∧ ((T ++ pcS k v).size : Int) ≤ 16384) := by
            have z := pcS_size k v
            have e1 := HRM.out.1
            refine ⟨by omega, ?_, by rw [ByteArray.size_append]; omega⟩
            rw [HT.out.2.1]
            simp [pcS, pcL, ByteArray.data_append]
          have HF : Hid (PnI w l (0 + 1) (T ++ pcS k v) W2) := by
            refine ⟨by have := HX.out.2.1; have := HE.out.2; omega, HPS.out.2.1, fun j hj => ?_, H2.out⟩
            by_cases hj1 : j = 0 + 1
            · subst hj1; rw [HT.out.2.2]; have := HRM.out.1; omega
            · exact HI.out.2.2.1 j (by omega)
          have q5 := HPS.out.1
          have q6 := HPS.out.2.2
          obtain ⟨P, hP⟩ : ∃ P, pcS k v = P := ⟨_, rfl⟩
          rw [hP] at HF q5 q6 ⊢
          have HME : Hid (0 < n) := HX.out.2.1
          clear hc hP HPS
          go_wp2
          go_roundw
          case rel => exact ⟨0 + 1, T ++ P, by simp, rfl, q6, HF.out⟩
          case measure =>
            have := HME.out
            simp only [intOf]
            omega
        · have HF : Hid (PnP l (.tuple #[.string e0, .iface 58 (fl 0 3)])) := by
            refine .inr (.inl ⟨HN64.out, 0, by have := HX.out.2.1; have := HE.out.2; omega, HI.out.2.2.1, ?_, rfl⟩)
            rw [HT.out.2.2]
            have := HRM.out.1
            omega
          clear hc
          go_wp2
          go_ret2
          exact ⟨_, rfl, HF.out, H2.out⟩
      · have q0 : 0 < (i : Int) := by omega
        have hcat := hT1 h0
        clear hT0 hT1 h0
        go_wp2_with (with_reducible change wpList _ _ _ ({ dst := some 26, op := _, type := _, pos := _, after := _, guard := _ } :: _) _ _; refine Hid.out ?_)
        show wpList _ _ _ _ _ _
        refine wpList_load_mid rfl 49 (.tmp 6) rfl g 0 rfl (Pr.mk k v).cells _ H1.out.2.range0 Tryd.underlying49 rfl (size49 _) ?_
        go_wp2_with fail
        refine (piece_is k v HX.out.2.2.1 HX.out.2.2.2.1 room HRM.out.2 W1).mono ?_
        rintro e W2 ⟨hc, hb2⟩
        have H2 : Hid (Below w.heap.size w W2) := below_tr H1.out.1 hb2
        clear hb2
        rcases hc with ⟨hc, rfl⟩ | ⟨hc, x, rfl⟩
        · have HPS : Hid (((pcS k v).size : Int) ≤ 16384 ∧ (T ++ pcS k v).data.toList = txt (l.take (i + 1)) ∧ ((T ++ pcS k v).size : Int) ≤ 16384) := by
            have z := pcS_size k v
            have e1 := HRM.out.1
            refine ⟨by omega, ?_, by rw [ByteArray.size_append]; omega⟩
            rw [HT.out.2.1]
            simp [pcS, pcL, ByteArray.data_append]
          have HF : Hid (PnI w l (i + 1) (T ++ pcS k v) W2) := by
            refine ⟨by have := HX.out.2.1; have := HE.out.2; omega, HPS.out.2.1, fun j hj => ?_, H2.out⟩
            by_cases hj1 : j = i + 1
            · subst hj1; rw [HT.out.2.2]; have := HRM.out.1; omega
            · exact HI.out.2.2.1 j (by omega)
          have q5 := HPS.out.1
          have q6 := HPS.out.2.2
          obtain ⟨P, hP⟩ : ∃ P, pcS k v = P := ⟨_, rfl⟩
          rw [hP] at HF q5 q6 ⊢
          have HME : Hid (i < n) := HX.out.2.1
          clear hc hP HPS
          go_wp2
          go_roundw
          case rel => exact ⟨i + 1, T ++ P, by simp, rfl, q6, HF.out⟩
          case measure =>
            have := HME.out
            simp only [intOf]
            omega
        · have HF : Hid (PnP l (.tuple #[.string e0, .iface 58 (fl i 3)])) := by
            refine .inr (.inl ⟨HN64.out, i, by have := HX.out.2.1; have := HE.out.2; omega, HI.out.2.2.1, ?_, rfl⟩)
            rw [HT.out.2.2]
            have := HRM.out.1
            omega
          clear hc
          go_wp2
          go_ret2
          exact ⟨_, rfl, HF.out, H2.out⟩
#print axioms print_is
end Go.Proofs.YtlbcpbibcfolkaaDoor.Oct
