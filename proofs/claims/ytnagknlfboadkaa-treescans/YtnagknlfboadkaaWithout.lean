/-
  Layer 7 (tree): 'without'.
-/
import Derived.Test.YtnagknlfboadkaaMended
import Derived.Test.YtnagknlfboadkaaPutIs
namespace Go.Proofs.Ytnagknlfboadkaa.Oct
open Go.RowKit

/-- what 'without' does to a tree of depth d + 1 -/
def RemC (d : Nat) : Prop := ∀ (w : World) (t : T d) (nd : Nat) (key : ByteArray), Lies w d t nd → Good d t → 1 ≤ (prs d t).length → eqs key (tl d t) ≠ [] → Calls Try.prog 31 #[.pointer (some ⟨nd, 0, none⟩), .string key] w fun e w' =>
  ∃ (nd2 : Nat) (t2 : T d), e = .returned (.pointer (some ⟨nd2, 0, none⟩)) ∧ Hid (Lies w' d t2 nd2) ∧ Hid (tl d t2 = remP (tl d t) key ∧ WF d t2 ∧ (prs d t2).length ≤ (prs d t).length ∧ (prs d t).length ≤ (prs d t2).length + 1) ∧ Hid (Below w.heap.size w w')

set_option maxRecDepth 100000 in
set_option maxHeartbeats 1000000 in
theorem without_leaf (w : World) (nd n cap : Nat) (a : Option Addr) (ps : List Pr) (key : ByteArray) (k : Nat) (h : Nd w nd a n cap ps (.slice none 0 0)) (hm : Mono ps key) (hn : n ≤ 7) (hc : Cap a n cap) (ha : AtP ps key k) (hk : k < n) :
    Calls Try.prog 31 #[.pointer (some ⟨nd, 0, none⟩), .string key] w fun e w' => ∃ (nd2 : Nat) (ps2 : List Pr), e = .returned (.pointer (some ⟨nd2, 0, none⟩)) ∧ Hid (Lies w' 0 ps2 nd2) ∧ Hid (ps2 = ps.take k ++ ps.drop (k + 1)) ∧ Hid (Below w.heap.size w w') := by
  have HD : Hid (Nd w nd a n cap ps (.slice none 0 0)) := h
  have HM : Hid (Mono ps key ∧ AtP ps key k ∧ n ≤ 7 ∧ Cap a n cap ∧ k < n) := ⟨hm, ha, hn, hc, hk⟩
  clear h hm hn hc ha hk
  go_enter Try.func31, Try.ntmps31
  go_wp2_with fail
  refine (place_is w nd a n cap ps _ key HD.out HM.out.1 (by have := HM.out; omega)).mono ?_
  rintro e w1 ⟨k', rfl, HA, HB1⟩
  have hk' : k' = k := HA.out.uniq HM.out.2.1
  subst hk'
  have HD1 : Hid (Nd w1 nd a n cap ps (.slice none 0 0)) := HD.out.below HB1.out (Nat.le_refl _)
  have c0 := HD1.out.blk.cell (i := 0) rfl
  have c1 := HD1.out.blk.cell (i := 1) rfl
  have q1 : (k' : Int) + 1 ≤ 7 := by have := HM.out; omega
  obtain ⟨bb, hbb⟩ : ∃ bb, isP ps key k' = bb := ⟨_, rfl⟩
  rw [hbb]
  clear hbb
  go_wp2_with (first
    | (go_at_call 39; refine (leaf_is w1 nd c1).mono ?_; rintro e w2 ⟨rfl, rfl⟩)
    | (go_at_call 40; refine (spP w1 a n cap k' (k' + 1) _ _ rfl (by omega) ps none 0 0 [] HD1.out.rd HM.out.2.2.2.1 (by omega) (by have := HM.out; omega) ⟨rfl, fun h => absurd h (by omega)⟩ (by have := HM.out; omega)).mono ?_; rintro e w2 ⟨a2, n2, cap2, R2, rfl, HE2, HR2, HB2⟩))
  go_ret
  have hB := (Below.refl w2.heap.size w2).alloc (Nat.le_refl _) (Obj.cells #[Value.slice a2 n2 cap2, Value.slice none 0 0] 67)
  have hw := HB1.out.trans (HB2.out.mono HB1.out.size)
  exact ⟨w2.heap.size, R2, rfl, ⟨a2, n2, cap2, ⟨Blk.new _ _ _, HR2.out.1.below hB (Nat.le_refl _)⟩, HR2.out.2⟩, by show R2 = _; rw [HE2.out.1]; simp, hw.alloc hw.size _⟩
#print axioms without_leaf
/-- one kid in another one's place, and what that makes of the others -/
theorem kids_set {w : World} {d k b : Nat} {ts : List (T d)} {bs R : List Nat} {t : T d} (h : Kids w d ts bs) (hl : Lies w d t b) (hR : R = bs.take k ++ [b] ++ bs.drop (k + 1)) : Kids w d (ts.take k ++ [t] ++ ts.drop (k + 1)) R := by
  rw [hR]
  exact ((h.take k).append (Kids.one hl)).append (h.drop (k + 1))
theorem set_at {d k : Nat} {ts : List (T d)} {t : T d} (hk : k < ts.length) : (ts.take k ++ [t] ++ ts.drop (k + 1))[k]? = some t := by
  rw [List.append_assoc, List.getElem?_append_right (by simp; omega)]
  simp [Nat.min_eq_left (Nat.le_of_lt hk)]
theorem set_oth {d k j : Nat} {ts : List (T d)} {t x : T d} (hk : k < ts.length) (hj : (ts.take k ++ [t] ++ ts.drop (k + 1))[j]? = some x) (hne : j ≠ k) : x ∈ ts := by
  have hm := List.getElem?_eq_some_iff.1 hj
  obtain ⟨hjl, e⟩ := hm
  by_cases hlt : j < k
  · rw [List.append_assoc, List.getElem?_append_left (by simp; omega), List.getElem?_take, if_pos hlt] at hj
    exact List.mem_of_getElem? hj
  · rw [List.append_assoc, List.getElem?_append_right (by simp; omega), List.length_take, Nat.min_eq_left (Nat.le_of_lt hk), List.getElem?_append_right (by simp; omega), List.getElem?_drop] at hj
    exact List.mem_of_getElem? hj
theorem set_len {d k : Nat} {ts : List (T d)} {t : T d} (hk : k < ts.length) : (ts.take k ++ [t] ++ ts.drop (k + 1)).length = ts.length := by simp; omega

set_option maxRecDepth 100000 in
set_option maxHeartbeats 2000000 in
theorem without_no (d : Nat) (IH : RemC d) (w : World) (nd n cap n' cap' : Nat) (a a' : Option Addr) (ps : List Pr) (ts : List (T d)) (bs : List Nat) (key : ByteArray) (k kb : Nat) (kt : T d) (h : Nd w nd a n cap ps (.slice a' n' cap')) (hm : Mono ps key) (hn : 1 ≤ n ∧ n ≤ 7) (hc : Cap a n cap) (ha : AtP ps key k) (hi : isP ps key k = false)
    (hk : RdK w a' n' bs) (hck : Cap a' n' cap') (hks : Kids w d ts bs) (hok : KidsOk d ts) (hl : ts.length = ps.length + 1) (hkt : ts[k]? = some kt) (hkb : bs[k]? = some kb) (hgd : Good d kt) (h3 : 3 ≤ (prs d kt).length) (hin : eqs key (tl d kt) ≠ []) :
    Calls Try.prog 31 #[.pointer (some ⟨nd, 0, none⟩), .string key] w fun e w' => ∃ (nd2 : Nat) (t2 : T (d + 1)), e = .returned (.pointer (some ⟨nd2, 0, none⟩)) ∧ Hid (Lies w' (d + 1) t2 nd2) ∧ Hid (tl (d + 1) t2 = upp ((ts.map (tl d)).take k) (ps.take k) ++ remP (tl d kt) key ++ dn (ps.drop k) ((ts.map (tl d)).drop (k + 1)) ∧ WF (d + 1) t2 ∧ t2.1.length ≤ ps.length ∧ ps.length ≤ t2.1.length + 1) ∧ Hid (Below w.heap.size w w') := by
  have HD : Hid (Nd w nd a n cap ps (.slice a' n' cap')) := h
  have HM : Hid (Mono ps key ∧ AtP ps key k ∧ (1 ≤ n ∧ n ≤ 7) ∧ Cap a n cap) := ⟨hm, ha, hn, hc⟩
  have HI : Hid (isP ps key k = false) := hi
  have HQ : Hid (RdK w a' n' bs ∧ Cap a' n' cap' ∧ Kids w d ts bs ∧ KidsOk d ts ∧ ts.length = ps.length + 1) := ⟨hk, hck, hks, hok, hl⟩
  have HT : Hid (ts[k]? = some kt ∧ bs[k]? = some kb ∧ Good d kt ∧ 3 ≤ (prs d kt).length ∧ eqs key (tl d kt) ≠ [] ∧ Lies w d kt kb) := ⟨hkt, hkb, hgd, h3, hin, hks.2 k kt kb hkt hkb⟩
  have HIH : Hid (RemC d) := IH
  have hnn : n' = n + 1 := by rw [← hk.1, hks.1, hl, h.rd.1]
  have HNN : Hid (n' = n + 1) := hnn
  have hkl : k < n' := by rw [← hk.1]; exact (List.getElem?_eq_some_iff.1 hkb).1
  obtain ⟨gk, offk, rfl, hgk, hck2⟩ := hk.2 (by omega)
  have HKC : Hid (w.cell? ⟨gk, offk + k, none⟩ = some (.pointer (some ⟨kb, 0, none⟩)) ∧ gk < w.heap.size) := ⟨hck2 k kb hkb, hgk.lt⟩
  have HKL : Hid (k < n') := hkl
  have q7 : (k : Int) < (n' : Int) := by omega
  have HZ : Hid (((n' : Int) == 0) = false) := by show _ = _; simp; omega
  clear h hm hn hc ha hi hk hck hks hok hl hkt hkb hgd h3 hin hgk hck2 hnn hkl IH
  go_enter Try.func31, Try.ntmps31
  go_wp2_with fail
  refine (place_is w nd a n cap ps _ key HD.out HM.out.1 (by have := HM.out; omega)).mono ?_
  rintro e w1 ⟨k', rfl, HA, HB1⟩
  have hk' : k' = k := HA.out.uniq HM.out.2.1
  subst hk'
  rw [HI.out]
  have HD1 : Hid (Nd w1 nd a n cap ps (.slice (some ⟨gk, offk, none⟩) n' cap')) := HD.out.below HB1.out (Nat.le_refl _)
  have c1 := HD1.out.blk.cell (i := 1) rfl
  have ck : w1.cell? ⟨gk, offk + k', none⟩ = some (.pointer (some ⟨kb, 0, none⟩)) := (HB1.out.cell (p := ⟨gk, _, none⟩) HKC.out.2).trans HKC.out.1
  go_wp2_with (first
    | (go_at_call 39; refine (isLeaf_any w1 nd _ n' cap' false HZ.out c1).mono ?_; rintro e w2 ⟨rfl, rfl⟩)
    | (go_at_call 31; refine (HIH.out w1 kt kb key (HT.out.2.2.2.2.2.below HB1.out (Nat.le_refl _)) HT.out.2.2.1 (by have := HT.out.2.2.2.1; omega) HT.out.2.2.2.2.1).mono ?_; rintro e w3 ⟨b3, t3, rfl, HL3, HO3, HB3⟩; have HW3 : Hid (Below w.heap.size w w3) := HB1.out.trans (HB3.out.mono HB1.out.size))
    | (go_at_call 42; refine (withKid_is w3 nd n cap n' cap' b3 k' a (some ⟨gk, offk, none⟩) ps bs (HD.out.below HW3.out (Nat.le_refl _)) (HQ.out.1.below HW3.out (Nat.le_refl _)) HQ.out.2.1 HKL.out (by have := HNN.out; have := HM.out; omega)).mono ?_; rintro e w5 ⟨nd5, a5, n5, cap5, bs5, rfl, HE5, HN5, HB5⟩)
    | (go_at_call 43; refine (mended_is d w5 nd5 n cap n5 cap5 k' a a5 ps (ts.take k' ++ [t3] ++ ts.drop (k' + 1)) bs5 HN5.out.1 HM.out.2.2.2 HN5.out.2.1 HN5.out.2.2 (kids_set ((HQ.out.2.2.1.below HW3.out).below HB5.out) (HL3.out.below HB5.out (Nat.le_refl _)) HE5.out) (by rw [set_len (List.getElem?_eq_some_iff.1 HT.out.1).1]; exact HQ.out.2.2.2.2) HM.out.2.2.1 t3 (set_at (List.getElem?_eq_some_iff.1 HT.out.1).1) ⟨HO3.out.2.1, by have := HO3.out.2.2; have := HT.out.2.2.2.1; omega, by have := HO3.out.2.2.1; have := HT.out.2.2.1.most; omega⟩ (fun j x hj hne => HQ.out.2.2.2.1 x (set_oth (List.getElem?_eq_some_iff.1 HT.out.1).1 hj hne))).mono ?_; rintro e w6 ⟨nd6, t6, rfl, HL6, HO6, HB6⟩))
  go_ret
  have k5 := HW3.out.trans (HB5.out.mono HW3.out.size)
  refine ⟨nd6, t6, rfl, HL6, ⟨?_, HO6.out.2⟩, k5.trans (HB6.out.mono k5.size)⟩
  rw [HO6.out.1, List.map_append, List.map_append, List.map_take, List.map_drop]
  rw [show List.map (tl d) [t3] = [tl d t3] from rfl]
  rw [inter_set (by simpa using HQ.out.2.2.2.2) (kid_map HT.out.1), HO3.out.1]
#print axioms without_no
end Go.Proofs.Ytnagknlfboadkaa.Oct
