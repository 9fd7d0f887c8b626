/-
  Layer 7 (tree): 'without'.
  Layer 7 (tree): 'without' of a key that stands in a node with kids; of any tree.
  Layer 7 (tree): a map of any keys: Put, Delete, Get, Len, Depth.
  Layer 7 (tree): Put and Delete of a map of any keys.
  Layer 7 (tree): Delete of a map of any keys, Clone, Depth.
  Layer 7 (tree): Depth of a map of any keys, and Clone.
  Layer 7 (tree): what 'from' tells of a tree, as lists; the way out behind many ranges.
  Layer 7 (tree): the range over a kid's iterator within the closure of 'from'.
  Layer 7 (tree): the closure of 'from', over a tree of any depth.
  Layer 7 (tree): the closure of 'Scan', over a tree of any depth.
  A range over a function whose body may leave, as in Over; here all cells but those of the iterator stay. Of no program.
-/
import Derived.Test.YtnagknlfboadkaaSc4
/- Layer 7 (tree): 'without'. -/
namespace Go.Proofs.Ytnagknlfboadkaa.Oct
open Go.RowKit

/-- what 'without' does to a tree of depth d + 1 -/
def RemC (d : Nat) : Prop := ∀ (w : World) (t : T d) (nd : Nat) (key : ByteArray), Lies w d t nd → Good d t → 1 ≤ (prs d t).length → eqs key (tl d t) ≠ [] → Calls Try.prog 31 #[.pointer (some ⟨nd, 0, none⟩), .string key] w fun e w' =>
  ∃ (nd2 : Nat) (t2 : T d), e = .returned (.pointer (some ⟨nd2, 0, none⟩)) ∧ Hid (Lies w' d t2 nd2) ∧ Hid (tl d t2 = remP (tl d t) key ∧ WF d t2 ∧ (prs d t2).length ≤ (prs d t).length ∧ (prs d t).length ≤ (prs d t2).length + 1) ∧ Hid (Below w.heap.size w w')

set_option maxRecDepth 100000 in
set_option maxHeartbeats 1000000 in
theorem without_leaf (w : World) (nd n cap : Nat) (a : Option Addr) (ps : List Pr) (key : ByteArray) (k : Nat) (h : Nd w nd a n cap ps (.slice none 0 0)) (hm : Mono ps key) (hn : n ≤ 7) (hc : Cap a n cap) (ha : AtP ps key k) (hk : k < n) :
    Calls Try.prog 31 #[.pointer (some ⟨nd, 0, none⟩), .string key] w fun e w' => ∃ (nd2 : Nat) (ps2 : List Pr), e = .returned (.pointer (some ⟨nd2, 0, none⟩)) ∧ Hid (Lies w' 0 ps2 nd2) ∧ Hid (ps2 = ps.take k ++ ps.drop (k + 1)) ∧ Hid (Below w.heap.size w w') := by
  have HD : Hid (Nd w nd a n cap ps (.slice none 0 0)) := h
  have HM : Hid (Mono ps key ∧ AtP ps key k ∧ n ≤ 7 ∧ Cap a n cap ∧ k < n) := ⟨hm, ha, hn, hc, hk⟩
  clear h hm hn hc ha hk
  go_enter Try.func31, Try.ntmps31
  go_wp2_with fail
  refine (place_is w nd a n cap ps _ key HD.out HM.out.1 (by have := HM.out; omega)).mono ?_
  rintro e w1 ⟨k', rfl, HA, HB1⟩
  have hk' : k' = k := HA.out.uniq HM.out.2.1
  subst hk'
  have HD1 : Hid (Nd w1 nd a n cap ps (.slice none 0 0)) := HD.out.below HB1.out (Nat.le_refl _)
  have c0 := HD1.out.blk.cell (i := 0) rfl
  have c1 := HD1.out.blk.cell (i := 1) rfl
  have q1 : (k' : Int) + 1 ≤ 7 := by have := HM.out; omega
  obtain ⟨bb, hbb⟩ : ∃ bb, isP ps key k' = bb := ⟨_, rfl⟩
  rw [hbb]
  clear hbb
  go_wp2_with (first
    | (go_at_call 39; refine (leaf_is w1 nd c1).mono ?_; rintro e w2 ⟨rfl, rfl⟩)
    | (go_at_call 40; refine (spP w1 a n cap k' (k' + 1) _ _ rfl (by omega) ps none 0 0 [] HD1.out.rd HM.out.2.2.2.1 (by omega) (by have := HM.out; omega) ⟨rfl, fun h => absurd h (by omega)⟩ (by have := HM.out; omega)).mono ?_; rintro e w2 ⟨a2, n2, cap2, R2, rfl, HE2, HR2, HB2⟩))
  go_ret
  have hB := (Below.refl w2.heap.size w2).alloc (Nat.le_refl _) (Obj.cells #[Value.slice a2 n2 cap2, Value.slice none 0 0] 67)
  have hw := HB1.out.trans (HB2.out.mono HB1.out.size)
  exact ⟨w2.heap.size, R2, rfl, ⟨a2, n2, cap2, ⟨Blk.new _ _ _, HR2.out.1.below hB (Nat.le_refl _)⟩, HR2.out.2⟩, by show R2 = _; rw [HE2.out.1]; simp, hw.alloc hw.size _⟩
/-- one kid in another one's place, and what that makes of the others -/
theorem kids_set {w : World} {d k b : Nat} {ts : List (T d)} {bs R : List Nat} {t : T d} (h : Kids w d ts bs) (hl : Lies w d t b) (hR : R = bs.take k ++ [b] ++ bs.drop (k + 1)) : Kids w d (ts.take k ++ [t] ++ ts.drop (k + 1)) R := by
  rw [hR]
  exact ((h.take k).append (Kids.one hl)).append (h.drop (k + 1))
theorem set_at {d k : Nat} {ts : List (T d)} {t : T d} (hk : k < ts.length) : (ts.take k ++ [t] ++ ts.drop (k + 1))[k]? = some t := by
  rw [List.append_assoc, List.getElem?_append_right (by simp; omega)]
  simp [Nat.min_eq_left (Nat.le_of_lt hk)]
theorem set_oth {d k j : Nat} {ts : List (T d)} {t x : T d} (hk : k < ts.length) (hj : (ts.take k ++ [t] ++ ts.drop (k + 1))[j]? = some x) (hne : j ≠ k) : x ∈ ts := by
  have hm := List.getElem?_eq_some_iff.1 hj
  obtain ⟨hjl, e⟩ := hm
  by_cases hlt : j < k
  · rw [List.append_assoc, List.getElem?_append_left (by simp; omega), List.getElem?_take, if_pos hlt] at hj
    exact List.mem_of_getElem? hj
  · rw [List.append_assoc, List.getElem?_append_right (by simp; omega), List.length_take, Nat.min_eq_left (Nat.le_of_lt hk), List.getElem?_append_right (by simp; omega), List.getElem?_drop] at hj
    exact List.mem_of_getElem? hj
theorem set_len {d k : Nat} {ts : List (T d)} {t : T d} (hk : k < ts.length) : (ts.take k ++ [t] ++ ts.drop (k + 1)).length = ts.length := by simp; omega

set_option maxRecDepth 100000 in
set_option maxHeartbeats 2000000 in
theorem without_no (d : Nat) (IH : RemC d) (w : World) (nd n cap n' cap' : Nat) (a a' : Option Addr) (ps : List Pr) (ts : List (T d)) (bs : List Nat) (key : ByteArray) (k kb : Nat) (kt : T d) (h : Nd w nd a n cap ps (.slice a' n' cap')) (hm : Mono ps key) (hn : 1 ≤ n ∧ n ≤ 7) (hc : Cap a n cap) (ha : AtP ps key k) (hi : isP ps key k = false)
    (hk : RdK w a' n' bs) (hck : Cap a' n' cap') (hks : Kids w d ts bs) (hok : KidsOk d ts) (hl : ts.length = ps.length + 1) (hkt : ts[k]? = some kt) (hkb : bs[k]? = some kb) (hgd : Good d kt) (h3 : 3 ≤ (prs d kt).length) (hin : eqs key (tl d kt) ≠ []) :
    Calls Try.prog 31 #[.pointer (some ⟨nd, 0, none⟩), .string key] w fun e w' => ∃ (nd2 : Nat) (t2 : T (d + 1)), e = .returned (.pointer (some ⟨nd2, 0, none⟩)) ∧ Hid (Lies w' (d + 1) t2 nd2) ∧ Hid (tl (d + 1) t2 = upp ((ts.map (tl d)).take k) (ps.take k) ++ remP (tl d kt) key ++ dn (ps.drop k) ((ts.map (tl d)).drop (k + 1)) ∧ WF (d + 1) t2 ∧ t2.1.length ≤ ps.length ∧ ps.length ≤ t2.1.length + 1) ∧ Hid (Below w.heap.size w w') := by
  have HD : Hid (Nd w nd a n cap ps (.slice a' n' cap')) := h
  have HM : Hid (Mono ps key ∧ AtP ps key k ∧ (1 ≤ n ∧ n ≤ 7) ∧ Cap a n cap) := ⟨hm, ha, hn, hc⟩
  have HI : Hid (isP ps key k = false) := hi
  have HQ : Hid (RdK w a' n' bs ∧ Cap a' n' cap' ∧ Kids w d ts bs ∧ KidsOk d ts ∧ ts.length = ps.length + 1) := ⟨hk, hck, hks, hok, hl⟩
  have HT : Hid (ts[k]? = some kt ∧ bs[k]? = some kb ∧ Good d kt ∧ 3 ≤ (prs d kt).length ∧ eqs key (tl d kt) ≠ [] ∧ Lies w d kt kb) := ⟨hkt, hkb, hgd, h3, hin, hks.2 k kt kb hkt hkb⟩
  have HIH : Hid (RemC d) := IH
  have hnn : n' = n + 1 := by rw [← hk.1, hks.1, hl, h.rd.1]
  have HNN : Hid (n' = n + 1) := hnn
  have hkl : k < n' := by rw [← hk.1]; exact (List.getElem?_eq_some_iff.1 hkb).1
  obtain ⟨gk, offk, rfl, hgk, hck2⟩ := hk.2 (by omega)
  have HKC : Hid (w.cell? ⟨gk, offk + k, none⟩ = some (.pointer (some ⟨kb, 0, none⟩)) ∧ gk < w.heap.size) := ⟨hck2 k kb hkb, hgk.lt⟩
  have HKL : Hid (k < n') := hkl
  have q7 : (k : Int) < (n' : Int) := by omega
  have HZ : Hid (((n' : Int) == 0) = false) := by show _ = _; simp; omega
  clear h hm hn hc ha hi hk hck hks hok hl hkt hkb hgd h3 hin hgk hck2 hnn hkl IH
  go_enter Try.func31, Try.ntmps31
  go_wp2_with fail
  refine (place_is w nd a n cap ps _ key HD.out HM.out.1 (by have := HM.out; omega)).mono ?_
  rintro e w1 ⟨k', rfl, HA, HB1⟩
  have hk' : k' = k := HA.out.uniq HM.out.2.1
  subst hk'
  rw [HI.out]
  have HD1 : Hid (Nd w1 nd a n cap ps (.slice (some ⟨gk, offk, none⟩) n' cap')) := HD.out.below HB1.out (Nat.le_refl _)
  have c1 := HD1.out.blk.cell (i := 1) rfl
  have ck : w1.cell? ⟨gk, offk + k', none⟩ = some (.pointer (some ⟨kb, 0, none⟩)) := (HB1.out.cell (p := ⟨gk, _, none⟩) HKC.out.2).trans HKC.out.1
  go_wp2_with (first
    | (go_at_call 39; refine (isLeaf_any w1 nd _ n' cap' false HZ.out c1).mono ?_; rintro e w2 ⟨rfl, rfl⟩)
    | (go_at_call 31; refine (HIH.out w1 kt kb key (HT.out.2.2.2.2.2.below HB1.out (Nat.le_refl _)) HT.out.2.2.1 (by have := HT.out.2.2.2.1; omega) HT.out.2.2.2.2.1).mono ?_; rintro e w3 ⟨b3, t3, rfl, HL3, HO3, HB3⟩; have HW3 : Hid (Below w.heap.size w w3) := HB1.out.trans (HB3.out.mono HB1.out.size))
    | (go_at_call 42; refine (withKid_is w3 nd n cap n' cap' b3 k' a (some ⟨gk, offk, none⟩) ps bs (HD.out.below HW3.out (Nat.le_refl _)) (HQ.out.1.below HW3.out (Nat.le_refl _)) HQ.out.2.1 HKL.out (by have := HNN.out; have := HM.out; omega)).mono ?_; rintro e w5 ⟨nd5, a5, n5, cap5, bs5, rfl, HE5, HN5, HB5⟩)
    | (go_at_call 43; refine (mended_is d w5 nd5 n cap n5 cap5 k' a a5 ps (ts.take k' ++ [t3] ++ ts.drop (k' + 1)) bs5 HN5.out.1 HM.out.2.2.2 HN5.out.2.1 HN5.out.2.2 (kids_set ((HQ.out.2.2.1.below HW3.out).below HB5.out) (HL3.out.below HB5.out (Nat.le_refl _)) HE5.out) (by rw [set_len (List.getElem?_eq_some_iff.1 HT.out.1).1]; exact HQ.out.2.2.2.2) HM.out.2.2.1 t3 (set_at (List.getElem?_eq_some_iff.1 HT.out.1).1) ⟨HO3.out.2.1, by have := HO3.out.2.2; have := HT.out.2.2.2.1; omega, by have := HO3.out.2.2.1; have := HT.out.2.2.1.most; omega⟩ (fun j x hj hne => HQ.out.2.2.2.1 x (set_oth (List.getElem?_eq_some_iff.1 HT.out.1).1 hj hne))).mono ?_; rintro e w6 ⟨nd6, t6, rfl, HL6, HO6, HB6⟩))
  go_ret
  have k5 := HW3.out.trans (HB5.out.mono HW3.out.size)
  refine ⟨nd6, t6, rfl, HL6, ⟨?_, HO6.out.2⟩, k5.trans (HB6.out.mono k5.size)⟩
  rw [HO6.out.1, List.map_append, List.map_append, List.map_take, List.map_drop]
  rw [show List.map (tl d) [t3] = [tl d t3] from rfl]
  rw [inter_set (by simpa using HQ.out.2.2.2.2) (kid_map HT.out.1), HO3.out.1]
end Go.Proofs.Ytnagknlfboadkaa.Oct

/- Layer 7 (tree): 'without' of a key that stands in a node with kids; of any tree. -/
namespace Go.Proofs.Ytnagknlfboadkaa.Oct
open Go.RowKit

set_option maxRecDepth 100000 in
set_option maxHeartbeats 2000000 in
theorem without_is (d : Nat) (IH : RemC d) (w : World) (nd n cap n' cap' : Nat) (a a' : Option Addr) (ps : List Pr) (ts : List (T d)) (bs : List Nat) (key : ByteArray) (k kb : Nat) (kt : T d) (h : Nd w nd a n cap ps (.slice a' n' cap')) (hm : Mono ps key) (hn : 1 ≤ n ∧ n ≤ 7) (hc : Cap a n cap) (ha : AtP ps key k) (hi : isP ps key k = true)
    (hk : RdK w a' n' bs) (hck : Cap a' n' cap') (hks : Kids w d ts bs) (hok : KidsOk d ts) (hl : ts.length = ps.length + 1) (hkt : ts[k]? = some kt) (hkb : bs[k]? = some kb) (hgd : Good d kt) (h3 : 3 ≤ (prs d kt).length) (hkn : k < n) :
    Calls Try.prog 31 #[.pointer (some ⟨nd, 0, none⟩), .string key] w fun e w' => ∃ (nd2 : Nat) (t2 : T (d + 1)) (A : List Pr) (up : Pr), e = .returned (.pointer (some ⟨nd2, 0, none⟩)) ∧ Hid (Lies w' (d + 1) t2 nd2) ∧ Hid (tl d kt = A ++ [up]) ∧ Hid (tl (d + 1) t2 = upp ((ts.map (tl d)).take k) (ps.take k) ++ A ++ dn (up :: ps.drop (k + 1)) ((ts.map (tl d)).drop (k + 1)) ∧ WF (d + 1) t2 ∧ t2.1.length ≤ ps.length ∧ ps.length ≤ t2.1.length + 1) ∧ Hid (Below w.heap.size w w') := by
  have HD : Hid (Nd w nd a n cap ps (.slice a' n' cap')) := h
  have HM : Hid (Mono ps key ∧ AtP ps key k ∧ (1 ≤ n ∧ n ≤ 7) ∧ Cap a n cap ∧ k < n) := ⟨hm, ha, hn, hc, hkn⟩
  have HI : Hid (isP ps key k = true) := hi
  have HQ : Hid (RdK w a' n' bs ∧ Cap a' n' cap' ∧ Kids w d ts bs ∧ KidsOk d ts ∧ ts.length = ps.length + 1) := ⟨hk, hck, hks, hok, hl⟩
  have HT : Hid (ts[k]? = some kt ∧ bs[k]? = some kb ∧ Good d kt ∧ 3 ≤ (prs d kt).length ∧ Lies w d kt kb) := ⟨hkt, hkb, hgd, h3, hks.2 k kt kb hkt hkb⟩
  have HIH : Hid (RemC d) := IH
  have hnn : n' = n + 1 := by rw [← hk.1, hks.1, hl, h.rd.1]
  have HNN : Hid (n' = n + 1) := hnn
  have hkl : k < n' := by omega
  obtain ⟨gk, offk, rfl, hgk, hck2⟩ := hk.2 (by omega)
  have HKC : Hid (w.cell? ⟨gk, offk + k, none⟩ = some (.pointer (some ⟨kb, 0, none⟩)) ∧ gk < w.heap.size) := ⟨hck2 k kb hkb, hgk.lt⟩
  have HKL : Hid (k < n') := hkl
  have HLN : Hid (nd < w.heap.size) := h.blk.lt
  have q7 : (k : Int) < (n' : Int) := by omega
  have q8 : (k : Int) + 1 ≤ 7 := by omega
  have HZ : Hid (((n' : Int) == 0) = false) := by show _ = _; simp; omega
  clear h hm hn hc ha hi hk hck hks hok hl hkt hkb hgd h3 hgk hck2 hnn hkl IH hkn
  go_enter Try.func31, Try.ntmps31
  go_wp2_with fail
  refine (place_is w nd a n cap ps _ key HD.out HM.out.1 (by have := HM.out; omega)).mono ?_
  rintro e w1 ⟨k', rfl, HA, HB1⟩
  have hk' : k' = k := HA.out.uniq HM.out.2.1
  subst hk'
  rw [HI.out]
  have HD1 : Hid (Nd w1 nd a n cap ps (.slice (some ⟨gk, offk, none⟩) n' cap')) := HD.out.below HB1.out (Nat.le_refl _)
  have c0 := HD1.out.blk.cell (i := 0) rfl
  have c1 := HD1.out.blk.cell (i := 1) rfl
  have ck : w1.cell? ⟨gk, offk + k', none⟩ = some (.pointer (some ⟨kb, 0, none⟩)) := (HB1.out.cell (p := ⟨gk, _, none⟩) HKC.out.2).trans HKC.out.1
  go_wp2_with (first
    | (go_at_call 39; refine (isLeaf_any w1 nd _ n' cap' false HZ.out c1).mono ?_; rintro e w2 ⟨rfl, rfl⟩)
    | (go_at_call 41; refine (last_is w1 d kt kb (HT.out.2.2.2.2.below HB1.out (Nat.le_refl _)) HT.out.2.2.1 (by have := HT.out.2.2.2.1; omega)).mono ?_; rintro e w2 ⟨up, rfl, HU, HB2⟩))
  obtain ⟨A, hA⟩ := HU.out
  have HAA : Hid (tl d kt = A ++ [up]) := hA
  clear hA HU
  obtain ⟨W, hW⟩ : ∃ W, W = w2.alloc (Obj.cells #[Value.string up.1, Value.string up.2] 40) := ⟨_, rfl⟩
  obtain ⟨tb, htb⟩ : ∃ tb, w2.heap.size = tb := ⟨_, rfl⟩
  have HBW : Hid (Below w.heap.size w W) := by rw [hW]; have k := HB1.out.trans (HB2.out.mono HB1.out.size); exact k.alloc k.size _
  have HTB : Hid (Blk W tb 40 [.string up.1, .string up.2]) := by rw [hW, ← htb]; exact Blk.new _ _ _
  rw [← hW, htb]
  clear hW htb c0 c1 ck
  have HND : Hid (Nd W nd a n cap ps (.slice (some ⟨gk, offk, none⟩) n' cap')) := HD.out.below HBW.out (Nat.le_refl _)
  have c0 := HND.out.blk.cell (i := 0) rfl
  have c1 := HND.out.blk.cell (i := 1) rfl
  have ck : W.cell? ⟨gk, offk + k', none⟩ = some (.pointer (some ⟨kb, 0, none⟩)) := (HBW.out.cell (p := ⟨gk, _, none⟩) HKC.out.2).trans HKC.out.1
  have t0 := HTB.out.cell (i := 0) rfl
  have t1 := HTB.out.cell (i := 1) rfl
  have HKEEP : Hid (∀ W', Below W.heap.size W W' → (fun w' => w'.cell? ⟨nd, 0, none⟩ = some (.slice a n cap) ∧ w'.cell? ⟨nd, 1, none⟩ = some (.slice (some ⟨gk, offk, none⟩) n' cap') ∧ w'.cell? ⟨tb, 0, none⟩ = some (.string up.1) ∧ w'.cell? ⟨tb, 1, none⟩ = some (.string up.2) ∧ w'.cell? ⟨gk, offk + k', none⟩ = some (.pointer (some ⟨kb, 0, none⟩))) W') := fun W' hb => ⟨(hb.cell (p := ⟨nd, 0, none⟩) HND.out.blk.lt).trans c0, (hb.cell (p := ⟨nd, 1, none⟩) HND.out.blk.lt).trans c1, (hb.cell (p := ⟨tb, 0, none⟩) HTB.out.lt).trans t0, (hb.cell (p := ⟨tb, 1, none⟩) HTB.out.lt).trans t1, (hb.cell (p := ⟨gk, _, none⟩) (Nat.lt_of_lt_of_le HKC.out.2 HBW.out.size)).trans ck⟩
  have BP : Hid (Below W.heap.size W (W.alloc (Obj.cells #[Value.string up.1, Value.string up.2] 40)).drew) := ((Below.refl _ W).alloc (Nat.le_refl _) _).drew
  have HJ : Hid (IntKind.i64.wrap ((k' : Int) + 1) = ((k' + 1 : Nat) : Int)) := by show _ = _; rw [IntKind.wrap_i64]; omega
  have H40 : Hid (Calls Try.prog 40 #[.slice a n cap, .int .i64 (k' : Int), .int .i64 (IntKind.i64.wrap ((k' : Int) + 1)), .slice (some ⟨W.heap.size, 0, none⟩) 1 1] (W.alloc (Obj.cells #[Value.string up.1, Value.string up.2] 40)).drew (SpP (W.alloc (Obj.cells #[Value.string up.1, Value.string up.2] 40)).drew k' (k' + 1) n 1 ps [up])) := spP (W.alloc (Obj.cells #[Value.string up.1, Value.string up.2] 40)).drew a n cap k' (k' + 1) _ _ rfl HJ.out ps (some ⟨W.heap.size, 0, none⟩) 1 1 [up] (HND.out.below BP.out (Nat.le_refl _)).rd HM.out.2.2.2.1 (by omega) (by have := HM.out; omega) (rdp_one (Blk.new W #[.string up.1, .string up.2] 40).drew) (by have := HM.out; omega)
  go_wp2_with fail
  go_region_held_law (fun w' => w'.cell? ⟨nd, 0, none⟩ = some (.slice a n cap) ∧ w'.cell? ⟨nd, 1, none⟩ = some (.slice (some ⟨gk, offk, none⟩) n' cap') ∧ w'.cell? ⟨tb, 0, none⟩ = some (.string up.1) ∧ w'.cell? ⟨tb, 1, none⟩ = some (.string up.2) ∧ w'.cell? ⟨gk, offk + k', none⟩ = some (.pointer (some ⟨kb, 0, none⟩)))
    (first | with_reducible exact HKEEP.out _ (Below.refl _ W).drew | with_reducible exact HKEEP.out _ BP.out | with_reducible exact HKEEP.out _ HB5.out | with_reducible exact HKEEP.out _ (HB5.out.alloc HB5.out.size _))
    (first
    | (go_at_call 40; (with_reducible refine Calls.mono H40.out ?_); rintro e w5 ⟨a5, n5, cap5, R5, rfl, HE5, HR5, hB5⟩; have HB5 : Hid (Below W.heap.size W w5) := BP.out.trans (hB5.out.mono BP.out.size); clear hB5))
  obtain ⟨V, hV⟩ : ∃ V, V = w5.alloc (Obj.cells #[Value.slice a5 n5 cap5, Value.slice (some { block := gk, off := offk }) n' cap'] 67) := ⟨_, rfl⟩
  obtain ⟨rb, hrb⟩ : ∃ rb, w5.heap.size = rb := ⟨_, rfl⟩
  have hNV := (Below.refl w5.heap.size w5).alloc (Nat.le_refl _) (Obj.cells #[Value.slice a5 n5 cap5, Value.slice (some { block := gk, off := offk }) n' cap'] 67)
  have HBV : Hid (Below W.heap.size W V) := by rw [hV]; exact HB5.out.alloc HB5.out.size _
  have HNR : Hid (Nd V rb a5 n5 cap5 R5 (.slice (some ⟨gk, offk, none⟩) n' cap')) := by
    rw [hV, ← hrb]
    exact ⟨Blk.new _ _ _, HR5.out.1.below hNV (Nat.le_refl _)⟩
  have HWV : Hid (Below w.heap.size w V) := HBW.out.trans (HBV.out.mono HBW.out.size)
  have HN5 : Hid (R5.length = n5 ∧ n5 = n ∧ R5.length = ps.length) := by
    have e1 := HR5.out.1.1
    have e2 := HE5.out.2
    have e3 := HD.out.rd.1
    have e4 := HM.out
    exact ⟨e1, by omega, by omega⟩
  have HIN : Hid (eqs up.1 (tl d kt) ≠ []) := by
    show _ ≠ _
    rw [HAA.out]
    simp [eqs]
  clear hNV c0 c1 ck t0 t1 H40
  go_wp2_with fail
  rw [← hV, hrb]
  clear hV hrb
  have HKL5 : Hid (k' < ts.length) := (List.getElem?_eq_some_iff.1 HT.out.1).1
  go_region_held_law (fun w' => w'.cell? ⟨nd, 0, none⟩ = some (.slice a n cap) ∧ w'.cell? ⟨nd, 1, none⟩ = some (.slice (some ⟨gk, offk, none⟩) n' cap') ∧ w'.cell? ⟨tb, 0, none⟩ = some (.string up.1) ∧ w'.cell? ⟨tb, 1, none⟩ = some (.string up.2) ∧ w'.cell? ⟨gk, offk + k', none⟩ = some (.pointer (some ⟨kb, 0, none⟩)))
    (first | with_reducible exact HKEEP.out _ HBV.out.drew | with_reducible exact HKEEP.out _ HB6.out | with_reducible exact HKEEP.out _ HB7.out | with_reducible exact HKEEP.out _ HB8.out)
    (first
    | (go_at_call 31; refine (HIH.out V.drew kt kb up.1 (HT.out.2.2.2.2.below HWV.out.drew (Nat.le_refl _)) HT.out.2.2.1 (by have := HT.out.2.2.2.1; omega) HIN.out).mono ?_; rintro e w6 ⟨b6, t6, rfl, HL6, HO6, hB6⟩; have HV6 : Hid (Below V.heap.size V w6) := ⟨hB6.out.os, hB6.out.tape, hB6.out.output, hB6.out.size, hB6.out.block⟩; have HB6 : Hid (Below W.heap.size W w6) := HBV.out.trans (HV6.out.mono HBV.out.size); have HW6 : Hid (Below w.heap.size w w6) := HWV.out.trans (HV6.out.mono HWV.out.size); clear hB6)
    | (go_at_call 42; refine (withKid_is w6 rb n5 cap5 n' cap' b6 k' a5 (some ⟨gk, offk, none⟩) R5 bs (HNR.out.below HV6.out (Nat.le_refl _)) (HQ.out.1.below HW6.out (Nat.le_refl _)) HQ.out.2.1 HKL.out (by have := HNN.out; have := HM.out; omega)).mono ?_; rintro e w7 ⟨nd7, a7, n7, cap7, bs7, rfl, HE7, HN7, HB67⟩; have HB7 : Hid (Below W.heap.size W w7) := HB6.out.trans (HB67.out.mono HB6.out.size))
    | (go_at_call 43; refine (mended_is d w7 nd7 n5 cap5 n7 cap7 k' a5 a7 R5 (ts.take k' ++ [t6] ++ ts.drop (k' + 1)) bs7 HN7.out.1 HR5.out.2 HN7.out.2.1 HN7.out.2.2 (kids_set ((HQ.out.2.2.1.below HW6.out).below HB67.out) (HL6.out.below HB67.out (Nat.le_refl _)) HE7.out) (by rw [set_len HKL5.out, HQ.out.2.2.2.2, HN5.out.2.2]) (by have := HN5.out; have := HM.out; omega) t6 (set_at HKL5.out) ⟨HO6.out.2.1, by have := HO6.out.2.2; have := HT.out.2.2.2.1; omega, by have := HO6.out.2.2.1; have := HT.out.2.2.1.most; omega⟩ (fun j x hj hne => HQ.out.2.2.2.1 x (set_oth HKL5.out hj hne))).mono ?_; rintro e w8 ⟨nd8, t8, rfl, HL8, HO8, HB78⟩; have HB8 : Hid (Below W.heap.size W w8) := HB7.out.trans (HB78.out.mono HB7.out.size)))
  go_wp2
  go_ret
  refine ⟨nd8, t8, A, up, rfl, HL8, HAA, ⟨?_, HO8.out.2.1, ?_, ?_⟩, HBW.out.trans (HB8.out.mono HBW.out.size)⟩
  · rw [HO8.out.1, List.map_append, List.map_append, List.map_take, List.map_drop]
    rw [show List.map (tl d) [t6] = [tl d t6] from rfl]
    have hpl := HD.out.rd.1
    have hkn := HM.out.2.2.2.2
    rw [inter_set (by rw [List.length_map, HQ.out.2.2.2.2, HN5.out.2.2]) (kid_map HT.out.1)]
    have e1 : tl d t6 = A := by
      rw [HO6.out.1, HAA.out]
      have hr := HT.out.2.2.1.ris
      rw [HAA.out] at hr
      have := remP_one (x := up) (B := []) hr.split.1 (by intro x hx; cases hx)
      rw [List.append_nil] at this
      exact this
    have q3 : R5.take k' = ps.take k' := by
      rw [HE5.out.1, List.append_assoc, List.take_append_of_le_length (by simp; omega), List.take_take, Nat.min_self]
    have q4 : R5.drop k' = up :: ps.drop (k' + 1) := by
      rw [HE5.out.1, List.append_assoc, List.drop_append, List.drop_eq_nil_of_le (by simp; omega)]
      simp [Nat.min_eq_left (show k' ≤ ps.length by omega)]
    rw [e1, q3, q4]
  · have := HO8.out.2.2.1; have := HN5.out; omega
  · have := HO8.out.2.2.2; have := HN5.out; omega

theorem rem_all : ∀ d, RemC d
  | 0 => by
    intro w t0 nd key hL hG h1 hne
    obtain ⟨t, ht0⟩ : ∃ t : List Pr, t = t0 := ⟨t0, rfl⟩
    subst ht0
    obtain ⟨a, n, cap, hN, hC⟩ := hL
    have hr : Ris t := hG.ris
    have hm := ris_mono hr key
    obtain ⟨k, ha⟩ := find_at t key hm
    have hn : n ≤ 7 := by rw [← hN.rd.1]; exact hG.most
    cases hi : isP t key k with
    | false => exact absurd (eqs_no hr ha hi) hne
    | true =>
      have hlt : k < t.length := by
        cases hx : t[k]? with
        | some y => exact (List.getElem?_eq_some_iff.1 hx).1
        | none => simp only [isP, hx] at hi; cases hi
      refine (without_leaf w nd n cap a t key k hN hm hn hC ha (by rw [← hN.rd.1]; exact hlt)).mono ?_
      rintro e w' ⟨nd2, ps2, rfl, h2, h3, h4⟩
      have hl : ps2.length = t.length - 1 := by rw [h3.out]; simp; omega
      refine ⟨nd2, ps2, rfl, h2, ⟨?_, trivial, ?_, ?_⟩, h4⟩
      · show ps2 = remP t key
        rw [h3.out, leaf_rem hr ha hi]
      · show ps2.length ≤ t.length; omega
      · show t.length ≤ ps2.length + 1; omega
  | d + 1 => by
    intro w t nd key hL hG h1 hne
    obtain ⟨a, n, cap, a', n', cap', bs, hN, hC, hK, hCK, hbl, hkk⟩ := hL
    have hr : Ris (inter (t.2.map (tl d)) t.1) := hG.ris
    have hrp : Ris t.1 := ris_own hG.ris hG.wf.1
    have hm := ris_mono hrp key
    obtain ⟨k, ha⟩ := find_at t.1 key hm
    have hn : 1 ≤ n ∧ n ≤ 7 := by rw [← hN.rd.1]; exact ⟨h1, hG.most⟩
    have hks : Kids w d t.2 bs := ⟨hbl, hkk⟩
    have hkl : k < t.2.length := by have := ha.1; have := hG.wf.1; omega
    have hkt : t.2[k]? = some t.2[k] := List.getElem?_eq_getElem hkl
    have hkb : bs[k]? = some bs[k] := List.getElem?_eq_getElem (by rw [hbl]; exact hkl)
    have hgk := hG.kid hkt
    have hne' : eqs key (inter (t.2.map (tl d)) t.1) ≠ [] := hne
    cases hi : isP t.1 key k with
    | false =>
      obtain ⟨A, B, e, hA, hB, hLA, hGB, _⟩ := node_at hG.wf.1 hr hrp ha hkt hi
      refine (without_no d (rem_all d) w nd n cap n' cap' a a' t.1 t.2 bs key k bs[k] t.2[k] hN hm hn hC ha hi hK hCK hks hG.wf.2 hG.wf.1 hkt hkb hgk.1 hgk.2 (by rw [e, eqs_mid hLA hGB] at hne'; exact hne')).mono ?_
      rintro e' w' ⟨nd2, t2, rfl, h2, h3, h4⟩
      refine ⟨nd2, t2, rfl, h2, ⟨?_, h3.out.2⟩, h4⟩
      rw [h3.out.1]
      show _ = remP (inter (t.2.map (tl d)) t.1) key
      rw [e, remP_mid hLA hGB, hA, hB]
    | true =>
      obtain ⟨_, hat, _⟩ := ris_at hrp ha
      obtain ⟨y, hy, hyk, hsp, _⟩ := hat hi
      have hlt := (List.getElem?_eq_some_iff.1 hy).1
      refine (without_is d (rem_all d) w nd n cap n' cap' a a' t.1 t.2 bs key k bs[k] t.2[k] hN hm hn hC ha hi hK hCK hks hG.wf.2 hG.wf.1 hkt hkb hgk.1 hgk.2 (by rw [← hN.rd.1]; exact hlt)).mono ?_
      rintro e' w' ⟨nd2, t2, A, up, rfl, h2, h3, h4, h5⟩
      refine ⟨nd2, t2, rfl, h2, ⟨?_, h4.out.2⟩, h5⟩
      rw [h4.out.1]
      show _ = remP (inter (t.2.map (tl d)) t.1) key
      have e0 := inter_at k (tl d t.2[k]) (ls := t.2.map (tl d)) (ps := t.1) (by simpa using hG.wf.1) (kid_map hkt)
      have hdp : t.1.drop k = y :: t.1.drop (k + 1) := by
        rw [List.drop_eq_getElem_cons hlt]
        rw [List.getElem?_eq_getElem hlt] at hy
        rw [Option.some.inj hy]
      have hwl := hG.wf.1
      have hk1 : k + 1 < (t.2.map (tl d)).length := by simp; omega
      have e1 : (t.2.map (tl d)).drop (k + 1) = (t.2.map (tl d))[k + 1] :: (t.2.map (tl d)).drop (k + 1 + 1) := List.drop_eq_getElem_cons hk1
      rw [hdp, e1, h3.out] at e0
      rw [e1]
      generalize (t.2.map (tl d))[k + 1] = N at *
      generalize (t.2.map (tl d)).drop (k + 1 + 1) = M at *
      generalize upp ((t.2.map (tl d)).take k) (t.1.take k) = U at *
      have d1 : ∀ z : Pr, dn (z :: t.1.drop (k + 1)) (N :: M) = z :: (N ++ dn (t.1.drop (k + 1)) M) := fun z => by simp [dn]
      rw [d1] at e0 ⊢
      rw [e0] at hr ⊢
      have hs := hr.split
      rw [← hyk, remP_one hs.1 hs.2]
      simp
end Go.Proofs.Ytnagknlfboadkaa.Oct

/- Layer 7 (tree): a map of any keys: Put, Delete, Get, Len, Depth. -/
namespace Go.Proofs.Ytnagknlfboadkaa.Oct
open Go.RowKit

theorem depth_all : ∀ (d : Nat), d ≤ 1000 → ∀ (w : World) (t : T d) (nd : Nat), Lies w d t nd → WF d t → Calls Try.prog 35 #[.pointer (some ⟨nd, 0, none⟩)] w fun e w' => e = .returned (.int .i64 ((d + 1 : Nat) : Int)) ∧ w = w'
  | 0, _ => fun w t nd hL _ => by
    obtain ⟨a, n, cap, h1, _⟩ := hL
    exact depth_leaf w nd (h1.blk.cell (i := 1) rfl)
  | d + 1, hd => fun w t nd hL hw => by
    obtain ⟨a, n, cap, a', n', cap', bs, h1, _, h3, _, h5, h6⟩ := hL
    have hl := hw.1
    have hb0 : 0 < bs.length := by omega
    have ht0 : 0 < t.2.length := by omega
    have hnn : 0 < n' := by rw [← h3.1]; exact hb0
    obtain ⟨g, off, rfl, _, hc⟩ := h3.2 hnn
    have ck := hc 0 _ (List.getElem?_eq_getElem hb0)
    have hk := h6 0 _ _ (List.getElem?_eq_getElem ht0) (List.getElem?_eq_getElem hb0)
    have hwk := (hw.2 _ (List.getElem_mem ht0)).1
    have IH := depth_all d (by omega) w t.2[0] bs[0] hk hwk
    have HIH : Hid (Calls Try.prog 35 #[.pointer (some ⟨bs[0], 0, none⟩)] w fun e w' => e = .returned (.int .i64 ((d + 1 : Nat) : Int)) ∧ w = w') := IH
    have c1 := h1.blk.cell (i := 1) rfl
    have HZ : Hid (((n' : Int) == 0) = false) := by show _ = _; simp; omega
    have q1 : (0 : Int) < (n' : Int) := by omega
    obtain ⟨D, hD⟩ : ∃ D : Nat, d + 1 = D := ⟨_, rfl⟩
    rw [hD] at HIH ⊢
    have q2 : (D : Int) ≤ 1001 := by omega
    generalize bs[0] = b0 at *
    clear h1 h3 h5 h6 hc hk hwk IH hl hb0 ht0 hD
    simp only [Nat.add_zero] at ck
    go_enter Try.func35, Try.ntmps35
    go_wp2_with (first
      | (go_at_call 39; refine (isLeaf_any w nd _ n' cap' false HZ.out c1).mono ?_; rintro e w2 ⟨rfl, rfl⟩)
      | (go_at_call 35; refine HIH.out.mono ?_; rintro e w2 ⟨rfl, rfl⟩))
    go_ret
    exact ⟨by rw [show ((D + 1 : Nat) : Int) = 1 + (D : Int) by omega]; rfl, rfl⟩
theorem asRoot_pos (w : World) (nd n cap : Nat) (a : Option Addr) (hn : 0 < n) (h : w.cell? ⟨nd, 0, none⟩ = some (.slice a n cap)) : Calls Try.prog 32 #[.pointer (some ⟨nd, 0, none⟩)] w fun e w' => e = .returned (.pointer (some ⟨nd, 0, none⟩)) ∧ w = w' := by
  have q1 : (0 : Int) < (n : Int) := by omega
  go_enter Try.func32, Try.ntmps32
  go_wp2
  go_ret
  exact ⟨rfl, rfl⟩
theorem asRoot_leaf (w : World) (nd cap : Nat) (a : Option Addr) (h : w.cell? ⟨nd, 0, none⟩ = some (.slice a 0 cap)) (h1 : w.cell? ⟨nd, 1, none⟩ = some (.slice none 0 0)) : Calls Try.prog 32 #[.pointer (some ⟨nd, 0, none⟩)] w fun e w' => e = .returned (.pointer none) ∧ w = w' := by
  go_enter Try.func32, Try.ntmps32
  go_wp2_with (go_at_call 39; refine (leaf_is w nd h1).mono ?_; rintro e w2 ⟨rfl, rfl⟩)
  go_ret
  exact ⟨rfl, rfl⟩
theorem asRoot_node (w : World) (nd cap g off n' cap' kb : Nat) (a : Option Addr) (h : w.cell? ⟨nd, 0, none⟩ = some (.slice a 0 cap)) (h1 : w.cell? ⟨nd, 1, none⟩ = some (.slice (some ⟨g, off, none⟩) n' cap')) (hn : 0 < n') (hk : w.cell? ⟨g, off, none⟩ = some (.pointer (some ⟨kb, 0, none⟩))) : Calls Try.prog 32 #[.pointer (some ⟨nd, 0, none⟩)] w fun e w' => e = .returned (.pointer (some ⟨kb, 0, none⟩)) ∧ w = w' := by
  have q1 : (0 : Int) < (n' : Int) := by omega
  have HZ : Hid (((n' : Int) == 0) = false) := by show _ = _; simp; omega
  go_enter Try.func32, Try.ntmps32
  go_wp2_with (go_at_call 39; refine (isLeaf_any w nd _ n' cap' false HZ.out h1).mono ?_; rintro e w2 ⟨rfl, rfl⟩)
  go_ret
  exact ⟨rfl, rfl⟩
theorem whole_two (w : World) (b b2 : Nat) (m : Pr) : Calls Try.prog 34 #[two b m b2] w fun e w' => ∃ (nd gp gk : Nat), e = .returned (.pointer (some ⟨nd, 0, none⟩)) ∧ Hid (Nd w' nd (some ⟨gp, 0, none⟩) 1 1 [m] (.slice (some ⟨gk, 0, none⟩) 2 2) ∧ RdK w' (some ⟨gk, 0, none⟩) 2 [b, b2]) ∧ Hid (Below w.heap.size w w') := by
  unfold two
  go_enter Try.func34, Try.ntmps34
  go_wp2
  go_ret
  obtain ⟨w1, h1⟩ : ∃ w1, w1 = w.alloc (Obj.cells #[Value.pointer (some { block := b, off := 0 }), Value.string m.1, Value.string m.2, Value.pointer (some { block := b2, off := 0 })] 59) := ⟨_, rfl⟩
  have hs1 : w1.heap.size = w.heap.size + 1 := by rw [h1]; simp
  have hb1 : Below w.heap.size w w1 := by rw [h1]; exact (Below.refl _ w).alloc (Nat.le_refl _) _
  rw [← h1]
  have e2 := Blk.new w1 #[.string m.1, .string m.2] 40
  have e3 := Blk.new (w1.alloc (Obj.cells #[Value.string m.1, Value.string m.2] 40)) #[kp b, kp b2] 46
  have e4 := Blk.new ((w1.alloc (Obj.cells #[Value.string m.1, Value.string m.2] 40)).alloc (Obj.cells #[Value.pointer (some { block := b, off := 0 }), Value.pointer (some { block := b2, off := 0 })] 46)) #[Value.slice (some { block := w.heap.size + 1, off := 0 }) 1 1, Value.slice (some { block := w.heap.size + 1 + 1, off := 0 }) 2 2] 67
  rw [World.size_alloc, World.size_alloc, hs1] at e4
  rw [World.size_alloc, hs1] at e3
  rw [hs1] at e2
  exact ⟨_, _, _, rfl, ⟨⟨e4, rdp_one ((e2.alloc _).alloc _)⟩, rdk_two (e3.alloc _)⟩, ((hb1.alloc (by omega) _).alloc (by simp; omega) _).alloc (by simp; omega) _⟩
/-- a map that holds just the pairs of a list -/
def Tr (w : World) (m : Nat) (L : List Pr) : Prop := (Mp w m (.pointer none) 0 ∧ L = []) ∨ ∃ (d : Nat) (t : T d) (nd : Nat), Mp w m (.pointer (some ⟨nd, 0, none⟩)) L.length ∧ Lies w d t nd ∧ Good d t ∧ 1 ≤ (prs d t).length ∧ tl d t = L
theorem Tr.below {w w' : World} {m : Nat} {L : List Pr} (h : Tr w m L) (hb : Below w.heap.size w w') : Tr w' m L := by
  rcases h with ⟨h1, h2⟩ | ⟨d, t, nd, h1, h2, h3⟩
  · exact .inl ⟨h1.keep hb (Nat.le_refl _), h2⟩
  · exact .inr ⟨d, t, nd, h1.keep hb (Nat.le_refl _), h2.below hb (Nat.le_refl _), h3⟩
theorem Tr.ris {w : World} {m : Nat} {L : List Pr} (h : Tr w m L) : Ris L := by
  rcases h with ⟨_, rfl⟩ | ⟨d, t, nd, _, _, h3, _, rfl⟩
  · exact List.Pairwise.nil
  · exact h3.ris
theorem Mp.oth {w : World} {m n : Nat} {r : Value} (h : Mp w m r n) : Oth w m := Blk.oth (show Blk w m 48 _ from h) (by decide) (by decide) (by decide)

theorem tget (w : World) (m : Nat) (L : List Pr) (key : ByteArray) (h : Tr w m L) : Calls Try.prog 21 #[.pointer (some ⟨m, 0, none⟩), .string key] w fun e w' => e = .returned (.tuple #[.string (gv (eqs key L)), .bool (!(eqs key L).isEmpty)]) ∧ Hid (Below w.heap.size w w') := by
  rcases h with ⟨h1, rfl⟩ | ⟨d, t, nd, h1, h2, h3, h4, rfl⟩
  · have c2 := h1.cell (i := 2) rfl
    have c0 := h1.cell (i := 0) rfl
    go_enter Try.func21, Try.ntmps21
    go_wp2_with (first | (go_at_call 22; refine (made_is w m true c2).mono ?_; rintro e w2 ⟨rfl, rfl⟩) | (go_at_call 30; refine (get_nil w key).mono ?_; rintro e w3 ⟨rfl, hB⟩; have HB : Hid (Below w.heap.size w w3) := hB; clear hB))
    go_ret2
    exact ⟨rfl, HB⟩
  · have c2 := h1.cell (i := 2) rfl
    have c0 := h1.cell (i := 0) rfl
    have HC : Hid (Lies w d t nd ∧ Good d t) := ⟨h2, h3⟩
    clear h1 h2 h3
    go_enter Try.func21, Try.ntmps21
    go_wp2_with (first | (go_at_call 22; refine (made_is w m true c2).mono ?_; rintro e w2 ⟨rfl, rfl⟩) | (go_at_call 30; refine (get_is w d t nd key HC.out.1 HC.out.2).mono ?_; rintro e w3 ⟨rfl, HB⟩))
    go_ret2
    exact ⟨rfl, HB⟩
theorem tlen (w : World) (m : Nat) (L : List Pr) (h : Tr w m L) : Calls Try.prog 15 #[.pointer (some ⟨m, 0, none⟩)] w fun e w' => e = .returned (.int .i64 (L.length : Int)) ∧ w = w' := by
  rcases h with ⟨h1, rfl⟩ | ⟨d, t, nd, h1, _⟩
  · exact len_is w m _ 0 h1
  · exact len_is w m _ _ h1
/-- a half put together, as a good tree -/
theorem half_root {d : Nat} {H : Half d} {L : List Pr} (ho : H.ok) (hl : H.list = L) : match H with | .one t => tl d t = L ∧ WF d t ∧ (prs d t).length ≤ 7 | .two l m r => tl (d + 1) (([m], [l, r]) : T (d + 1)) = L ∧ WF (d + 1) (([m], [l, r]) : T (d + 1)) := by
  cases H with
  | one t => exact ⟨hl, ho.1, ho.2⟩
  | two l m r =>
    refine ⟨?_, rfl, ?_⟩
    · rw [← hl]
      show inter [tl d l, tl d r] [m] = tl d l ++ m :: tl d r
      simp [inter, dn]
    · intro k hk
      rcases List.mem_cons.1 hk with rfl | hk
      · exact ho.1
      · rw [List.mem_singleton.1 hk]; exact ho.2
end Go.Proofs.Ytnagknlfboadkaa.Oct

/- Layer 7 (tree): Put and Delete of a map of any keys. -/
namespace Go.Proofs.Ytnagknlfboadkaa.Oct
open Go.RowKit

theorem parts_len (k : ByteArray) : ∀ L : List Pr, (lo k L).length + (eqs k L).length + (hi k L).length = L.length
  | [] => rfl
  | x :: L => by
    have ih := parts_len k L
    unfold lo eqs hi at ih ⊢
    simp only [List.filter_cons]
    cases h1 : Lt x.1 k with
    | true =>
      have h2 : (x.1.toList == k.toList) = false := by
        cases h : (x.1.toList == k.toList) with
        | false => rfl
        | true => rw [eqb_iff.1 h, lt_irrefl] at h1; cases h1
      have h3 := lt_asymm h1
      simp [h2, h3]; omega
    | false =>
      cases h3 : Lt k x.1 with
      | true =>
        have h2 : (x.1.toList == k.toList) = false := by
          cases h : (x.1.toList == k.toList) with
          | false => rfl
          | true => rw [eqb_iff.1 h, lt_irrefl] at h3; cases h3
        simp [h2]; omega
      | false =>
        have h2 : (x.1.toList == k.toList) = true := eqb_iff.2 (lt_total h1 h3)
        simp [h2]; omega
theorem eqs_one_or {L : List Pr} (h : Ris L) (k : ByteArray) : eqs k L = [] ∨ ∃ x, eqs k L = [x] := by
  obtain ⟨j, ha⟩ := find_at L k (ris_mono h k)
  cases hi : isP L k j with
  | false => exact .inl (eqs_no h ha hi)
  | true => obtain ⟨x, _, _, e⟩ := eqs_is h ha hi; exact .inr ⟨x, e⟩
theorem ins_len {L : List Pr} (h : Ris L) (x : Pr) : (insP L x).length = if (eqs x.1 L).isEmpty = true then L.length + 1 else L.length := by
  have hp := parts_len x.1 L
  unfold insP
  rcases eqs_one_or h x.1 with e | ⟨y, e⟩
  · rw [e] at hp ⊢; simp at hp ⊢; omega
  · rw [e] at hp ⊢; simp at hp ⊢; omega
theorem rem_len {L : List Pr} (h : Ris L) (k : ByteArray) : (remP L k).length = if (eqs k L).isEmpty = true then L.length else L.length - 1 := by
  have hp := parts_len k L
  unfold remP
  rcases eqs_one_or h k with e | ⟨y, e⟩
  · rw [e] at hp ⊢; simp at hp ⊢; omega
  · rw [e] at hp ⊢; simp at hp ⊢; omega
/-- a tree's root, put back into its map -/
theorem tr_root {w w4 : World} {m nd d c : Nat} {t : T d} {r0 : Value} (hl : Lies w4 d t nd) (hg : Good d t) (h1 : 1 ≤ (prs d t).length) (hm : Mp w4 m r0 c) (hc : c = (tl d t).length) (hgr : w.grownBy w4 (some m)) :
    Tr (w4.setCell ⟨m, 0, none⟩ (.pointer (some ⟨nd, 0, none⟩))) m (tl d t) ∧ w.grownBy (w4.setCell ⟨m, 0, none⟩ (.pointer (some ⟨nd, 0, none⟩))) (some m) := by
  subst hc
  exact ⟨.inr ⟨d, t, nd, Blk.set hm 0 _, hl.oth (grown_setCell _ _ _ _) hm.oth, hg, h1, rfl⟩, grown_tr hgr (grown_setCell _ _ _ _)⟩
/-- behind 'put' and 'whole' -/
def Whl (w : World) (L : List Pr) (e : Ending) (w' : World) : Prop := ∃ (nd d' : Nat) (t : T d'), e = .returned (.pointer (some ⟨nd, 0, none⟩)) ∧ Hid (Lies w' d' t nd ∧ Good d' t ∧ 1 ≤ (prs d' t).length ∧ tl d' t = L) ∧ Hid (Below w.heap.size w w')
theorem whole_all (d : Nat) (w : World) (b : Nat) (y : Pr) (r : Option Addr) (H : Half d) (L : List Pr) (hl : H.lies w (hv b y r)) (ho : H.ok) (hL : H.list = L) (hr : Ris L) (h1 : ∀ t, H = .one t → 1 ≤ (prs d t).length) : Calls Try.prog 34 #[hv b y r] w (Whl w L) := by
  have hh := half_root ho hL
  cases H with
  | one t =>
    obtain ⟨bb, hbb, hlies⟩ := hl
    rw [hbb]
    refine (whole_is w bb).mono ?_
    rintro e w' ⟨rfl, hB⟩
    exact ⟨bb, d, t, rfl, ⟨hlies.below hB.out (Nat.le_refl _), ⟨hh.2.1, by rw [hh.1]; exact hr, hh.2.2⟩, h1 t rfl, hh.1⟩, hB⟩
  | two l m q =>
    obtain ⟨b1, b2, hbb, hl1, hl2⟩ := hl
    rw [hbb]
    refine (whole_two w b1 b2 m).mono ?_
    rintro e w' ⟨nd, gp, gk, rfl, hN, hB⟩
    have hK : Kids w' d [l, q] [b1, b2] := (Kids.one (hl1.below hB.out (Nat.le_refl _))).append (Kids.one (hl2.below hB.out (Nat.le_refl _)))
    refine ⟨nd, d + 1, ([m], [l, q]), rfl, ⟨⟨_, 1, 1, _, 2, 2, [b1, b2], hN.out.1, ⟨Nat.le_refl _, .inr ⟨_, _, rfl⟩⟩, hN.out.2, ⟨Nat.le_refl _, .inr ⟨_, _, rfl⟩⟩, hK.1, hK.2⟩, ⟨hh.2, by rw [hh.1]; exact hr, by show [m].length ≤ 7; simp⟩, Nat.le_refl _, hh.1⟩, hB⟩

set_option maxRecDepth 100000 in
set_option maxHeartbeats 1000000 in
theorem tput (w : World) (m : Nat) (L : List Pr) (x : Pr) (h : Tr w m L) (hb : L.length ≤ 1000000) : Calls Try.prog 19 #[.pointer (some ⟨m, 0, none⟩), .string x.1, .string x.2] w fun e w' => e = .returned (.bool (!(eqs x.1 L).isEmpty)) ∧ Hid (Tr w' m (insP L x)) ∧ Hid (w.grownBy w' (some m)) := by
  rcases h with ⟨h1, rfl⟩ | ⟨d, t, nd, h1, h2, h3, h4, hL⟩
  · refine (mput_nil w m x h1).mono ?_
    rintro e w' ⟨nd, g, rfl, hM, hN, hG⟩
    refine ⟨rfl, .inr ⟨0, [x], nd, hM, ⟨_, _, _, hN, Nat.le_refl _, .inr ⟨_, _, rfl⟩⟩, ⟨trivial, by show Ris [x]; exact List.pairwise_singleton _ _, by show [x].length ≤ 7; simp⟩, by show 1 ≤ [x].length; simp, rfl⟩, hG.out.1⟩
  · have hris : Ris L := by rw [← hL]; exact h3.ris
    have hil := ins_len hris x
    have hir := ris_ins hris x
    obtain ⟨k, v⟩ := x
    have HM : Hid (Mp w m (.pointer (some ⟨nd, 0, none⟩)) L.length) := h1
    have HT : Hid (Lies w d t nd ∧ Good d t ∧ 1 ≤ (prs d t).length ∧ tl d t = L) := ⟨h2, h3, h4, hL⟩
    have HR : Hid ((insP L (k, v)).length = (if (eqs k L).isEmpty = true then L.length + 1 else L.length) ∧ Ris (insP L (k, v))) := ⟨hil, hir⟩
    have c0 := h1.cell (i := 0) rfl
    have c2 := h1.cell (i := 2) rfl
    obtain ⟨N, hN⟩ : ∃ N, L.length = N := ⟨_, rfl⟩
    rw [hN] at HM HR hb
    have HNL : Hid (L.length = N) := hN
    obtain ⟨E, hE⟩ : ∃ E, eqs k L = E := ⟨_, rfl⟩
    have HE : Hid (eqs k (tl d t) = E) := by show _ = _; rw [hL]; exact hE
    rw [hE] at HR ⊢
    clear h1 h2 h3 h4 hL hris hil hir hN hE
    go_enter Try.func19, Try.ntmps19
    go_wp2_with (first | (go_at_call 22; refine (made_is w m true c2).mono ?_; rintro e w2 ⟨rfl, rfl⟩) | fail)
    refine (get_is w d t nd k HT.out.1 HT.out.2.1).mono ?_
    rintro e w1 ⟨rfl, HB1⟩
    rw [HE.out]
    have HM1 : Hid (Mp w1 m (.pointer (some ⟨nd, 0, none⟩)) N) := HM.out.keep HB1.out (Nat.le_refl _)
    have d0 := HM1.out.cell (i := 0) rfl
    have d1 := HM1.out.cell (i := 1) rfl
    have g1 := HM1.out.free 1
    have q1 : (N : Int) ≤ 1000000 := by omega
    have FIN : Hid (∀ (W : World) (c : Nat), Mp W m (.pointer (some ⟨nd, 0, none⟩)) c → Lies W d t nd → w.grownBy W (some m) → Calls Try.prog 33 #[.pointer (some ⟨nd, 0, none⟩), .agg #[.string k, .string v]] W fun e w3 => ∃ (b : Nat) (y : Pr) (r : Option Addr) (H : Half d), e = .returned (hv b y r) ∧ Hid (H.lies w3 (hv b y r) ∧ H.ok ∧ H.list = insP L (k, v) ∧ (∀ t', H = .one t' → 1 ≤ (prs d t').length)) ∧ Hid (Mp w3 m (.pointer (some ⟨nd, 0, none⟩)) c ∧ w.grownBy w3 (some m))) := by
      intro W c hM hLi hG
      refine (put_all d W t nd (k, v) hLi HT.out.2.1).mono ?_
      rintro e w3 ⟨b, y, r, H, rfl, q1, q2, q3⟩
      refine ⟨b, y, r, H, rfl, ⟨q1.out, q2.out.2.1, by rw [q2.out.1, HT.out.2.2.2], fun t' ht => ?_⟩, ⟨hM.keep q3.out (Nat.le_refl _), grown_tr hG (below_grown q3.out _)⟩⟩
      have := q2.out.2.2 t' ht
      have := HT.out.2.2.1
      omega
    obtain ⟨V, hV⟩ : ∃ V, gv E = V := ⟨_, rfl⟩
    rw [hV]
    clear hV c0 c2
    cases hem : E.isEmpty with
    | true =>
      have HEM : Hid (E.isEmpty = true) := hem
      clear hem
      go_wp2_with fail
      have HM2 : Hid (Mp (w1.setCell ⟨m, 1, none⟩ (.int .i64 ((N : Int) + 1))) m (.pointer (some ⟨nd, 0, none⟩)) (N + 1)) := Blk.set HM1.out 1 _
      have HL2 : Hid (Lies (w1.setCell ⟨m, 1, none⟩ (.int .i64 ((N : Int) + 1))) d t nd) := (HT.out.1.below HB1.out (Nat.le_refl _)).oth (grown_setCell _ _ _ _) HM1.out.oth
      refine (FIN.out _ (N + 1) HM2.out HL2.out (grown_tr (below_grown HB1.out _) (grown_setCell _ _ _ _))).mono ?_
      rintro e w3 ⟨b, y, r, H, rfl, HH, HM3⟩
      go_wp2_with fail
      refine (whole_all d w3 b y r H (insP L (k, v)) HH.out.1 HH.out.2.1 HH.out.2.2.1 HR.out.2 HH.out.2.2.2).mono ?_
      rintro e w4 ⟨nd4, d4, t4, rfl, HT4, HB4⟩
      have HM4 : Hid (Mp w4 m (.pointer (some ⟨nd, 0, none⟩)) (N + 1)) := HM3.out.1.keep HB4.out (Nat.le_refl _)
      have e0 := HM4.out.cell (i := 0) rfl
      have g0 := HM4.out.free 0
      clear d0 d1 g1
      go_wp2
      go_ret
      have hE := tr_root HT4.out.1 HT4.out.2.1 HT4.out.2.2.1 HM4.out (by rw [HT4.out.2.2.2, HR.out.1, if_pos HEM.out]) (grown_tr HM3.out.2 (below_grown HB4.out _))
      rw [HT4.out.2.2.2] at hE
      exact ⟨by rw [HEM.out]; rfl, hE.1, hE.2⟩
    | false =>
      have HEM : Hid (E.isEmpty = false) := hem
      clear hem
      go_wp2_with fail
      refine (FIN.out w1 N HM1.out (HT.out.1.below HB1.out (Nat.le_refl _)) (below_grown HB1.out _)).mono ?_
      rintro e w3 ⟨b, y, r, H, rfl, HH, HM3⟩
      go_wp2_with fail
      refine (whole_all d w3 b y r H (insP L (k, v)) HH.out.1 HH.out.2.1 HH.out.2.2.1 HR.out.2 HH.out.2.2.2).mono ?_
      rintro e w4 ⟨nd4, d4, t4, rfl, HT4, HB4⟩
      have HM4 : Hid (Mp w4 m (.pointer (some ⟨nd, 0, none⟩)) N) := HM3.out.1.keep HB4.out (Nat.le_refl _)
      have e0 := HM4.out.cell (i := 0) rfl
      have g0 := HM4.out.free 0
      clear d0 d1 g1
      go_wp2
      go_ret
      have hE := tr_root HT4.out.1 HT4.out.2.1 HT4.out.2.2.1 HM4.out (by rw [HT4.out.2.2.2, HR.out.1, if_neg (by rw [HEM.out]; simp)]) (grown_tr HM3.out.2 (below_grown HB4.out _))
      rw [HT4.out.2.2.2] at hE
      exact ⟨by rw [HEM.out]; rfl, hE.1, hE.2⟩
end Go.Proofs.Ytnagknlfboadkaa.Oct

/- Layer 7 (tree): Delete of a map of any keys, Clone, Depth. -/
namespace Go.Proofs.Ytnagknlfboadkaa.Oct
open Go.RowKit

/-- a map's root -/
def Root (w : World) (v : Option Addr) (L : List Pr) : Prop := (v = none ∧ L = []) ∨ ∃ (d : Nat) (t : T d) (nd : Nat), v = some ⟨nd, 0, none⟩ ∧ Lies w d t nd ∧ Good d t ∧ 1 ≤ (prs d t).length ∧ tl d t = L
theorem Root.oth {w w' : World} {m : Nat} {v : Option Addr} {L : List Pr} (h : Root w v L) (hg : w.grownBy w' (some m)) (ho : Oth w m) : Root w' v L := by
  rcases h with h | ⟨d, t, nd, h1, h2, h3⟩
  · exact .inl h
  · exact .inr ⟨d, t, nd, h1, h2.oth hg ho, h3⟩
theorem Root.tr {w : World} {m : Nat} {v : Option Addr} {L : List Pr} (h : Root w v L) (hm : Mp w m (.pointer v) L.length) : Tr w m L := by
  rcases h with ⟨h1, h2⟩ | ⟨d, t, nd, h1, h2, h3⟩
  · subst h1 h2; exact .inl ⟨hm, rfl⟩
  · subst h1; exact .inr ⟨d, t, nd, hm, h2, h3⟩
theorem tr_root2 {w w4 : World} {m c : Nat} {v : Option Addr} {r0 : Value} {L : List Pr} (h : Root w4 v L) (hm : Mp w4 m r0 c) (hc : c = L.length) (hgr : w.grownBy w4 (some m)) :
    Tr (w4.setCell ⟨m, 0, none⟩ (.pointer v)) m L ∧ w.grownBy (w4.setCell ⟨m, 0, none⟩ (.pointer v)) (some m) := by
  subst hc
  exact ⟨(h.oth (grown_setCell _ _ _ _) hm.oth).tr (Blk.set hm 0 _), grown_tr hgr (grown_setCell _ _ _ _)⟩
theorem asRoot_all (w : World) (d : Nat) (t : T d) (nd : Nat) (L : List Pr) (hl : Lies w d t nd) (hw : WF d t) (hL : tl d t = L) (hr : Ris L) (h7 : (prs d t).length ≤ 7) :
    Calls Try.prog 32 #[.pointer (some ⟨nd, 0, none⟩)] w fun e w' => ∃ v, e = .returned (.pointer v) ∧ Hid (Root w v L) ∧ w = w' := by
  by_cases h0 : 1 ≤ (prs d t).length
  · have : ∃ a n cap, w.cell? ⟨nd, 0, none⟩ = some (.slice a n cap) ∧ 0 < n := by
      match d, t, hl, h0 with
      | 0, t, hl, h0 =>
        obtain ⟨a, n, cap, h1, _⟩ := hl
        exact ⟨a, n, cap, h1.blk.cell (i := 0) rfl, by rw [← h1.rd.1]; exact h0⟩
      | d + 1, t, hl, h0 =>
        obtain ⟨a, n, cap, a', n', cap', bs, h1, _⟩ := hl
        exact ⟨a, n, cap, h1.blk.cell (i := 0) rfl, by rw [← h1.rd.1]; exact h0⟩
    obtain ⟨a, n, cap, hc, hn⟩ := this
    refine (asRoot_pos w nd n cap a hn hc).mono ?_
    rintro e w' ⟨rfl, rfl⟩
    exact ⟨_, rfl, .inr ⟨d, t, nd, rfl, hl, ⟨hw, by rw [hL]; exact hr, h7⟩, h0, hL⟩, rfl⟩
  · match d, t, hl, h0, hL, hw with
    | 0, t, hl, h0, hL, hw =>
      obtain ⟨a, n, cap, h1, _⟩ := hl
      have ht : t = ([] : List Pr) := List.eq_nil_of_length_eq_zero (by have : ¬ 1 ≤ List.length (t : List Pr) := h0; omega)
      have hn : n = 0 := by rw [← h1.rd.1, ht]; rfl
      subst hn
      refine (asRoot_leaf w nd cap a (h1.blk.cell (i := 0) rfl) (h1.blk.cell (i := 1) rfl)).mono ?_
      rintro e w' ⟨rfl, rfl⟩
      exact ⟨_, rfl, .inl ⟨rfl, by rw [← hL, ht]; rfl⟩, rfl⟩
    | d + 1, t, hl, h0, hL, hw =>
      obtain ⟨a, n, cap, a', n', cap', bs, h1, _, h3, _, h5, h6⟩ := hl
      have ht : t.1 = [] := List.eq_nil_of_length_eq_zero (by have : ¬ 1 ≤ t.1.length := h0; omega)
      have hn : n = 0 := by rw [← h1.rd.1, ht]; rfl
      subst hn
      have hlen := hw.1
      rw [ht] at hlen
      obtain ⟨k, hk⟩ := List.length_eq_one_iff.1 (show t.2.length = 1 by simpa using hlen)
      rw [hk] at h5
      obtain ⟨kb, hkb⟩ := List.length_eq_one_iff.1 (show bs.length = 1 by simpa using h5)
      subst hkb
      have hnn : 0 < n' := by rw [← h3.1]; simp
      obtain ⟨g, off, rfl, _, hc⟩ := h3.2 hnn
      have ck := hc 0 _ rfl
      have hkid := h6 0 k kb (by rw [hk]; rfl) rfl
      have hwk := hw.2 k (by rw [hk]; simp)
      have hLk : tl d k = L := by
        rw [← hL]
        show _ = inter (t.2.map (tl d)) t.1
        rw [hk, ht]; simp [inter, dn]
      refine (asRoot_node w nd cap g off n' cap' kb a (h1.blk.cell (i := 0) rfl) (h1.blk.cell (i := 1) rfl) hnn ck).mono ?_
      rintro e w' ⟨rfl, rfl⟩
      exact ⟨_, rfl, .inr ⟨d, k, kb, rfl, hkid, ⟨hwk.1, by rw [hLk]; exact hr, hwk.2.2⟩, by omega, hLk⟩, rfl⟩
theorem rem_no : ∀ {L : List Pr}, Ris L → ∀ k : ByteArray, eqs k L = [] → remP L k = L
  | [], _, _, _ => rfl
  | x :: L, h, k, he => by
    have hr : Ris L := (List.pairwise_cons.1 h).2
    have hx := (List.pairwise_cons.1 h).1
    cases h1 : Lt x.1 k with
    | true =>
      have e2 : eqs k L = [] := by
        unfold eqs at he ⊢
        rw [List.filter_cons] at he
        split at he
        · cases he
        · exact he
      have ih := rem_no hr k e2
      unfold remP lo hi at ih ⊢
      rw [List.filter_cons, if_pos h1, List.filter_cons, if_neg (by rw [lt_asymm h1]; simp), List.cons_append, ih]
    | false =>
      have h3 : Lt k x.1 = true := by
        cases h3 : Lt k x.1 with
        | true => rfl
        | false =>
          have := lt_total h1 h3
          unfold eqs at he
          rw [List.filter_cons, if_pos (eqb_iff.2 this)] at he
          cases he
      have hG : AllG k (x :: L) := fun y hy => by
        rcases List.mem_cons.1 hy with rfl | hy
        · exact h3
        · exact lt_trans h3 (hx y hy)
      unfold remP
      rw [lo_G hG, hi_G hG]; rfl
theorem eqs_of_empty {E : List Pr} (h : E.isEmpty = false) : E ≠ [] := by rintro rfl; simp at h

set_option maxRecDepth 100000 in
set_option maxHeartbeats 1000000 in
theorem tdel (w : World) (m : Nat) (L : List Pr) (k : ByteArray) (h : Tr w m L) (hb : L.length ≤ 1000000) : Calls Try.prog 18 #[.pointer (some ⟨m, 0, none⟩), .string k] w fun e w' => e = .returned (.bool (!(eqs k L).isEmpty)) ∧ Hid (Tr w' m (remP L k)) ∧ Hid (w.grownBy w' (some m)) := by
  have hrl := rem_len h.ris k
  have hrr := ris_rem h.ris k
  rcases h with ⟨h1, rfl⟩ | ⟨d, t, nd, h1, h2, h3, h4, hL⟩
  · have HM : Hid (Mp w m (.pointer none) 0) := h1
    have c2 := h1.cell (i := 2) rfl
    have c0 := h1.cell (i := 0) rfl
    clear h1
    go_enter Try.func18, Try.ntmps18
    go_wp2_with (first | (go_at_call 22; refine (made_is w m true c2).mono ?_; rintro e w2 ⟨rfl, rfl⟩) | (go_at_call 30; refine (get_nil w k).mono ?_; rintro e w3 ⟨rfl, hB⟩; have HB : Hid (Below w.heap.size w w3) := hB; clear hB))
    go_ret
    exact ⟨rfl, .inl ⟨HM.out.keep HB.out (Nat.le_refl _), rfl⟩, below_grown HB.out _⟩
  · have HM : Hid (Mp w m (.pointer (some ⟨nd, 0, none⟩)) L.length) := h1
    have HT : Hid (Lies w d t nd ∧ Good d t ∧ 1 ≤ (prs d t).length ∧ tl d t = L) := ⟨h2, h3, h4, hL⟩
    have HR : Hid ((remP L k).length = (if (eqs k L).isEmpty = true then L.length else L.length - 1) ∧ Ris (remP L k)) := ⟨hrl, hrr⟩
    have c0 := h1.cell (i := 0) rfl
    have c2 := h1.cell (i := 2) rfl
    have HNO : Hid (eqs k L = [] → remP L k = L) := fun he => rem_no (by rw [← hL]; exact h3.ris) k he
    obtain ⟨N, hN⟩ : ∃ N, L.length = N := ⟨_, rfl⟩
    rw [hN] at HM HR hb
    have HNL : Hid (L.length = N) := hN
    obtain ⟨E, hE⟩ : ∃ E, eqs k L = E := ⟨_, rfl⟩
    have HE : Hid (eqs k (tl d t) = E) := by show _ = _; rw [hL]; exact hE
    have HEL : Hid (E.isEmpty = false → 1 ≤ N) := fun he => by
      have := parts_len k L
      rw [hE] at this
      cases E with
      | nil => simp at he
      | cons x E => simp at this; omega
    rw [hE] at HR HNO ⊢
    clear h1 h2 h3 h4 hL hrl hrr hN hE
    go_enter Try.func18, Try.ntmps18
    go_wp2_with (first | (go_at_call 22; refine (made_is w m true c2).mono ?_; rintro e w2 ⟨rfl, rfl⟩) | fail)
    refine (get_is w d t nd k HT.out.1 HT.out.2.1).mono ?_
    rintro e w1 ⟨rfl, HB1⟩
    rw [HE.out]
    have HM1 : Hid (Mp w1 m (.pointer (some ⟨nd, 0, none⟩)) N) := HM.out.keep HB1.out (Nat.le_refl _)
    have d0 := HM1.out.cell (i := 0) rfl
    have d1 := HM1.out.cell (i := 1) rfl
    have g1 := HM1.out.free 1
    have q1 : (N : Int) ≤ 1000000 := by omega
    obtain ⟨V, hV⟩ : ∃ V, gv E = V := ⟨_, rfl⟩
    rw [hV]
    clear hV c0 c2
    cases hem : E.isEmpty with
    | true =>
      have HEM : Hid (E.isEmpty = true) := hem
      clear hem
      go_wp2_with fail
      go_ret
      refine ⟨by rw [HEM.out]; rfl, ?_, below_grown HB1.out _⟩
      rw [HNO.out (List.isEmpty_iff.1 HEM.out)]
      exact .inr ⟨d, t, nd, by rw [HNL.out]; exact HM1.out, HT.out.1.below HB1.out (Nat.le_refl _), HT.out.2.1, HT.out.2.2.1, HT.out.2.2.2⟩
    | false =>
      have HEM : Hid (E.isEmpty = false) := hem
      have hN1 := HEL.out hem
      have q2 : (1 : Int) ≤ (N : Int) := by omega
      have HN1 : Hid (((N - 1 : Nat) : Int) = (N : Int) - 1) := by show _ = _; omega
      clear hem hN1
      go_wp2_with fail
      have HM2 : Hid (Mp (w1.setCell ⟨m, 1, none⟩ (.int .i64 ((N : Int) - 1))) m (.pointer (some ⟨nd, 0, none⟩)) (N - 1)) := by
        show Mp _ _ _ _
        have := Blk.set HM1.out 1 (.int .i64 ((N - 1 : Nat) : Int))
        rw [HN1.out] at this
        unfold Mp; rw [HN1.out]
        exact this
      have HL2 : Hid (Lies (w1.setCell ⟨m, 1, none⟩ (.int .i64 ((N : Int) - 1))) d t nd) := (HT.out.1.below HB1.out (Nat.le_refl _)).oth (grown_setCell _ _ _ _) HM1.out.oth
      have HG2 : Hid (w.grownBy (w1.setCell ⟨m, 1, none⟩ (.int .i64 ((N : Int) - 1))) (some m)) := grown_tr (below_grown HB1.out _) (grown_setCell _ _ _ _)
      refine (rem_all d _ t nd k HL2.out HT.out.2.1 HT.out.2.2.1 (by rw [HE.out]; exact eqs_of_empty HEM.out)).mono ?_
      rintro e w3 ⟨nd2, t2, rfl, HL3, HT3, HB3⟩
      have HM3 : Hid (Mp w3 m (.pointer (some ⟨nd, 0, none⟩)) (N - 1)) := HM2.out.keep HB3.out (Nat.le_refl _)
      have HG3 : Hid (w.grownBy w3 (some m)) := grown_tr HG2.out (below_grown HB3.out _)
      clear d0 d1 g1
      go_wp2_with fail
      refine (asRoot_all w3 d t2 nd2 (remP L k) HL3.out HT3.out.2.1 (by rw [HT3.out.1, HT.out.2.2.2]) HR.out.2 (by have := HT3.out.2.2.1; have := HT.out.2.1.most; omega)).mono ?_
      rintro e w4 ⟨v, rfl, HRT, rfl⟩
      have e0 := HM3.out.cell (i := 0) rfl
      have g0 := HM3.out.free 0
      go_wp2
      go_ret
      have hE := tr_root2 HRT.out HM3.out (by rw [HR.out.1, if_neg (by rw [HEM.out]; simp)]) HG3.out
      exact ⟨by rw [HEM.out]; rfl, hE.1, hE.2⟩
end Go.Proofs.Ytnagknlfboadkaa.Oct

/- Layer 7 (tree): Depth of a map of any keys, and Clone. -/
namespace Go.Proofs.Ytnagknlfboadkaa.Oct
open Go.RowKit

theorem dn_len : ∀ {ps : List Pr} {ls : List (List Pr)}, ls.length = ps.length → (dn ps ls).length = (ls.map (fun l => l.length + 1)).sum
  | [], [], _ => rfl
  | [], _ :: _, h => by simp at h
  | _ :: _, [], h => by simp at h
  | p :: ps, l :: ls, h => by
    have ih := dn_len (ps := ps) (ls := ls) (by simpa using h)
    unfold dn at ih ⊢
    rw [List.zipWith_cons_cons, List.flatten_cons, List.length_append, ih]
    simp
theorem inter_len {ps : List Pr} {ls : List (List Pr)} (h : ls.length = ps.length + 1) : (inter ls ps).length + 1 = (ls.map (fun l => l.length + 1)).sum := by
  cases ls with
  | nil => simp at h
  | cons l ls =>
    show (l ++ dn ps ls).length + 1 = _
    rw [List.length_append, dn_len (by simpa using h)]
    simp; omega
theorem sum_ge {c : Nat} : ∀ {l : List Nat}, (∀ x ∈ l, c ≤ x) → l.length * c ≤ l.sum
  | [], _ => by simp
  | x :: l, h => by
    have ih := sum_ge (l := l) fun y hy => h y (List.mem_cons_of_mem _ hy)
    have := h x List.mem_cons_self
    simp only [List.length_cons, List.sum_cons, Nat.add_mul, Nat.one_mul]; omega
theorem sum_le {c : Nat} : ∀ {l : List Nat}, (∀ x ∈ l, x ≤ c) → l.sum ≤ l.length * c
  | [], _ => by simp
  | x :: l, h => by
    have ih := sum_le (l := l) fun y hy => h y (List.mem_cons_of_mem _ hy)
    have := h x List.mem_cons_self
    simp only [List.length_cons, List.sum_cons, Nat.add_mul, Nat.one_mul]; omega
/-- how many pairs a tree has, by its root's -/
theorem filled : ∀ (d : Nat) (t : T d), WF d t → ((prs d t).length + 1) * 4 ^ d ≤ (tl d t).length + 1 ∧ (tl d t).length + 1 ≤ ((prs d t).length + 1) * 8 ^ d
  | 0, t, _ => by show (_ + 1) * 1 ≤ _ ∧ _ ≤ (_ + 1) * 1; rw [Nat.mul_one]; exact ⟨Nat.le_refl _, Nat.le_refl _⟩
  | d + 1, t, h => by
    show (t.1.length + 1) * 4 ^ (d + 1) ≤ (inter (t.2.map (tl d)) t.1).length + 1 ∧ (inter (t.2.map (tl d)) t.1).length + 1 ≤ (t.1.length + 1) * 8 ^ (d + 1)
    rw [inter_len (by rw [List.length_map]; exact h.1), List.map_map, ← h.1]
    have hk : ∀ k ∈ t.2, 4 ^ (d + 1) ≤ (tl d k).length + 1 ∧ (tl d k).length + 1 ≤ 8 ^ (d + 1) := by
      intro k hk
      obtain ⟨h1, h2, h3⟩ := h.2 k hk
      have ih := filled d k h1
      have e1 : 4 * 4 ^ d ≤ ((prs d k).length + 1) * 4 ^ d := Nat.mul_le_mul_right _ (by omega)
      have e2 : ((prs d k).length + 1) * 8 ^ d ≤ 8 * 8 ^ d := Nat.mul_le_mul_right _ (by omega)
      rw [Nat.pow_succ, Nat.pow_succ, Nat.mul_comm _ 4, Nat.mul_comm _ 8]
      omega
    have g1 := sum_ge (c := 4 ^ (d + 1)) (l := t.2.map ((fun l => l.length + 1) ∘ tl d)) fun x hx => by
      obtain ⟨k, hk', rfl⟩ := List.mem_map.1 hx
      exact (hk k hk').1
    have g2 := sum_le (c := 8 ^ (d + 1)) (l := t.2.map ((fun l => l.length + 1) ∘ tl d)) fun x hx => by
      obtain ⟨k, hk', rfl⟩ := List.mem_map.1 hx
      exact (hk k hk').2
    rw [List.length_map] at g1 g2
    exact ⟨g1, g2⟩
/-- a depth is right for so many keys -/
def DepthOk (D n : Nat) : Prop := (D = 0 ∧ n = 0) ∨ (1 ≤ D ∧ 1 ≤ n ∧ 2 * 4 ^ (D - 1) ≤ n + 1 ∧ n + 1 ≤ 8 ^ D)
theorem pow_gt {d : Nat} (h : 10 < d) : 1000000 < 4 ^ d := Nat.lt_of_lt_of_le (by decide : 1000000 < 4 ^ 10) (Nat.pow_le_pow_right (by omega) (by omega))
theorem tdepth (w : World) (m : Nat) (L : List Pr) (h : Tr w m L) (hb : L.length ≤ 1000000) : Calls Try.prog 20 #[.pointer (some ⟨m, 0, none⟩)] w fun e w' => ∃ D : Nat, e = .returned (.int .i64 (D : Int)) ∧ Hid (DepthOk D L.length) ∧ w = w' := by
  rcases h with ⟨h1, rfl⟩ | ⟨d, t, nd, h1, h2, h3, h4, rfl⟩
  · have c2 := h1.cell (i := 2) rfl
    have c0 := h1.cell (i := 0) rfl
    clear h1
    have HZ : Hid (Calls Try.prog 35 #[.pointer none] w fun e w' => e = .returned (.int .i64 0) ∧ w = w') := by
      show Calls _ _ _ _ _
      go_enter Try.func35, Try.ntmps35
      go_wp2
      go_ret
      exact ⟨rfl, rfl⟩
    go_enter Try.func20, Try.ntmps20
    go_wp2_with (first | (go_at_call 22; refine (made_is w m true c2).mono ?_; rintro e w2 ⟨rfl, rfl⟩) | (go_at_call 35; refine HZ.out.mono ?_; rintro e w3 ⟨rfl, rfl⟩))
    go_ret
    exact ⟨0, rfl, .inl ⟨rfl, rfl⟩, rfl⟩
  · have hf := filled d t h3.wf
    have hlow : 2 * 4 ^ d ≤ ((prs d t).length + 1) * 4 ^ d := Nat.mul_le_mul_right _ (by omega)
    have hup : ((prs d t).length + 1) * 8 ^ d ≤ 8 * 8 ^ d := Nat.mul_le_mul_right _ (by have := h3.most; omega)
    have hpos : 1 ≤ 4 ^ d := Nat.one_le_pow _ _ (by omega)
    have hd : d ≤ 1000 := by
      refine Nat.le_of_not_lt fun hc => ?_
      have := pow_gt (d := d) (by omega)
      omega
    have HO : Hid (DepthOk (d + 1) (tl d t).length) := .inr ⟨by omega, by omega, by show 2 * 4 ^ d ≤ _; omega, by rw [Nat.pow_succ, Nat.mul_comm]; omega⟩
    have HC : Hid (Calls Try.prog 35 #[.pointer (some ⟨nd, 0, none⟩)] w fun e w' => e = .returned (.int .i64 ((d + 1 : Nat) : Int)) ∧ w = w') := depth_all d hd w t nd h2 h3.wf
    have c2 := h1.cell (i := 2) rfl
    have c0 := h1.cell (i := 0) rfl
    clear h1 h2 h3 h4 hf hlow hup hpos hd hb
    generalize d + 1 = D at *
    go_enter Try.func20, Try.ntmps20
    go_wp2_with (first | (go_at_call 22; refine (made_is w m true c2).mono ?_; rintro e w2 ⟨rfl, rfl⟩) | (go_at_call 35; refine HC.out.mono ?_; rintro e w3 ⟨rfl, rfl⟩))
    go_ret
    exact ⟨D, rfl, HO, rfl⟩
theorem Tr.root {w : World} {m : Nat} {L : List Pr} (h : Tr w m L) : ∃ p, Mp w m (.pointer p) L.length ∧ Root w p L := by
  rcases h with ⟨h1, rfl⟩ | ⟨d, t, nd, h1, h2, h3⟩
  · exact ⟨none, h1, .inl ⟨rfl, rfl⟩⟩
  · exact ⟨_, h1, .inr ⟨d, t, nd, rfl, h2, h3⟩⟩
theorem Root.below {w w' : World} {v : Option Addr} {L : List Pr} (h : Root w v L) (hb : Below w.heap.size w w') : Root w' v L := by
  rcases h with h | ⟨d, t, nd, h1, h2, h3⟩
  · exact .inl h
  · exact .inr ⟨d, t, nd, h1, h2.below hb (Nat.le_refl _), h3⟩
/-- a clone is a map of its own, of the same root -/
theorem tclone (w : World) (m : Nat) (L : List Pr) (h : Tr w m L) : Calls Try.prog 11 #[.pointer (some ⟨m, 0, none⟩)] w fun e w' => ∃ c : Nat, e = .returned (.pointer (some ⟨c, 0, none⟩)) ∧ Hid (c = w.heap.size ∧ Tr w' c L ∧ Tr w' m L) ∧ Hid (Below w.heap.size w w') := by
  have HT : Hid (Tr w m L) := h
  obtain ⟨p, h1, h2⟩ := h.root
  have HR : Hid (Root w p L) := h2
  have c2 := h1.cell (i := 2) rfl
  have c0 := h1.cell (i := 0) rfl
  have c1 := h1.cell (i := 1) rfl
  clear h1 h2 h
  go_enter Try.func11, Try.ntmps11
  go_wp2_with (first | (go_at_call 22; refine (made_is w m true c2).mono ?_; rintro e w2 ⟨rfl, rfl⟩))
  go_ret
  have e1 := Blk.new w #[.pointer p, .int .i64 (L.length : Int), .bool true] 48
  have hB : Below w.heap.size w _ := (Below.refl _ w).alloc (Nat.le_refl _) (Obj.cells #[.pointer p, .int .i64 (L.length : Int), .bool true] 48)
  exact ⟨_, rfl, ⟨rfl, (HR.out.below hB).tr e1, HT.out.below hB⟩, hB⟩
end Go.Proofs.Ytnagknlfboadkaa.Oct

/- Layer 7 (tree): what 'from' tells of a tree, as lists; the way out behind many ranges. -/
namespace Go.Proofs.Ytnagknlfboadkaa.Oct
open Go.RowKit Go.Shelf

/-- the pairs from a key on -/
def ge (key : ByteArray) (L : List Pr) : List Pr := L.filter (fun x => geS x.1 key)
theorem ge_app (key : ByteArray) (A B : List Pr) : ge key (A ++ B) = ge key A ++ ge key B := List.filter_append ..
theorem ge_L {key : ByteArray} {A : List Pr} (h : AllL key A) : ge key A = [] := List.filter_eq_nil_iff.2 fun x hx => by rw [geS_eq, h x hx]; simp
theorem ge_leaf {ps : List Pr} {key : ByteArray} {k : Nat} (h : AtP ps key k) : ge key ps = ps.drop k := by
  have e : ge key (ps.take k ++ ps.drop k) = ps.drop k := by
    rw [ge_app]
    have h1 : ge key (ps.take k) = [] := List.filter_eq_nil_iff.2 fun x hx => by
      obtain ⟨i, hi, rfl⟩ := List.mem_iff_getElem.1 hx
      have hik : i < k := by rw [List.length_take] at hi; omega
      have hip : i < ps.length := by rw [List.length_take] at hi; omega
      rw [List.getElem_take, h.2.1 i _ hik (List.getElem?_eq_getElem hip)]; simp
    have h2 : ge key (ps.drop k) = ps.drop k := List.filter_eq_self.2 fun x hx => by
      obtain ⟨i, hi, rfl⟩ := List.mem_iff_getElem.1 hx
      have hip : k + i < ps.length := by rw [List.length_drop] at hi; omega
      rw [List.getElem_drop]
      exact h.2.2 (k + i) _ (by omega) (List.getElem?_eq_getElem hip)
    rw [h1, h2]; rfl
  rwa [List.take_append_drop] at e
/-- how many pairs are told ahead of a kid -/
def Offs (key : ByteArray) (ls : List (List Pr)) (ps : List Pr) (i : Nat) : Nat := (ge key (upp (ls.take i) (ps.take i))).length
section
variable {ls : List (List Pr)} {ps : List Pr} {key : ByteArray} {i : Nat} {l : List Pr}
theorem ge_split (hl : ls.length = ps.length + 1) (hi : ls[i]? = some l) : ge key (inter ls ps) = ge key (upp (ls.take i) (ps.take i)) ++ ge key l ++ ge key (dn (ps.drop i) (ls.drop (i + 1))) := by
  rw [inter_at i l hl hi, ge_app, ge_app]
theorem ge_kid (hl : ls.length = ps.length + 1) (hi : ls[i]? = some l) {s : Nat} {x : Pr} (hx : (ge key l)[s]? = some x) : (ge key (inter ls ps))[Offs key ls ps i + s]? = some x := by
  have hs := (List.getElem?_eq_some_iff.1 hx).1
  rw [ge_split hl hi, List.append_assoc, List.getElem?_append_right (by unfold Offs; omega), List.getElem?_append_left (by unfold Offs; omega)]
  rw [show Offs key ls ps i + s - (ge key (upp (ls.take i) (ps.take i))).length = s by unfold Offs; omega]
  exact hx
theorem dn_at {p : Pr} (hl : ls.length = ps.length + 1) (hp : ps[i]? = some p) : ∃ r, dn (ps.drop i) (ls.drop (i + 1)) = p :: r := by
  have hip := (List.getElem?_eq_some_iff.1 hp).1
  have h1 : ps.drop i = p :: ps.drop (i + 1) := by
    rw [List.drop_eq_getElem_cons hip]
    rw [List.getElem?_eq_getElem hip] at hp
    rw [Option.some.inj hp]
  have h2 : ls.drop (i + 1) = ls[i + 1]'(by omega) :: ls.drop (i + 1 + 1) := List.drop_eq_getElem_cons (by omega)
  rw [h1, h2]
  unfold dn
  rw [List.zipWith_cons_cons, List.flatten_cons]
  exact ⟨_, rfl⟩
theorem ge_pair {p : Pr} (hl : ls.length = ps.length + 1) (hi : ls[i]? = some l) (hp : ps[i]? = some p) (hg : geS p.1 key = true) : (ge key (inter ls ps))[Offs key ls ps i + (ge key l).length]? = some p := by
  obtain ⟨r, hr⟩ := dn_at hl hp
  have hlen : (ge key (upp (ls.take i) (ps.take i)) ++ ge key l).length = Offs key ls ps i + (ge key l).length := by rw [List.length_append]; rfl
  rw [ge_split hl hi, List.getElem?_append_right (by omega), hlen, Nat.sub_self, hr]
  unfold ge
  rw [List.filter_cons, if_pos hg]
  rfl
theorem offs_next {p : Pr} (hl : ls.length = ps.length + 1) (hi : ls[i]? = some l) (hp : ps[i]? = some p) (hg : geS p.1 key = true) : Offs key ls ps (i + 1) = Offs key ls ps i + (ge key l).length + 1 := by
  have hip := (List.getElem?_eq_some_iff.1 hp).1
  unfold Offs
  rw [List.take_add_one, List.take_add_one, hi, hp, upp_app (by rw [List.length_take, List.length_take]; omega), ge_app, List.length_append]
  have : ge key (upp [l] [p]) = ge key l ++ [p] := by
    have e : upp [l] [p] = l ++ [p] := by simp [upp]
    rw [e, ge_app]
    unfold ge
    rw [List.filter_cons, if_pos hg]; rfl
  show _ + (ge key (upp [l] [p])).length = _
  rw [this]; simp; omega
theorem offs_end (hl : ls.length = ps.length + 1) (hi : ls[ps.length]? = some l) : (ge key (inter ls ps)).length = Offs key ls ps ps.length + (ge key l).length := by
  rw [ge_split hl hi, List.length_append, List.length_append, List.drop_length]
  have : dn [] (ls.drop (ps.length + 1)) = [] := by simp [dn]
  rw [this]; rfl
theorem offs_first (hl : ls.length = ps.length + 1) (hr : Ris (inter ls ps)) {k : Nat} (ha : AtP ps key k) : Offs key ls ps k = 0 := by
  have hk := ha.1
  have hkl : k < ls.length := by omega
  have e := inter_at (ps := ps) k (ls[k]) hl (List.getElem?_eq_getElem hkl)
  rw [e] at hr
  have hL : AllL key (ps.take k) := by
    intro x hx
    obtain ⟨i, hi, rfl⟩ := List.mem_iff_getElem.1 hx
    have hik : i < k := by rw [List.length_take] at hi; omega
    have hip : i < ps.length := by omega
    have := ha.2.1 i _ hik (List.getElem?_eq_getElem hip)
    rw [geS_eq] at this
    rw [List.getElem_take]
    simpa using this
  unfold Offs
  rw [ge_L (upp_L (by rw [List.length_take, List.length_take]; omega) hr.left.left hL)]; rfl
end
/-- what a tree may lie in -/
def Kept (A0 A : World) : Prop := ∀ b e, (e = 40 ∨ e = 46 ∨ e = 67) → RowT A0 e b → A.heap[b]? = A0.heap[b]?
theorem cell_same {A0 A : World} {g off : Nat} (h : A.heap[g]? = A0.heap[g]?) : A.cell? ⟨g, off, none⟩ = A0.cell? ⟨g, off, none⟩ := by
  simp only [World.cell?, h]
theorem RdP.fix {A0 A : World} {a : Option Addr} {n : Nat} {ps : List Pr} (h : RdP A0 a n ps) (hk : Kept A0 A) : RdP A a n ps := by
  refine ⟨h.1, fun hp => ?_⟩
  obtain ⟨g, off, e, h1, h2⟩ := h.2 hp
  have hs := hk g 40 (.inl rfl) h1
  exact ⟨g, off, e, h1.same hs, fun k x hk => ⟨(cell_same hs).trans (h2 k x hk).1, (cell_same hs).trans (h2 k x hk).2⟩⟩
theorem RdK.fix {A0 A : World} {a : Option Addr} {n : Nat} {bs : List Nat} (h : RdK A0 a n bs) (hk : Kept A0 A) : RdK A a n bs := by
  refine ⟨h.1, fun hp => ?_⟩
  obtain ⟨g, off, e, h1, h2⟩ := h.2 hp
  have hs := hk g 46 (.inr (.inl rfl)) h1
  exact ⟨g, off, e, h1.same hs, fun k x hk => (cell_same hs).trans (h2 k x hk)⟩
theorem Nd.fix {A0 A : World} {nd : Nat} {a : Option Addr} {n cap : Nat} {ps : List Pr} {kv : Value} (h : Nd A0 nd a n cap ps kv) (hk : Kept A0 A) : Nd A nd a n cap ps kv :=
  ⟨(hk nd 67 (.inr (.inr rfl)) h.blk.row).trans h.blk, h.rd.fix hk⟩
def mark (m : Nat) : Deferred := { target := .collected m, args := #[] }
/-- a return behind many ranges -/
theorem ret_marks {n : Nat} {tmps : Array Value} {R : Ending → World → Prop} {D : Nat} {I : World → Prop} (hI : ∀ A B, I A → BelowR D A B → I B) (hR : ∀ A v, I A → R (.returned v) A) :
    ∀ (ms : List Nat) (w : World), I w → ms.Nodup → (∀ m ∈ ms, D ≤ m ∧ w.heap[m]? = some (.deferred (some []))) → LeavesInM Fence.wide n Try.prog Try.f37 tmps R (ms.map mark) .returning w
  | [], w, hw, _, _ => ⟨_, results_none rfl _ _ _, hR _ _ hw⟩
  | m :: ms, w, hw, hn, hm => by
    have h1 := hm m List.mem_cons_self
    refine ⟨by simp, .inl ⟨_, _, rfl, run_takeDeferred h1.2, ?_⟩⟩
    refine ret_marks hI hR ms _ (hI _ _ hw (belowR_putObj _ h1.1 h1.2 def_row)) (List.nodup_cons.1 hn).2 fun m' hm' => ?_
    have h2 := hm m' (List.mem_cons_of_mem _ hm')
    refine ⟨h2.1, (World.putObj_heap_other ?_).trans h2.2⟩
    rintro rfl
    exact (List.nodup_cons.1 hn).1 hm'
end Go.Proofs.Ytnagknlfboadkaa.Oct

/- Layer 7 (tree): the range over a kid's iterator within the closure of 'from'. -/
namespace Go.Proofs.Ytnagknlfboadkaa.Oct
open Go.RowKit Go.Shelf
attribute [local go_sem] Oper.semAt_some

def FromC (d : Nat) : Prop := ∀ (dp l1 Bn Bk nd : Nat) (t : T d) (key : ByteArray) (A0 : World), Lies A0 d t nd → Good d t → ∀ (m₀ : Nat) (J : Nat → World → Prop) (Jx : World → Prop),
    (∀ s A B, J s A → BelowR m₀ A B → J s B) → (∀ A B, Jx A → BelowR m₀ A B → Jx B) →
    (∀ A, Jx A → A.cell? ⟨Bn, 0, none⟩ = some (.pointer (some ⟨nd, 0, none⟩)) ∧ Kept A0 A) →
    (∀ s A, J s A → A.cell? ⟨Bn, 0, none⟩ = some (.pointer (some ⟨nd, 0, none⟩)) ∧ A.cell? ⟨Bk, 0, none⟩ = some (.string key) ∧ Kept A0 A ∧ m₀ ≤ A.heap.size) →
    (∀ s x A, J s A → (ge key (tl d t))[s]? = some x → YieldAt Fence.wide 0 Try.prog l1 (encQ x) A fun e B => Held m₀ A B ∧ ((e = .returned (.bool true) ∧ J (s + 1) B) ∨ (e = .returned (.bool false) ∧ Jx B))) →
    ∀ (W : World), W.heap.size = m₀ → J 0 W →
    CallsIn Fence.wide dp Try.prog 37 #[.func (.yield l1) #[] #[], .pointer (some ⟨Bn, 0, none⟩), .pointer (some ⟨Bk, 0, none⟩)] W fun e B => (∃ v, e = .returned v) ∧ (J (ge key (tl d t)).length B ∨ Jx B)

def Marked (ms : List Nat) (A : World) : Prop := ∀ m ∈ ms, A.heap[m]? = some (.deferred (some []))
theorem Marked.held {ms : List Nat} {A B : World} {m₀ : Nat} (h : Marked ms A) (hH : Held m₀ A B) (hm : ∀ m ∈ ms, m₀ ≤ m) : Marked ms B := fun m hmm => hH.obj (h m hmm) def_row (hm m hmm)
theorem Marked.below {ms : List Nat} {A B : World} {D : Nat} (h : Marked ms A) (hb : Below D A B) (hm : ∀ m ∈ ms, m < D) : Marked ms B := fun m hmm => (hb.block _ (hm m hmm)).trans (h m hmm)
/-- between two rounds of the range over a kid's iterator -/
structure KInv (J : Nat → World → Prop) (o m₀ l1 b0 kb : Nat) (key : ByteArray) (ms : List Nat) (s : Nat) (A : World) : Prop where
  j : J (o + s) A
  y : A.heap[m₀]? = some (.cells #[.func (.yield l1) #[] #[]] 42)
  n : A.heap[b0]? = some (.cells #[.pointer (some ⟨kb, 0, none⟩)] 46)
  k : A.heap[b0 + 1]? = some (.cells #[.string key] 9)
  mr : Marked ms A
structure KOut (Jx : World → Prop) (b0 kb : Nat) (ms : List Nat) (c : Code) (A : World) : Prop where
  ret : c = .ret
  j : Jx A
  n : A.heap[b0]? = some (.cells #[.pointer (some ⟨kb, 0, none⟩)] 46)
  mr : Marked ms A

set_option maxRecDepth 100000 in
set_option maxHeartbeats 2000000 in
theorem kid_range {Q : Exit → Act → World → Prop} {y0 y1 y2 y4 y5 y6 y7 y8 y9 y10 y11 y12 y13 y14 y15 y16 y17 y18 y19 y20 y21 y22 y23 y24 y25 y26 y27 y28 y29 y30 y31 y32 y33 y34 y35 y36 y37 y39 y40 y41 y42 y43 y44 y45 y46 y47 y48 y49 y50 y51 y52 y53 y54 y55 y56 y57 y58 y59 y60 y61 y62 y63 y64 y65 y66 y67 y68 y69 y70 y71 y72 y73 : Value} {ds : List Deferred} {w1 : World} {dp l1 m₀ b0 kb d o : Nat} (t : T d) (key : ByteArray) (A0 : World) (hl0 : Lies A0 d t kb) (hg : Good d t) (IH : FromC d) (J : Nat → World → Prop) (Jx : World → Prop) (ms : List Nat)
    (hJb : ∀ s A B, J s A → BelowR m₀ A B → J s B) (hJxb : ∀ A B, Jx A → BelowR m₀ A B → Jx B) (hL : ∀ s A, J s A → Kept A0 A) (hLx : ∀ A, Jx A → Kept A0 A)
    (hY : ∀ s x A, J (o + s) A → (ge key (tl d t))[s]? = some x → YieldAt Fence.wide 0 Try.prog l1 (encQ x) A fun e B => Held m₀ A B ∧ ((e = .returned (.bool true) ∧ J (o + s + 1) B) ∨ (e = .returned (.bool false) ∧ Jx B)))
    (hb0 : m₀ < b0) (hsz : w1.heap.size = b0 + 2) (hm : ∀ m ∈ ms, m₀ ≤ m ∧ m < b0) (h0 : KInv J o m₀ l1 b0 kb key ms 0 w1)
    (hdone : ∀ A, J (o + (ge key (tl d t)).length) A → A.heap[m₀]? = some (.cells #[.func (.yield l1) #[] #[]] 42) → Marked (w1.heap.size :: ms) A → Q .normal { tmps := #[y0, y1, y2, .pointer (some ⟨m₀, 0, none⟩), y4, y5, y6, y7, y8, y9, y10, y11, y12, y13, y14, y15, y16, y17, y18, y19, y20, y21, y22, y23, y24, y25, y26, y27, y28, y29, y30, y31, y32, y33, y34, y35, y36, y37, .func (.func 37) #[] #[.pointer (some ⟨b0, 0, none⟩), .pointer (some ⟨b0 + 1, 0, none⟩)], y39, y40, y41, y42, y43, y44, y45, y46, y47, y48, y49, y50, y51, y52, y53, y54, y55, y56, y57, y58, y59, y60, y61, y62, y63, y64, y65, y66, y67, y68, y69, y70, y71, y72, y73], defers := mark w1.heap.size :: ds } A)
    (hstop : ∀ A, Jx A → Marked (w1.heap.size :: ms) A → Q .ret { tmps := #[y0, y1, y2, .pointer (some ⟨m₀, 0, none⟩), y4, y5, y6, y7, y8, y9, y10, y11, y12, y13, y14, y15, y16, y17, y18, y19, y20, y21, y22, y23, y24, y25, y26, y27, y28, y29, y30, y31, y32, y33, y34, y35, y36, y37, .func (.func 37) #[] #[.pointer (some ⟨b0, 0, none⟩), .pointer (some ⟨b0 + 1, 0, none⟩)], y39, y40, y41, y42, y43, y44, y45, y46, y47, y48, y49, y50, y51, y52, y53, y54, y55, y56, y57, y58, y59, y60, y61, y62, y63, y64, y65, y66, y67, y68, y69, y70, y71, y72, y73], defers := mark w1.heap.size :: ds } A) :
    (Code.rangeFunc (Operand.tmp 38) #[39, 40] (Code.seq (Code.region 8 #[{ dst := some 7, op := Op.assign (Operand.tmp 39), type := 9, pos := "node.go:72", after := #[], guard := none }] false) (Code.region 9 #[{ dst := some 8, op := Op.assign (Operand.tmp 40), type := 9, pos := "node.go:72", after := #[], guard := none }] false)) (Code.block 3 (Code.seq (Code.region 10 #[{ dst := some 41, op := Op.load 42 (Operand.tmp 3), type := 42, pos := "node.go:73", after := #[], guard := none }, { dst := some 42, op := Op.move (Operand.tmp 7), type := 9, pos := "node.go:73", after := #[], guard := none }, { dst := some 43, op := Op.move (Operand.tmp 8), type := 9, pos := "node.go:73", after := #[], guard := none }, { dst := some 44, op := Op.call { callee := Callee.value (Operand.tmp 41), args := #[Operand.tmp 42, Operand.tmp 43], argTypes := #[9, 9] }, type := 4, pos := "node.go:73", after := #[{ on := 0, ground := Ground.data }, { on := 1, ground := Ground.data }, { on := 2, ground := Ground.data }], guard := none }, { dst := some 45, op := Op.unOp UnOp.not 4 (Operand.tmp 44), type := 4, pos := "node.go:73", after := #[{ on := 3, ground := Ground.data }], guard := none }] false) (Code.cond (Operand.tmp 45) Code.ret Code.skip)))).wpIn Fence.wide dp Try.prog Q { tmps := #[y0, y1, y2, .pointer (some ⟨m₀, 0, none⟩), y4, y5, y6, y7, y8, y9, y10, y11, y12, y13, y14, y15, y16, y17, y18, y19, y20, y21, y22, y23, y24, y25, y26, y27, y28, y29, y30, y31, y32, y33, y34, y35, y36, y37, .func (.func 37) #[] #[.pointer (some ⟨b0, 0, none⟩), .pointer (some ⟨b0 + 1, 0, none⟩)], y39, y40, y41, y42, y43, y44, y45, y46, y47, y48, y49, y50, y51, y52, y53, y54, y55, y56, y57, y58, y59, y60, y61, y62, y63, y64, y65, y66, y67, y68, y69, y70, y71, y72, y73], defers := ds } w1 := by
  refine rangeLeave (gf := 37) (lb := #[.pointer (some ⟨b0, 0, none⟩), .pointer (some ⟨b0 + 1, 0, none⟩)]) rfl (enters_of Try.func37 (by kernel_rfl) rfl) (fun _ x => encQ x) (fun _ _ => rfl) (ge key (tl d t))
    (KInv J o m₀ l1 b0 kb key ms) (KOut Jx b0 kb ms) ?hI ?hIx h0
    (fun _ x => { tmps := #[y0, y1, y2, .pointer (some ⟨m₀, 0, none⟩), y4, y5, y6, .string x.1, .string x.2, y9, y10, y11, y12, y13, y14, y15, y16, y17, y18, y19, y20, y21, y22, y23, y24, y25, y26, y27, y28, y29, y30, y31, y32, y33, y34, y35, y36, y37, .func (.func 37) #[] #[.pointer (some ⟨b0, 0, none⟩), .pointer (some ⟨b0 + 1, 0, none⟩)], .string x.1, .string x.2, y41, y42, y43, y44, y45, y46, y47, y48, y49, y50, y51, y52, y53, y54, y55, y56, y57, y58, y59, y60, y61, y62, y63, y64, y65, y66, y67, y68, y69, y70, y71, y72, y73], defers := [] }) ?assign ?body ?iter ?done ?stop
  case hI =>
    rintro s A B h hb
    rw [hsz] at hb
    exact ⟨hJb _ A B h.j (hb.mono (by omega)), (hb.below.block _ (by omega)).trans h.y, (hb.below.block _ (by omega)).trans h.n, (hb.below.block _ (by omega)).trans h.k, h.mr.below hb.below fun m hmm => by have := hm m hmm; omega⟩
  case hIx =>
    rintro c A B h hb
    rw [hsz] at hb
    exact ⟨h.ret, hJxb A B h.j (hb.mono (by omega)), (hb.below.block _ (by omega)).trans h.n, h.mr.below hb.below fun m hmm => by have := hm m hmm; omega⟩
  case assign =>
    intro s x A K hK
    dsimp only [encQ]
    gi_wp2
    exact hK
  case body =>
    rintro s x A h hx hlt
    have HI : Hid (KInv J o m₀ l1 b0 kb key ms s A) := h
    have cy := cell_one h.y
    obtain ⟨fn, tmps, asg, bdy, hy, hR⟩ : YieldAt Fence.wide (dp - 1 - 1 - 1) Try.prog l1 #[.string x.1, .string x.2] A fun e B => Held m₀ A B ∧ ((e = .returned (.bool true) ∧ J (o + s + 1) B) ∨ (e = .returned (.bool false) ∧ Jx B)) := YieldAt.deep _ (hY s x A h.j hx)
    have HX : Hid (∀ B, Held m₀ A B → B.heap[m₀]? = some (.cells #[.func (.yield l1) #[] #[]] 42) ∧ B.heap[b0]? = some (.cells #[.pointer (some ⟨kb, 0, none⟩)] 46) ∧ B.heap[b0 + 1]? = some (.cells #[.string key] 9) ∧ Marked ms B ∧ Held w1.heap.size A B) := fun B hB =>
      ⟨hB.box HI.out.y (by decide) (Nat.le_refl _), hB.box HI.out.n (by decide) (by omega), hB.box HI.out.k (by decide) (by omega), HI.out.mr.held hB (fun m hmm => (hm m hmm).1), hB.mono (by omega)⟩
    clear hx hlt h
    gi_wp2
    refine ⟨(fun h => by cases h), hR.mono ?_⟩
    rintro e B ⟨hH, ⟨rfl, hJ3⟩ | ⟨rfl, hJ3⟩⟩
    · have HJ3 : Hid (J (o + s + 1) B ∧ Held m₀ A B) := ⟨hJ3, hH⟩
      clear hy hR hJ3 hH cy
      gi_wp2
      have hx := HX.out B HJ3.out.2
      exact ⟨⟨HJ3.out.1, hx.1, hx.2.1, hx.2.2.1, hx.2.2.2.1⟩, hx.2.2.2.2⟩
    · have HJ3 : Hid (Jx B ∧ Held m₀ A B) := ⟨hJ3, hH⟩
      clear hy hR hJ3 hH cy
      gi_wp2
      have hx := HX.out B HJ3.out.2
      exact ⟨⟨rfl, HJ3.out.1, hx.2.1, hx.2.2.2.1⟩, hx.2.2.2.2⟩
  case iter =>
    intro J' Jx' A hS hB hJ'b hJx'b hJ'I hJ'X hY' h0'
    refine IH _ _ _ _ kb t key A0 hl0 hg (w1.heap.size + 2) J' Jx' hJ'b hJx'b ?_ ?_ (fun s x A hj hx => YieldAt.deep 0 (hY' s x A hj hx)) A hS h0'
    · intro A hA
      obtain ⟨⟨c, hc⟩, _⟩ := hJ'X A hA
      exact ⟨cell_one hc.n, hLx _ hc.j⟩
    · intro s A hA
      obtain ⟨hI, hsz⟩ := hJ'I s A hA
      exact ⟨cell_one hI.n, cell_one hI.k, hL _ _ hI.j, hsz⟩
  case done =>
    rintro A h hK
    exact hdone A h.j h.y fun m hmm => by
      rcases List.mem_cons.1 hmm with rfl | hmm
      · exact hK
      · exact h.mr m hmm
  case stop =>
    rintro c A h hK
    obtain rfl := h.ret
    clear hsz
    gi_wp2
    exact hstop A h.j fun m hmm => by
      rcases List.mem_cons.1 hmm with rfl | hmm
      · exact hK
      · exact h.mr m hmm
end Go.Proofs.Ytnagknlfboadkaa.Oct

/- Layer 7 (tree): the closure of 'from', over a tree of any depth. -/
namespace Go.Proofs.Ytnagknlfboadkaa.Oct
open Go.RowKit Go.Shelf
attribute [local go_sem] Oper.semAt_some

/-- the closure's act between two rounds -/
inductive ActOf (Bn Bk m₀ i : Nat) (ds : List Deferred) : Act → Prop
  | mk (y0 y4 y5 y7 y8 y9 y10 y11 y12 y13 y14 y15 y16 y17 y18 y19 y20 y21 y22 y23 y24 y25 y26 y27 y28 y29 y30 y31 y32 y33 y34 y35 y36 y37 y38 y39 y40 y41 y42 y43 y44 y45 y46 y47 y48 y49 y50 y51 y52 y53 y54 y55 y56 y57 y58 y59 y60 y61 y62 y63 y64 y65 y66 y67 y68 y69 y70 y71 y72 y73 : Value) : ActOf Bn Bk m₀ i ds { tmps := #[y0, .pointer (some ⟨Bn, 0, none⟩), .pointer (some ⟨Bk, 0, none⟩), .pointer (some ⟨m₀, 0, none⟩), y4, y5, .int .i64 (i : Int), y7, y8, y9, y10, y11, y12, y13, y14, y15, y16, y17, y18, y19, y20, y21, y22, y23, y24, y25, y26, y27, y28, y29, y30, y31, y32, y33, y34, y35, y36, y37, y38, y39, y40, y41, y42, y43, y44, y45, y46, y47, y48, y49, y50, y51, y52, y53, y54, y55, y56, y57, y58, y59, y60, y61, y62, y63, y64, y65, y66, y67, y68, y69, y70, y71, y72, y73], defers := ds }
theorem rounds_of {F : Fence} {n : Nat} {P : Program} {c : Code} {Q : Exit → Act → World → Prop} {Inv : Act → World → Nat → Prop} (h0 : ∀ a w, ¬ Inv a w 0)
    (h : ∀ m a w, (∀ a' w', Inv a' w' m → Code.roundsIn F n P c Q m a' w') → Inv a w (m + 1) → Code.roundsIn F n P c Q (m + 1) a w) (m : Nat) {a : Act} {w : World} (hi : Inv a w m) : (Code.loop c).wpIn F n P Q a w := by
  refine wpIn_loop_rounds m ?_
  have key : ∀ m a w, Inv a w m → Code.roundsIn F n P c Q m a w := by
    intro m
    induction m with
    | zero => intro a w hi; exact (h0 a w hi).elim
    | succ m ih => intro a w hi; exact h m a w ih hi
  exact key m a w hi
/-- between two rounds of the loop over a node's kids -/
structure NInv (J : Nat → World → Prop) (pl : Nat → Nat) (k n m₀ l1 i : Nat) (ms : List Nat) (A : World) : Prop where
  lo : k ≤ i
  le : i ≤ n + 1
  j : J (pl i) A
  y : A.heap[m₀]? = some (.cells #[.func (.yield l1) #[] #[]] 42)
  nd : ms.Nodup
  mr : Marked ms A
  mlo : ∀ m ∈ ms, m₀ ≤ m
  sz : m₀ < A.heap.size
theorem NInv.full {J : Nat → World → Prop} {pl : Nat → Nat} {k n m₀ l1 i : Nat} {ms : List Nat} {A B : World} (h : NInv J pl k n m₀ l1 i ms A) (hJb : ∀ s A B, J s A → BelowR m₀ A B → J s B) (hb : Below A.heap.size A B) : NInv J pl k n m₀ l1 i ms B :=
  ⟨h.lo, h.le, hJb _ _ _ h.j (BelowR.full hb (Nat.le_of_lt h.sz)), (hb.block _ h.sz).trans h.y, h.nd, fun m hm => (hb.block _ (Array.getElem?_eq_some_iff.1 (h.mr m hm)).1).trans (h.mr m hm), h.mlo, Nat.lt_of_lt_of_le h.sz hb.size⟩

set_option maxRecDepth 100000 in
set_option maxHeartbeats 2000000 in
theorem from_node (d : Nat) (IH : FromC d) : FromC (d + 1) := by
  intro dp l1 Bn Bk nd t key A0 hl0 hg m₀ J Jx hJb hJxb hJx hJ hY W hW h0
  obtain ⟨a, n, cap, a', n', cap', bs, g1, g2, g3, g4, g5, g6⟩ := hl0
  refine callsIn_of_wp_marks Try.func37 rfl trivial ?_ rfl
  simp only [Try.ntmps37, List.size_toArray, List.length_cons, List.length_nil, Nat.reduceAdd, Nat.reduceSub, Array.replicate_succ, Array.replicate_zero, List.push_toArray, List.append_toArray, List.nil_append, List.cons_append]
  have hJ0 := hJb 0 W (W.alloc (.cells #[.func (.yield l1) #[] #[]] 42)) h0 (BelowR.full ((Below.refl _ W).alloc (Nat.le_refl _) _) (by omega))
  have hris : Ris t.1 := ris_own hg.ris hg.wf.1
  obtain ⟨cn, ck, hnd, _⟩ := hJ 0 _ hJ0
  obtain ⟨k, ha⟩ := find_at t.1 key (ris_mono hris key)
  have HD : Hid (Nd (W.alloc (.cells #[.func (.yield l1) #[] #[]] 42)) nd a n cap t.1 (.slice a' n' cap')) := g1.fix hnd
  have HN : Hid (AtP t.1 key k ∧ Mono t.1 key ∧ n ≤ 7 ∧ t.1.length = n) := ⟨ha, ris_mono hris key, by rw [← g1.rd.1]; exact hg.most, g1.rd.1⟩
  have HG1 : Hid (Nd A0 nd a n cap t.1 (.slice a' n' cap')) := g1
  have HG3 : Hid (RdK A0 a' n' bs) := g3
  have HG6 : Hid (∀ (i : Nat) (k : T d) (b' : Nat), t.2[i]? = some k → bs[i]? = some b' → Lies A0 d k b') := g6
  clear g1 g2 g3 g4 g6 ha hnd
  gi_wp2_with (refine ⟨trivial, (fun h => by cases h), ?_⟩; gi_at_call 38; refine (callsIn_wide.2 (place_is _ nd a n cap t.1 _ key HD.out HN.out.2.1 (by have := HN.out; omega))).mono ?_; rintro e w1 ⟨k1, rfl, HA1, HB1⟩)
  have hk1 : k1 = k := HA1.out.uniq HN.out.1
  subst hk1
  have hJ1 : J 0 w1 := hJb 0 _ _ hJ0 (BelowR.full HB1.out (by simp; omega))
  have hy1 : w1.heap[m₀]? = some (.cells #[.func (.yield l1) #[] #[]] 42) := by
    rw [HB1.out.block m₀ (by simp; omega), ← hW]
    exact World.alloc_heap_new W _
  have hsz1 : m₀ < w1.heap.size := (Array.getElem?_eq_some_iff.1 hy1).1
  have hll : (t.2.map (tl d)).length = t.1.length + 1 := by rw [List.length_map]; exact hg.wf.1
  have hkn : k1 ≤ n := by rw [← HN.out.2.2.2]; exact HN.out.1.1
  obtain ⟨pl, hpl⟩ : ∃ pl : Nat → Nat, pl = fun i => if i ≤ n then Offs key (t.2.map (tl d)) t.1 i else (ge key (tl (d + 1) t)).length := ⟨_, rfl⟩
  have hplA : ∀ i, i ≤ n → pl i = Offs key (t.2.map (tl d)) t.1 i := fun i hi => by rw [hpl]; exact if_pos hi
  have hplB : ∀ i, ¬ i ≤ n → pl i = (ge key (tl (d + 1) t)).length := fun i hi => by rw [hpl]; exact if_neg hi
  clear hpl
  have hp0 : pl k1 = 0 := by rw [hplA _ hkn]; exact offs_first hll hg.ris HN.out.1
  refine rounds_of (Inv := fun a' A m => ∃ (i : Nat) (ms : List Nat), ActOf Bn Bk m₀ i (ms.map mark) a' ∧ NInv J pl k1 n m₀ l1 i ms A ∧ n + 2 ≤ m + i) ?_ ?_ (n + 3) ⟨k1, [], ActOf.mk .., ⟨Nat.le_refl _, by omega, by rw [hp0]; exact hJ1, hy1, List.nodup_nil, (fun m hm => by cases hm), (fun m hm => by cases hm), hsz1⟩, by omega⟩
  · rintro a' A ⟨i, ms, _, h2, h3⟩
    have := h2.le; omega
  clear hJ1 hy1 hsz1 hJ0 h0 cn ck HD HB1 HA1 hp0
  rintro m act A ih ⟨i, ms, hact, hI, hm⟩
  cases hact
  have HI : Hid (NInv J pl k1 n m₀ l1 i ms A) := hI
  have HM : Hid (n + 2 ≤ m + 1 + i) := hm
  rw [roundsIn_succ]
  generalize Code.roundsIn Fence.wide dp Try.prog _ _ m = KK at ih ⊢
  have HIH : Hid (∀ a' w', (∃ (i : Nat) (ms : List Nat), ActOf Bn Bk m₀ i (ms.map mark) a' ∧ NInv J pl k1 n m₀ l1 i ms w' ∧ n + 2 ≤ m + i) → KK a' w') := ih
  clear ih
  obtain ⟨cn, ck, hkept, _⟩ := hJ _ _ hI.j
  have c0 := (HG1.out.fix hkept).blk.cell (i := 0) rfl
  have c1 := (HG1.out.fix hkept).blk.cell (i := 1) rfl
  have b1 : (i : Int) ≤ 1000001 := by have := HI.out.le; have := HN.out; omega
  clear hI hm
  by_cases hi : i ≤ n
  · have h3 := HG3.out.fix hkept
    have hn'b : bs.length = n' := h3.1
    have hti : i < t.2.length := by rw [hg.wf.1, HN.out.2.2.2]; omega
    have hbi : i < bs.length := by rw [g5]; exact hti
    obtain ⟨kid, hkid⟩ : ∃ kid, t.2[i]? = some kid := ⟨_, List.getElem?_eq_getElem hti⟩
    obtain ⟨kb, hkb⟩ : ∃ kb, bs[i]? = some kb := ⟨_, List.getElem?_eq_getElem hbi⟩
    have HK : Hid (Lies A0 d kid kb ∧ Good d kid ∧ t.2[i]? = some kid ∧ i ≤ n) := ⟨HG6.out i kid kb hkid hkb, (hg.kid hkid).1, hkid, hi⟩
    obtain ⟨g, off, rfl, _, hc⟩ := h3.2 (by omega)
    have ckb := hc i kb hkb
    have q1 : (i : Int) ≤ (n : Int) := by omega
    have q2 : (i : Int) < (n' : Int) := by omega
    have HZ : Hid (((n' : Int) == 0) = false) := by show _ = _; simp; omega
    clear h3 hc hn'b hbi hkid hkb hti
    gi_wp2_with (refine ⟨trivial, (fun h => by cases h), ?_⟩; gi_at_call 39; refine (callsIn_wide.2 (isLeaf_any A nd _ n' cap' false HZ.out c1)).mono ?_; rintro e w2 ⟨rfl, rfl⟩)
    refine reg7 ⟨cn, ck, c1, ckb⟩ q2 (callsIn_wide.2 (from_is A.drew (some ⟨kb, 0, none⟩) key)) ?_ ?_
    · rintro e B ⟨rfl, HB⟩
      have hB : Below A.heap.size A B := by rw [HB.out]; exact (((Below.refl _ A).drew).alloc (Nat.le_refl _) _).alloc (by simp) _
      have hgr := below_grown hB none
      exact ⟨_, rfl, hgr.cell cn (by simp), hgr.cell ck (by simp), hgr.cell c1 (by simp), hgr.cell ckb (by simp)⟩
    · rintro v B ⟨hv, HB⟩
      cases hv
      have HBB : Hid (Below A.heap.size A B) := by show Below _ _ _; rw [HB.out]; exact (((Below.refl _ A).drew).alloc (Nat.le_refl _) _).alloc (by simp) _
      have HSZ : Hid (B.heap.size = A.heap.size + 2) := by show _ = _; rw [HB.out]; simp
      have HNI : Hid (NInv J pl k1 n m₀ l1 i ms B) := HI.out.full hJb HBB.out
      have hbn : B.heap[A.heap.size]? = some (.cells #[.pointer (some ⟨kb, 0, none⟩)] 46) := by
        rw [HB.out, Below.heap_alloc _ _ _ (by simp)]; exact World.alloc_heap_new A.drew _
      have hbk : B.heap[A.heap.size + 1]? = some (.cells #[.string key] 9) := by
        have e := World.alloc_heap_new (A.drew.alloc (.cells #[.pointer (some ⟨kb, 0, none⟩)] 46)) (.cells #[.string key] 9)
        rw [World.size_alloc] at e
        rw [HB.out]; exact e
      have HMS : Hid (∀ m ∈ ms, m₀ ≤ m ∧ m < A.heap.size) := fun m hm => ⟨HI.out.mlo m hm, (Array.getElem?_eq_some_iff.1 (HI.out.mr m hm)).1⟩
      have HND : Hid ((B.heap.size :: ms).Nodup ∧ ∀ m ∈ B.heap.size :: ms, m₀ ≤ m) := ⟨List.nodup_cons.2 ⟨fun hm => by have := HMS.out _ hm; have := HSZ.out; omega, HI.out.nd⟩, fun m hm => by
        rcases List.mem_cons.1 hm with rfl | hm
        · have := HSZ.out; have := HI.out.sz; omega
        · exact HI.out.mlo m hm⟩
      have HOUT : Hid (∀ (tm : Array Value) (Z : World), (J (ge key (tl (d + 1) t)).length Z ∨ Jx Z) → Marked (B.heap.size :: ms) Z → LeavesInM Fence.wide dp Try.prog Try.f37 tm (fun e B => (∃ v, e = .returned v) ∧ (J (ge key (tl (d + 1) t)).length B ∨ Jx B)) (mark B.heap.size :: ms.map mark) .returning Z) := fun tm Z hZ hM =>
        ret_marks (D := m₀) (I := fun A => J (ge key (tl (d + 1) t)).length A ∨ Jx A) (fun A B h hb => h.imp (fun j => hJb _ A B j hb) (fun j => hJxb A B j hb)) (fun A v h => ⟨⟨v, rfl⟩, h⟩) (B.heap.size :: ms) Z hZ HND.out.1 (fun m hm => ⟨HND.out.2 m hm, hM m hm⟩)
      clear HB HBB cn ck c0 c1 ckb hkept
      gi_wp2
      refine kid_range kid key A0 HK.out.1 HK.out.2.1 IH J Jx ms (o := pl i) (b0 := A.heap.size) hJb hJxb (fun s A h => (hJ s A h).2.2.1) (fun A h => (hJx A h).2) ?_ HI.out.sz HSZ.out HMS.out ⟨HNI.out.j, HNI.out.y, hbn, hbk, HNI.out.mr⟩ ?_ ?_
      · intro s x Z hj hx
        rw [hplA i HK.out.2.2.2] at hj ⊢
        exact hY _ x Z hj (ge_kid hll (kid_map HK.out.2.2.1) hx)
      · intro Z hj hy hM
        obtain ⟨cn, ck, hkz, hz⟩ := hJ _ _ hj
        have c0 := (HG1.out.fix hkz).blk.cell (i := 0) rfl
        have cy := cell_one hy
        have HJZ : Hid (J (pl i + (ge key (tl d kid)).length) Z) := hj
        have HYZ : Hid (Z.heap[m₀]? = some (.cells #[.func (.yield l1) #[] #[]] 42)) := hy
        have HMZ : Hid (Marked (B.heap.size :: ms) Z.drew) := hM
        have HZS : Hid (m₀ ≤ Z.heap.size) := hz
        clear hbn hbk hj hy hM hz q2
        dsimp only
        gi_wp2
        by_cases hin : i < n
        · obtain ⟨x, hx⟩ : ∃ x, t.1[i]? = some x := ⟨_, List.getElem?_eq_getElem (by rw [HN.out.2.2.2]; exact hin)⟩
          have hgx : geS x.1 key = true := HN.out.1.2.2 i x HI.out.lo hx
          obtain ⟨g2, off2, rfl, _, hc⟩ := (HG1.out.fix hkz).rd.2 (by omega)
          have e0 := (hc i x hx).1
          have e1 := (hc i x hx).2
          have q3 : (i : Int) < (n : Int) := by omega
          have HJD : Hid (J (pl i + (ge key (tl d kid)).length) Z.drew) := hJb _ _ _ HJZ.out (BelowR.full (Below.refl _ Z).drew HZS.out)
          have HPN : Hid (pl (i + 1) = pl i + (ge key (tl d kid)).length + 1) := by
            show _ = _
            rw [hplA _ (by omega), hplA _ (by omega)]; exact offs_next hll (kid_map HK.out.2.2.1) hx hgx
          have HYA : Hid (YieldAt Fence.wide (dp - 1) Try.prog l1 #[.string x.1, .string x.2] Z.drew fun e B => Held m₀ Z.drew B ∧ ((e = .returned (.bool true) ∧ J (pl i + (ge key (tl d kid)).length + 1) B) ∨ (e = .returned (.bool false) ∧ Jx B))) := YieldAt.deep (dp - 1) (hY _ x Z.drew HJD.out (by rw [hplA _ (by omega)]; exact ge_pair hll (kid_map HK.out.2.2.1) hx hgx))
          have HX : Hid (t.1[i]? = some x ∧ i < n) := ⟨hx, hin⟩
          clear hc hx hgx hin
          refine reg11 cy cn c0 e0 e1 q3 HYA.out ?_ ?_
          · rintro e Y ⟨hH, hD⟩
            have hyB : Y.cell? ⟨m₀, 0, none⟩ = some (.func (.yield l1) #[] #[]) := cell_one (hH.box HYZ.out (by decide) (Nat.le_refl _))
            have fin : ∀ (v : Bool), e = .returned (.bool v) → Y.cell? ⟨Bn, 0, none⟩ = some (.pointer (some ⟨nd, 0, none⟩)) → Kept A0 Y → ∃ v : Bool, e = .returned (.bool v) ∧ Y.cell? ⟨m₀, 0, none⟩ = some (.func (.yield l1) #[] #[]) ∧ Y.cell? ⟨Bn, 0, none⟩ = some (.pointer (some ⟨nd, 0, none⟩)) ∧ Y.cell? ⟨nd, 0, none⟩ = some (.slice (some ⟨g2, off2, none⟩) n cap) ∧ Y.cell? ⟨g2, off2 + i * 2, none⟩ = some (.string x.1) ∧ Y.cell? ⟨g2, off2 + i * 2 + 1, none⟩ = some (.string x.2) := by
              intro v h1 h2 h3
              have h4 := HG1.out.fix h3
              obtain ⟨g', off', e', _, hc⟩ := h4.rd.2 (by have := HX.out; omega)
              cases e'
              exact ⟨v, h1, hyB, h2, h4.blk.cell (i := 0) rfl, (hc i x HX.out.1).1, (hc i x HX.out.1).2⟩
            rcases hD with ⟨h1, h2⟩ | ⟨h1, h2⟩
            · obtain ⟨r1, _, r3, _⟩ := hJ _ _ h2
              exact fin true h1 r1 r3
            · obtain ⟨r1, r3⟩ := hJx _ h2
              exact fin false h1 r1 r3
          · rintro v Y ⟨hH, hD⟩
            have HYB : Hid (Y.heap[m₀]? = some (.cells #[.func (.yield l1) #[] #[]] 42)) := hH.box HYZ.out (by decide) (Nat.le_refl _)
            have HMY : Hid (Marked (B.heap.size :: ms) Y) := HMZ.out.held hH HND.out.2
            clear hH cn ck c0 cy e0 e1
            cases v with
            | true =>
              have HJ3 : Hid (J (pl i + (ge key (tl d kid)).length + 1) Y) := by
                rcases hD with ⟨h1, h2⟩ | ⟨h1, h2⟩
                · exact h2
                · cases h1
              clear hD
              dsimp only
              gi_wp2
              rw [show (i : Int) + 1 = ((i + 1 : Nat) : Int) by omega]
              exact HIH.out _ _ ⟨i + 1, B.heap.size :: ms, ActOf.mk .., ⟨by have := HI.out.lo; omega, by have := HX.out; omega, by rw [HPN.out]; exact HJ3.out, HYB.out, HND.out.1, HMY.out, HND.out.2, (Array.getElem?_eq_some_iff.1 HYB.out).1⟩, by have := HM.out; omega⟩
            | false =>
              have HJ3 : Hid (Jx Y) := by
                rcases hD with ⟨h1, h2⟩ | ⟨h1, h2⟩
                · cases h1
                · exact h2
              clear hD
              dsimp only
              gi_wp2
              exact HOUT.out _ Y (.inr HJ3.out) HMY.out
        · have hie : i = n := by have := HK.out.2.2.2; omega
          have HPE : Hid (pl (i + 1) = pl i + (ge key (tl d kid)).length) := by
            show _ = _
            rw [hplB _ (by omega), hplA _ (by omega)]
            have e := offs_end (key := key) (l := tl d kid) hll (by rw [HN.out.2.2.2, ← hie]; exact kid_map HK.out.2.2.1)
            rw [HN.out.2.2.2, ← hie] at e
            exact e
          have HIE : Hid (i = n) := hie
          clear hie
          refine reg11n cn c0 (by omega) ?_
          dsimp only
          clear cn ck c0 cy
          gi_wp2
          rw [show (i : Int) + 1 = ((i + 1 : Nat) : Int) by omega]
          exact HIH.out _ _ ⟨i + 1, B.heap.size :: ms, ActOf.mk .., ⟨by have := HI.out.lo; omega, by have := HIE.out; omega, by rw [HPE.out]; exact hJb _ _ _ HJZ.out (BelowR.full (Below.refl _ Z).drew HZS.out), HYZ.out, HND.out.1, HMZ.out, HND.out.2, (Array.getElem?_eq_some_iff.1 HYZ.out).1⟩, by have := HM.out; omega⟩
      · intro Z hj hM
        gi_wp2
        exact HOUT.out _ Z (.inr hj) hM
  · have q1 : ¬ (i : Int) ≤ (n : Int) := by omega
    gi_wp2
    refine ret_marks (D := m₀) (I := fun A => J (ge key (tl (d + 1) t)).length A ∨ Jx A) (fun A B h hb => h.imp (fun j => hJb _ A B j hb) (fun j => hJxb A B j hb)) (fun A v h => ⟨⟨v, rfl⟩, h⟩) ms A (.inl ?_) HI.out.nd (fun m hm => ⟨HI.out.mlo m hm, HI.out.mr m hm⟩)
    have e := HI.out.j
    rw [hplB i hi] at e
    exact e
theorem from_leaf : FromC 0 := by
  intro dp l1 Bn Bk nd t key A0 hl0 hg m₀ J Jx hJb hJxb hJx hJ hY W hW h0
  obtain ⟨a, n, cap, h1, _⟩ := hl0
  have hr : Ris (t : List Pr) := hg.ris
  obtain ⟨k, ha⟩ := find_at (t : List Pr) key (ris_mono hr key)
  have e : ge key (tl 0 t) = (t : List Pr).drop k := ge_leaf ha
  rw [e] at hY ⊢
  have h7 : (t : List Pr).length ≤ 7 := hg.most
  have hn : n ≤ 1000000 := by rw [← h1.rd.1]; omega
  exact from1_in dp l1 Bn Bk nd n cap a t key k hn (ris_mono hr key) ha m₀ J Jx hJb (fun A hA => ⟨(hJx A hA).1, h1.fix (hJx A hA).2⟩) (fun s A hA => ⟨(hJ s A hA).1, (hJ s A hA).2.1, h1.fix (hJ s A hA).2.2.1, (hJ s A hA).2.2.2⟩) hY W hW h0
theorem from_all : ∀ d, FromC d
  | 0 => from_leaf
  | d + 1 => from_node d (from_all d)
end Go.Proofs.Ytnagknlfboadkaa.Oct

/- Layer 7 (tree): the closure of 'Scan', over a tree of any depth. -/
namespace Go.Proofs.Ytnagknlfboadkaa.Oct
open Go.RowKit Go.Shelf
attribute [local go_sem] Oper.semAt_some

/-- what a scan of a list tells -/
def scanT (key til : ByteArray) (L : List Pr) : List Pr := (ge key L).takeWhile (okS til)
theorem from_root (dp l1 Bn Bk : Nat) (p : Option Addr) (L : List Pr) (key : ByteArray) (A0 : World) (hroot : Root A0 p L) (m₀ : Nat) (J : Nat → World → Prop) (Jx : World → Prop)
    (hJb : ∀ s A B, J s A → BelowR m₀ A B → J s B) (hJxb : ∀ A B, Jx A → BelowR m₀ A B → Jx B)
    (hJx : ∀ A, Jx A → A.cell? ⟨Bn, 0, none⟩ = some (.pointer p) ∧ Kept A0 A)
    (hJ : ∀ s A, J s A → A.cell? ⟨Bn, 0, none⟩ = some (.pointer p) ∧ A.cell? ⟨Bk, 0, none⟩ = some (.string key) ∧ Kept A0 A ∧ m₀ ≤ A.heap.size)
    (hY : ∀ s x A, J s A → (ge key L)[s]? = some x → YieldAt Fence.wide 0 Try.prog l1 (encQ x) A fun e B => Held m₀ A B ∧ ((e = .returned (.bool true) ∧ J (s + 1) B) ∨ (e = .returned (.bool false) ∧ Jx B)))
    (W : World) (hW : W.heap.size = m₀) (h0 : J 0 W) :
    CallsIn Fence.wide dp Try.prog 37 #[.func (.yield l1) #[] #[], .pointer (some ⟨Bn, 0, none⟩), .pointer (some ⟨Bk, 0, none⟩)] W fun e B => (∃ v, e = .returned v) ∧ (J (ge key L).length B ∨ Jx B) := by
  rcases hroot with ⟨rfl, rfl⟩ | ⟨d, t, nd, rfl, h2, h3, _, rfl⟩
  · refine callsIn_of_wp Try.func37 rfl trivial ?_ rfl
    simp only [Try.ntmps37, List.size_toArray, List.length_cons, List.length_nil, Nat.reduceAdd, Nat.reduceSub, Array.replicate_succ, Array.replicate_zero, List.push_toArray, List.append_toArray, List.nil_append, List.cons_append]
    have hJ0 := hJb 0 W (W.alloc (.cells #[.func (.yield l1) #[] #[]] 42)) h0 (BelowR.full ((Below.refl _ W).alloc (Nat.le_refl _) _) (by omega))
    have HJ0 : Hid (J 0 (W.alloc (.cells #[.func (.yield l1) #[] #[]] 42))) := hJ0
    obtain ⟨cn, _, _, _⟩ := hJ 0 _ hJ0
    clear hJ0 h0
    gi_wp2
    refine bodyPost_ret (results_none rfl _ _ _) rfl ?_
    exact ⟨⟨_, rfl⟩, .inl HJ0.out⟩
  · exact from_all d dp l1 Bn Bk nd t key A0 h2 h3 m₀ J Jx hJb hJxb hJx hJ hY W hW h0
/-- between two rounds of the loop within 'Scan' -/
structure SInvT (J : Nat → World → Prop) (N m₀ l1 : Nat) (p : Option Addr) (key : ByteArray) (t : Nat) (A : World) : Prop where
  le : t ≤ N
  j : J t A
  y : A.heap[m₀]? = some (.cells #[.func (.yield l1) #[] #[]] 42)
  n : A.heap[m₀ + 1]? = some (.cells #[.pointer p] 46)
  k : A.heap[m₀ + 2]? = some (.cells #[.string key] 9)
structure SOutT (J : Nat → World → Prop) (Jx : World → Prop) (N m₀ : Nat) (p : Option Addr) (c : Code) (A : World) : Prop where
  ret : c = .ret
  j : J N A ∨ Jx A
  n : A.heap[m₀ + 1]? = some (.cells #[.pointer p] 46)

set_option maxRecDepth 100000 in
set_option maxHeartbeats 2000000 in
theorem scan2_all (d l1 Br Bf Bu : Nat) (p : Option Addr) (L : List Pr) (key til : ByteArray) (A0 : World) (hroot : Root A0 p L) (m₀ : Nat) (J : Nat → World → Prop) (Jx : World → Prop)
    (hJb : ∀ t A B, J t A → BelowR m₀ A B → J t B) (hJxb : ∀ A B, Jx A → BelowR m₀ A B → Jx B) (hJx : ∀ A, Jx A → Kept A0 A)
    (hJ : ∀ t A, J t A → A.cell? ⟨Br, 0, none⟩ = some (.pointer p) ∧ A.cell? ⟨Bf, 0, none⟩ = some (.string key) ∧ A.cell? ⟨Bu, 0, none⟩ = some (.string til) ∧ Kept A0 A ∧ m₀ ≤ A.heap.size)
    (hY : ∀ t x A, J t A → (scanT key til L)[t]? = some x → YieldAt Fence.wide 0 Try.prog l1 (encQ x) A fun e B => Held m₀ A B ∧ ((e = .returned (.bool true) ∧ J (t + 1) B) ∨ (e = .returned (.bool false) ∧ Jx B)))
    (W : World) (hW : W.heap.size = m₀) (h0 : J 0 W) :
    CallsIn Fence.wide d Try.prog 28 #[.func (.yield l1) #[] #[], .pointer (some ⟨Br, 0, none⟩), .pointer (some ⟨Bf, 0, none⟩), .pointer (some ⟨Bu, 0, none⟩)] W fun e B => (∃ v, e = .returned v) ∧ (J (scanT key til L).length B ∨ Jx B) := by
  refine callsIn_of_wp_marks Try.func28 rfl trivial ?_ rfl
  simp only [Try.ntmps28, List.size_toArray, List.length_cons, List.length_nil, Nat.reduceAdd, Nat.reduceSub, Array.replicate_succ, Array.replicate_zero, List.push_toArray, List.append_toArray, List.nil_append, List.cons_append]
  have hJ0 := hJb 0 W (W.alloc (.cells #[.func (.yield l1) #[] #[]] 42)) h0 (BelowR.full ((Below.refl _ W).alloc (Nat.le_refl _) _) (by omega))
  obtain ⟨cr, cf, cu, _, _⟩ := hJ 0 _ hJ0
  gi_wp2_with (refine ⟨trivial, (fun h => by cases h), ?_⟩; gi_at_call 29; refine (callsIn_wide.2 (from_is _ _ key)).mono ?_; rintro e w1 ⟨rfl, HW1⟩)
  have hw1 := HW1.out
  have HB : Hid (Below m₀ W w1) := by rw [hw1]; exact (((Below.refl _ W).alloc (by omega) _).alloc (by simp; omega) _).alloc (by simp; omega) _
  have HSZ : Hid (w1.heap.size = m₀ + 3) := by show _ = _; rw [hw1]; simp [hW]
  have hy1 : w1.heap[m₀]? = some (.cells #[.func (.yield l1) #[] #[]] 42) := by
    rw [hw1, Below.heap_alloc _ _ _ (by simp; omega), Below.heap_alloc _ _ _ (by simp; omega), ← hW]
    exact World.alloc_heap_new W _
  have hn1 : w1.heap[m₀ + 1]? = some (.cells #[.pointer p] 46) := by
    have e := World.alloc_heap_new (W.alloc (.cells #[.func (.yield l1) #[] #[]] 42)) (.cells #[.pointer p] 46)
    rw [World.size_alloc, hW] at e
    rw [hw1, Below.heap_alloc _ _ _ (by simp; omega)]
    exact e
  have hk1 : w1.heap[m₀ + 2]? = some (.cells #[.string key] 9) := by
    have e := World.alloc_heap_new ((W.alloc (.cells #[.func (.yield l1) #[] #[]] 42)).alloc (.cells #[.pointer p] 46)) (.cells #[.string key] 9)
    rw [World.size_alloc, World.size_alloc, hW] at e
    rw [hw1]
    exact e
  clear hw1 HW1 hJ0 cr cf cu
  refine rangeLeave (gf := 37) (lb := #[.pointer (some ⟨m₀ + 1, 0, none⟩), .pointer (some ⟨m₀ + 1 + 1, 0, none⟩)]) rfl (enters_of Try.func37 (by kernel_rfl) rfl) (fun _ x => encQ x) (fun _ _ => rfl) (ge key L)
    (SInvT J (scanT key til L).length m₀ l1 p key) (SOutT J Jx (scanT key til L).length m₀ p) ?hI ?hIx ⟨Nat.zero_le _, hJb 0 W w1 h0 (BelowR.full (by rw [hW]; exact HB.out) (by omega)), hy1, hn1, hk1⟩
    (fun _ x => { tmps := #[.func (.yield l1) #[] #[], .pointer (some ⟨Br, 0, none⟩), .pointer (some ⟨Bf, 0, none⟩), .pointer (some ⟨Bu, 0, none⟩), .pointer (some ⟨m₀, 0, none⟩), .string x.1, .string x.2, .pointer p, .string key, .func (.func 37) #[] #[.pointer (some ⟨m₀ + 1, 0, none⟩), .pointer (some ⟨m₀ + 1 + 1, 0, none⟩)], .string x.1, .string x.2, undef, undef, undef, undef, undef, undef, undef, undef, undef, undef, undef, undef, undef, undef], defers := [] }) ?assign ?body ?iter ?done ?stop
  case hI =>
    rintro t A B h hb
    rw [HSZ.out] at hb
    exact ⟨h.le, hJb t A B h.j (hb.mono (by omega)), (hb.below.block _ (by omega)).trans h.y, (hb.below.block _ (by omega)).trans h.n, (hb.below.block _ (by omega)).trans h.k⟩
  case hIx =>
    rintro c A B h hb
    rw [HSZ.out] at hb
    exact ⟨h.ret, h.j.imp (fun j => hJb _ A B j (hb.mono (by omega))) (fun j => hJxb A B j (hb.mono (by omega))), (hb.below.block _ (by omega)).trans h.n⟩
  case assign =>
    intro t x A K hK
    dsimp only [encQ]
    gi_wp2
    exact hK
  case body =>
    rintro t x A h hx hlt
    have HT := takeWhile_at (p := okS til) h.le hx
    have HTT : Hid ((okS til x = true → (scanT key til L)[t]? = some x) ∧ (okS til x = false → t = (scanT key til L).length)) := HT
    have HI : Hid (SInvT J (scanT key til L).length m₀ l1 p key t A) := h
    obtain ⟨_, _, cu, _, _⟩ := hJ _ _ h.j
    have cy := cell_one h.y
    clear HT hx hlt h
    have goes : okS til x = true → YieldAt Fence.wide (d - 1 - 1 - 1) Try.prog l1 #[.string x.1, .string x.2] A fun e B => Held m₀ A B ∧ ((e = .returned (.bool true) ∧ J (t + 1) B) ∨ (e = .returned (.bool false) ∧ Jx B)) := fun e => YieldAt.deep _ (hY t x A HI.out.j (HTT.out.1 e))
    have GO : Hid (okS til x = true → YieldAt Fence.wide (d - 1 - 1 - 1) Try.prog l1 #[.string x.1, .string x.2] A fun e B => Held m₀ A B ∧ ((e = .returned (.bool true) ∧ J (t + 1) B) ∨ (e = .returned (.bool false) ∧ Jx B))) := goes
    have HX : Hid (∀ B, Held m₀ A B → B.heap[m₀]? = some (.cells #[.func (.yield l1) #[] #[]] 42) ∧ B.heap[m₀ + 1]? = some (.cells #[.pointer p] 46) ∧ B.heap[m₀ + 2]? = some (.cells #[.string key] 9) ∧ Held w1.heap.size A B) := fun B hB =>
      ⟨hB.box HI.out.y (by decide) (Nat.le_refl _), hB.box HI.out.n (by decide) (by omega), hB.box HI.out.k (by decide) (by omega), hB.mono (by have := HSZ.out; omega)⟩
    clear goes
    cases he : til.toList.isEmpty with
    | true =>
      have f1 : (til.toList == ([] : List UInt8)) = true := by simpa using he
      have hok : okS til x = true := by simp [okS, he]
      have HLT : Hid (t + 1 ≤ (scanT key til L).length) := (List.getElem?_eq_some_iff.1 (HTT.out.1 hok)).1
      obtain ⟨fn, tmps, asg, bdy, hy, hR⟩ := GO.out hok
      clear hok
      gi_wp2
      refine ⟨(fun h => by cases h), hR.mono ?_⟩
      rintro e B ⟨hH, ⟨rfl, hJ3⟩ | ⟨rfl, hJ3⟩⟩
      · have HJ3 : Hid (J (t + 1) B ∧ Held m₀ A B) := ⟨hJ3, hH⟩
        clear hy hR hJ3 hH cu cy
        gi_wp2
        have hx := HX.out B HJ3.out.2
        exact ⟨⟨HLT.out, HJ3.out.1, hx.1, hx.2.1, hx.2.2.1⟩, hx.2.2.2⟩
      · have HJ3 : Hid (Jx B ∧ Held m₀ A B) := ⟨hJ3, hH⟩
        clear hy hR hJ3 hH cu cy
        gi_wp2
        have hx := HX.out B HJ3.out.2
        exact ⟨⟨rfl, .inr HJ3.out.1, hx.2.1⟩, hx.2.2.2⟩
    | false =>
      have f1 : (til.toList == ([] : List UInt8)) = false := by simpa using he
      cases hg : Op.bytesLess x.1.toList til.toList with
      | true =>
        have hok : okS til x = true := by simp [okS, geS, hg]
        have HLT : Hid (t + 1 ≤ (scanT key til L).length) := (List.getElem?_eq_some_iff.1 (HTT.out.1 hok)).1
        obtain ⟨fn, tmps, asg, bdy, hy, hR⟩ := GO.out hok
        clear hok
        gi_wp2
        refine ⟨(fun h => by cases h), hR.mono ?_⟩
        rintro e B ⟨hH, ⟨rfl, hJ3⟩ | ⟨rfl, hJ3⟩⟩
        · have HJ3 : Hid (J (t + 1) B ∧ Held m₀ A B) := ⟨hJ3, hH⟩
          clear hy hR hJ3 hH cu cy
          gi_wp2
          have hx := HX.out B HJ3.out.2
          exact ⟨⟨HLT.out, HJ3.out.1, hx.1, hx.2.1, hx.2.2.1⟩, hx.2.2.2⟩
        · have HJ3 : Hid (Jx B ∧ Held m₀ A B) := ⟨hJ3, hH⟩
          clear hy hR hJ3 hH cu cy
          gi_wp2
          have hx := HX.out B HJ3.out.2
          exact ⟨⟨rfl, .inr HJ3.out.1, hx.2.1⟩, hx.2.2.2⟩
      | false =>
        have hok : okS til x = false := by simp [okS, geS, hg, he]
        have HE : Hid (t = (scanT key til L).length) := HTT.out.2 hok
        clear hok
        gi_wp2
        refine ⟨(fun f h => by cases h), ?_⟩
        gi_wp2
        refine ⟨⟨rfl, .inl ?_, HI.out.n⟩, Nat.le_refl _, fun _ _ _ _ => rfl⟩
        rw [← HE.out]; exact HI.out.j
  case iter =>
    intro J' Jx' A hS hB hJ'b hJx'b hJ'I hJ'X hY' h0'
    refine from_root _ _ _ _ p L key A0 hroot (w1.heap.size + 2) J' Jx' hJ'b hJx'b ?_ ?_ (fun t x A hj hx => YieldAt.deep 0 (hY' t x A hj hx)) A hS h0'
    · intro A hA
      obtain ⟨⟨c, hc⟩, _⟩ := hJ'X A hA
      refine ⟨cell_one hc.n, ?_⟩
      rcases hc.j with j | j
      · exact (hJ _ _ j).2.2.2.1
      · exact hJx _ j
    · intro t A hA
      obtain ⟨hI, hsz⟩ := hJ'I t A hA
      exact ⟨cell_one hI.n, cell_one hI.k, (hJ _ _ hI.j).2.2.2.1, hsz⟩
  case done =>
    rintro A h hK
    gi_wp2
    refine ⟨by simp, .inl ⟨_, _, rfl, run_takeDeferred hK, ?_⟩⟩
    refine ⟨_, results_none rfl _ _ _, ⟨_, rfl⟩, .inl ?_⟩
    have e : (ge key L).length = (scanT key til L).length := Nat.le_antisymm h.le (takeWhile_le _ _)
    rw [← e]
    exact hJb _ _ _ h.j (belowR_putObj _ (by have := HSZ.out; omega) hK def_row)
  case stop =>
    rintro c A h hK
    obtain rfl := h.ret
    gi_wp2
    refine ⟨by simp, .inl ⟨_, _, rfl, run_takeDeferred hK, ?_⟩⟩
    refine ⟨_, results_none rfl _ _ _, ⟨_, rfl⟩, ?_⟩
    have hb := belowR_putObj (D := m₀) (.deferred none) (by have := HSZ.out; omega) hK def_row
    exact h.j.imp (fun j => hJb _ _ _ j hb) (fun j => hJxb _ _ j hb)
end Go.Proofs.Ytnagknlfboadkaa.Oct

/- A range over a function whose body may leave, as in Over; here all cells but those of the iterator stay. Of no program. -/
namespace Go.Proofs.Ytnagknlfboadkaa.Oct.Wid
open Go.RowKit

/-- cells -/
def CellsAt (A : World) (b : Nat) : Prop := ∃ cs t fr, A.heap[b]? = some (.cells cs t fr)
/-- what lies below D, and all cells, lie as they lay -/
structure BelowR (D : Nat) (A B : World) : Prop where
  below : Below D A B
  rows : ∀ b, b < A.heap.size → CellsAt A b → B.heap[b]? = A.heap[b]?
theorem BelowR.mono {D D' : Nat} {A B : World} (h : BelowR D A B) (hD : D' ≤ D) : BelowR D' A B := ⟨h.below.mono hD, h.rows⟩
theorem BelowR.full {D : Nat} {A B : World} (h : Below A.heap.size A B) (hD : D ≤ A.heap.size) : BelowR D A B := ⟨h.mono hD, fun b hb _ => h.block b hb⟩
theorem belowR_putObj {D : Nat} {W : World} {l : Nat} {o' : Obj} (o : Obj) (h : D ≤ l) (hl : W.heap[l]? = some o') (hn : ∀ cs t fr, o' ≠ .cells cs t fr) : BelowR D W (W.putObj l o) :=
  ⟨below_putObj D W l o h, fun b _ hr => World.putObj_heap_other (by
    rintro rfl
    obtain ⟨cs, t, fr, e⟩ := hr
    rw [hl] at e
    exact hn cs t fr (Option.some.inj e))⟩
theorem loop_row {x : Loop} : ∀ cs t fr, Obj.loop x ≠ .cells cs t fr := by rintro cs t fr e; cases e
theorem def_row {x : Option (List Deferred)} : ∀ cs t fr, Obj.deferred x ≠ .cells cs t fr := by rintro cs t fr e; cases e

/-- how the body of a round may be left -/
def leavePost (I : Nat → World → Prop) (Ix : Code → World → Prop) (D : Nat) (s : Nat) (W : World) : Exit → Act → World → Prop
  | .normal, _, W' => I (s + 1) W' ∧ Held D W W'
  | .ret, _, W' => Ix .ret W' ∧ Held D W W'
  | .exit id, _, W' => Ix (.exit id) W' ∧ Held D W W'
  | .goto t, _, W' => Ix (.goto t) W' ∧ Held D W W'
  | .panic _, _, _ => False
  | .outgrown, _, _ => False

theorem rangeLeave {P : Program} {n : Nat} {g : Operand} {ps : Array Tmp} {assign body : Code} {Q : Exit → Act → World → Prop} {a : Act} {w : World} {X : Type} {gf : Nat} {lb : Array Value}
    (hg : a.eval g = .func (.func gf) #[] lb) (eg : ∀ args w, (callFunc gf args).run P w = .ok (.enter gf args) w)
    (enc : Nat → X → Array Value) (hps : ∀ s x, (enc s x).size = ps.size) (xs : List X)
    (I : Nat → World → Prop) (Ix : Code → World → Prop) (hI : ∀ s A B, I s A → BelowR w.heap.size A B → I s B) (hIx : ∀ c A B, Ix c A → BelowR w.heap.size A B → Ix c B)
    (h0 : I 0 w) (a₁ : Nat → X → Act)
    (hassign : ∀ (s : Nat) (x : X) (W : World) (K : Act → World → Prop), K (a₁ s x) W →
      assign.wpIn (Fence.wide.inRound (w.heap.size + 1)) (n - 1 - 1) P (Exit.then K (fun _ _ _ => False)) { tmps := (ps.zip (enc s x)).foldl (fun t (p, v) => t.setIfInBounds p v) a.tmps, defers := [] } W)
    (hbody : ∀ (s : Nat) (x : X) (W : World), I s W → xs[s]? = some x → w.heap.size + 1 < W.heap.size → body.wpIn (Fence.wide.inRound (w.heap.size + 1)) (n - 1 - 1) P
      (leavePost I Ix w.heap.size s W) (a₁ s x) W)
    (hiter : ∀ (J : Nat → World → Prop) (Jx : World → Prop) (W : World), W.heap.size = w.heap.size + 2 → Below w.heap.size w W → (∀ s A B, J s A → BelowR (w.heap.size + 2) A B → J s B) → (∀ A B, Jx A → BelowR (w.heap.size + 2) A B → Jx B) → (∀ s A, J s A → I s A ∧ w.heap.size + 2 ≤ A.heap.size) → (∀ A, Jx A → (∃ c, Ix c A) ∧ w.heap.size + 2 ≤ A.heap.size) →
      (∀ s x A, J s A → xs[s]? = some x → YieldAt Fence.wide (n - 1 - 1) P (w.heap.size + 1) (enc s x) A fun e B => Held (w.heap.size + 2) A B ∧ ((e = .returned (.bool true) ∧ J (s + 1) B) ∨ (e = .returned (.bool false) ∧ Jx B))) → J 0 W →
      CallsIn Fence.wide (n - 1) P gf (#[.func (.yield (w.heap.size + 1)) #[] #[]] ++ lb) W fun e B => (∃ v, e = .returned v) ∧ (J xs.length B ∨ Jx B))
    (hdone : ∀ (W : World), I xs.length W → W.heap[w.heap.size]? = some (.deferred (some [])) → Q .normal { a with defers := { target := .collected w.heap.size, args := #[] } :: a.defers } W)
    (hstop : ∀ (c : Code) (W : World), Ix c W → W.heap[w.heap.size]? = some (.deferred (some [])) → c.wpIn Fence.wide n P Q { a with defers := { target := .collected w.heap.size, args := #[] } :: a.defers } W) :
    (Code.rangeFunc g ps assign body).wpIn Fence.wide n P Q a w := by
  refine wpIn_rangeFunc fun fn hfn => ?_
  obtain ⟨rec, hrec⟩ : ∃ rec : LoopState → Option Code → Loop, rec = fun st pe => { state := st, pending := pe, fn, tmps := a.tmps, params := ps, assign, body, defers := w.heap.size } := ⟨_, rfl⟩
  obtain ⟨W1, hW1⟩ : ∃ W1, (w.alloc (.deferred (some []))).alloc (.loop (rec .ready none)) = W1 := ⟨_, rfl⟩
  have hS1 : W1.heap.size = w.heap.size + 2 := by rw [← hW1]; simp
  have hB1 : Below w.heap.size w W1 := by rw [← hW1]; exact ((Below.refl _ w).alloc (Nat.le_refl _) _).alloc (by simp) _
  have hL1 : W1.heap[w.heap.size + 1]? = some (.loop (rec .ready none)) := by
    have e := World.alloc_heap_new (w.alloc (.deferred (some []))) (.loop (rec .ready none))
    rw [World.size_alloc, hW1] at e
    exact e
  have hD1 : W1.heap[w.heap.size]? = some (.deferred (some [])) := by
    rw [← hW1]
    exact (Below.heap_alloc _ _ _ (by simp)).trans (World.alloc_heap_new w _)
  have hcall := hiter (fun s W => I s W ∧ W.heap[w.heap.size + 1]? = some (.loop (rec .ready none)) ∧ W.heap[w.heap.size]? = some (.deferred (some [])))
    (fun W => ∃ c, Ix c W ∧ W.heap[w.heap.size + 1]? = some (.loop (rec .done (some c))) ∧ W.heap[w.heap.size]? = some (.deferred (some []))) W1 hS1 hB1
    (fun s A B hs hb => ⟨hI s A B hs.1 (hb.mono (by omega)), (hb.below.block _ (by omega)).trans hs.2.1, (hb.below.block _ (by omega)).trans hs.2.2⟩)
    (fun A B hs hb => by obtain ⟨c, h1, h2, h3⟩ := hs; exact ⟨c, hIx c A B h1 (hb.mono (by omega)), (hb.below.block _ (by omega)).trans h2, (hb.below.block _ (by omega)).trans h3⟩)
    (fun s A hs => ⟨hs.1, (Array.getElem?_eq_some_iff.1 hs.2.1).1⟩) (fun A hs => by obtain ⟨c, h1, h2, _⟩ := hs; exact ⟨⟨c, h1⟩, (Array.getElem?_eq_some_iff.1 h2).1⟩) ?rounds ⟨hI 0 w W1 h0 (BelowR.full hB1 (Nat.le_refl _)), hL1, hD1⟩
  case rounds =>
    rintro s x A ⟨hi, hl, hd⟩ hp
    have hlt : w.heap.size + 1 < A.heap.size := (Array.getElem?_eq_some_iff.1 hl).1
    have hy := run_yield (P := P) (args := enc s x) hl (by rw [hrec]; exact hps s x)
    rw [hrec] at hy
    refine ⟨fn, _, assign, body, hy, roundIn_of_wpIn hfn (hassign s x A _ ⟨_, run_beginRound hl (by rw [hrec]), ?_⟩)⟩
    have hb : (A.putObj (w.heap.size + 1) (.loop { rec .ready none with state := .busy })).heap[w.heap.size + 1]? = some (.loop { rec .ready none with state := .busy }) := World.putObj_heap_same hlt
    have hd2 : (A.putObj (w.heap.size + 1) (.loop { rec .ready none with state := .busy })).heap[w.heap.size]? = some (.deferred (some [])) := (World.putObj_heap_other (by omega)).trans hd
    have hi2 := hI s A _ hi (belowR_putObj (.loop { rec .ready none with state := .busy }) (by omega) hl loop_row)
    refine wpIn_mono (hbody s x _ hi2 hp (by simpa using hlt)) ?_
    have fin : ∀ (jump : Option Code) (B : World), Held w.heap.size (A.putObj (w.heap.size + 1) (.loop { rec .ready none with state := .busy })) B →
        (Instr.endRound (w.heap.size + 1) jump).run P B = .ok (.bool jump.isNone) (B.putObj (w.heap.size + 1) (.loop (rec (if jump.isNone then .ready else .done) jump))) ∧
        (B.putObj (w.heap.size + 1) (.loop (rec (if jump.isNone then .ready else .done) jump))).heap[w.heap.size + 1]? = some (.loop (rec (if jump.isNone then .ready else .done) jump)) ∧
        (B.putObj (w.heap.size + 1) (.loop (rec (if jump.isNone then .ready else .done) jump))).heap[w.heap.size]? = some (.deferred (some [])) ∧
        Held (w.heap.size + 2) A (B.putObj (w.heap.size + 1) (.loop (rec (if jump.isNone then .ready else .done) jump))) ∧ BelowR w.heap.size B (B.putObj (w.heap.size + 1) (.loop (rec (if jump.isNone then .ready else .done) jump))) := by
      intro jump B hh
      have hl3 := hh.obj hb (by rintro cs fr e; cases e) (by omega)
      have hd3 := hh.obj hd2 (by rintro cs fr e; cases e) (Nat.le_refl _)
      have hr := run_endRound (P := P) jump hl3
      rw [hrec] at hr hl3 ⊢
      refine ⟨hr, World.putObj_heap_same (Array.getElem?_eq_some_iff.1 hl3).1, (World.putObj_heap_other (by omega)).trans hd3, ⟨?_, ?_⟩, belowR_putObj _ (by omega) hl3 loop_row⟩
      · have := hh.1; simp at this ⊢; exact this
      · intro b h1 h2 h3
        rw [World.putObj_heap_other (by omega), hh.2 b (by simpa using h1) (by omega) (by rintro ⟨cs, fr, e⟩; rw [World.putObj_heap_other (by omega)] at e; exact h3 ⟨cs, fr, e⟩), World.putObj_heap_other (by omega)]
    rintro e a3 B hp
    cases e with
    | normal =>
      obtain ⟨hi3, hh⟩ := hp
      obtain ⟨hr, hl4, hk4, hh4, hr4⟩ := fin none B hh
      exact ⟨_, _, hr, hh4, .inl ⟨rfl, hI _ B _ hi3 hr4, hl4, hk4⟩⟩
    | ret =>
      obtain ⟨hi3, hh⟩ := hp
      obtain ⟨hr, hl4, hk4, hh4, hr4⟩ := fin (some .ret) B hh
      exact ⟨_, _, hr, hh4, .inr ⟨rfl, .ret, hIx _ B _ hi3 hr4, hl4, hk4⟩⟩
    | exit id =>
      obtain ⟨hi3, hh⟩ := hp
      obtain ⟨hr, hl4, hk4, hh4, hr4⟩ := fin (some (.exit id)) B hh
      exact ⟨_, _, hr, hh4, .inr ⟨rfl, .exit id, hIx _ B _ hi3 hr4, hl4, hk4⟩⟩
    | goto t =>
      obtain ⟨hi3, hh⟩ := hp
      obtain ⟨hr, hl4, hk4, hh4, hr4⟩ := fin (some (.goto t)) B hh
      exact ⟨_, _, hr, hh4, .inr ⟨rfl, .goto t, hIx _ B _ hi3 hr4, hl4, hk4⟩⟩
    | panic ch => exact hp.elim
    | outgrown => exact hp.elim
  refine ⟨w.heap.size + 1, [{ target := .collected w.heap.size, args := #[] }], W1, { target := .fn (.func gf) lb, args := #[.func (.yield (w.heap.size + 1)) #[] #[]] }, W1, gf, #[.func (.yield (w.heap.size + 1)) #[] #[]] ++ lb, W1, ?_, ?_, ?_, ?_, ?_, ?_⟩
  · rw [← hW1, hrec]; exact run_enterLoop_outer _ _ _ _ _
  · simp only [resolve, hg]
    simp [go_sem]
  · intro f' _; trivial
  · simp [invoke, go_sem, eg]
  · intro h; cases h
  · refine hcall.mono ?_
    rintro e B ⟨⟨v, rfl⟩, ⟨hi, hl, hd⟩ | ⟨c, hi, hl, hd⟩⟩
    · have he := run_endLoop (P := P) hl (by rw [hrec]; simp)
      refine ⟨none, _, by rw [hrec] at he; exact he, ?_⟩
      exact hdone _ (hI _ B _ hi (belowR_putObj _ (by omega) hl loop_row)) ((World.putObj_heap_other (by omega)).trans hd)
    · have he := run_endLoop (P := P) hl (by rw [hrec]; simp)
      refine ⟨some c, _, by rw [hrec] at he; exact he, ?_⟩
      exact hstop c _ (hIx c B _ hi (belowR_putObj _ (by omega) hl loop_row)) ((World.putObj_heap_other (by omega)).trans hd)
end Go.Proofs.Ytnagknlfboadkaa.Oct.Wid
