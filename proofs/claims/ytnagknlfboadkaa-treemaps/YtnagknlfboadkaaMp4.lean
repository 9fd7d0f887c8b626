/-
  Layer 7 (tree): 'without'.
  Layer 7 (tree): 'without' of a key that stands in a node with kids; of any tree.
  Layer 7 (tree): a map of any keys: Put, Delete, Get, Len, Depth.
  Layer 7 (tree): Put and Delete of a map of any keys.
  Layer 7 (tree): Delete of a map of any keys, Clone, Depth.
  Layer 7 (tree): Depth of a map of any keys, and Clone.
  A statement whose order is open, inside a fence, where what is read is told by a condition S on the world that each of its operations keeps: an operation that only reads what S tells may be taken first. Of no program.
  Layer 7 (tree): the statement of the closure of 'from' that hands out a pair, whatever its order.
-/
import Derived.Test.YtnagknlfboadkaaMp3
import Derived.OrdersHeld
import Derived.OrdersIn
import Derived.WalkKit
import Derived.RangeFuncSeq
import Derived.RangeFuncNested
import Derived.RangeFuncCalls
/- Layer 7 (tree): 'without'. -/
namespace Go.Proofs.Ytnagknlfboadkaa.Oct
open Go.RowKit

/-- what 'without' does to a tree of depth d + 1 -/
def RemC (d : Nat) : Prop := ∀ (w : World) (t : T d) (nd : Nat) (key : ByteArray), Lies w d t nd → Good d t → 1 ≤ (prs d t).length → eqs key (tl d t) ≠ [] → Calls Try.prog 31 #[.pointer (some ⟨nd, 0, none⟩), .string key] w fun e w' =>
  ∃ (nd2 : Nat) (t2 : T d), e = .returned (.pointer (some ⟨nd2, 0, none⟩)) ∧ Hid (Lies w' d t2 nd2) ∧ Hid (tl d t2 = remP (tl d t) key ∧ WF d t2 ∧ (prs d t2).length ≤ (prs d t).length ∧ (prs d t).length ≤ (prs d t2).length + 1) ∧ Hid (Below w.heap.size w w')

set_option maxRecDepth 100000 in
set_option maxHeartbeats 1000000 in
theorem without_leaf (w : World) (nd n cap : Nat) (a : Option Addr) (ps : List Pr) (key : ByteArray) (k : Nat) (h : Nd w nd a n cap ps (.slice none 0 0)) (hm : Mono ps key) (hn : n ≤ 7) (hc : Cap a n cap) (ha : AtP ps key k) (hk : k < n) :
    Calls Try.prog 31 #[.pointer (some ⟨nd, 0, none⟩), .string key] w fun e w' => ∃ (nd2 : Nat) (ps2 : List Pr), e = .returned (.pointer (some ⟨nd2, 0, none⟩)) ∧ Hid (Lies w' 0 ps2 nd2) ∧ Hid (ps2 = ps.take k ++ ps.drop (k + 1)) ∧ Hid (Below w.heap.size w w') := by
  have HD : Hid (Nd w nd a n cap ps (.slice none 0 0)) := h
  have HM : Hid (Mono ps key ∧ AtP ps key k ∧ n ≤ 7 ∧ Cap a n cap ∧ k < n) := ⟨hm, ha, hn, hc, hk⟩
  clear h hm hn hc ha hk
  go_enter Try.func31, Try.ntmps31
  go_wp2_with fail
  refine (place_is w nd a n cap ps _ key HD.out HM.out.1 (by have := HM.out; omega)).mono ?_
  rintro e w1 ⟨k', rfl, HA, HB1⟩
  have hk' : k' = k := HA.out.uniq HM.out.2.1
  subst hk'
  have HD1 : Hid (Nd w1 nd a n cap ps (.slice none 0 0)) := HD.out.below HB1.out (Nat.le_refl _)
  have c0 := HD1.out.blk.cell (i := 0) rfl
  have c1 := HD1.out.blk.cell (i := 1) rfl
  have q1 : (k' : Int) + 1 ≤ 7 := by have := HM.out; omega
  obtain ⟨bb, hbb⟩ : ∃ bb, isP ps key k' = bb := ⟨_, rfl⟩
  rw [hbb]
  clear hbb
  go_wp2_with (first
    | (go_at_call 39; refine (leaf_is w1 nd c1).mono ?_; rintro e w2 ⟨rfl, rfl⟩)
    | (go_at_call 40; refine (spP w1 a n cap k' (k' + 1) _ _ rfl (by omega) ps none 0 0 [] HD1.out.rd HM.out.2.2.2.1 (by omega) (by have := HM.out; omega) ⟨rfl, fun h => absurd h (by omega)⟩ (by have := HM.out; omega)).mono ?_; rintro e w2 ⟨a2, n2, cap2, R2, rfl, HE2, HR2, HB2⟩))
  go_ret
  have hB := (Below.refl w2.heap.size w2).alloc (Nat.le_refl _) (Obj.cells #[Value.slice a2 n2 cap2, Value.slice none 0 0] 67)
  have hw := HB1.out.trans (HB2.out.mono HB1.out.size)
  exact ⟨w2.heap.size, R2, rfl, ⟨a2, n2, cap2, ⟨Blk.new _ _ _, HR2.out.1.below hB (Nat.le_refl _)⟩, HR2.out.2⟩, by show R2 = _; rw [HE2.out.1]; simp, hw.alloc hw.size _⟩
/-- one kid in another one's place, and what that makes of the others -/
theorem kids_set {w : World} {d k b : Nat} {ts : List (T d)} {bs R : List Nat} {t : T d} (h : Kids w d ts bs) (hl : Lies w d t b) (hR : R = bs.take k ++ [b] ++ bs.drop (k + 1)) : Kids w d (ts.take k ++ [t] ++ ts.drop (k + 1)) R := by
  rw [hR]
  exact ((h.take k).append (Kids.one hl)).append (h.drop (k + 1))
theorem set_at {d k : Nat} {ts : List (T d)} {t : T d} (hk : k < ts.length) : (ts.take k ++ [t] ++ ts.drop (k + 1))[k]? = some t := by
  rw [List.append_assoc, List.getElem?_append_right (by simp; omega)]
  simp [Nat.min_eq_left (Nat.le_of_lt hk)]
theorem set_oth {d k j : Nat} {ts : List (T d)} {t x : T d} (hk : k < ts.length) (hj : (ts.take k ++ [t] ++ ts.drop (k + 1))[j]? = some x) (hne : j ≠ k) : x ∈ ts := by
  have hm := List.getElem?_eq_some_iff.1 hj
  obtain ⟨hjl, e⟩ := hm
  by_cases hlt : j < k
  · rw [List.append_assoc, List.getElem?_append_left (by simp; omega), List.getElem?_take, if_pos hlt] at hj
    exact List.mem_of_getElem? hj
  · rw [List.append_assoc, List.getElem?_append_right (by simp; omega), List.length_take, Nat.min_eq_left (Nat.le_of_lt hk), List.getElem?_append_right (by simp; omega), List.getElem?_drop] at hj
    exact List.mem_of_getElem? hj
theorem set_len {d k : Nat} {ts : List (T d)} {t : T d} (hk : k < ts.length) : (ts.take k ++ [t] ++ ts.drop (k + 1)).length = ts.length := by simp; omega

set_option maxRecDepth 100000 in
set_option maxHeartbeats 2000000 in
theorem without_no (d : Nat) (IH : RemC d) (w : World) (nd n cap n' cap' : Nat) (a a' : Option Addr) (ps : List Pr) (ts : List (T d)) (bs : List Nat) (key : ByteArray) (k kb : Nat) (kt : T d) (h : Nd w nd a n cap ps (.slice a' n' cap')) (hm : Mono ps key) (hn : 1 ≤ n ∧ n ≤ 7) (hc : Cap a n cap) (ha : AtP ps key k) (hi : isP ps key k = false)
    (hk : RdK w a' n' bs) (hck : Cap a' n' cap') (hks : Kids w d ts bs) (hok : KidsOk d ts) (hl : ts.length = ps.length + 1) (hkt : ts[k]? = some kt) (hkb : bs[k]? = some kb) (hgd : Good d kt) (h3 : 3 ≤ (prs d kt).length) (hin : eqs key (tl d kt) ≠ []) :
    Calls Try.prog 31 #[.pointer (some ⟨nd, 0, none⟩), .string key] w fun e w' => ∃ (nd2 : Nat) (t2 : T (d + 1)), e = .returned (.pointer (some ⟨nd2, 0, none⟩)) ∧ Hid (Lies w' (d + 1) t2 nd2) ∧ Hid (tl (d + 1) t2 = upp ((ts.map (tl d)).take k) (ps.take k) ++ remP (tl d kt) key ++ dn (ps.drop k) ((ts.map (tl d)).drop (k + 1)) ∧ WF (d + 1) t2 ∧ t2.1.length ≤ ps.length ∧ ps.length ≤ t2.1.length + 1) ∧ Hid (Below w.heap.size w w') := by
  have HD : Hid (Nd w nd a n cap ps (.slice a' n' cap')) := h
  have HM : Hid (Mono ps key ∧ AtP ps key k ∧ (1 ≤ n ∧ n ≤ 7) ∧ Cap a n cap) := ⟨hm, ha, hn, hc⟩
  have HI : Hid (isP ps key k = false) := hi
  have HQ : Hid (RdK w a' n' bs ∧ Cap a' n' cap' ∧ Kids w d ts bs ∧ KidsOk d ts ∧ ts.length = ps.length + 1) := ⟨hk, hck, hks, hok, hl⟩
  have HT : Hid (ts[k]? = some kt ∧ bs[k]? = some kb ∧ Good d kt ∧ 3 ≤ (prs d kt).length ∧ eqs key (tl d kt) ≠ [] ∧ Lies w d kt kb) := ⟨hkt, hkb, hgd, h3, hin, hks.2 k kt kb hkt hkb⟩
  have HIH : Hid (RemC d) := IH
  have hnn : n' = n + 1 := by rw [← hk.1, hks.1, hl, h.rd.1]
  have HNN : Hid (n' = n + 1) := hnn
  have hkl : k < n' := by rw [← hk.1]; exact (List.getElem?_eq_some_iff.1 hkb).1
  obtain ⟨gk, offk, rfl, hgk, hck2⟩ := hk.2 (by omega)
  have HKC : Hid (w.cell? ⟨gk, offk + k, none⟩ = some (.pointer (some ⟨kb, 0, none⟩)) ∧ gk < w.heap.size) := ⟨hck2 k kb hkb, hgk.lt⟩
  have HKL : Hid (k < n') := hkl
  have q7 : (k : Int) < (n' : Int) := by omega
  have HZ : Hid (((n' : Int) == 0) = false) := by show _ = _; simp; omega
  clear h hm hn hc ha hi hk hck hks hok hl hkt hkb hgd h3 hin hgk hck2 hnn hkl IH
  go_enter Try.func31, Try.ntmps31
  go_wp2_with fail
  refine (place_is w nd a n cap ps _ key HD.out HM.out.1 (by have := HM.out; omega)).mono ?_
  rintro e w1 ⟨k', rfl, HA, HB1⟩
  have hk' : k' = k := HA.out.uniq HM.out.2.1
  subst hk'
  rw [HI.out]
  have HD1 : Hid (Nd w1 nd a n cap ps (.slice (some ⟨gk, offk, none⟩) n' cap')) := HD.out.below HB1.out (Nat.le_refl _)
  have c1 := HD1.out.blk.cell (i := 1) rfl
  have ck : w1.cell? ⟨gk, offk + k', none⟩ = some (.pointer (some ⟨kb, 0, none⟩)) := (HB1.out.cell (p := ⟨gk, _, none⟩) HKC.out.2).trans HKC.out.1
  go_wp2_with (first
    | (go_at_call 39; refine (isLeaf_any w1 nd _ n' cap' false HZ.out c1).mono ?_; rintro e w2 ⟨rfl, rfl⟩)
    | (go_at_call 31; refine (HIH.out w1 kt kb key (HT.out.2.2.2.2.2.below HB1.out (Nat.le_refl _)) HT.out.2.2.1 (by have := HT.out.2.2.2.1; omega) HT.out.2.2.2.2.1).mono ?_; rintro e w3 ⟨b3, t3, rfl, HL3, HO3, HB3⟩; have HW3 : Hid (Below w.heap.size w w3) := HB1.out.trans (HB3.out.mono HB1.out.size))
    | (go_at_call 42; refine (withKid_is w3 nd n cap n' cap' b3 k' a (some ⟨gk, offk, none⟩) ps bs (HD.out.below HW3.out (Nat.le_refl _)) (HQ.out.1.below HW3.out (Nat.le_refl _)) HQ.out.2.1 HKL.out (by have := HNN.out; have := HM.out; omega)).mono ?_; rintro e w5 ⟨nd5, a5, n5, cap5, bs5, rfl, HE5, HN5, HB5⟩)
    | (go_at_call 43; refine (mended_is d w5 nd5 n cap n5 cap5 k' a a5 ps (ts.take k' ++ [t3] ++ ts.drop (k' + 1)) bs5 HN5.out.1 HM.out.2.2.2 HN5.out.2.1 HN5.out.2.2 (kids_set ((HQ.out.2.2.1.below HW3.out).below HB5.out) (HL3.out.below HB5.out (Nat.le_refl _)) HE5.out) (by rw [set_len (List.getElem?_eq_some_iff.1 HT.out.1).1]; exact HQ.out.2.2.2.2) HM.out.2.2.1 t3 (set_at (List.getElem?_eq_some_iff.1 HT.out.1).1) ⟨HO3.out.2.1, by have := HO3.out.2.2; have := HT.out.2.2.2.1; omega, by have := HO3.out.2.2.1; have := HT.out.2.2.1.most; omega⟩ (fun j x hj hne => HQ.out.2.2.2.1 x (set_oth (List.getElem?_eq_some_iff.1 HT.out.1).1 hj hne))).mono ?_; rintro e w6 ⟨nd6, t6, rfl, HL6, HO6, HB6⟩))
  go_ret
  have k5 := HW3.out.trans (HB5.out.mono HW3.out.size)
  refine ⟨nd6, t6, rfl, HL6, ⟨?_, HO6.out.2⟩, k5.trans (HB6.out.mono k5.size)⟩
  rw [HO6.out.1, List.map_append, List.map_append, List.map_take, List.map_drop]
  rw [show List.map (tl d) [t3] = [tl d t3] from rfl]
  rw [inter_set (by simpa using HQ.out.2.2.2.2) (kid_map HT.out.1), HO3.out.1]
end Go.Proofs.Ytnagknlfboadkaa.Oct

/- Layer 7 (tree): 'without' of a key that stands in a node with kids; of any tree. -/
namespace Go.Proofs.Ytnagknlfboadkaa.Oct
open Go.RowKit

set_option maxRecDepth 100000 in
set_option maxHeartbeats 2000000 in
theorem without_is (d : Nat) (IH : RemC d) (w : World) (nd n cap n' cap' : Nat) (a a' : Option Addr) (ps : List Pr) (ts : List (T d)) (bs : List Nat) (key : ByteArray) (k kb : Nat) (kt : T d) (h : Nd w nd a n cap ps (.slice a' n' cap')) (hm : Mono ps key) (hn : 1 ≤ n ∧ n ≤ 7) (hc : Cap a n cap) (ha : AtP ps key k) (hi : isP ps key k = true)
    (hk : RdK w a' n' bs) (hck : Cap a' n' cap') (hks : Kids w d ts bs) (hok : KidsOk d ts) (hl : ts.length = ps.length + 1) (hkt : ts[k]? = some kt) (hkb : bs[k]? = some kb) (hgd : Good d kt) (h3 : 3 ≤ (prs d kt).length) (hkn : k < n) :
    Calls Try.prog 31 #[.pointer (some ⟨nd, 0, none⟩), .string key] w fun e w' => ∃ (nd2 : Nat) (t2 : T (d + 1)) (A : List Pr) (up : Pr), e = .returned (.pointer (some ⟨nd2, 0, none⟩)) ∧ Hid (Lies w' (d + 1) t2 nd2) ∧ Hid (tl d kt = A ++ [up]) ∧ Hid (tl (d + 1) t2 = upp ((ts.map (tl d)).take k) (ps.take k) ++ A ++ dn (up :: ps.drop (k + 1)) ((ts.map (tl d)).drop (k + 1)) ∧ WF (d + 1) t2 ∧ t2.1.length ≤ ps.length ∧ ps.length ≤ t2.1.length + 1) ∧ Hid (Below w.heap.size w w') := by
  have HD : Hid (Nd w nd a n cap ps (.slice a' n' cap')) := h
  have HM : Hid (Mono ps key ∧ AtP ps key k ∧ (1 ≤ n ∧ n ≤ 7) ∧ Cap a n cap ∧ k < n) := ⟨hm, ha, hn, hc, hkn⟩
  have HI : Hid (isP ps key k = true) := hi
  have HQ : Hid (RdK w a' n' bs ∧ Cap a' n' cap' ∧ Kids w d ts bs ∧ KidsOk d ts ∧ ts.length = ps.length + 1) := ⟨hk, hck, hks, hok, hl⟩
  have HT : Hid (ts[k]? = some kt ∧ bs[k]? = some kb ∧ Good d kt ∧ 3 ≤ (prs d kt).length ∧ Lies w d kt kb) := ⟨hkt, hkb, hgd, h3, hks.2 k kt kb hkt hkb⟩
  have HIH : Hid (RemC d) := IH
  have hnn : n' = n + 1 := by rw [← hk.1, hks.1, hl, h.rd.1]
  have HNN : Hid (n' = n + 1) := hnn
  have hkl : k < n' := by omega
  obtain ⟨gk, offk, rfl, hgk, hck2⟩ := hk.2 (by omega)
  have HKC : Hid (w.cell? ⟨gk, offk + k, none⟩ = some (.pointer (some ⟨kb, 0, none⟩)) ∧ gk < w.heap.size) := ⟨hck2 k kb hkb, hgk.lt⟩
  have HKL : Hid (k < n') := hkl
  have HLN : Hid (nd < w.heap.size) := h.blk.lt
  have q7 : (k : Int) < (n' : Int) := by omega
  have q8 : (k : Int) + 1 ≤ 7 := by omega
  have HZ : Hid (((n' : Int) == 0) = false) := by show _ = _; simp; omega
  clear h hm hn hc ha hi hk hck hks hok hl hkt hkb hgd h3 hgk hck2 hnn hkl IH hkn
  go_enter Try.func31, Try.ntmps31
  go_wp2_with fail
  refine (place_is w nd a n cap ps _ key HD.out HM.out.1 (by have := HM.out; omega)).mono ?_
  rintro e w1 ⟨k', rfl, HA, HB1⟩
  have hk' : k' = k := HA.out.uniq HM.out.2.1
  subst hk'
  rw [HI.out]
  have HD1 : Hid (Nd w1 nd a n cap ps (.slice (some ⟨gk, offk, none⟩) n' cap')) := HD.out.below HB1.out (Nat.le_refl _)
  have c0 := HD1.out.blk.cell (i := 0) rfl
  have c1 := HD1.out.blk.cell (i := 1) rfl
  have ck : w1.cell? ⟨gk, offk + k', none⟩ = some (.pointer (some ⟨kb, 0, none⟩)) := (HB1.out.cell (p := ⟨gk, _, none⟩) HKC.out.2).trans HKC.out.1
  go_wp2_with (first
    | (go_at_call 39; refine (isLeaf_any w1 nd _ n' cap' false HZ.out c1).mono ?_; rintro e w2 ⟨rfl, rfl⟩)
    | (go_at_call 41; refine (last_is w1 d kt kb (HT.out.2.2.2.2.below HB1.out (Nat.le_refl _)) HT.out.2.2.1 (by have := HT.out.2.2.2.1; omega)).mono ?_; rintro e w2 ⟨up, rfl, HU, HB2⟩))
  obtain ⟨A, hA⟩ := HU.out
  have HAA : Hid (tl d kt = A ++ [up]) := hA
  clear hA HU
  obtain ⟨W, hW⟩ : ∃ W, W = w2.alloc (Obj.cells #[Value.string up.1, Value.string up.2] 40) := ⟨_, rfl⟩
  obtain ⟨tb, htb⟩ : ∃ tb, w2.heap.size = tb := ⟨_, rfl⟩
  have HBW : Hid (Below w.heap.size w W) := by rw [hW]; have k := HB1.out.trans (HB2.out.mono HB1.out.size); exact k.alloc k.size _
  have HTB : Hid (Blk W tb 40 [.string up.1, .string up.2]) := by rw [hW, ← htb]; exact Blk.new _ _ _
  rw [← hW, htb]
  clear hW htb c0 c1 ck
  have HND : Hid (Nd W nd a n cap ps (.slice (some ⟨gk, offk, none⟩) n' cap')) := HD.out.below HBW.out (Nat.le_refl _)
  have c0 := HND.out.blk.cell (i := 0) rfl
  have c1 := HND.out.blk.cell (i := 1) rfl
  have ck : W.cell? ⟨gk, offk + k', none⟩ = some (.pointer (some ⟨kb, 0, none⟩)) := (HBW.out.cell (p := ⟨gk, _, none⟩) HKC.out.2).trans HKC.out.1
  have t0 := HTB.out.cell (i := 0) rfl
  have t1 := HTB.out.cell (i := 1) rfl
  have HKEEP : Hid (∀ W', Below W.heap.size W W' → (fun w' => w'.cell? ⟨nd, 0, none⟩ = some (.slice a n cap) ∧ w'.cell? ⟨nd, 1, none⟩ = some (.slice (some ⟨gk, offk, none⟩) n' cap') ∧ w'.cell? ⟨tb, 0, none⟩ = some (.string up.1) ∧ w'.cell? ⟨tb, 1, none⟩ = some (.string up.2) ∧ w'.cell? ⟨gk, offk + k', none⟩ = some (.pointer (some ⟨kb, 0, none⟩))) W') := fun W' hb => ⟨(hb.cell (p := ⟨nd, 0, none⟩) HND.out.blk.lt).trans c0, (hb.cell (p := ⟨nd, 1, none⟩) HND.out.blk.lt).trans c1, (hb.cell (p := ⟨tb, 0, none⟩) HTB.out.lt).trans t0, (hb.cell (p := ⟨tb, 1, none⟩) HTB.out.lt).trans t1, (hb.cell (p := ⟨gk, _, none⟩) (Nat.lt_of_lt_of_le HKC.out.2 HBW.out.size)).trans ck⟩
  have BP : Hid (Below W.heap.size W (W.alloc (Obj.cells #[Value.string up.1, Value.string up.2] 40)).drew) := ((Below.refl _ W).alloc (Nat.le_refl _) _).drew
  have HJ : Hid (IntKind.i64.wrap ((k' : Int) + 1) = ((k' + 1 : Nat) : Int)) := by show _ = _; rw [IntKind.wrap_i64]; omega
  have H40 : Hid (Calls Try.prog 40 #[.slice a n cap, .int .i64 (k' : Int), .int .i64 (IntKind.i64.wrap ((k' : Int) + 1)), .slice (some ⟨W.heap.size, 0, none⟩) 1 1] (W.alloc (Obj.cells #[Value.string up.1, Value.string up.2] 40)).drew (SpP (W.alloc (Obj.cells #[Value.string up.1, Value.string up.2] 40)).drew k' (k' + 1) n 1 ps [up])) := spP (W.alloc (Obj.cells #[Value.string up.1, Value.string up.2] 40)).drew a n cap k' (k' + 1) _ _ rfl HJ.out ps (some ⟨W.heap.size, 0, none⟩) 1 1 [up] (HND.out.below BP.out (Nat.le_refl _)).rd HM.out.2.2.2.1 (by omega) (by have := HM.out; omega) (rdp_one (Blk.new W #[.string up.1, .string up.2] 40).drew) (by have := HM.out; omega)
  go_wp2_with fail
  go_region_held_law (fun w' => w'.cell? ⟨nd, 0, none⟩ = some (.slice a n cap) ∧ w'.cell? ⟨nd, 1, none⟩ = some (.slice (some ⟨gk, offk, none⟩) n' cap') ∧ w'.cell? ⟨tb, 0, none⟩ = some (.string up.1) ∧ w'.cell? ⟨tb, 1, none⟩ = some (.string up.2) ∧ w'.cell? ⟨gk, offk + k', none⟩ = some (.pointer (some ⟨kb, 0, none⟩)))
    (first | with_reducible exact HKEEP.out _ (Below.refl _ W).drew | with_reducible exact HKEEP.out _ BP.out | with_reducible exact HKEEP.out _ HB5.out | with_reducible exact HKEEP.out _ (HB5.out.alloc HB5.out.size _))
    (first
    | (go_at_call 40; (with_reducible refine Calls.mono H40.out ?_); rintro e w5 ⟨a5, n5, cap5, R5, rfl, HE5, HR5, hB5⟩; have HB5 : Hid (Below W.heap.size W w5) := BP.out.trans (hB5.out.mono BP.out.size); clear hB5))
  obtain ⟨V, hV⟩ : ∃ V, V = w5.alloc (Obj.cells #[Value.slice a5 n5 cap5, Value.slice (some { block := gk, off := offk }) n' cap'] 67) := ⟨_, rfl⟩
  obtain ⟨rb, hrb⟩ : ∃ rb, w5.heap.size = rb := ⟨_, rfl⟩
  have hNV := (Below.refl w5.heap.size w5).alloc (Nat.le_refl _) (Obj.cells #[Value.slice a5 n5 cap5, Value.slice (some { block := gk, off := offk }) n' cap'] 67)
  have HBV : Hid (Below W.heap.size W V) := by rw [hV]; exact HB5.out.alloc HB5.out.size _
  have HNR : Hid (Nd V rb a5 n5 cap5 R5 (.slice (some ⟨gk, offk, none⟩) n' cap')) := by
    rw [hV, ← hrb]
    exact ⟨Blk.new _ _ _, HR5.out.1.below hNV (Nat.le_refl _)⟩
  have HWV : Hid (Below w.heap.size w V) := HBW.out.trans (HBV.out.mono HBW.out.size)
  have HN5 : Hid (R5.length = n5 ∧ n5 = n ∧ R5.length = ps.length) := by
    have e1 := HR5.out.1.1
    have e2 := HE5.out.2
    have e3 := HD.out.rd.1
    have e4 := HM.out
    exact ⟨e1, by omega, by omega⟩
  have HIN : Hid (eqs up.1 (tl d kt) ≠ []) := by
    show _ ≠ _
    rw [HAA.out]
    simp [eqs]
  clear hNV c0 c1 ck t0 t1 H40
  go_wp2_with fail
  rw [← hV, hrb]
  clear hV hrb
  have HKL5 : Hid (k' < ts.length) := (List.getElem?_eq_some_iff.1 HT.out.1).1
  go_region_held_law (fun w' => w'.cell? ⟨nd, 0, none⟩ = some (.slice a n cap) ∧ w'.cell? ⟨nd, 1, none⟩ = some (.slice (some ⟨gk, offk, none⟩) n' cap') ∧ w'.cell? ⟨tb, 0, none⟩ = some (.string up.1) ∧ w'.cell? ⟨tb, 1, none⟩ = some (.string up.2) ∧ w'.cell? ⟨gk, offk + k', none⟩ = some (.pointer (some ⟨kb, 0, none⟩)))
    (first | with_reducible exact HKEEP.out _ HBV.out.drew | with_reducible exact HKEEP.out _ HB6.out | with_reducible exact HKEEP.out _ HB7.out | with_reducible exact HKEEP.out _ HB8.out)
    (first
    | (go_at_call 31; refine (HIH.out V.drew kt kb up.1 (HT.out.2.2.2.2.below HWV.out.drew (Nat.le_refl _)) HT.out.2.2.1 (by have := HT.out.2.2.2.1; omega) HIN.out).mono ?_; rintro e w6 ⟨b6, t6, rfl, HL6, HO6, hB6⟩; have HV6 : Hid (Below V.heap.size V w6) := ⟨hB6.out.os, hB6.out.tape, hB6.out.output, hB6.out.size, hB6.out.block⟩; have HB6 : Hid (Below W.heap.size W w6) := HBV.out.trans (HV6.out.mono HBV.out.size); have HW6 : Hid (Below w.heap.size w w6) := HWV.out.trans (HV6.out.mono HWV.out.size); clear hB6)
    | (go_at_call 42; refine (withKid_is w6 rb n5 cap5 n' cap' b6 k' a5 (some ⟨gk, offk, none⟩) R5 bs (HNR.out.below HV6.out (Nat.le_refl _)) (HQ.out.1.below HW6.out (Nat.le_refl _)) HQ.out.2.1 HKL.out (by have := HNN.out; have := HM.out; omega)).mono ?_; rintro e w7 ⟨nd7, a7, n7, cap7, bs7, rfl, HE7, HN7, HB67⟩; have HB7 : Hid (Below W.heap.size W w7) := HB6.out.trans (HB67.out.mono HB6.out.size))
    | (go_at_call 43; refine (mended_is d w7 nd7 n5 cap5 n7 cap7 k' a5 a7 R5 (ts.take k' ++ [t6] ++ ts.drop (k' + 1)) bs7 HN7.out.1 HR5.out.2 HN7.out.2.1 HN7.out.2.2 (kids_set ((HQ.out.2.2.1.below HW6.out).below HB67.out) (HL6.out.below HB67.out (Nat.le_refl _)) HE7.out) (by rw [set_len HKL5.out, HQ.out.2.2.2.2, HN5.out.2.2]) (by have := HN5.out; have := HM.out; omega) t6 (set_at HKL5.out) ⟨HO6.out.2.1, by have := HO6.out.2.2; have := HT.out.2.2.2.1; omega, by have := HO6.out.2.2.1; have := HT.out.2.2.1.most; omega⟩ (fun j x hj hne => HQ.out.2.2.2.1 x (set_oth HKL5.out hj hne))).mono ?_; rintro e w8 ⟨nd8, t8, rfl, HL8, HO8, HB78⟩; have HB8 : Hid (Below W.heap.size W w8) := HB7.out.trans (HB78.out.mono HB7.out.size)))
  go_wp2
  go_ret
  refine ⟨nd8, t8, A, up, rfl, HL8, HAA, ⟨?_, HO8.out.2.1, ?_, ?_⟩, HBW.out.trans (HB8.out.mono HBW.out.size)⟩
  · rw [HO8.out.1, List.map_append, List.map_append, List.map_take, List.map_drop]
    rw [show List.map (tl d) [t6] = [tl d t6] from rfl]
    have hpl := HD.out.rd.1
    have hkn := HM.out.2.2.2.2
    rw [inter_set (by rw [List.length_map, HQ.out.2.2.2.2, HN5.out.2.2]) (kid_map HT.out.1)]
    have e1 : tl d t6 = A := by
      rw [HO6.out.1, HAA.out]
      have hr := HT.out.2.2.1.ris
      rw [HAA.out] at hr
      have := remP_one (x := up) (B := []) hr.split.1 (by intro x hx; cases hx)
      rw [List.append_nil] at this
      exact this
    have q3 : R5.take k' = ps.take k' := by
      rw [HE5.out.1, List.append_assoc, List.take_append_of_le_length (by simp; omega), List.take_take, Nat.min_self]
    have q4 : R5.drop k' = up :: ps.drop (k' + 1) := by
      rw [HE5.out.1, List.append_assoc, List.drop_append, List.drop_eq_nil_of_le (by simp; omega)]
      simp [Nat.min_eq_left (show k' ≤ ps.length by omega)]
    rw [e1, q3, q4]
  · have := HO8.out.2.2.1; have := HN5.out; omega
  · have := HO8.out.2.2.2; have := HN5.out; omega

theorem rem_all : ∀ d, RemC d
  | 0 => by
    intro w t0 nd key hL hG h1 hne
    obtain ⟨t, ht0⟩ : ∃ t : List Pr, t = t0 := ⟨t0, rfl⟩
    subst ht0
    obtain ⟨a, n, cap, hN, hC⟩ := hL
    have hr : Ris t := hG.ris
    have hm := ris_mono hr key
    obtain ⟨k, ha⟩ := find_at t key hm
    have hn : n ≤ 7 := by rw [← hN.rd.1]; exact hG.most
    cases hi : isP t key k with
    | false => exact absurd (eqs_no hr ha hi) hne
    | true =>
      have hlt : k < t.length := by
        cases hx : t[k]? with
        | some y => exact (List.getElem?_eq_some_iff.1 hx).1
        | none => simp only [isP, hx] at hi; cases hi
      refine (without_leaf w nd n cap a t key k hN hm hn hC ha (by rw [← hN.rd.1]; exact hlt)).mono ?_
      rintro e w' ⟨nd2, ps2, rfl, h2, h3, h4⟩
      have hl : ps2.length = t.length - 1 := by rw [h3.out]; simp; omega
      refine ⟨nd2, ps2, rfl, h2, ⟨?_, trivial, ?_, ?_⟩, h4⟩
      · show ps2 = remP t key
        rw [h3.out, leaf_rem hr ha hi]
      · show ps2.length ≤ t.length; omega
      · show t.length ≤ ps2.length + 1; omega
  | d + 1 => by
    intro w t nd key hL hG h1 hne
    obtain ⟨a, n, cap, a', n', cap', bs, hN, hC, hK, hCK, hbl, hkk⟩ := hL
    have hr : Ris (inter (t.2.map (tl d)) t.1) := hG.ris
    have hrp : Ris t.1 := ris_own hG.ris hG.wf.1
    have hm := ris_mono hrp key
    obtain ⟨k, ha⟩ := find_at t.1 key hm
    have hn : 1 ≤ n ∧ n ≤ 7 := by rw [← hN.rd.1]; exact ⟨h1, hG.most⟩
    have hks : Kids w d t.2 bs := ⟨hbl, hkk⟩
    have hkl : k < t.2.length := by have := ha.1; have := hG.wf.1; omega
    have hkt : t.2[k]? = some t.2[k] := List.getElem?_eq_getElem hkl
    have hkb : bs[k]? = some bs[k] := List.getElem?_eq_getElem (by rw [hbl]; exact hkl)
    have hgk := hG.kid hkt
    have hne' : eqs key (inter (t.2.map (tl d)) t.1) ≠ [] := hne
    cases hi : isP t.1 key k with
    | false =>
      obtain ⟨A, B, e, hA, hB, hLA, hGB, _⟩ := node_at hG.wf.1 hr hrp ha hkt hi
      refine (without_no d (rem_all d) w nd n cap n' cap' a a' t.1 t.2 bs key k bs[k] t.2[k] hN hm hn hC ha hi hK hCK hks hG.wf.2 hG.wf.1 hkt hkb hgk.1 hgk.2 (by rw [e, eqs_mid hLA hGB] at hne'; exact hne')).mono ?_
      rintro e' w' ⟨nd2, t2, rfl, h2, h3, h4⟩
      refine ⟨nd2, t2, rfl, h2, ⟨?_, h3.out.2⟩, h4⟩
      rw [h3.out.1]
      show _ = remP (inter (t.2.map (tl d)) t.1) key
      rw [e, remP_mid hLA hGB, hA, hB]
    | true =>
      obtain ⟨_, hat, _⟩ := ris_at hrp ha
      obtain ⟨y, hy, hyk, hsp, _⟩ := hat hi
      have hlt := (List.getElem?_eq_some_iff.1 hy).1
      refine (without_is d (rem_all d) w nd n cap n' cap' a a' t.1 t.2 bs key k bs[k] t.2[k] hN hm hn hC ha hi hK hCK hks hG.wf.2 hG.wf.1 hkt hkb hgk.1 hgk.2 (by rw [← hN.rd.1]; exact hlt)).mono ?_
      rintro e' w' ⟨nd2, t2, A, up, rfl, h2, h3, h4, h5⟩
      refine ⟨nd2, t2, rfl, h2, ⟨?_, h4.out.2⟩, h5⟩
      rw [h4.out.1]
      show _ = remP (inter (t.2.map (tl d)) t.1) key
      have e0 := inter_at k (tl d t.2[k]) (ls := t.2.map (tl d)) (ps := t.1) (by simpa using hG.wf.1) (kid_map hkt)
      have hdp : t.1.drop k = y :: t.1.drop (k + 1) := by
        rw [List.drop_eq_getElem_cons hlt]
        rw [List.getElem?_eq_getElem hlt] at hy
        rw [Option.some.inj hy]
      have hwl := hG.wf.1
      have hk1 : k + 1 < (t.2.map (tl d)).length := by simp; omega
      have e1 : (t.2.map (tl d)).drop (k + 1) = (t.2.map (tl d))[k + 1] :: (t.2.map (tl d)).drop (k + 1 + 1) := List.drop_eq_getElem_cons hk1
      rw [hdp, e1, h3.out] at e0
      rw [e1]
      generalize (t.2.map (tl d))[k + 1] = N at *
      generalize (t.2.map (tl d)).drop (k + 1 + 1) = M at *
      generalize upp ((t.2.map (tl d)).take k) (t.1.take k) = U at *
      have d1 : ∀ z : Pr, dn (z :: t.1.drop (k + 1)) (N :: M) = z :: (N ++ dn (t.1.drop (k + 1)) M) := fun z => by simp [dn]
      rw [d1] at e0 ⊢
      rw [e0] at hr ⊢
      have hs := hr.split
      rw [← hyk, remP_one hs.1 hs.2]
      simp
end Go.Proofs.Ytnagknlfboadkaa.Oct

/- Layer 7 (tree): a map of any keys: Put, Delete, Get, Len, Depth. -/
namespace Go.Proofs.Ytnagknlfboadkaa.Oct
open Go.RowKit

theorem depth_all : ∀ (d : Nat), d ≤ 1000 → ∀ (w : World) (t : T d) (nd : Nat), Lies w d t nd → WF d t → Calls Try.prog 35 #[.pointer (some ⟨nd, 0, none⟩)] w fun e w' => e = .returned (.int .i64 ((d + 1 : Nat) : Int)) ∧ w = w'
  | 0, _ => fun w t nd hL _ => by
    obtain ⟨a, n, cap, h1, _⟩ := hL
    exact depth_leaf w nd (h1.blk.cell (i := 1) rfl)
  | d + 1, hd => fun w t nd hL hw => by
    obtain ⟨a, n, cap, a', n', cap', bs, h1, _, h3, _, h5, h6⟩ := hL
    have hl := hw.1
    have hb0 : 0 < bs.length := by omega
    have ht0 : 0 < t.2.length := by omega
    have hnn : 0 < n' := by rw [← h3.1]; exact hb0
    obtain ⟨g, off, rfl, _, hc⟩ := h3.2 hnn
    have ck := hc 0 _ (List.getElem?_eq_getElem hb0)
    have hk := h6 0 _ _ (List.getElem?_eq_getElem ht0) (List.getElem?_eq_getElem hb0)
    have hwk := (hw.2 _ (List.getElem_mem ht0)).1
    have IH := depth_all d (by omega) w t.2[0] bs[0] hk hwk
    have HIH : Hid (Calls Try.prog 35 #[.pointer (some ⟨bs[0], 0, none⟩)] w fun e w' => e = .returned (.int .i64 ((d + 1 : Nat) : Int)) ∧ w = w') := IH
    have c1 := h1.blk.cell (i := 1) rfl
    have HZ : Hid (((n' : Int) == 0) = false) := by show _ = _; simp; omega
    have q1 : (0 : Int) < (n' : Int) := by omega
    obtain ⟨D, hD⟩ : ∃ D : Nat, d + 1 = D := ⟨_, rfl⟩
    rw [hD] at HIH ⊢
    have q2 : (D : Int) ≤ 1001 := by omega
    generalize bs[0] = b0 at *
    clear h1 h3 h5 h6 hc hk hwk IH hl hb0 ht0 hD
    simp only [Nat.add_zero] at ck
    go_enter Try.func35, Try.ntmps35
    go_wp2_with (first
      | (go_at_call 39; refine (isLeaf_any w nd _ n' cap' false HZ.out c1).mono ?_; rintro e w2 ⟨rfl, rfl⟩)
      | (go_at_call 35; refine HIH.out.mono ?_; rintro e w2 ⟨rfl, rfl⟩))
    go_ret
    exact ⟨by rw [show ((D + 1 : Nat) : Int) = 1 + (D : Int) by omega]; rfl, rfl⟩
theorem asRoot_pos (w : World) (nd n cap : Nat) (a : Option Addr) (hn : 0 < n) (h : w.cell? ⟨nd, 0, none⟩ = some (.slice a n cap)) : Calls Try.prog 32 #[.pointer (some ⟨nd, 0, none⟩)] w fun e w' => e = .returned (.pointer (some ⟨nd, 0, none⟩)) ∧ w = w' := by
  have q1 : (0 : Int) < (n : Int) := by omega
  go_enter Try.func32, Try.ntmps32
  go_wp2
  go_ret
  exact ⟨rfl, rfl⟩
theorem asRoot_leaf (w : World) (nd cap : Nat) (a : Option Addr) (h : w.cell? ⟨nd, 0, none⟩ = some (.slice a 0 cap)) (h1 : w.cell? ⟨nd, 1, none⟩ = some (.slice none 0 0)) : Calls Try.prog 32 #[.pointer (some ⟨nd, 0, none⟩)] w fun e w' => e = .returned (.pointer none) ∧ w = w' := by
  go_enter Try.func32, Try.ntmps32
  go_wp2_with (go_at_call 39; refine (leaf_is w nd h1).mono ?_; rintro e w2 ⟨rfl, rfl⟩)
  go_ret
  exact ⟨rfl, rfl⟩
theorem asRoot_node (w : World) (nd cap g off n' cap' kb : Nat) (a : Option Addr) (h : w.cell? ⟨nd, 0, none⟩ = some (.slice a 0 cap)) (h1 : w.cell? ⟨nd, 1, none⟩ = some (.slice (some ⟨g, off, none⟩) n' cap')) (hn : 0 < n') (hk : w.cell? ⟨g, off, none⟩ = some (.pointer (some ⟨kb, 0, none⟩))) : Calls Try.prog 32 #[.pointer (some ⟨nd, 0, none⟩)] w fun e w' => e = .returned (.pointer (some ⟨kb, 0, none⟩)) ∧ w = w' := by
  have q1 : (0 : Int) < (n' : Int) := by omega
  have HZ : Hid (((n' : Int) == 0) = false) := by show _ = _; simp; omega
  go_enter Try.func32, Try.ntmps32
  go_wp2_with (go_at_call 39; refine (isLeaf_any w nd _ n' cap' false HZ.out h1).mono ?_; rintro e w2 ⟨rfl, rfl⟩)
  go_ret
  exact ⟨rfl, rfl⟩
theorem whole_two (w : World) (b b2 : Nat) (m : Pr) : Calls Try.prog 34 #[two b m b2] w fun e w' => ∃ (nd gp gk : Nat), e = .returned (.pointer (some ⟨nd, 0, none⟩)) ∧ Hid (Nd w' nd (some ⟨gp, 0, none⟩) 1 1 [m] (.slice (some ⟨gk, 0, none⟩) 2 2) ∧ RdK w' (some ⟨gk, 0, none⟩) 2 [b, b2]) ∧ Hid (Below w.heap.size w w') := by
  unfold two
  go_enter Try.func34, Try.ntmps34
  go_wp2
  go_ret
  obtain ⟨w1, h1⟩ : ∃ w1, w1 = w.alloc (Obj.cells #[Value.pointer (some { block := b, off := 0 }), Value.string m.1, Value.string m.2, Value.pointer (some { block := b2, off := 0 })] 59) := ⟨_, rfl⟩
  have hs1 : w1.heap.size = w.heap.size + 1 := by rw [h1]; simp
  have hb1 : Below w.heap.size w w1 := by rw [h1]; exact (Below.refl _ w).alloc (Nat.le_refl _) _
  rw [← h1]
  have e2 := Blk.new w1 #[.string m.1, .string m.2] 40
  have e3 := Blk.new (w1.alloc (Obj.cells #[Value.string m.1, Value.string m.2] 40)) #[kp b, kp b2] 46
  have e4 := Blk.new ((w1.alloc (Obj.cells #[Value.string m.1, Value.string m.2] 40)).alloc (Obj.cells #[Value.pointer (some { block := b, off := 0 }), Value.pointer (some { block := b2, off := 0 })] 46)) #[Value.slice (some { block := w.heap.size + 1, off := 0 }) 1 1, Value.slice (some { block := w.heap.size + 1 + 1, off := 0 }) 2 2] 67
  rw [World.size_alloc, World.size_alloc, hs1] at e4
  rw [World.size_alloc, hs1] at e3
  rw [hs1] at e2
  exact ⟨_, _, _, rfl, ⟨⟨e4, rdp_one ((e2.alloc _).alloc _)⟩, rdk_two (e3.alloc _)⟩, ((hb1.alloc (by omega) _).alloc (by simp; omega) _).alloc (by simp; omega) _⟩
/-- a map that holds just the pairs of a list -/
def Tr (w : World) (m : Nat) (L : List Pr) : Prop := (Mp w m (.pointer none) 0 ∧ L = []) ∨ ∃ (d : Nat) (t : T d) (nd : Nat), Mp w m (.pointer (some ⟨nd, 0, none⟩)) L.length ∧ Lies w d t nd ∧ Good d t ∧ 1 ≤ (prs d t).length ∧ tl d t = L
theorem Tr.below {w w' : World} {m : Nat} {L : List Pr} (h : Tr w m L) (hb : Below w.heap.size w w') : Tr w' m L := by
  rcases h with ⟨h1, h2⟩ | ⟨d, t, nd, h1, h2, h3⟩
  · exact .inl ⟨h1.keep hb (Nat.le_refl _), h2⟩
  · exact .inr ⟨d, t, nd, h1.keep hb (Nat.le_refl _), h2.below hb (Nat.le_refl _), h3⟩
theorem Tr.ris {w : World} {m : Nat} {L : List Pr} (h : Tr w m L) : Ris L := by
  rcases h with ⟨_, rfl⟩ | ⟨d, t, nd, _, _, h3, _, rfl⟩
  · exact List.Pairwise.nil
  · exact h3.ris
theorem Mp.oth {w : World} {m n : Nat} {r : Value} (h : Mp w m r n) : Oth w m := Blk.oth (show Blk w m 48 _ from h) (by decide) (by decide) (by decide)

theorem tget (w : World) (m : Nat) (L : List Pr) (key : ByteArray) (h : Tr w m L) : Calls Try.prog 21 #[.pointer (some ⟨m, 0, none⟩), .string key] w fun e w' => e = .returned (.tuple #[.string (gv (eqs key L)), .bool (!(eqs key L).isEmpty)]) ∧ Hid (Below w.heap.size w w') := by
  rcases h with ⟨h1, rfl⟩ | ⟨d, t, nd, h1, h2, h3, h4, rfl⟩
  · have c2 := h1.cell (i := 2) rfl
    have c0 := h1.cell (i := 0) rfl
    go_enter Try.func21, Try.ntmps21
    go_wp2_with (first | (go_at_call 22; refine (made_is w m true c2).mono ?_; rintro e w2 ⟨rfl, rfl⟩) | (go_at_call 30; refine (get_nil w key).mono ?_; rintro e w3 ⟨rfl, hB⟩; have HB : Hid (Below w.heap.size w w3) := hB; clear hB))
    go_ret2
    exact ⟨rfl, HB⟩
  · have c2 := h1.cell (i := 2) rfl
    have c0 := h1.cell (i := 0) rfl
    have HC : Hid (Lies w d t nd ∧ Good d t) := ⟨h2, h3⟩
    clear h1 h2 h3
    go_enter Try.func21, Try.ntmps21
    go_wp2_with (first | (go_at_call 22; refine (made_is w m true c2).mono ?_; rintro e w2 ⟨rfl, rfl⟩) | (go_at_call 30; refine (get_is w d t nd key HC.out.1 HC.out.2).mono ?_; rintro e w3 ⟨rfl, HB⟩))
    go_ret2
    exact ⟨rfl, HB⟩
theorem tlen (w : World) (m : Nat) (L : List Pr) (h : Tr w m L) : Calls Try.prog 15 #[.pointer (some ⟨m, 0, none⟩)] w fun e w' => e = .returned (.int .i64 (L.length : Int)) ∧ w = w' := by
  rcases h with ⟨h1, rfl⟩ | ⟨d, t, nd, h1, _⟩
  · exact len_is w m _ 0 h1
  · exact len_is w m _ _ h1
/-- a half put together, as a good tree -/
theorem half_root {d : Nat} {H : Half d} {L : List Pr} (ho : H.ok) (hl : H.list = L) : match H with | .one t => tl d t = L ∧ WF d t ∧ (prs d t).length ≤ 7 | .two l m r => tl (d + 1) (([m], [l, r]) : T (d + 1)) = L ∧ WF (d + 1) (([m], [l, r]) : T (d + 1)) := by
  cases H with
  | one t => exact ⟨hl, ho.1, ho.2⟩
  | two l m r =>
    refine ⟨?_, rfl, ?_⟩
    · rw [← hl]
      show inter [tl d l, tl d r] [m] = tl d l ++ m :: tl d r
      simp [inter, dn]
    · intro k hk
      rcases List.mem_cons.1 hk with rfl | hk
      · exact ho.1
      · rw [List.mem_singleton.1 hk]; exact ho.2
end Go.Proofs.Ytnagknlfboadkaa.Oct

/- Layer 7 (tree): Put and Delete of a map of any keys. -/
namespace Go.Proofs.Ytnagknlfboadkaa.Oct
open Go.RowKit

theorem parts_len (k : ByteArray) : ∀ L : List Pr, (lo k L).length + (eqs k L).length + (hi k L).length = L.length
  | [] => rfl
  | x :: L => by
    have ih := parts_len k L
    unfold lo eqs hi at ih ⊢
    simp only [List.filter_cons]
    cases h1 : Lt x.1 k with
    | true =>
      have h2 : (x.1.toList == k.toList) = false := by
        cases h : (x.1.toList == k.toList) with
        | false => rfl
        | true => rw [eqb_iff.1 h, lt_irrefl] at h1; cases h1
      have h3 := lt_asymm h1
      simp [h2, h3]; omega
    | false =>
      cases h3 : Lt k x.1 with
      | true =>
        have h2 : (x.1.toList == k.toList) = false := by
          cases h : (x.1.toList == k.toList) with
          | false => rfl
          | true => rw [eqb_iff.1 h, lt_irrefl] at h3; cases h3
        simp [h2]; omega
      | false =>
        have h2 : (x.1.toList == k.toList) = true := eqb_iff.2 (lt_total h1 h3)
        simp [h2]; omega
theorem eqs_one_or {L : List Pr} (h : Ris L) (k : ByteArray) : eqs k L = [] ∨ ∃ x, eqs k L = [x] := by
  obtain ⟨j, ha⟩ := find_at L k (ris_mono h k)
  cases hi : isP L k j with
  | false => exact .inl (eqs_no h ha hi)
  | true => obtain ⟨x, _, _, e⟩ := eqs_is h ha hi; exact .inr ⟨x, e⟩
theorem ins_len {L : List Pr} (h : Ris L) (x : Pr) : (insP L x).length = if (eqs x.1 L).isEmpty = true then L.length + 1 else L.length := by
  have hp := parts_len x.1 L
  unfold insP
  rcases eqs_one_or h x.1 with e | ⟨y, e⟩
  · rw [e] at hp ⊢; simp at hp ⊢; omega
  · rw [e] at hp ⊢; simp at hp ⊢; omega
theorem rem_len {L : List Pr} (h : Ris L) (k : ByteArray) : (remP L k).length = if (eqs k L).isEmpty = true then L.length else L.length - 1 := by
  have hp := parts_len k L
  unfold remP
  rcases eqs_one_or h k with e | ⟨y, e⟩
  · rw [e] at hp ⊢; simp at hp ⊢; omega
  · rw [e] at hp ⊢; simp at hp ⊢; omega
/-- a tree's root, put back into its map -/
theorem tr_root {w w4 : World} {m nd d c : Nat} {t : T d} {r0 : Value} (hl : Lies w4 d t nd) (hg : Good d t) (h1 : 1 ≤ (prs d t).length) (hm : Mp w4 m r0 c) (hc : c = (tl d t).length) (hgr : w.grownBy w4 (some m)) :
    Tr (w4.setCell ⟨m, 0, none⟩ (.pointer (some ⟨nd, 0, none⟩))) m (tl d t) ∧ w.grownBy (w4.setCell ⟨m, 0, none⟩ (.pointer (some ⟨nd, 0, none⟩))) (some m) := by
  subst hc
  exact ⟨.inr ⟨d, t, nd, Blk.set hm 0 _, hl.oth (grown_setCell _ _ _ _) hm.oth, hg, h1, rfl⟩, grown_tr hgr (grown_setCell _ _ _ _)⟩
/-- behind 'put' and 'whole' -/
def Whl (w : World) (L : List Pr) (e : Ending) (w' : World) : Prop := ∃ (nd d' : Nat) (t : T d'), e = .returned (.pointer (some ⟨nd, 0, none⟩)) ∧ Hid (Lies w' d' t nd ∧ Good d' t ∧ 1 ≤ (prs d' t).length ∧ tl d' t = L) ∧ Hid (Below w.heap.size w w')
theorem whole_all (d : Nat) (w : World) (b : Nat) (y : Pr) (r : Option Addr) (H : Half d) (L : List Pr) (hl : H.lies w (hv b y r)) (ho : H.ok) (hL : H.list = L) (hr : Ris L) (h1 : ∀ t, H = .one t → 1 ≤ (prs d t).length) : Calls Try.prog 34 #[hv b y r] w (Whl w L) := by
  have hh := half_root ho hL
  cases H with
  | one t =>
    obtain ⟨bb, hbb, hlies⟩ := hl
    rw [hbb]
    refine (whole_is w bb).mono ?_
    rintro e w' ⟨rfl, hB⟩
    exact ⟨bb, d, t, rfl, ⟨hlies.below hB.out (Nat.le_refl _), ⟨hh.2.1, by rw [hh.1]; exact hr, hh.2.2⟩, h1 t rfl, hh.1⟩, hB⟩
  | two l m q =>
    obtain ⟨b1, b2, hbb, hl1, hl2⟩ := hl
    rw [hbb]
    refine (whole_two w b1 b2 m).mono ?_
    rintro e w' ⟨nd, gp, gk, rfl, hN, hB⟩
    have hK : Kids w' d [l, q] [b1, b2] := (Kids.one (hl1.below hB.out (Nat.le_refl _))).append (Kids.one (hl2.below hB.out (Nat.le_refl _)))
    refine ⟨nd, d + 1, ([m], [l, q]), rfl, ⟨⟨_, 1, 1, _, 2, 2, [b1, b2], hN.out.1, ⟨Nat.le_refl _, .inr ⟨_, _, rfl⟩⟩, hN.out.2, ⟨Nat.le_refl _, .inr ⟨_, _, rfl⟩⟩, hK.1, hK.2⟩, ⟨hh.2, by rw [hh.1]; exact hr, by show [m].length ≤ 7; simp⟩, Nat.le_refl _, hh.1⟩, hB⟩

set_option maxRecDepth 100000 in
set_option maxHeartbeats 1000000 in
theorem tput (w : World) (m : Nat) (L : List Pr) (x : Pr) (h : Tr w m L) (hb : L.length ≤ 1000000) : Calls Try.prog 19 #[.pointer (some ⟨m, 0, none⟩), .string x.1, .string x.2] w fun e w' => e = .returned (.bool (!(eqs x.1 L).isEmpty)) ∧ Hid (Tr w' m (insP L x)) ∧ Hid (w.grownBy w' (some m)) := by
  rcases h with ⟨h1, rfl⟩ | ⟨d, t, nd, h1, h2, h3, h4, hL⟩
  · refine (mput_nil w m x h1).mono ?_
    rintro e w' ⟨nd, g, rfl, hM, hN, hG⟩
    refine ⟨rfl, .inr ⟨0, [x], nd, hM, ⟨_, _, _, hN, Nat.le_refl _, .inr ⟨_, _, rfl⟩⟩, ⟨trivial, by show Ris [x]; exact List.pairwise_singleton _ _, by show [x].length ≤ 7; simp⟩, by show 1 ≤ [x].length; simp, rfl⟩, hG.out.1⟩
  · have hris : Ris L := by rw [← hL]; exact h3.ris
    have hil := ins_len hris x
    have hir := ris_ins hris x
    obtain ⟨k, v⟩ := x
    have HM : Hid (Mp w m (.pointer (some ⟨nd, 0, none⟩)) L.length) := h1
    have HT : Hid (Lies w d t nd ∧ Good d t ∧ 1 ≤ (prs d t).length ∧ tl d t = L) := ⟨h2, h3, h4, hL⟩
    have HR : Hid ((insP L (k, v)).length = (if (eqs k L).isEmpty = true then L.length + 1 else L.length) ∧ Ris (insP L (k, v))) := ⟨hil, hir⟩
    have c0 := h1.cell (i := 0) rfl
    have c2 := h1.cell (i := 2) rfl
    obtain ⟨N, hN⟩ : ∃ N, L.length = N := ⟨_, rfl⟩
    rw [hN] at HM HR hb
    have HNL : Hid (L.length = N) := hN
    obtain ⟨E, hE⟩ : ∃ E, eqs k L = E := ⟨_, rfl⟩
    have HE : Hid (eqs k (tl d t) = E) := by show _ = _; rw [hL]; exact hE
    rw [hE] at HR ⊢
    clear h1 h2 h3 h4 hL hris hil hir hN hE
    go_enter Try.func19, Try.ntmps19
    go_wp2_with (first | (go_at_call 22; refine (made_is w m true c2).mono ?_; rintro e w2 ⟨rfl, rfl⟩) | fail)
    refine (get_is w d t nd k HT.out.1 HT.out.2.1).mono ?_
    rintro e w1 ⟨rfl, HB1⟩
    rw [HE.out]
    have HM1 : Hid (Mp w1 m (.pointer (some ⟨nd, 0, none⟩)) N) := HM.out.keep HB1.out (Nat.le_refl _)
    have d0 := HM1.out.cell (i := 0) rfl
    have d1 := HM1.out.cell (i := 1) rfl
    have g1 := HM1.out.free 1
    have q1 : (N : Int) ≤ 1000000 := by omega
    have FIN : Hid (∀ (W : World) (c : Nat), Mp W m (.pointer (some ⟨nd, 0, none⟩)) c → Lies W d t nd → w.grownBy W (some m) → Calls Try.prog 33 #[.pointer (some ⟨nd, 0, none⟩), .agg #[.string k, .string v]] W fun e w3 => ∃ (b : Nat) (y : Pr) (r : Option Addr) (H : Half d), e = .returned (hv b y r) ∧ Hid (H.lies w3 (hv b y r) ∧ H.ok ∧ H.list = insP L (k, v) ∧ (∀ t', H = .one t' → 1 ≤ (prs d t').length)) ∧ Hid (Mp w3 m (.pointer (some ⟨nd, 0, none⟩)) c ∧ w.grownBy w3 (some m))) := by
      intro W c hM hLi hG
      refine (put_all d W t nd (k, v) hLi HT.out.2.1).mono ?_
      rintro e w3 ⟨b, y, r, H, rfl, q1, q2, q3⟩
      refine ⟨b, y, r, H, rfl, ⟨q1.out, q2.out.2.1, by rw [q2.out.1, HT.out.2.2.2], fun t' ht => ?_⟩, ⟨hM.keep q3.out (Nat.le_refl _), grown_tr hG (below_grown q3.out _)⟩⟩
      have := q2.out.2.2 t' ht
      have := HT.out.2.2.1
      omega
    obtain ⟨V, hV⟩ : ∃ V, gv E = V := ⟨_, rfl⟩
    rw [hV]
    clear hV c0 c2
    cases hem : E.isEmpty with
    | true =>
      have HEM : Hid (E.isEmpty = true) := hem
      clear hem
      go_wp2_with fail
      have HM2 : Hid (Mp (w1.setCell ⟨m, 1, none⟩ (.int .i64 ((N : Int) + 1))) m (.pointer (some ⟨nd, 0, none⟩)) (N + 1)) := Blk.set HM1.out 1 _
      have HL2 : Hid (Lies (w1.setCell ⟨m, 1, none⟩ (.int .i64 ((N : Int) + 1))) d t nd) := (HT.out.1.below HB1.out (Nat.le_refl _)).oth (grown_setCell _ _ _ _) HM1.out.oth
      refine (FIN.out _ (N + 1) HM2.out HL2.out (grown_tr (below_grown HB1.out _) (grown_setCell _ _ _ _))).mono ?_
      rintro e w3 ⟨b, y, r, H, rfl, HH, HM3⟩
      go_wp2_with fail
      refine (whole_all d w3 b y r H (insP L (k, v)) HH.out.1 HH.out.2.1 HH.out.2.2.1 HR.out.2 HH.out.2.2.2).mono ?_
      rintro e w4 ⟨nd4, d4, t4, rfl, HT4, HB4⟩
      have HM4 : Hid (Mp w4 m (.pointer (some ⟨nd, 0, none⟩)) (N + 1)) := HM3.out.1.keep HB4.out (Nat.le_refl _)
      have e0 := HM4.out.cell (i := 0) rfl
      have g0 := HM4.out.free 0
      clear d0 d1 g1
      go_wp2
      go_ret
      have hE := tr_root HT4.out.1 HT4.out.2.1 HT4.out.2.2.1 HM4.out (by rw [HT4.out.2.2.2, HR.out.1, if_pos HEM.out]) (grown_tr HM3.out.2 (below_grown HB4.out _))
      rw [HT4.out.2.2.2] at hE
      exact ⟨by rw [HEM.out]; rfl, hE.1, hE.2⟩
    | false =>
      have HEM : Hid (E.isEmpty = false) := hem
      clear hem
      go_wp2_with fail
      refine (FIN.out w1 N HM1.out (HT.out.1.below HB1.out (Nat.le_refl _)) (below_grown HB1.out _)).mono ?_
      rintro e w3 ⟨b, y, r, H, rfl, HH, HM3⟩
      go_wp2_with fail
      refine (whole_all d w3 b y r H (insP L (k, v)) HH.out.1 HH.out.2.1 HH.out.2.2.1 HR.out.2 HH.out.2.2.2).mono ?_
      rintro e w4 ⟨nd4, d4, t4, rfl, HT4, HB4⟩
      have HM4 : Hid (Mp w4 m (.pointer (some ⟨nd, 0, none⟩)) N) := HM3.out.1.keep HB4.out (Nat.le_refl _)
      have e0 := HM4.out.cell (i := 0) rfl
      have g0 := HM4.out.free 0
      clear d0 d1 g1
      go_wp2
      go_ret
      have hE := tr_root HT4.out.1 HT4.out.2.1 HT4.out.2.2.1 HM4.out (by rw [HT4.out.2.2.2, HR.out.1, if_neg (by rw [HEM.out]; simp)]) (grown_tr HM3.out.2 (below_grown HB4.out _))
      rw [HT4.out.2.2.2] at hE
      exact ⟨by rw [HEM.out]; rfl, hE.1, hE.2⟩
end Go.Proofs.Ytnagknlfboadkaa.Oct

/- Layer 7 (tree): Delete of a map of any keys, Clone, Depth. -/
namespace Go.Proofs.Ytnagknlfboadkaa.Oct
open Go.RowKit

/-- a map's root -/
def Root (w : World) (v : Option Addr) (L : List Pr) : Prop := (v = none ∧ L = []) ∨ ∃ (d : Nat) (t : T d) (nd : Nat), v = some ⟨nd, 0, none⟩ ∧ Lies w d t nd ∧ Good d t ∧ 1 ≤ (prs d t).length ∧ tl d t = L
theorem Root.oth {w w' : World} {m : Nat} {v : Option Addr} {L : List Pr} (h : Root w v L) (hg : w.grownBy w' (some m)) (ho : Oth w m) : Root w' v L := by
  rcases h with h | ⟨d, t, nd, h1, h2, h3⟩
  · exact .inl h
  · exact .inr ⟨d, t, nd, h1, h2.oth hg ho, h3⟩
theorem Root.tr {w : World} {m : Nat} {v : Option Addr} {L : List Pr} (h : Root w v L) (hm : Mp w m (.pointer v) L.length) : Tr w m L := by
  rcases h with ⟨h1, h2⟩ | ⟨d, t, nd, h1, h2, h3⟩
  · subst h1 h2; exact .inl ⟨hm, rfl⟩
  · subst h1; exact .inr ⟨d, t, nd, hm, h2, h3⟩
theorem tr_root2 {w w4 : World} {m c : Nat} {v : Option Addr} {r0 : Value} {L : List Pr} (h : Root w4 v L) (hm : Mp w4 m r0 c) (hc : c = L.length) (hgr : w.grownBy w4 (some m)) :
    Tr (w4.setCell ⟨m, 0, none⟩ (.pointer v)) m L ∧ w.grownBy (w4.setCell ⟨m, 0, none⟩ (.pointer v)) (some m) := by
  subst hc
  exact ⟨(h.oth (grown_setCell _ _ _ _) hm.oth).tr (Blk.set hm 0 _), grown_tr hgr (grown_setCell _ _ _ _)⟩
theorem asRoot_all (w : World) (d : Nat) (t : T d) (nd : Nat) (L : List Pr) (hl : Lies w d t nd) (hw : WF d t) (hL : tl d t = L) (hr : Ris L) (h7 : (prs d t).length ≤ 7) :
    Calls Try.prog 32 #[.pointer (some ⟨nd, 0, none⟩)] w fun e w' => ∃ v, e = .returned (.pointer v) ∧ Hid (Root w v L) ∧ w = w' := by
  by_cases h0 : 1 ≤ (prs d t).length
  · have : ∃ a n cap, w.cell? ⟨nd, 0, none⟩ = some (.slice a n cap) ∧ 0 < n := by
      match d, t, hl, h0 with
      | 0, t, hl, h0 =>
        obtain ⟨a, n, cap, h1, _⟩ := hl
        exact ⟨a, n, cap, h1.blk.cell (i := 0) rfl, by rw [← h1.rd.1]; exact h0⟩
      | d + 1, t, hl, h0 =>
        obtain ⟨a, n, cap, a', n', cap', bs, h1, _⟩ := hl
        exact ⟨a, n, cap, h1.blk.cell (i := 0) rfl, by rw [← h1.rd.1]; exact h0⟩
    obtain ⟨a, n, cap, hc, hn⟩ := this
    refine (asRoot_pos w nd n cap a hn hc).mono ?_
    rintro e w' ⟨rfl, rfl⟩
    exact ⟨_, rfl, .inr ⟨d, t, nd, rfl, hl, ⟨hw, by rw [hL]; exact hr, h7⟩, h0, hL⟩, rfl⟩
  · match d, t, hl, h0, hL, hw with
    | 0, t, hl, h0, hL, hw =>
      obtain ⟨a, n, cap, h1, _⟩ := hl
      have ht : t = ([] : List Pr) := List.eq_nil_of_length_eq_zero (by have : ¬ 1 ≤ List.length (t : List Pr) := h0; omega)
      have hn : n = 0 := by rw [← h1.rd.1, ht]; rfl
      subst hn
      refine (asRoot_leaf w nd cap a (h1.blk.cell (i := 0) rfl) (h1.blk.cell (i := 1) rfl)).mono ?_
      rintro e w' ⟨rfl, rfl⟩
      exact ⟨_, rfl, .inl ⟨rfl, by rw [← hL, ht]; rfl⟩, rfl⟩
    | d + 1, t, hl, h0, hL, hw =>
      obtain ⟨a, n, cap, a', n', cap', bs, h1, _, h3, _, h5, h6⟩ := hl
      have ht : t.1 = [] := List.eq_nil_of_length_eq_zero (by have : ¬ 1 ≤ t.1.length := h0; omega)
      have hn : n = 0 := by rw [← h1.rd.1, ht]; rfl
      subst hn
      have hlen := hw.1
      rw [ht] at hlen
      obtain ⟨k, hk⟩ := List.length_eq_one_iff.1 (show t.2.length = 1 by simpa using hlen)
      rw [hk] at h5
      obtain ⟨kb, hkb⟩ := List.length_eq_one_iff.1 (show bs.length = 1 by simpa using h5)
      subst hkb
      have hnn : 0 < n' := by rw [← h3.1]; simp
      obtain ⟨g, off, rfl, _, hc⟩ := h3.2 hnn
      have ck := hc 0 _ rfl
      have hkid := h6 0 k kb (by rw [hk]; rfl) rfl
      have hwk := hw.2 k (by rw [hk]; simp)
      have hLk : tl d k = L := by
        rw [← hL]
        show _ = inter (t.2.map (tl d)) t.1
        rw [hk, ht]; simp [inter, dn]
      refine (asRoot_node w nd cap g off n' cap' kb a (h1.blk.cell (i := 0) rfl) (h1.blk.cell (i := 1) rfl) hnn ck).mono ?_
      rintro e w' ⟨rfl, rfl⟩
      exact ⟨_, rfl, .inr ⟨d, k, kb, rfl, hkid, ⟨hwk.1, by rw [hLk]; exact hr, hwk.2.2⟩, by omega, hLk⟩, rfl⟩
theorem rem_no : ∀ {L : List Pr}, Ris L → ∀ k : ByteArray, eqs k L = [] → remP L k = L
  | [], _, _, _ => rfl
  | x :: L, h, k, he => by
    have hr : Ris L := (List.pairwise_cons.1 h).2
    have hx := (List.pairwise_cons.1 h).1
    cases h1 : Lt x.1 k with
    | true =>
      have e2 : eqs k L = [] := by
        unfold eqs at he ⊢
        rw [List.filter_cons] at he
        split at he
        · cases he
        · exact he
      have ih := rem_no hr k e2
      unfold remP lo hi at ih ⊢
      rw [List.filter_cons, if_pos h1, List.filter_cons, if_neg (by rw [lt_asymm h1]; simp), List.cons_append, ih]
    | false =>
      have h3 : Lt k x.1 = true := by
        cases h3 : Lt k x.1 with
        | true => rfl
        | false =>
          have := lt_total h1 h3
          unfold eqs at he
          rw [List.filter_cons, if_pos (eqb_iff.2 this)] at he
          cases he
      have hG : AllG k (x :: L) := fun y hy => by
        rcases List.mem_cons.1 hy with rfl | hy
        · exact h3
        · exact lt_trans h3 (hx y hy)
      unfold remP
      rw [lo_G hG, hi_G hG]; rfl
theorem eqs_of_empty {E : List Pr} (h : E.isEmpty = false) : E ≠ [] := by rintro rfl; simp at h

set_option maxRecDepth 100000 in
set_option maxHeartbeats 1000000 in
theorem tdel (w : World) (m : Nat) (L : List Pr) (k : ByteArray) (h : Tr w m L) (hb : L.length ≤ 1000000) : Calls Try.prog 18 #[.pointer (some ⟨m, 0, none⟩), .string k] w fun e w' => e = .returned (.bool (!(eqs k L).isEmpty)) ∧ Hid (Tr w' m (remP L k)) ∧ Hid (w.grownBy w' (some m)) := by
  have hrl := rem_len h.ris k
  have hrr := ris_rem h.ris k
  rcases h with ⟨h1, rfl⟩ | ⟨d, t, nd, h1, h2, h3, h4, hL⟩
  · have HM : Hid (Mp w m (.pointer none) 0) := h1
    have c2 := h1.cell (i := 2) rfl
    have c0 := h1.cell (i := 0) rfl
    clear h1
    go_enter Try.func18, Try.ntmps18
    go_wp2_with (first | (go_at_call 22; refine (made_is w m true c2).mono ?_; rintro e w2 ⟨rfl, rfl⟩) | (go_at_call 30; refine (get_nil w k).mono ?_; rintro e w3 ⟨rfl, hB⟩; have HB : Hid (Below w.heap.size w w3) := hB; clear hB))
    go_ret
    exact ⟨rfl, .inl ⟨HM.out.keep HB.out (Nat.le_refl _), rfl⟩, below_grown HB.out _⟩
  · have HM : Hid (Mp w m (.pointer (some ⟨nd, 0, none⟩)) L.length) := h1
    have HT : Hid (Lies w d t nd ∧ Good d t ∧ 1 ≤ (prs d t).length ∧ tl d t = L) := ⟨h2, h3, h4, hL⟩
    have HR : Hid ((remP L k).length = (if (eqs k L).isEmpty = true then L.length else L.length - 1) ∧ Ris (remP L k)) := ⟨hrl, hrr⟩
    have c0 := h1.cell (i := 0) rfl
    have c2 := h1.cell (i := 2) rfl
    have HNO : Hid (eqs k L = [] → remP L k = L) := fun he => rem_no (by rw [← hL]; exact h3.ris) k he
    obtain ⟨N, hN⟩ : ∃ N, L.length = N := ⟨_, rfl⟩
    rw [hN] at HM HR hb
    have HNL : Hid (L.length = N) := hN
    obtain ⟨E, hE⟩ : ∃ E, eqs k L = E := ⟨_, rfl⟩
    have HE : Hid (eqs k (tl d t) = E) := by show _ = _; rw [hL]; exact hE
    have HEL : Hid (E.isEmpty = false → 1 ≤ N) := fun he => by
      have := parts_len k L
      rw [hE] at this
      cases E with
      | nil => simp at he
      | cons x E => simp at this; omega
    rw [hE] at HR HNO ⊢
    clear h1 h2 h3 h4 hL hrl hrr hN hE
    go_enter Try.func18, Try.ntmps18
    go_wp2_with (first | (go_at_call 22; refine (made_is w m true c2).mono ?_; rintro e w2 ⟨rfl, rfl⟩) | fail)
    refine (get_is w d t nd k HT.out.1 HT.out.2.1).mono ?_
    rintro e w1 ⟨rfl, HB1⟩
    rw [HE.out]
    have HM1 : Hid (Mp w1 m (.pointer (some ⟨nd, 0, none⟩)) N) := HM.out.keep HB1.out (Nat.le_refl _)
    have d0 := HM1.out.cell (i := 0) rfl
    have d1 := HM1.out.cell (i := 1) rfl
    have g1 := HM1.out.free 1
    have q1 : (N : Int) ≤ 1000000 := by omega
    obtain ⟨V, hV⟩ : ∃ V, gv E = V := ⟨_, rfl⟩
    rw [hV]
    clear hV c0 c2
    cases hem : E.isEmpty with
    | true =>
      have HEM : Hid (E.isEmpty = true) := hem
      clear hem
      go_wp2_with fail
      go_ret
      refine ⟨by rw [HEM.out]; rfl, ?_, below_grown HB1.out _⟩
      rw [HNO.out (List.isEmpty_iff.1 HEM.out)]
      exact .inr ⟨d, t, nd, by rw [HNL.out]; exact HM1.out, HT.out.1.below HB1.out (Nat.le_refl _), HT.out.2.1, HT.out.2.2.1, HT.out.2.2.2⟩
    | false =>
      have HEM : Hid (E.isEmpty = false) := hem
      have hN1 := HEL.out hem
      have q2 : (1 : Int) ≤ (N : Int) := by omega
      have HN1 : Hid (((N - 1 : Nat) : Int) = (N : Int) - 1) := by show _ = _; omega
      clear hem hN1
      go_wp2_with fail
      have HM2 : Hid (Mp (w1.setCell ⟨m, 1, none⟩ (.int .i64 ((N : Int) - 1))) m (.pointer (some ⟨nd, 0, none⟩)) (N - 1)) := by
        show Mp _ _ _ _
        have := Blk.set HM1.out 1 (.int .i64 ((N - 1 : Nat) : Int))
        rw [HN1.out] at this
        unfold Mp; rw [HN1.out]
        exact this
      have HL2 : Hid (Lies (w1.setCell ⟨m, 1, none⟩ (.int .i64 ((N : Int) - 1))) d t nd) := (HT.out.1.below HB1.out (Nat.le_refl _)).oth (grown_setCell _ _ _ _) HM1.out.oth
      have HG2 : Hid (w.grownBy (w1.setCell ⟨m, 1, none⟩ (.int .i64 ((N : Int) - 1))) (some m)) := grown_tr (below_grown HB1.out _) (grown_setCell _ _ _ _)
      refine (rem_all d _ t nd k HL2.out HT.out.2.1 HT.out.2.2.1 (by rw [HE.out]; exact eqs_of_empty HEM.out)).mono ?_
      rintro e w3 ⟨nd2, t2, rfl, HL3, HT3, HB3⟩
      have HM3 : Hid (Mp w3 m (.pointer (some ⟨nd, 0, none⟩)) (N - 1)) := HM2.out.keep HB3.out (Nat.le_refl _)
      have HG3 : Hid (w.grownBy w3 (some m)) := grown_tr HG2.out (below_grown HB3.out _)
      clear d0 d1 g1
      go_wp2_with fail
      refine (asRoot_all w3 d t2 nd2 (remP L k) HL3.out HT3.out.2.1 (by rw [HT3.out.1, HT.out.2.2.2]) HR.out.2 (by have := HT3.out.2.2.1; have := HT.out.2.1.most; omega)).mono ?_
      rintro e w4 ⟨v, rfl, HRT, rfl⟩
      have e0 := HM3.out.cell (i := 0) rfl
      have g0 := HM3.out.free 0
      go_wp2
      go_ret
      have hE := tr_root2 HRT.out HM3.out (by rw [HR.out.1, if_neg (by rw [HEM.out]; simp)]) HG3.out
      exact ⟨by rw [HEM.out]; rfl, hE.1, hE.2⟩
end Go.Proofs.Ytnagknlfboadkaa.Oct

/- Layer 7 (tree): Depth of a map of any keys, and Clone. -/
namespace Go.Proofs.Ytnagknlfboadkaa.Oct
open Go.RowKit

theorem dn_len : ∀ {ps : List Pr} {ls : List (List Pr)}, ls.length = ps.length → (dn ps ls).length = (ls.map (fun l => l.length + 1)).sum
  | [], [], _ => rfl
  | [], _ :: _, h => by simp at h
  | _ :: _, [], h => by simp at h
  | p :: ps, l :: ls, h => by
    have ih := dn_len (ps := ps) (ls := ls) (by simpa using h)
    unfold dn at ih ⊢
    rw [List.zipWith_cons_cons, List.flatten_cons, List.length_append, ih]
    simp
theorem inter_len {ps : List Pr} {ls : List (List Pr)} (h : ls.length = ps.length + 1) : (inter ls ps).length + 1 = (ls.map (fun l => l.length + 1)).sum := by
  cases ls with
  | nil => simp at h
  | cons l ls =>
    show (l ++ dn ps ls).length + 1 = _
    rw [List.length_append, dn_len (by simpa using h)]
    simp; omega
theorem sum_ge {c : Nat} : ∀ {l : List Nat}, (∀ x ∈ l, c ≤ x) → l.length * c ≤ l.sum
  | [], _ => by simp
  | x :: l, h => by
    have ih := sum_ge (l := l) fun y hy => h y (List.mem_cons_of_mem _ hy)
    have := h x List.mem_cons_self
    simp only [List.length_cons, List.sum_cons, Nat.add_mul, Nat.one_mul]; omega
theorem sum_le {c : Nat} : ∀ {l : List Nat}, (∀ x ∈ l, x ≤ c) → l.sum ≤ l.length * c
  | [], _ => by simp
  | x :: l, h => by
    have ih := sum_le (l := l) fun y hy => h y (List.mem_cons_of_mem _ hy)
    have := h x List.mem_cons_self
    simp only [List.length_cons, List.sum_cons, Nat.add_mul, Nat.one_mul]; omega
/-- how many pairs a tree has, by its root's -/
theorem filled : ∀ (d : Nat) (t : T d), WF d t → ((prs d t).length + 1) * 4 ^ d ≤ (tl d t).length + 1 ∧ (tl d t).length + 1 ≤ ((prs d t).length + 1) * 8 ^ d
  | 0, t, _ => by show (_ + 1) * 1 ≤ _ ∧ _ ≤ (_ + 1) * 1; rw [Nat.mul_one]; exact ⟨Nat.le_refl _, Nat.le_refl _⟩
  | d + 1, t, h => by
    show (t.1.length + 1) * 4 ^ (d + 1) ≤ (inter (t.2.map (tl d)) t.1).length + 1 ∧ (inter (t.2.map (tl d)) t.1).length + 1 ≤ (t.1.length + 1) * 8 ^ (d + 1)
    rw [inter_len (by rw [List.length_map]; exact h.1), List.map_map, ← h.1]
    have hk : ∀ k ∈ t.2, 4 ^ (d + 1) ≤ (tl d k).length + 1 ∧ (tl d k).length + 1 ≤ 8 ^ (d + 1) := by
      intro k hk
      obtain ⟨h1, h2, h3⟩ := h.2 k hk
      have ih := filled d k h1
      have e1 : 4 * 4 ^ d ≤ ((prs d k).length + 1) * 4 ^ d := Nat.mul_le_mul_right _ (by omega)
      have e2 : ((prs d k).length + 1) * 8 ^ d ≤ 8 * 8 ^ d := Nat.mul_le_mul_right _ (by omega)
      rw [Nat.pow_succ, Nat.pow_succ, Nat.mul_comm _ 4, Nat.mul_comm _ 8]
      omega
    have g1 := sum_ge (c := 4 ^ (d + 1)) (l := t.2.map ((fun l => l.length + 1) ∘ tl d)) fun x hx => by
      obtain ⟨k, hk', rfl⟩ := List.mem_map.1 hx
      exact (hk k hk').1
    have g2 := sum_le (c := 8 ^ (d + 1)) (l := t.2.map ((fun l => l.length + 1) ∘ tl d)) fun x hx => by
      obtain ⟨k, hk', rfl⟩ := List.mem_map.1 hx
      exact (hk k hk').2
    rw [List.length_map] at g1 g2
    exact ⟨g1, g2⟩
/-- a depth is right for so many keys -/
def DepthOk (D n : Nat) : Prop := (D = 0 ∧ n = 0) ∨ (1 ≤ D ∧ 1 ≤ n ∧ 2 * 4 ^ (D - 1) ≤ n + 1 ∧ n + 1 ≤ 8 ^ D)
theorem pow_gt {d : Nat} (h : 10 < d) : 1000000 < 4 ^ d := Nat.lt_of_lt_of_le (by decide : 1000000 < 4 ^ 10) (Nat.pow_le_pow_right (by omega) (by omega))
theorem tdepth (w : World) (m : Nat) (L : List Pr) (h : Tr w m L) (hb : L.length ≤ 1000000) : Calls Try.prog 20 #[.pointer (some ⟨m, 0, none⟩)] w fun e w' => ∃ D : Nat, e = .returned (.int .i64 (D : Int)) ∧ Hid (DepthOk D L.length) ∧ w = w' := by
  rcases h with ⟨h1, rfl⟩ | ⟨d, t, nd, h1, h2, h3, h4, rfl⟩
  · have c2 := h1.cell (i := 2) rfl
    have c0 := h1.cell (i := 0) rfl
    clear h1
    have HZ : Hid (Calls Try.prog 35 #[.pointer none] w fun e w' => e = .returned (.int .i64 0) ∧ w = w') := by
      show Calls _ _ _ _ _
      go_enter Try.func35, Try.ntmps35
      go_wp2
      go_ret
      exact ⟨rfl, rfl⟩
    go_enter Try.func20, Try.ntmps20
    go_wp2_with (first | (go_at_call 22; refine (made_is w m true c2).mono ?_; rintro e w2 ⟨rfl, rfl⟩) | (go_at_call 35; refine HZ.out.mono ?_; rintro e w3 ⟨rfl, rfl⟩))
    go_ret
    exact ⟨0, rfl, .inl ⟨rfl, rfl⟩, rfl⟩
  · have hf := filled d t h3.wf
    have hlow : 2 * 4 ^ d ≤ ((prs d t).length + 1) * 4 ^ d := Nat.mul_le_mul_right _ (by omega)
    have hup : ((prs d t).length + 1) * 8 ^ d ≤ 8 * 8 ^ d := Nat.mul_le_mul_right _ (by have := h3.most; omega)
    have hpos : 1 ≤ 4 ^ d := Nat.one_le_pow _ _ (by omega)
    have hd : d ≤ 1000 := by
      refine Nat.le_of_not_lt fun hc => ?_
      have := pow_gt (d := d) (by omega)
      omega
    have HO : Hid (DepthOk (d + 1) (tl d t).length) := .inr ⟨by omega, by omega, by show 2 * 4 ^ d ≤ _; omega, by rw [Nat.pow_succ, Nat.mul_comm]; omega⟩
    have HC : Hid (Calls Try.prog 35 #[.pointer (some ⟨nd, 0, none⟩)] w fun e w' => e = .returned (.int .i64 ((d + 1 : Nat) : Int)) ∧ w = w') := depth_all d hd w t nd h2 h3.wf
    have c2 := h1.cell (i := 2) rfl
    have c0 := h1.cell (i := 0) rfl
    clear h1 h2 h3 h4 hf hlow hup hpos hd hb
    generalize d + 1 = D at *
    go_enter Try.func20, Try.ntmps20
    go_wp2_with (first | (go_at_call 22; refine (made_is w m true c2).mono ?_; rintro e w2 ⟨rfl, rfl⟩) | (go_at_call 35; refine HC.out.mono ?_; rintro e w3 ⟨rfl, rfl⟩))
    go_ret
    exact ⟨D, rfl, HO, rfl⟩
theorem Tr.root {w : World} {m : Nat} {L : List Pr} (h : Tr w m L) : ∃ p, Mp w m (.pointer p) L.length ∧ Root w p L := by
  rcases h with ⟨h1, rfl⟩ | ⟨d, t, nd, h1, h2, h3⟩
  · exact ⟨none, h1, .inl ⟨rfl, rfl⟩⟩
  · exact ⟨_, h1, .inr ⟨d, t, nd, rfl, h2, h3⟩⟩
theorem Root.below {w w' : World} {v : Option Addr} {L : List Pr} (h : Root w v L) (hb : Below w.heap.size w w') : Root w' v L := by
  rcases h with h | ⟨d, t, nd, h1, h2, h3⟩
  · exact .inl h
  · exact .inr ⟨d, t, nd, h1, h2.below hb (Nat.le_refl _), h3⟩
/-- a clone is a map of its own, of the same root -/
theorem tclone (w : World) (m : Nat) (L : List Pr) (h : Tr w m L) : Calls Try.prog 11 #[.pointer (some ⟨m, 0, none⟩)] w fun e w' => ∃ c : Nat, e = .returned (.pointer (some ⟨c, 0, none⟩)) ∧ Hid (c = w.heap.size ∧ Tr w' c L ∧ Tr w' m L) ∧ Hid (Below w.heap.size w w') := by
  have HT : Hid (Tr w m L) := h
  obtain ⟨p, h1, h2⟩ := h.root
  have HR : Hid (Root w p L) := h2
  have c2 := h1.cell (i := 2) rfl
  have c0 := h1.cell (i := 0) rfl
  have c1 := h1.cell (i := 1) rfl
  clear h1 h2 h
  go_enter Try.func11, Try.ntmps11
  go_wp2_with (first | (go_at_call 22; refine (made_is w m true c2).mono ?_; rintro e w2 ⟨rfl, rfl⟩))
  go_ret
  have e1 := Blk.new w #[.pointer p, .int .i64 (L.length : Int), .bool true] 48
  have hB : Below w.heap.size w _ := (Below.refl _ w).alloc (Nat.le_refl _) (Obj.cells #[.pointer p, .int .i64 (L.length : Int), .bool true] 48)
  exact ⟨_, rfl, ⟨rfl, (HR.out.below hB).tr e1, HT.out.below hB⟩, hB⟩
end Go.Proofs.Ytnagknlfboadkaa.Oct

/- A statement whose order is open, inside a fence, where what is read is told by a condition S on the world that each of its operations keeps: an operation that only reads what S tells may be taken first. Of no program. -/
namespace Go.Proofs.Ytnagknlfboadkaa.Oct
open Go

section
variable {F : Fence} {n : Nat} {P : Program} {ops : Array Oper} {Q : Exit → Act → World → Prop} {md : Region.Mode} {S : World → Prop}

/-- it yields v in each world that S tells, and calls nobody -/
structure Reads (P : Program) (ops : Array Oper) (S : World → Prop) (o : Oper) (v : Value) (a : Act) : Prop where
  yields : YieldsIf P ops S o v a
  quiet : ∀ w, o.about P w a.eval = none

theorem Reads.now {i : Nat} {o : Oper} {v : Value} {a : Act} {w : World} {K : Act → World → Prop} (h : Reads P ops S o v a) (hro : F.round = none) (hi : ops[i]? = some o) (hS : S w) (hk : K (a.put o.dst v) w) : wpOpIn F n P ops Q i K a w := by
  have hf : ∀ f, o.about P w a.eval = some f → F.fn f := fun f hf => by rw [h.quiet w] at hf; cases hf
  unfold wpOpIn
  rw [hi]
  dsimp only
  rcases h.yields with ⟨hw, hv⟩ | ⟨hw, rfl⟩
  · rw [if_pos hw]
    refine ⟨hf, ?_⟩
    rw [hro, Oper.semAt_none, hv w hS]
    exact hk
  · rw [if_neg (by rw [hw]; exact Bool.false_ne_true)]
    exact ⟨hf, hk⟩

/-- another operation of the statement, ahead of it or behind it: all the same -/
theorem Reads.past {j : Nat} {oi oj : Oper} {v : Value} {a : Act} {w : World} {K : Act → World → Prop} (hy : Reads P ops S oi v a) (hro : F.round = none) (hj : ops[j]? = some oj) (hap : oi.apart ops oj = true)
    (hsi : ∀ cs b, oi.op ≠ .select cs b) (hsj : ∀ cs b, oj.op ≠ .select cs b) (hQ : ∀ c a w, Q (.panic c) (a.put oi.dst v) w → Q (.panic c) a w)
    (h : wpOpIn F n P ops Q j K (a.put oi.dst v) w) : wpOpIn F n P ops Q j (fun a' w' => Reads P ops S oi v a' ∧ K (a'.put oi.dst v) w') a w := by
  obtain ⟨h1, h2, h3⟩ := Oper.apart_spec hap
  have stays : ∀ (b : Act), Reads P ops S oi v b → ∀ u, Reads P ops S oi v (b.put oj.dst u) := fun b hb u =>
    ⟨hb.yields.of_same (execOp_put oi hsi b oj.dst u h3) (wanted_put oi b oj.dst u h3), fun w => by rw [about_put oi w b oj.dst u h3]; exact hb.quiet w⟩
  have both : ∀ (b : Act) (W : World) (u : Value), Reads P ops S oi v b → K ((b.put oi.dst v).put oj.dst u) W → Reads P ops S oi v (b.put oj.dst u) ∧ K ((b.put oj.dst u).put oi.dst v) W := fun b W u hb hk =>
    ⟨stays b hb u, by rw [← Act.put_comm b v u h2]; exact hk⟩
  unfold wpOpIn at h ⊢
  rw [hj] at h ⊢
  dsimp only at h ⊢
  rw [wanted_put oj a oi.dst v h1, about_put oj w a oi.dst v h1] at h
  by_cases hw : Region.wanted oj (yielded ops a.tmps) = true
  · rw [if_pos hw] at h ⊢
    unfold Oper.wpIn at h ⊢
    rw [about_put oj w a oi.dst v h1, hro, Oper.semAt_none, execOp_put oj hsj a oi.dst v h1] at h
    refine ⟨h.1, ?_⟩
    have h' := h.2
    rw [hro, Oper.semAt_none]
    revert h'
    generalize (execOp a.eval oj).run P w = r
    intro h'
    cases r with
    | halt x w' =>
      cases x with
      | panic u => exact hQ _ _ _ h'
      | _ => exact h'
    | ok x w' =>
      cases x with
      | value u => exact both a w' u hy h'
      | skip => exact both a w' undef hy h'
      | defer d =>
        have hd : Reads P ops S oi v { a with defers := d :: a.defers } := ⟨hy.yields.of_same rfl rfl, hy.quiet⟩
        refine both _ w' undef hd ?_
        rw [← Act.put_defers]
        exact h'
      | enter f args =>
        refine ⟨h'.1, h'.2.mono fun e w2 he => ?_⟩
        cases e with
        | returned u => exact both a w2 u hy he
        | panicked c => exact hQ _ _ _ he
        | outgrown => exact he
      | row nm args => exact ⟨h'.1, RowsIn.mono h'.2 fun u w2 he => both a w2 u hy he⟩
      | round l f tmps assign body =>
        refine ⟨h'.1, h'.2.mono fun e w2 he => ?_⟩
        cases e with
        | returned u => exact both a w2 u hy he
        | panicked c => exact hQ _ _ _ he
        | outgrown => exact he
      | _ => exact h'
  · rw [if_neg hw] at h ⊢
    exact ⟨h.1, both a w undef hy h.2⟩

/-- whatever order, S holding all along -/
def anyS (F : Fence) (n : Nat) (P : Program) (md : Region.Mode) (ops : Array Oper) (Q : Exit → Act → World → Prop) (S : World → Prop) : Nat → Array Bool → Act → World → Prop
  | 0, listed, a, w => Region.ready md ops listed = [] ∧ Q .normal a w
  | fuel + 1, listed, a, w => (Region.ready md ops listed = [] → Q .normal a w) ∧ ∀ i ∈ Region.ready md ops listed, wpOpIn F n P ops Q i (fun a' w' => S w' ∧ anyS F n P md ops Q S fuel (listed.setIfInBounds i true) a' w') a w

theorem anyS_any : ∀ (fuel : Nat) (listed : Array Bool) (a : Act) (w : World), anyS F n P md ops Q S fuel listed a w → wpAnyIn F n P md ops Q fuel listed a w
  | 0, _, _, _, h => h
  | fuel + 1, _, _, _, h => ⟨h.1, fun i hi => wpOpIn_mono (fun a' w' k => anyS_any fuel _ a' w' k.2) (h.2 i hi)⟩

theorem anyS_first {i : Nat} {oi : Oper} {v : Value} (hro : F.round = none) (hi : ops[i]? = some oi) (hsel : ∀ (j : Nat) (o : Oper) cs b, ops[j]? = some o → o.op ≠ .select cs b)
    (hQ : ∀ c a w, Q (.panic c) (a.put oi.dst v) w → Q (.panic c) a w) : ∀ (fuel : Nat) (listed : Array Bool) (a : Act) (w : World),
      (∀ j oj, ops[j]? = some oj → j ≠ i → listed.getD j true = false → (∀ e ∈ oj.after, Region.binds md e = true → e.on ≠ i) → oi.apart ops oj = true) →
      i ∈ Region.ready md ops listed → Reads P ops S oi v a → S w → anyS F n P md ops Q S fuel (listed.setIfInBounds i true) (a.put oi.dst v) w → anyS F n P md ops Q S (fuel + 1) listed a w
  | 0, listed, a, w, _, hr, hy, hS, H => by
    refine ⟨fun h => (by rw [h] at hr; cases hr), fun j hj => ?_⟩
    by_cases e : j = i
    · rw [e]; exact hy.now hro hi hS ⟨hS, H⟩
    · have k := ready_mono hj e
      rw [H.1] at k
      cases k
  | fuel + 1, listed, a, w, hfree, hr, hy, hS, H => by
    refine ⟨fun h => (by rw [h] at hr; cases hr), fun j hj => ?_⟩
    by_cases e : j = i
    · rw [e]; exact hy.now hro hi hS ⟨hS, H⟩
    · obtain ⟨hun, oj, hoj, hall⟩ := mem_ready.1 hj
      have hnot : ∀ x ∈ oj.after, Region.binds md x = true → x.on ≠ i := by
        intro x hx hb hxi
        have k1 := hall x hx hb
        have k0 := (mem_ready.1 hr).1
        rw [hxi] at k1
        by_cases hlt : i < listed.size
        · simp [hlt] at k0 k1
          rw [k0] at k1; cases k1
        · simp [Array.getElem?_eq_none (Nat.le_of_not_lt hlt)] at k1
      refine wpOpIn_mono ?_ (hy.past hro hoj (hfree j oj hoj e hun hnot) (fun cs b => hsel i oi cs b hi) (fun cs b => hsel j oj cs b hoj) hQ (H.2 j (ready_mono hj e)))
      rintro a' w' ⟨r1, r2, r3⟩
      refine ⟨r2, anyS_first hro hi hsel hQ fuel _ a' w' (fun k ok hk hki hu hno => hfree k ok hk hki ?_ hno) (ready_mono hr (Ne.symm e)) r1 r2 ?_⟩
      · by_cases hjk : j = k
        · rw [← hjk]; exact hun
        · rwa [getD_set_ne true hjk] at hu
      · rw [Array.setIfInBounds_comm _ _ e]; exact r3

theorem anyS_take {i : Nat} {oi : Oper} {v : Value} {fuel : Nat} {listed : Array Bool} {a : Act} {w : World} (hro : F.round = none) (hi : ops[i]? = some oi) (hs : Region.noSelect ops = true) (hf : Region.free md ops listed i = true) (hr : (Region.ready md ops listed).contains i = true)
    (hQ : ∀ c a w, Q (.panic c) (a.put oi.dst v) w → Q (.panic c) a w) (hy : Reads P ops S oi v a) (hS : S w) (h : anyS F n P md ops Q S fuel (listed.setIfInBounds i true) (a.put oi.dst v) w) : anyS F n P md ops Q S (fuel + 1) listed a w :=
  anyS_first hro hi (Region.noSelect_spec hs) hQ fuel listed a w (Region.free_spec hi hf) (by simpa using hr) hy hS h
theorem anyS_one {i : Nat} {fuel : Nat} {listed : Array Bool} {a : Act} {w : World} (hr : Region.ready md ops listed = [i]) (h : wpOpIn F n P ops Q i (fun a' w' => S w' ∧ anyS F n P md ops Q S fuel (listed.setIfInBounds i true) a' w') a w) : anyS F n P md ops Q S (fuel + 1) listed a w :=
  ⟨fun h0 => (by rw [hr] at h0; cases h0), fun j hj => by rw [hr] at hj; rw [List.mem_singleton.1 hj]; exact h⟩
theorem anyS_done {listed : Array Bool} {a : Act} {w : World} (hr : Region.ready md ops listed = []) (h : Q .normal a w) (fuel : Nat) : anyS F n P md ops Q S fuel listed a w := by
  cases fuel with
  | zero => exact ⟨hr, h⟩
  | succ k => exact ⟨fun _ => h, by rw [hr]; simp⟩
theorem region_S {id : Nat} {a : Act} {w : World} (hm : P.follows .mixedOrders = true) (h : anyS F n P .any ops Q S ops.size (Array.replicate ops.size false) a w.drew) : (Code.region id ops true).wpIn F n P Q a w :=
  wpIn_region_any hm (anyS_any _ _ _ _ h)
end
end Go.Proofs.Ytnagknlfboadkaa.Oct

/- Layer 7 (tree): the statement of the closure of 'from' that hands out a pair, whatever its order. -/
namespace Go.Proofs.Ytnagknlfboadkaa.Oct
open Go.RowKit
attribute [local go_sem] Oper.semAt_some
set_option maxRecDepth 100000 in
set_option maxHeartbeats 2000000 in
theorem reg11 {Q : Exit → Act → World → Prop} {y0 y2 y4 y5 y7 y8 y9 y10 y11 y12 y13 y14 y15 y16 y17 y18 y19 y20 y21 y22 y23 y24 y25 y26 y27 y28 y29 y30 y31 y32 y33 y34 y35 y36 y37 y38 y39 y40 y41 y42 y43 y44 y45 y46 y47 y48 y49 y50 y51 y52 y53 y54 y55 y56 y57 y58 y59 y60 y61 y62 y63 y64 y65 y66 y67 y68 y69 y70 y71 y72 y73 : Value} {ds : List Deferred} {A : World} {dd l1 m₀ Bn nd g off n cap i : Nat} {x1 x2 : ByteArray} {R : Ending → World → Prop}
    (cy : A.cell? ⟨m₀, 0, none⟩ = some (.func (.yield l1) #[] #[])) (cn : A.cell? ⟨Bn, 0, none⟩ = some (.pointer (some ⟨nd, 0, none⟩))) (c0 : A.cell? ⟨nd, 0, none⟩ = some (.slice (some ⟨g, off, none⟩) n cap)) (e0 : A.cell? ⟨g, off + i * 2, none⟩ = some (.string x1)) (e1 : A.cell? ⟨g, off + i * 2 + 1, none⟩ = some (.string x2)) (hi : (i : Int) < (n : Int))
    (hY : YieldAt Fence.wide (dd - 1) Try.prog l1 #[.string x1, .string x2] A.drew R)
    (hR : ∀ e B, R e B → ∃ v : Bool, e = .returned (.bool v) ∧ B.cell? ⟨m₀, 0, none⟩ = some (.func (.yield l1) #[] #[]) ∧ B.cell? ⟨Bn, 0, none⟩ = some (.pointer (some ⟨nd, 0, none⟩)) ∧ B.cell? ⟨nd, 0, none⟩ = some (.slice (some ⟨g, off, none⟩) n cap) ∧ B.cell? ⟨g, off + i * 2, none⟩ = some (.string x1) ∧ B.cell? ⟨g, off + i * 2 + 1, none⟩ = some (.string x2))
    (hQ : ∀ v B, R (.returned (.bool v)) B → Q .normal { tmps := #[y0, .pointer (some ⟨Bn, 0, none⟩), y2, .pointer (some ⟨m₀, 0, none⟩), y4, y5, .int .i64 (i : Int), y7, y8, y9, y10, y11, y12, y13, y14, y15, y16, y17, y18, y19, y20, y21, y22, y23, y24, y25, y26, y27, y28, y29, y30, y31, y32, y33, y34, y35, y36, y37, y38, y39, y40, y41, y42, y43, y44, y45, .int .i64 (i : Int), .pointer (some ⟨nd, 0, none⟩), .pointer (some ⟨nd, 0, none⟩), .pointer (some ⟨nd, 0, none⟩), .slice (some ⟨g, off, none⟩) n cap, .int .i64 (n : Int), .bool true, .bool true, .func (.yield l1) #[] #[], .pointer (some ⟨nd, 0, none⟩), .pointer (some ⟨nd, 0, none⟩), .pointer (some ⟨nd, 0, none⟩), .slice (some ⟨g, off, none⟩) n cap, .int .i64 (i : Int), .pointer (some ⟨g, off + i * 2, none⟩), .pointer (some ⟨g, off + i * 2, none⟩), .string x1, .pointer (some ⟨nd, 0, none⟩), .pointer (some ⟨nd, 0, none⟩), .pointer (some ⟨nd, 0, none⟩), .slice (some ⟨g, off, none⟩) n cap, .int .i64 (i : Int), .pointer (some ⟨g, off + i * 2, none⟩), .pointer (some ⟨g, off + i * 2 + 1, none⟩), .string x2, .bool v, .bool (!v), .bool (!v)], defers := ds } B) :
    (Code.region 11 #[{ dst := some 46, op := Op.move (Operand.tmp 6), type := 3, pos := "node.go:78", after := #[], guard := none }, { dst := some 47, op := Op.load 46 (Operand.tmp 1), type := 46, pos := "node.go:78", after := #[], guard := none }, { dst := some 48, op := Op.nilCheck (Operand.tmp 47), type := 0, pos := "node.go:78", after := #[{ on := 1, ground := Ground.data }], guard := none }, { dst := some 49, op := Op.fieldAddr 67 (Operand.tmp 48) 0, type := 0, pos := "node.go:78", after := #[{ on := 2, ground := Ground.data }], guard := none }, { dst := some 50, op := Op.load 27 (Operand.tmp 49), type := 27, pos := "node.go:78", after := #[{ on := 3, ground := Ground.data }], guard := none }, { dst := some 51, op := Op.call { callee := Callee.builtin Builtin.len, args := #[Operand.tmp 50], argTypes := #[27] }, type := 3, pos := "node.go:78", after := #[{ on := 4, ground := Ground.data }], guard := none }, { dst := some 52, op := Op.binOp BinOp.lss 3 (Operand.tmp 46) (Operand.tmp 51) 3, type := 4, pos := "node.go:78", after := #[{ on := 0, ground := Ground.data }, { on := 5, ground := Ground.data }], guard := none }, { dst := some 53, op := Op.move (Operand.tmp 52), type := 4, pos := "node.go:78", after := #[{ on := 6, ground := Ground.data }], guard := none }, { dst := some 54, op := Op.load 42 (Operand.tmp 3), type := 42, pos := "node.go:78", after := #[{ on := 7, ground := Ground.guard }], guard := some (7, true) }, { dst := some 55, op := Op.load 46 (Operand.tmp 1), type := 46, pos := "node.go:78", after := #[{ on := 7, ground := Ground.guard }], guard := some (7, true) }, { dst := some 56, op := Op.nilCheck (Operand.tmp 55), type := 0, pos := "node.go:78", after := #[{ on := 9, ground := Ground.data }, { on := 7, ground := Ground.guard }], guard := some (7, true) }, { dst := some 57, op := Op.fieldAddr 67 (Operand.tmp 56) 0, type := 0, pos := "node.go:78", after := #[{ on := 10, ground := Ground.data }, { on := 7, ground := Ground.guard }], guard := some (7, true) }, { dst := some 58, op := Op.load 27 (Operand.tmp 57), type := 27, pos := "node.go:78", after := #[{ on := 11, ground := Ground.data }, { on := 7, ground := Ground.guard }], guard := some (7, true) }, { dst := some 59, op := Op.move (Operand.tmp 6), type := 3, pos := "node.go:78", after := #[{ on := 7, ground := Ground.guard }], guard := some (7, true) }, { dst := some 60, op := Op.indexAddr 27 (Operand.tmp 58) (Operand.tmp 59), type := 0, pos := "node.go:78", after := #[{ on := 12, ground := Ground.data }, { on := 13, ground := Ground.data }, { on := 7, ground := Ground.guard }], guard := some (7, true) }, { dst := some 61, op := Op.fieldAddr 40 (Operand.tmp 60) 0, type := 0, pos := "node.go:78", after := #[{ on := 14, ground := Ground.data }, { on := 7, ground := Ground.guard }], guard := some (7, true) }, { dst := some 62, op := Op.load 9 (Operand.tmp 61), type := 9, pos := "node.go:78", after := #[{ on := 15, ground := Ground.data }, { on := 7, ground := Ground.guard }], guard := some (7, true) }, { dst := some 63, op := Op.load 46 (Operand.tmp 1), type := 46, pos := "node.go:78", after := #[{ on := 7, ground := Ground.guard }], guard := some (7, true) }, { dst := some 64, op := Op.nilCheck (Operand.tmp 63), type := 0, pos := "node.go:78", after := #[{ on := 17, ground := Ground.data }, { on := 7, ground := Ground.guard }], guard := some (7, true) }, { dst := some 65, op := Op.fieldAddr 67 (Operand.tmp 64) 0, type := 0, pos := "node.go:78", after := #[{ on := 18, ground := Ground.data }, { on := 7, ground := Ground.guard }], guard := some (7, true) }, { dst := some 66, op := Op.load 27 (Operand.tmp 65), type := 27, pos := "node.go:78", after := #[{ on := 19, ground := Ground.data }, { on := 7, ground := Ground.guard }], guard := some (7, true) }, { dst := some 67, op := Op.move (Operand.tmp 6), type := 3, pos := "node.go:78", after := #[{ on := 7, ground := Ground.guard }], guard := some (7, true) }, { dst := some 68, op := Op.indexAddr 27 (Operand.tmp 66) (Operand.tmp 67), type := 0, pos := "node.go:78", after := #[{ on := 20, ground := Ground.data }, { on := 21, ground := Ground.data }, { on := 7, ground := Ground.guard }], guard := some (7, true) }, { dst := some 69, op := Op.fieldAddr 40 (Operand.tmp 68) 1, type := 0, pos := "node.go:78", after := #[{ on := 22, ground := Ground.data }, { on := 7, ground := Ground.guard }], guard := some (7, true) }, { dst := some 70, op := Op.load 9 (Operand.tmp 69), type := 9, pos := "node.go:78", after := #[{ on := 23, ground := Ground.data }, { on := 7, ground := Ground.guard }], guard := some (7, true) }, { dst := some 71, op := Op.call { callee := Callee.value (Operand.tmp 54), args := #[Operand.tmp 62, Operand.tmp 70], argTypes := #[9, 9] }, type := 4, pos := "node.go:78", after := #[{ on := 8, ground := Ground.data }, { on := 16, ground := Ground.data }, { on := 24, ground := Ground.data }, { on := 7, ground := Ground.chain }, { on := 7, ground := Ground.guard }], guard := some (7, true) }, { dst := some 72, op := Op.unOp UnOp.not 4 (Operand.tmp 71), type := 4, pos := "node.go:78", after := #[{ on := 25, ground := Ground.data }, { on := 7, ground := Ground.guard }], guard := some (7, true) }, { dst := some 73, op := Op.pick (Operand.tmp 53) (Operand.tmp 72) (Operand.const (Value.bool false)), type := 4, pos := "node.go:78", after := #[{ on := 7, ground := Ground.data }, { on := 26, ground := Ground.data }], guard := none }] true).wpIn Fence.wide dd Try.prog Q { tmps := #[y0, .pointer (some ⟨Bn, 0, none⟩), y2, .pointer (some ⟨m₀, 0, none⟩), y4, y5, .int .i64 (i : Int), y7, y8, y9, y10, y11, y12, y13, y14, y15, y16, y17, y18, y19, y20, y21, y22, y23, y24, y25, y26, y27, y28, y29, y30, y31, y32, y33, y34, y35, y36, y37, y38, y39, y40, y41, y42, y43, y44, y45, y46, y47, y48, y49, y50, y51, y52, y53, y54, y55, y56, y57, y58, y59, y60, y61, y62, y63, y64, y65, y66, y67, y68, y69, y70, y71, y72, y73], defers := ds } A := by
  refine wpIn_mono (Q := fun x a' w' => match x with | .normal => Q .normal a' w' | _ => False) ?_ (by intro x a' w' h; cases x <;> first | exact h | exact h.elim)
  obtain ⟨S, hSd⟩ : ∃ S : World → Prop, S = fun W => W.cell? ⟨m₀, 0, none⟩ = some (.func (.yield l1) #[] #[]) ∧ W.cell? ⟨Bn, 0, none⟩ = some (.pointer (some ⟨nd, 0, none⟩)) ∧ W.cell? ⟨nd, 0, none⟩ = some (.slice (some ⟨g, off, none⟩) n cap) ∧ W.cell? ⟨g, off + i * 2, none⟩ = some (.string x1) ∧ W.cell? ⟨g, off + i * 2 + 1, none⟩ = some (.string x2) := ⟨_, rfl⟩
  refine region_S (S := S) (by kernel_rfl) ?_
  have hS : S A.drew := by rw [hSd]; exact ⟨cy, cn, c0, e0, e1⟩
  obtain ⟨fn, tms, asg, bdy, hy, hRd⟩ := hY
  have hi2 : i < n := by omega
  change anyS Fence.wide dd Try.prog .any _ _ S 28 (Array.replicate 28 false) _ A.drew
  refine anyS_take (i := 0) (oi := { dst := some 46, op := Op.move (Operand.tmp 6), type := 3, pos := "node.go:78", after := #[], guard := none }) (v := .int .i64 (i : Int)) rfl rfl (by kernel_rfl) (by kernel_rfl) (by kernel_rfl) (fun _ _ _ h => h.elim) ⟨Or.inl ⟨by rfl, ?z0⟩, fun _ => rfl⟩ hS ?_
  case z0 =>
    intro W hW
    rw [hSd] at hW; obtain ⟨s1, s2, s3, s4, s5⟩ := hW
    go_simp
  simp only [Act.put, List.setIfInBounds_toArray, List.set_cons_zero, List.set_cons_succ]
  refine anyS_take (i := 1) (oi := { dst := some 47, op := Op.load 46 (Operand.tmp 1), type := 46, pos := "node.go:78", after := #[], guard := none }) (v := .pointer (some ⟨nd, 0, none⟩)) rfl rfl (by kernel_rfl) (by kernel_rfl) (by kernel_rfl) (fun _ _ _ h => h.elim) ⟨Or.inl ⟨by rfl, ?z1⟩, fun _ => rfl⟩ hS ?_
  case z1 =>
    intro W hW
    rw [hSd] at hW; obtain ⟨s1, s2, s3, s4, s5⟩ := hW
    go_simp
  simp only [Act.put, List.setIfInBounds_toArray, List.set_cons_zero, List.set_cons_succ]
  refine anyS_take (i := 2) (oi := { dst := some 48, op := Op.nilCheck (Operand.tmp 47), type := 0, pos := "node.go:78", after := #[{ on := 1, ground := Ground.data }], guard := none }) (v := .pointer (some ⟨nd, 0, none⟩)) rfl rfl (by kernel_rfl) (by kernel_rfl) (by kernel_rfl) (fun _ _ _ h => h.elim) ⟨Or.inl ⟨by rfl, ?z2⟩, fun _ => rfl⟩ hS ?_
  case z2 =>
    intro W hW
    rw [hSd] at hW; obtain ⟨s1, s2, s3, s4, s5⟩ := hW
    go_simp
  simp only [Act.put, List.setIfInBounds_toArray, List.set_cons_zero, List.set_cons_succ]
  refine anyS_take (i := 3) (oi := { dst := some 49, op := Op.fieldAddr 67 (Operand.tmp 48) 0, type := 0, pos := "node.go:78", after := #[{ on := 2, ground := Ground.data }], guard := none }) (v := .pointer (some ⟨nd, 0, none⟩)) rfl rfl (by kernel_rfl) (by kernel_rfl) (by kernel_rfl) (fun _ _ _ h => h.elim) ⟨Or.inl ⟨by rfl, ?z3⟩, fun _ => rfl⟩ hS ?_
  case z3 =>
    intro W hW
    rw [hSd] at hW; obtain ⟨s1, s2, s3, s4, s5⟩ := hW
    go_simp
  simp only [Act.put, List.setIfInBounds_toArray, List.set_cons_zero, List.set_cons_succ]
  refine anyS_take (i := 4) (oi := { dst := some 50, op := Op.load 27 (Operand.tmp 49), type := 27, pos := "node.go:78", after := #[{ on := 3, ground := Ground.data }], guard := none }) (v := .slice (some ⟨g, off, none⟩) n cap) rfl rfl (by kernel_rfl) (by kernel_rfl) (by kernel_rfl) (fun _ _ _ h => h.elim) ⟨Or.inl ⟨by rfl, ?z4⟩, fun _ => rfl⟩ hS ?_
  case z4 =>
    intro W hW
    rw [hSd] at hW; obtain ⟨s1, s2, s3, s4, s5⟩ := hW
    go_simp
  simp only [Act.put, List.setIfInBounds_toArray, List.set_cons_zero, List.set_cons_succ]
  refine anyS_take (i := 5) (oi := { dst := some 51, op := Op.call { callee := Callee.builtin Builtin.len, args := #[Operand.tmp 50], argTypes := #[27] }, type := 3, pos := "node.go:78", after := #[{ on := 4, ground := Ground.data }], guard := none }) (v := .int .i64 (n : Int)) rfl rfl (by kernel_rfl) (by kernel_rfl) (by kernel_rfl) (fun _ _ _ h => h.elim) ⟨Or.inl ⟨by rfl, ?z5⟩, fun _ => rfl⟩ hS ?_
  case z5 =>
    intro W hW
    rw [hSd] at hW; obtain ⟨s1, s2, s3, s4, s5⟩ := hW
    go_simp
  simp only [Act.put, List.setIfInBounds_toArray, List.set_cons_zero, List.set_cons_succ]
  refine anyS_take (i := 6) (oi := { dst := some 52, op := Op.binOp BinOp.lss 3 (Operand.tmp 46) (Operand.tmp 51) 3, type := 4, pos := "node.go:78", after := #[{ on := 0, ground := Ground.data }, { on := 5, ground := Ground.data }], guard := none }) (v := .bool true) rfl rfl (by kernel_rfl) (by kernel_rfl) (by kernel_rfl) (fun _ _ _ h => h.elim) ⟨Or.inl ⟨by rfl, ?z6⟩, fun _ => rfl⟩ hS ?_
  case z6 =>
    intro W hW
    rw [hSd] at hW; obtain ⟨s1, s2, s3, s4, s5⟩ := hW
    go_simp
  simp only [Act.put, List.setIfInBounds_toArray, List.set_cons_zero, List.set_cons_succ]
  refine anyS_take (i := 7) (oi := { dst := some 53, op := Op.move (Operand.tmp 52), type := 4, pos := "node.go:78", after := #[{ on := 6, ground := Ground.data }], guard := none }) (v := .bool true) rfl rfl (by kernel_rfl) (by kernel_rfl) (by kernel_rfl) (fun _ _ _ h => h.elim) ⟨Or.inl ⟨by rfl, ?z7⟩, fun _ => rfl⟩ hS ?_
  case z7 =>
    intro W hW
    rw [hSd] at hW; obtain ⟨s1, s2, s3, s4, s5⟩ := hW
    go_simp
  simp only [Act.put, List.setIfInBounds_toArray, List.set_cons_zero, List.set_cons_succ]
  refine anyS_take (i := 8) (oi := { dst := some 54, op := Op.load 42 (Operand.tmp 3), type := 42, pos := "node.go:78", after := #[{ on := 7, ground := Ground.guard }], guard := some (7, true) }) (v := .func (.yield l1) #[] #[]) rfl rfl (by kernel_rfl) (by kernel_rfl) (by kernel_rfl) (fun _ _ _ h => h.elim) ⟨Or.inl ⟨by rfl, ?z8⟩, fun _ => rfl⟩ hS ?_
  case z8 =>
    intro W hW
    rw [hSd] at hW; obtain ⟨s1, s2, s3, s4, s5⟩ := hW
    go_simp
  simp only [Act.put, List.setIfInBounds_toArray, List.set_cons_zero, List.set_cons_succ]
  refine anyS_take (i := 9) (oi := { dst := some 55, op := Op.load 46 (Operand.tmp 1), type := 46, pos := "node.go:78", after := #[{ on := 7, ground := Ground.guard }], guard := some (7, true) }) (v := .pointer (some ⟨nd, 0, none⟩)) rfl rfl (by kernel_rfl) (by kernel_rfl) (by kernel_rfl) (fun _ _ _ h => h.elim) ⟨Or.inl ⟨by rfl, ?z9⟩, fun _ => rfl⟩ hS ?_
  case z9 =>
    intro W hW
    rw [hSd] at hW; obtain ⟨s1, s2, s3, s4, s5⟩ := hW
    go_simp
  simp only [Act.put, List.setIfInBounds_toArray, List.set_cons_zero, List.set_cons_succ]
  refine anyS_take (i := 10) (oi := { dst := some 56, op := Op.nilCheck (Operand.tmp 55), type := 0, pos := "node.go:78", after := #[{ on := 9, ground := Ground.data }, { on := 7, ground := Ground.guard }], guard := some (7, true) }) (v := .pointer (some ⟨nd, 0, none⟩)) rfl rfl (by kernel_rfl) (by kernel_rfl) (by kernel_rfl) (fun _ _ _ h => h.elim) ⟨Or.inl ⟨by rfl, ?z10⟩, fun _ => rfl⟩ hS ?_
  case z10 =>
    intro W hW
    rw [hSd] at hW; obtain ⟨s1, s2, s3, s4, s5⟩ := hW
    go_simp
  simp only [Act.put, List.setIfInBounds_toArray, List.set_cons_zero, List.set_cons_succ]
  refine anyS_take (i := 11) (oi := { dst := some 57, op := Op.fieldAddr 67 (Operand.tmp 56) 0, type := 0, pos := "node.go:78", after := #[{ on := 10, ground := Ground.data }, { on := 7, ground := Ground.guard }], guard := some (7, true) }) (v := .pointer (some ⟨nd, 0, none⟩)) rfl rfl (by kernel_rfl) (by kernel_rfl) (by kernel_rfl) (fun _ _ _ h => h.elim) ⟨Or.inl ⟨by rfl, ?z11⟩, fun _ => rfl⟩ hS ?_
  case z11 =>
    intro W hW
    rw [hSd] at hW; obtain ⟨s1, s2, s3, s4, s5⟩ := hW
    go_simp
  simp only [Act.put, List.setIfInBounds_toArray, List.set_cons_zero, List.set_cons_succ]
  refine anyS_take (i := 12) (oi := { dst := some 58, op := Op.load 27 (Operand.tmp 57), type := 27, pos := "node.go:78", after := #[{ on := 11, ground := Ground.data }, { on := 7, ground := Ground.guard }], guard := some (7, true) }) (v := .slice (some ⟨g, off, none⟩) n cap) rfl rfl (by kernel_rfl) (by kernel_rfl) (by kernel_rfl) (fun _ _ _ h => h.elim) ⟨Or.inl ⟨by rfl, ?z12⟩, fun _ => rfl⟩ hS ?_
  case z12 =>
    intro W hW
    rw [hSd] at hW; obtain ⟨s1, s2, s3, s4, s5⟩ := hW
    go_simp
  simp only [Act.put, List.setIfInBounds_toArray, List.set_cons_zero, List.set_cons_succ]
  refine anyS_take (i := 13) (oi := { dst := some 59, op := Op.move (Operand.tmp 6), type := 3, pos := "node.go:78", after := #[{ on := 7, ground := Ground.guard }], guard := some (7, true) }) (v := .int .i64 (i : Int)) rfl rfl (by kernel_rfl) (by kernel_rfl) (by kernel_rfl) (fun _ _ _ h => h.elim) ⟨Or.inl ⟨by rfl, ?z13⟩, fun _ => rfl⟩ hS ?_
  case z13 =>
    intro W hW
    rw [hSd] at hW; obtain ⟨s1, s2, s3, s4, s5⟩ := hW
    go_simp
  simp only [Act.put, List.setIfInBounds_toArray, List.set_cons_zero, List.set_cons_succ]
  refine anyS_take (i := 14) (oi := { dst := some 60, op := Op.indexAddr 27 (Operand.tmp 58) (Operand.tmp 59), type := 0, pos := "node.go:78", after := #[{ on := 12, ground := Ground.data }, { on := 13, ground := Ground.data }, { on := 7, ground := Ground.guard }], guard := some (7, true) }) (v := .pointer (some ⟨g, off + i * 2, none⟩)) rfl rfl (by kernel_rfl) (by kernel_rfl) (by kernel_rfl) (fun _ _ _ h => h.elim) ⟨Or.inl ⟨by rfl, ?z14⟩, fun _ => rfl⟩ hS ?_
  case z14 =>
    intro W hW
    rw [hSd] at hW; obtain ⟨s1, s2, s3, s4, s5⟩ := hW
    go_simp
  simp only [Act.put, List.setIfInBounds_toArray, List.set_cons_zero, List.set_cons_succ]
  refine anyS_take (i := 15) (oi := { dst := some 61, op := Op.fieldAddr 40 (Operand.tmp 60) 0, type := 0, pos := "node.go:78", after := #[{ on := 14, ground := Ground.data }, { on := 7, ground := Ground.guard }], guard := some (7, true) }) (v := .pointer (some ⟨g, off + i * 2, none⟩)) rfl rfl (by kernel_rfl) (by kernel_rfl) (by kernel_rfl) (fun _ _ _ h => h.elim) ⟨Or.inl ⟨by rfl, ?z15⟩, fun _ => rfl⟩ hS ?_
  case z15 =>
    intro W hW
    rw [hSd] at hW; obtain ⟨s1, s2, s3, s4, s5⟩ := hW
    go_simp
  simp only [Act.put, List.setIfInBounds_toArray, List.set_cons_zero, List.set_cons_succ]
  refine anyS_take (i := 16) (oi := { dst := some 62, op := Op.load 9 (Operand.tmp 61), type := 9, pos := "node.go:78", after := #[{ on := 15, ground := Ground.data }, { on := 7, ground := Ground.guard }], guard := some (7, true) }) (v := .string x1) rfl rfl (by kernel_rfl) (by kernel_rfl) (by kernel_rfl) (fun _ _ _ h => h.elim) ⟨Or.inl ⟨by rfl, ?z16⟩, fun _ => rfl⟩ hS ?_
  case z16 =>
    intro W hW
    rw [hSd] at hW; obtain ⟨s1, s2, s3, s4, s5⟩ := hW
    go_simp
  simp only [Act.put, List.setIfInBounds_toArray, List.set_cons_zero, List.set_cons_succ]
  refine anyS_take (i := 17) (oi := { dst := some 63, op := Op.load 46 (Operand.tmp 1), type := 46, pos := "node.go:78", after := #[{ on := 7, ground := Ground.guard }], guard := some (7, true) }) (v := .pointer (some ⟨nd, 0, none⟩)) rfl rfl (by kernel_rfl) (by kernel_rfl) (by kernel_rfl) (fun _ _ _ h => h.elim) ⟨Or.inl ⟨by rfl, ?z17⟩, fun _ => rfl⟩ hS ?_
  case z17 =>
    intro W hW
    rw [hSd] at hW; obtain ⟨s1, s2, s3, s4, s5⟩ := hW
    go_simp
  simp only [Act.put, List.setIfInBounds_toArray, List.set_cons_zero, List.set_cons_succ]
  refine anyS_take (i := 18) (oi := { dst := some 64, op := Op.nilCheck (Operand.tmp 63), type := 0, pos := "node.go:78", after := #[{ on := 17, ground := Ground.data }, { on := 7, ground := Ground.guard }], guard := some (7, true) }) (v := .pointer (some ⟨nd, 0, none⟩)) rfl rfl (by kernel_rfl) (by kernel_rfl) (by kernel_rfl) (fun _ _ _ h => h.elim) ⟨Or.inl ⟨by rfl, ?z18⟩, fun _ => rfl⟩ hS ?_
  case z18 =>
    intro W hW
    rw [hSd] at hW; obtain ⟨s1, s2, s3, s4, s5⟩ := hW
    go_simp
  simp only [Act.put, List.setIfInBounds_toArray, List.set_cons_zero, List.set_cons_succ]
  refine anyS_take (i := 19) (oi := { dst := some 65, op := Op.fieldAddr 67 (Operand.tmp 64) 0, type := 0, pos := "node.go:78", after := #[{ on := 18, ground := Ground.data }, { on := 7, ground := Ground.guard }], guard := some (7, true) }) (v := .pointer (some ⟨nd, 0, none⟩)) rfl rfl (by kernel_rfl) (by kernel_rfl) (by kernel_rfl) (fun _ _ _ h => h.elim) ⟨Or.inl ⟨by rfl, ?z19⟩, fun _ => rfl⟩ hS ?_
  case z19 =>
    intro W hW
    rw [hSd] at hW; obtain ⟨s1, s2, s3, s4, s5⟩ := hW
    go_simp
  simp only [Act.put, List.setIfInBounds_toArray, List.set_cons_zero, List.set_cons_succ]
  refine anyS_take (i := 20) (oi := { dst := some 66, op := Op.load 27 (Operand.tmp 65), type := 27, pos := "node.go:78", after := #[{ on := 19, ground := Ground.data }, { on := 7, ground := Ground.guard }], guard := some (7, true) }) (v := .slice (some ⟨g, off, none⟩) n cap) rfl rfl (by kernel_rfl) (by kernel_rfl) (by kernel_rfl) (fun _ _ _ h => h.elim) ⟨Or.inl ⟨by rfl, ?z20⟩, fun _ => rfl⟩ hS ?_
  case z20 =>
    intro W hW
    rw [hSd] at hW; obtain ⟨s1, s2, s3, s4, s5⟩ := hW
    go_simp
  simp only [Act.put, List.setIfInBounds_toArray, List.set_cons_zero, List.set_cons_succ]
  refine anyS_take (i := 21) (oi := { dst := some 67, op := Op.move (Operand.tmp 6), type := 3, pos := "node.go:78", after := #[{ on := 7, ground := Ground.guard }], guard := some (7, true) }) (v := .int .i64 (i : Int)) rfl rfl (by kernel_rfl) (by kernel_rfl) (by kernel_rfl) (fun _ _ _ h => h.elim) ⟨Or.inl ⟨by rfl, ?z21⟩, fun _ => rfl⟩ hS ?_
  case z21 =>
    intro W hW
    rw [hSd] at hW; obtain ⟨s1, s2, s3, s4, s5⟩ := hW
    go_simp
  simp only [Act.put, List.setIfInBounds_toArray, List.set_cons_zero, List.set_cons_succ]
  refine anyS_take (i := 22) (oi := { dst := some 68, op := Op.indexAddr 27 (Operand.tmp 66) (Operand.tmp 67), type := 0, pos := "node.go:78", after := #[{ on := 20, ground := Ground.data }, { on := 21, ground := Ground.data }, { on := 7, ground := Ground.guard }], guard := some (7, true) }) (v := .pointer (some ⟨g, off + i * 2, none⟩)) rfl rfl (by kernel_rfl) (by kernel_rfl) (by kernel_rfl) (fun _ _ _ h => h.elim) ⟨Or.inl ⟨by rfl, ?z22⟩, fun _ => rfl⟩ hS ?_
  case z22 =>
    intro W hW
    rw [hSd] at hW; obtain ⟨s1, s2, s3, s4, s5⟩ := hW
    go_simp
  simp only [Act.put, List.setIfInBounds_toArray, List.set_cons_zero, List.set_cons_succ]
  refine anyS_take (i := 23) (oi := { dst := some 69, op := Op.fieldAddr 40 (Operand.tmp 68) 1, type := 0, pos := "node.go:78", after := #[{ on := 22, ground := Ground.data }, { on := 7, ground := Ground.guard }], guard := some (7, true) }) (v := .pointer (some ⟨g, off + i * 2 + 1, none⟩)) rfl rfl (by kernel_rfl) (by kernel_rfl) (by kernel_rfl) (fun _ _ _ h => h.elim) ⟨Or.inl ⟨by rfl, ?z23⟩, fun _ => rfl⟩ hS ?_
  case z23 =>
    intro W hW
    rw [hSd] at hW; obtain ⟨s1, s2, s3, s4, s5⟩ := hW
    go_simp
  simp only [Act.put, List.setIfInBounds_toArray, List.set_cons_zero, List.set_cons_succ]
  refine anyS_take (i := 24) (oi := { dst := some 70, op := Op.load 9 (Operand.tmp 69), type := 9, pos := "node.go:78", after := #[{ on := 23, ground := Ground.data }, { on := 7, ground := Ground.guard }], guard := some (7, true) }) (v := .string x2) rfl rfl (by kernel_rfl) (by kernel_rfl) (by kernel_rfl) (fun _ _ _ h => h.elim) ⟨Or.inl ⟨by rfl, ?z24⟩, fun _ => rfl⟩ hS ?_
  case z24 =>
    intro W hW
    rw [hSd] at hW; obtain ⟨s1, s2, s3, s4, s5⟩ := hW
    go_simp
  simp only [Act.put, List.setIfInBounds_toArray, List.set_cons_zero, List.set_cons_succ]
  refine anyS_one (i := 25) (by kernel_rfl) (wpOpIn_step (o := { dst := some 71, op := Op.call { callee := Callee.value (Operand.tmp 54), args := #[Operand.tmp 62, Operand.tmp 70], argTypes := #[9, 9] }, type := 4, pos := "node.go:78", after := #[{ on := 8, ground := Ground.data }, { on := 16, ground := Ground.data }, { on := 24, ground := Ground.data }, { on := 7, ground := Ground.chain }, { on := 7, ground := Ground.guard }], guard := some (7, true) }) rfl ?_)
  intro K' hK'
  rw [if_pos (by rfl)]
  refine ⟨fun _ _ => trivial, ?_⟩
  have hsem : ∀ a : Act, a.eval (.tmp 54) = .func (.yield l1) #[] #[] → a.eval (.tmp 62) = .string x1 → a.eval (.tmp 70) = .string x2 → (Oper.semAt Fence.wide.round a.eval { dst := some 71, op := Op.call { callee := Callee.value (Operand.tmp 54), args := #[Operand.tmp 62, Operand.tmp 70], argTypes := #[9, 9] }, type := 4, pos := "node.go:78", after := #[{ on := 8, ground := Ground.data }, { on := 16, ground := Ground.data }, { on := 24, ground := Ground.data }, { on := 7, ground := Ground.chain }, { on := 7, ground := Ground.guard }], guard := some (7, true) }).run Try.prog A.drew = .ok (.round l1 fn tms asg bdy) A.drew := by
    intro a h1 h2 h3
    rw [show Fence.wide.round = none from rfl, Oper.semAt_none]
    simp only [execOp, resolve, h1, h2, h3, List.map_toArray, List.map_cons, List.map_nil]
    go_simp
  rw [hsem _ rfl rfl rfl]
  refine ⟨fun h => (by cases h), hRd.mono ?_⟩
  rintro e B hRB
  obtain ⟨v, rfl, hB⟩ := hR e B hRB
  refine hK' _ _ ⟨by rw [hSd]; exact hB, ?_⟩
  clear hK' hS
  have hS : S B := by rw [hSd]; exact hB
  simp only [Act.put, List.setIfInBounds_toArray, List.set_cons_zero, List.set_cons_succ]
  refine anyS_take (i := 26) (oi := { dst := some 72, op := Op.unOp UnOp.not 4 (Operand.tmp 71), type := 4, pos := "node.go:78", after := #[{ on := 25, ground := Ground.data }, { on := 7, ground := Ground.guard }], guard := some (7, true) }) (v := .bool (!v)) rfl rfl (by kernel_rfl) (by kernel_rfl) (by kernel_rfl) (fun _ _ _ h => h.elim) ⟨Or.inl ⟨by rfl, ?z26⟩, fun _ => rfl⟩ hS ?_
  case z26 =>
    intro W hW
    rw [hSd] at hW; obtain ⟨s1, s2, s3, s4, s5⟩ := hW
    go_simp
  simp only [Act.put, List.setIfInBounds_toArray, List.set_cons_zero, List.set_cons_succ]
  refine anyS_take (i := 27) (oi := { dst := some 73, op := Op.pick (Operand.tmp 53) (Operand.tmp 72) (Operand.const (Value.bool false)), type := 4, pos := "node.go:78", after := #[{ on := 7, ground := Ground.data }, { on := 26, ground := Ground.data }], guard := none }) (v := .bool (!v)) rfl rfl (by kernel_rfl) (by kernel_rfl) (by kernel_rfl) (fun _ _ _ h => h.elim) ⟨Or.inl ⟨by rfl, ?z27⟩, fun _ => rfl⟩ hS ?_
  case z27 =>
    intro W hW
    rw [hSd] at hW; obtain ⟨s1, s2, s3, s4, s5⟩ := hW
    go_simp
  simp only [Act.put, List.setIfInBounds_toArray, List.set_cons_zero, List.set_cons_succ]
  refine anyS_done (by kernel_rfl) ?_ _
  exact hQ v B hRB
set_option maxRecDepth 100000 in
set_option maxHeartbeats 2000000 in
theorem reg11n {Q : Exit → Act → World → Prop} {y0 y2 y4 y5 y7 y8 y9 y10 y11 y12 y13 y14 y15 y16 y17 y18 y19 y20 y21 y22 y23 y24 y25 y26 y27 y28 y29 y30 y31 y32 y33 y34 y35 y36 y37 y38 y39 y40 y41 y42 y43 y44 y45 y46 y47 y48 y49 y50 y51 y52 y53 y54 y55 y56 y57 y58 y59 y60 y61 y62 y63 y64 y65 y66 y67 y68 y69 y70 y71 y72 y73 : Value} {ds : List Deferred} {A : World} {dd m₀ Bn nd n cap i : Nat} {ao : Option Addr}
    (cn : A.cell? ⟨Bn, 0, none⟩ = some (.pointer (some ⟨nd, 0, none⟩))) (c0 : A.cell? ⟨nd, 0, none⟩ = some (.slice ao n cap)) (hi : ¬ (i : Int) < (n : Int))
    (hQ : Q .normal { tmps := #[y0, .pointer (some ⟨Bn, 0, none⟩), y2, .pointer (some ⟨m₀, 0, none⟩), y4, y5, .int .i64 (i : Int), y7, y8, y9, y10, y11, y12, y13, y14, y15, y16, y17, y18, y19, y20, y21, y22, y23, y24, y25, y26, y27, y28, y29, y30, y31, y32, y33, y34, y35, y36, y37, y38, y39, y40, y41, y42, y43, y44, y45, .int .i64 (i : Int), .pointer (some ⟨nd, 0, none⟩), .pointer (some ⟨nd, 0, none⟩), .pointer (some ⟨nd, 0, none⟩), .slice ao n cap, .int .i64 (n : Int), .bool false, .bool false, undef, undef, undef, undef, undef, undef, undef, undef, undef, undef, undef, undef, undef, undef, undef, undef, undef, undef, undef, .bool false], defers := ds } A.drew) :
    (Code.region 11 #[{ dst := some 46, op := Op.move (Operand.tmp 6), type := 3, pos := "node.go:78", after := #[], guard := none }, { dst := some 47, op := Op.load 46 (Operand.tmp 1), type := 46, pos := "node.go:78", after := #[], guard := none }, { dst := some 48, op := Op.nilCheck (Operand.tmp 47), type := 0, pos := "node.go:78", after := #[{ on := 1, ground := Ground.data }], guard := none }, { dst := some 49, op := Op.fieldAddr 67 (Operand.tmp 48) 0, type := 0, pos := "node.go:78", after := #[{ on := 2, ground := Ground.data }], guard := none }, { dst := some 50, op := Op.load 27 (Operand.tmp 49), type := 27, pos := "node.go:78", after := #[{ on := 3, ground := Ground.data }], guard := none }, { dst := some 51, op := Op.call { callee := Callee.builtin Builtin.len, args := #[Operand.tmp 50], argTypes := #[27] }, type := 3, pos := "node.go:78", after := #[{ on := 4, ground := Ground.data }], guard := none }, { dst := some 52, op := Op.binOp BinOp.lss 3 (Operand.tmp 46) (Operand.tmp 51) 3, type := 4, pos := "node.go:78", after := #[{ on := 0, ground := Ground.data }, { on := 5, ground := Ground.data }], guard := none }, { dst := some 53, op := Op.move (Operand.tmp 52), type := 4, pos := "node.go:78", after := #[{ on := 6, ground := Ground.data }], guard := none }, { dst := some 54, op := Op.load 42 (Operand.tmp 3), type := 42, pos := "node.go:78", after := #[{ on := 7, ground := Ground.guard }], guard := some (7, true) }, { dst := some 55, op := Op.load 46 (Operand.tmp 1), type := 46, pos := "node.go:78", after := #[{ on := 7, ground := Ground.guard }], guard := some (7, true) }, { dst := some 56, op := Op.nilCheck (Operand.tmp 55), type := 0, pos := "node.go:78", after := #[{ on := 9, ground := Ground.data }, { on := 7, ground := Ground.guard }], guard := some (7, true) }, { dst := some 57, op := Op.fieldAddr 67 (Operand.tmp 56) 0, type := 0, pos := "node.go:78", after := #[{ on := 10, ground := Ground.data }, { on := 7, ground := Ground.guard }], guard := some (7, true) }, { dst := some 58, op := Op.load 27 (Operand.tmp 57), type := 27, pos := "node.go:78", after := #[{ on := 11, ground := Ground.data }, { on := 7, ground := Ground.guard }], guard := some (7, true) }, { dst := some 59, op := Op.move (Operand.tmp 6), type := 3, pos := "node.go:78", after := #[{ on := 7, ground := Ground.guard }], guard := some (7, true) }, { dst := some 60, op := Op.indexAddr 27 (Operand.tmp 58) (Operand.tmp 59), type := 0, pos := "node.go:78", after := #[{ on := 12, ground := Ground.data }, { on := 13, ground := Ground.data }, { on := 7, ground := Ground.guard }], guard := some (7, true) }, { dst := some 61, op := Op.fieldAddr 40 (Operand.tmp 60) 0, type := 0, pos := "node.go:78", after := #[{ on := 14, ground := Ground.data }, { on := 7, ground := Ground.guard }], guard := some (7, true) }, { dst := some 62, op := Op.load 9 (Operand.tmp 61), type := 9, pos := "node.go:78", after := #[{ on := 15, ground := Ground.data }, { on := 7, ground := Ground.guard }], guard := some (7, true) }, { dst := some 63, op := Op.load 46 (Operand.tmp 1), type := 46, pos := "node.go:78", after := #[{ on := 7, ground := Ground.guard }], guard := some (7, true) }, { dst := some 64, op := Op.nilCheck (Operand.tmp 63), type := 0, pos := "node.go:78", after := #[{ on := 17, ground := Ground.data }, { on := 7, ground := Ground.guard }], guard := some (7, true) }, { dst := some 65, op := Op.fieldAddr 67 (Operand.tmp 64) 0, type := 0, pos := "node.go:78", after := #[{ on := 18, ground := Ground.data }, { on := 7, ground := Ground.guard }], guard := some (7, true) }, { dst := some 66, op := Op.load 27 (Operand.tmp 65), type := 27, pos := "node.go:78", after := #[{ on := 19, ground := Ground.data }, { on := 7, ground := Ground.guard }], guard := some (7, true) }, { dst := some 67, op := Op.move (Operand.tmp 6), type := 3, pos := "node.go:78", after := #[{ on := 7, ground := Ground.guard }], guard := some (7, true) }, { dst := some 68, op := Op.indexAddr 27 (Operand.tmp 66) (Operand.tmp 67), type := 0, pos := "node.go:78", after := #[{ on := 20, ground := Ground.data }, { on := 21, ground := Ground.data }, { on := 7, ground := Ground.guard }], guard := some (7, true) }, { dst := some 69, op := Op.fieldAddr 40 (Operand.tmp 68) 1, type := 0, pos := "node.go:78", after := #[{ on := 22, ground := Ground.data }, { on := 7, ground := Ground.guard }], guard := some (7, true) }, { dst := some 70, op := Op.load 9 (Operand.tmp 69), type := 9, pos := "node.go:78", after := #[{ on := 23, ground := Ground.data }, { on := 7, ground := Ground.guard }], guard := some (7, true) }, { dst := some 71, op := Op.call { callee := Callee.value (Operand.tmp 54), args := #[Operand.tmp 62, Operand.tmp 70], argTypes := #[9, 9] }, type := 4, pos := "node.go:78", after := #[{ on := 8, ground := Ground.data }, { on := 16, ground := Ground.data }, { on := 24, ground := Ground.data }, { on := 7, ground := Ground.chain }, { on := 7, ground := Ground.guard }], guard := some (7, true) }, { dst := some 72, op := Op.unOp UnOp.not 4 (Operand.tmp 71), type := 4, pos := "node.go:78", after := #[{ on := 25, ground := Ground.data }, { on := 7, ground := Ground.guard }], guard := some (7, true) }, { dst := some 73, op := Op.pick (Operand.tmp 53) (Operand.tmp 72) (Operand.const (Value.bool false)), type := 4, pos := "node.go:78", after := #[{ on := 7, ground := Ground.data }, { on := 26, ground := Ground.data }], guard := none }] true).wpIn Fence.wide dd Try.prog Q { tmps := #[y0, .pointer (some ⟨Bn, 0, none⟩), y2, .pointer (some ⟨m₀, 0, none⟩), y4, y5, .int .i64 (i : Int), y7, y8, y9, y10, y11, y12, y13, y14, y15, y16, y17, y18, y19, y20, y21, y22, y23, y24, y25, y26, y27, y28, y29, y30, y31, y32, y33, y34, y35, y36, y37, y38, y39, y40, y41, y42, y43, y44, y45, y46, y47, y48, y49, y50, y51, y52, y53, y54, y55, y56, y57, y58, y59, y60, y61, y62, y63, y64, y65, y66, y67, y68, y69, y70, y71, y72, y73], defers := ds } A := by
  refine wpIn_mono (Q := fun x a' w' => match x with | .normal => Q .normal a' w' | _ => False) ?_ (by intro x a' w' h; cases x <;> first | exact h | exact h.elim)
  obtain ⟨S, hSd⟩ : ∃ S : World → Prop, S = fun W => W.cell? ⟨Bn, 0, none⟩ = some (.pointer (some ⟨nd, 0, none⟩)) ∧ W.cell? ⟨nd, 0, none⟩ = some (.slice ao n cap) := ⟨_, rfl⟩
  refine region_S (S := S) (by kernel_rfl) ?_
  have hS : S A.drew := by rw [hSd]; exact ⟨cn, c0⟩
  change anyS Fence.wide dd Try.prog .any _ _ S 28 (Array.replicate 28 false) _ A.drew
  refine anyS_take (i := 0) (oi := { dst := some 46, op := Op.move (Operand.tmp 6), type := 3, pos := "node.go:78", after := #[], guard := none }) (v := .int .i64 (i : Int)) rfl rfl (by kernel_rfl) (by kernel_rfl) (by kernel_rfl) (fun _ _ _ h => h.elim) ⟨Or.inl ⟨by rfl, ?z0⟩, fun _ => rfl⟩ hS ?_
  case z0 =>
    intro W hW
    rw [hSd] at hW; obtain ⟨s2, s3⟩ := hW
    go_simp
  simp only [Act.put, List.setIfInBounds_toArray, List.set_cons_zero, List.set_cons_succ]
  refine anyS_take (i := 1) (oi := { dst := some 47, op := Op.load 46 (Operand.tmp 1), type := 46, pos := "node.go:78", after := #[], guard := none }) (v := .pointer (some ⟨nd, 0, none⟩)) rfl rfl (by kernel_rfl) (by kernel_rfl) (by kernel_rfl) (fun _ _ _ h => h.elim) ⟨Or.inl ⟨by rfl, ?z1⟩, fun _ => rfl⟩ hS ?_
  case z1 =>
    intro W hW
    rw [hSd] at hW; obtain ⟨s2, s3⟩ := hW
    go_simp
  simp only [Act.put, List.setIfInBounds_toArray, List.set_cons_zero, List.set_cons_succ]
  refine anyS_take (i := 2) (oi := { dst := some 48, op := Op.nilCheck (Operand.tmp 47), type := 0, pos := "node.go:78", after := #[{ on := 1, ground := Ground.data }], guard := none }) (v := .pointer (some ⟨nd, 0, none⟩)) rfl rfl (by kernel_rfl) (by kernel_rfl) (by kernel_rfl) (fun _ _ _ h => h.elim) ⟨Or.inl ⟨by rfl, ?z2⟩, fun _ => rfl⟩ hS ?_
  case z2 =>
    intro W hW
    rw [hSd] at hW; obtain ⟨s2, s3⟩ := hW
    go_simp
  simp only [Act.put, List.setIfInBounds_toArray, List.set_cons_zero, List.set_cons_succ]
  refine anyS_take (i := 3) (oi := { dst := some 49, op := Op.fieldAddr 67 (Operand.tmp 48) 0, type := 0, pos := "node.go:78", after := #[{ on := 2, ground := Ground.data }], guard := none }) (v := .pointer (some ⟨nd, 0, none⟩)) rfl rfl (by kernel_rfl) (by kernel_rfl) (by kernel_rfl) (fun _ _ _ h => h.elim) ⟨Or.inl ⟨by rfl, ?z3⟩, fun _ => rfl⟩ hS ?_
  case z3 =>
    intro W hW
    rw [hSd] at hW; obtain ⟨s2, s3⟩ := hW
    go_simp
  simp only [Act.put, List.setIfInBounds_toArray, List.set_cons_zero, List.set_cons_succ]
  refine anyS_take (i := 4) (oi := { dst := some 50, op := Op.load 27 (Operand.tmp 49), type := 27, pos := "node.go:78", after := #[{ on := 3, ground := Ground.data }], guard := none }) (v := .slice ao n cap) rfl rfl (by kernel_rfl) (by kernel_rfl) (by kernel_rfl) (fun _ _ _ h => h.elim) ⟨Or.inl ⟨by rfl, ?z4⟩, fun _ => rfl⟩ hS ?_
  case z4 =>
    intro W hW
    rw [hSd] at hW; obtain ⟨s2, s3⟩ := hW
    go_simp
  simp only [Act.put, List.setIfInBounds_toArray, List.set_cons_zero, List.set_cons_succ]
  refine anyS_take (i := 5) (oi := { dst := some 51, op := Op.call { callee := Callee.builtin Builtin.len, args := #[Operand.tmp 50], argTypes := #[27] }, type := 3, pos := "node.go:78", after := #[{ on := 4, ground := Ground.data }], guard := none }) (v := .int .i64 (n : Int)) rfl rfl (by kernel_rfl) (by kernel_rfl) (by kernel_rfl) (fun _ _ _ h => h.elim) ⟨Or.inl ⟨by rfl, ?z5⟩, fun _ => rfl⟩ hS ?_
  case z5 =>
    intro W hW
    rw [hSd] at hW; obtain ⟨s2, s3⟩ := hW
    go_simp
  simp only [Act.put, List.setIfInBounds_toArray, List.set_cons_zero, List.set_cons_succ]
  refine anyS_take (i := 6) (oi := { dst := some 52, op := Op.binOp BinOp.lss 3 (Operand.tmp 46) (Operand.tmp 51) 3, type := 4, pos := "node.go:78", after := #[{ on := 0, ground := Ground.data }, { on := 5, ground := Ground.data }], guard := none }) (v := .bool false) rfl rfl (by kernel_rfl) (by kernel_rfl) (by kernel_rfl) (fun _ _ _ h => h.elim) ⟨Or.inl ⟨by rfl, ?z6⟩, fun _ => rfl⟩ hS ?_
  case z6 =>
    intro W hW
    rw [hSd] at hW; obtain ⟨s2, s3⟩ := hW
    go_simp
  simp only [Act.put, List.setIfInBounds_toArray, List.set_cons_zero, List.set_cons_succ]
  refine anyS_take (i := 7) (oi := { dst := some 53, op := Op.move (Operand.tmp 52), type := 4, pos := "node.go:78", after := #[{ on := 6, ground := Ground.data }], guard := none }) (v := .bool false) rfl rfl (by kernel_rfl) (by kernel_rfl) (by kernel_rfl) (fun _ _ _ h => h.elim) ⟨Or.inl ⟨by rfl, ?z7⟩, fun _ => rfl⟩ hS ?_
  case z7 =>
    intro W hW
    rw [hSd] at hW; obtain ⟨s2, s3⟩ := hW
    go_simp
  simp only [Act.put, List.setIfInBounds_toArray, List.set_cons_zero, List.set_cons_succ]
  refine anyS_take (i := 8) (oi := { dst := some 54, op := Op.load 42 (Operand.tmp 3), type := 42, pos := "node.go:78", after := #[{ on := 7, ground := Ground.guard }], guard := some (7, true) }) (v := undef) rfl rfl (by kernel_rfl) (by kernel_rfl) (by kernel_rfl) (fun _ _ _ h => h.elim) ⟨Or.inr ⟨by rfl, rfl⟩, fun _ => rfl⟩ hS ?_
  simp only [Act.put, List.setIfInBounds_toArray, List.set_cons_zero, List.set_cons_succ]
  refine anyS_take (i := 9) (oi := { dst := some 55, op := Op.load 46 (Operand.tmp 1), type := 46, pos := "node.go:78", after := #[{ on := 7, ground := Ground.guard }], guard := some (7, true) }) (v := undef) rfl rfl (by kernel_rfl) (by kernel_rfl) (by kernel_rfl) (fun _ _ _ h => h.elim) ⟨Or.inr ⟨by rfl, rfl⟩, fun _ => rfl⟩ hS ?_
  simp only [Act.put, List.setIfInBounds_toArray, List.set_cons_zero, List.set_cons_succ]
  refine anyS_take (i := 10) (oi := { dst := some 56, op := Op.nilCheck (Operand.tmp 55), type := 0, pos := "node.go:78", after := #[{ on := 9, ground := Ground.data }, { on := 7, ground := Ground.guard }], guard := some (7, true) }) (v := undef) rfl rfl (by kernel_rfl) (by kernel_rfl) (by kernel_rfl) (fun _ _ _ h => h.elim) ⟨Or.inr ⟨by rfl, rfl⟩, fun _ => rfl⟩ hS ?_
  simp only [Act.put, List.setIfInBounds_toArray, List.set_cons_zero, List.set_cons_succ]
  refine anyS_take (i := 11) (oi := { dst := some 57, op := Op.fieldAddr 67 (Operand.tmp 56) 0, type := 0, pos := "node.go:78", after := #[{ on := 10, ground := Ground.data }, { on := 7, ground := Ground.guard }], guard := some (7, true) }) (v := undef) rfl rfl (by kernel_rfl) (by kernel_rfl) (by kernel_rfl) (fun _ _ _ h => h.elim) ⟨Or.inr ⟨by rfl, rfl⟩, fun _ => rfl⟩ hS ?_
  simp only [Act.put, List.setIfInBounds_toArray, List.set_cons_zero, List.set_cons_succ]
  refine anyS_take (i := 12) (oi := { dst := some 58, op := Op.load 27 (Operand.tmp 57), type := 27, pos := "node.go:78", after := #[{ on := 11, ground := Ground.data }, { on := 7, ground := Ground.guard }], guard := some (7, true) }) (v := undef) rfl rfl (by kernel_rfl) (by kernel_rfl) (by kernel_rfl) (fun _ _ _ h => h.elim) ⟨Or.inr ⟨by rfl, rfl⟩, fun _ => rfl⟩ hS ?_
  simp only [Act.put, List.setIfInBounds_toArray, List.set_cons_zero, List.set_cons_succ]
  refine anyS_take (i := 13) (oi := { dst := some 59, op := Op.move (Operand.tmp 6), type := 3, pos := "node.go:78", after := #[{ on := 7, ground := Ground.guard }], guard := some (7, true) }) (v := undef) rfl rfl (by kernel_rfl) (by kernel_rfl) (by kernel_rfl) (fun _ _ _ h => h.elim) ⟨Or.inr ⟨by rfl, rfl⟩, fun _ => rfl⟩ hS ?_
  simp only [Act.put, List.setIfInBounds_toArray, List.set_cons_zero, List.set_cons_succ]
  refine anyS_take (i := 14) (oi := { dst := some 60, op := Op.indexAddr 27 (Operand.tmp 58) (Operand.tmp 59), type := 0, pos := "node.go:78", after := #[{ on := 12, ground := Ground.data }, { on := 13, ground := Ground.data }, { on := 7, ground := Ground.guard }], guard := some (7, true) }) (v := undef) rfl rfl (by kernel_rfl) (by kernel_rfl) (by kernel_rfl) (fun _ _ _ h => h.elim) ⟨Or.inr ⟨by rfl, rfl⟩, fun _ => rfl⟩ hS ?_
  simp only [Act.put, List.setIfInBounds_toArray, List.set_cons_zero, List.set_cons_succ]
  refine anyS_take (i := 15) (oi := { dst := some 61, op := Op.fieldAddr 40 (Operand.tmp 60) 0, type := 0, pos := "node.go:78", after := #[{ on := 14, ground := Ground.data }, { on := 7, ground := Ground.guard }], guard := some (7, true) }) (v := undef) rfl rfl (by kernel_rfl) (by kernel_rfl) (by kernel_rfl) (fun _ _ _ h => h.elim) ⟨Or.inr ⟨by rfl, rfl⟩, fun _ => rfl⟩ hS ?_
  simp only [Act.put, List.setIfInBounds_toArray, List.set_cons_zero, List.set_cons_succ]
  refine anyS_take (i := 16) (oi := { dst := some 62, op := Op.load 9 (Operand.tmp 61), type := 9, pos := "node.go:78", after := #[{ on := 15, ground := Ground.data }, { on := 7, ground := Ground.guard }], guard := some (7, true) }) (v := undef) rfl rfl (by kernel_rfl) (by kernel_rfl) (by kernel_rfl) (fun _ _ _ h => h.elim) ⟨Or.inr ⟨by rfl, rfl⟩, fun _ => rfl⟩ hS ?_
  simp only [Act.put, List.setIfInBounds_toArray, List.set_cons_zero, List.set_cons_succ]
  refine anyS_take (i := 17) (oi := { dst := some 63, op := Op.load 46 (Operand.tmp 1), type := 46, pos := "node.go:78", after := #[{ on := 7, ground := Ground.guard }], guard := some (7, true) }) (v := undef) rfl rfl (by kernel_rfl) (by kernel_rfl) (by kernel_rfl) (fun _ _ _ h => h.elim) ⟨Or.inr ⟨by rfl, rfl⟩, fun _ => rfl⟩ hS ?_
  simp only [Act.put, List.setIfInBounds_toArray, List.set_cons_zero, List.set_cons_succ]
  refine anyS_take (i := 18) (oi := { dst := some 64, op := Op.nilCheck (Operand.tmp 63), type := 0, pos := "node.go:78", after := #[{ on := 17, ground := Ground.data }, { on := 7, ground := Ground.guard }], guard := some (7, true) }) (v := undef) rfl rfl (by kernel_rfl) (by kernel_rfl) (by kernel_rfl) (fun _ _ _ h => h.elim) ⟨Or.inr ⟨by rfl, rfl⟩, fun _ => rfl⟩ hS ?_
  simp only [Act.put, List.setIfInBounds_toArray, List.set_cons_zero, List.set_cons_succ]
  refine anyS_take (i := 19) (oi := { dst := some 65, op := Op.fieldAddr 67 (Operand.tmp 64) 0, type := 0, pos := "node.go:78", after := #[{ on := 18, ground := Ground.data }, { on := 7, ground := Ground.guard }], guard := some (7, true) }) (v := undef) rfl rfl (by kernel_rfl) (by kernel_rfl) (by kernel_rfl) (fun _ _ _ h => h.elim) ⟨Or.inr ⟨by rfl, rfl⟩, fun _ => rfl⟩ hS ?_
  simp only [Act.put, List.setIfInBounds_toArray, List.set_cons_zero, List.set_cons_succ]
  refine anyS_take (i := 20) (oi := { dst := some 66, op := Op.load 27 (Operand.tmp 65), type := 27, pos := "node.go:78", after := #[{ on := 19, ground := Ground.data }, { on := 7, ground := Ground.guard }], guard := some (7, true) }) (v := undef) rfl rfl (by kernel_rfl) (by kernel_rfl) (by kernel_rfl) (fun _ _ _ h => h.elim) ⟨Or.inr ⟨by rfl, rfl⟩, fun _ => rfl⟩ hS ?_
  simp only [Act.put, List.setIfInBounds_toArray, List.set_cons_zero, List.set_cons_succ]
  refine anyS_take (i := 21) (oi := { dst := some 67, op := Op.move (Operand.tmp 6), type := 3, pos := "node.go:78", after := #[{ on := 7, ground := Ground.guard }], guard := some (7, true) }) (v := undef) rfl rfl (by kernel_rfl) (by kernel_rfl) (by kernel_rfl) (fun _ _ _ h => h.elim) ⟨Or.inr ⟨by rfl, rfl⟩, fun _ => rfl⟩ hS ?_
  simp only [Act.put, List.setIfInBounds_toArray, List.set_cons_zero, List.set_cons_succ]
  refine anyS_take (i := 22) (oi := { dst := some 68, op := Op.indexAddr 27 (Operand.tmp 66) (Operand.tmp 67), type := 0, pos := "node.go:78", after := #[{ on := 20, ground := Ground.data }, { on := 21, ground := Ground.data }, { on := 7, ground := Ground.guard }], guard := some (7, true) }) (v := undef) rfl rfl (by kernel_rfl) (by kernel_rfl) (by kernel_rfl) (fun _ _ _ h => h.elim) ⟨Or.inr ⟨by rfl, rfl⟩, fun _ => rfl⟩ hS ?_
  simp only [Act.put, List.setIfInBounds_toArray, List.set_cons_zero, List.set_cons_succ]
  refine anyS_take (i := 23) (oi := { dst := some 69, op := Op.fieldAddr 40 (Operand.tmp 68) 1, type := 0, pos := "node.go:78", after := #[{ on := 22, ground := Ground.data }, { on := 7, ground := Ground.guard }], guard := some (7, true) }) (v := undef) rfl rfl (by kernel_rfl) (by kernel_rfl) (by kernel_rfl) (fun _ _ _ h => h.elim) ⟨Or.inr ⟨by rfl, rfl⟩, fun _ => rfl⟩ hS ?_
  simp only [Act.put, List.setIfInBounds_toArray, List.set_cons_zero, List.set_cons_succ]
  refine anyS_take (i := 24) (oi := { dst := some 70, op := Op.load 9 (Operand.tmp 69), type := 9, pos := "node.go:78", after := #[{ on := 23, ground := Ground.data }, { on := 7, ground := Ground.guard }], guard := some (7, true) }) (v := undef) rfl rfl (by kernel_rfl) (by kernel_rfl) (by kernel_rfl) (fun _ _ _ h => h.elim) ⟨Or.inr ⟨by rfl, rfl⟩, fun _ => rfl⟩ hS ?_
  simp only [Act.put, List.setIfInBounds_toArray, List.set_cons_zero, List.set_cons_succ]
  refine anyS_take (i := 25) (oi := { dst := some 71, op := Op.call { callee := Callee.value (Operand.tmp 54), args := #[Operand.tmp 62, Operand.tmp 70], argTypes := #[9, 9] }, type := 4, pos := "node.go:78", after := #[{ on := 8, ground := Ground.data }, { on := 16, ground := Ground.data }, { on := 24, ground := Ground.data }, { on := 7, ground := Ground.chain }, { on := 7, ground := Ground.guard }], guard := some (7, true) }) (v := undef) rfl rfl (by kernel_rfl) (by kernel_rfl) (by kernel_rfl) (fun _ _ _ h => h.elim) ⟨Or.inr ⟨by rfl, rfl⟩, fun _ => rfl⟩ hS ?_
  simp only [Act.put, List.setIfInBounds_toArray, List.set_cons_zero, List.set_cons_succ]
  refine anyS_take (i := 26) (oi := { dst := some 72, op := Op.unOp UnOp.not 4 (Operand.tmp 71), type := 4, pos := "node.go:78", after := #[{ on := 25, ground := Ground.data }, { on := 7, ground := Ground.guard }], guard := some (7, true) }) (v := undef) rfl rfl (by kernel_rfl) (by kernel_rfl) (by kernel_rfl) (fun _ _ _ h => h.elim) ⟨Or.inr ⟨by rfl, rfl⟩, fun _ => rfl⟩ hS ?_
  simp only [Act.put, List.setIfInBounds_toArray, List.set_cons_zero, List.set_cons_succ]
  refine anyS_take (i := 27) (oi := { dst := some 73, op := Op.pick (Operand.tmp 53) (Operand.tmp 72) (Operand.const (Value.bool false)), type := 4, pos := "node.go:78", after := #[{ on := 7, ground := Ground.data }, { on := 26, ground := Ground.data }], guard := none }) (v := .bool false) rfl rfl (by kernel_rfl) (by kernel_rfl) (by kernel_rfl) (fun _ _ _ h => h.elim) ⟨Or.inl ⟨by rfl, ?z27⟩, fun _ => rfl⟩ hS ?_
  case z27 =>
    intro W hW
    rw [hSd] at hW; obtain ⟨s2, s3⟩ := hW
    go_simp
  simp only [Act.put, List.setIfInBounds_toArray, List.set_cons_zero, List.set_cons_succ]
  refine anyS_done (by kernel_rfl) ?_ _
  exact hQ
end Go.Proofs.Ytnagknlfboadkaa.Oct
