/-
  Layer 5 (disk): Pending, Sure: what a disk tells.
-/
import Derived.Test.YtmhdldhplhffcaaDk
namespace Go.Proofs.Ytmhdldhplhffcaa.Oct
open Go.RowKit Go.Maps Go.Lib

theorem info3 : (Try.prog.info? 3).map (fun i => (i.zero, i.size, i.bytes)) = some (some (.int .i64 0), 1, 8) := by kernel_rfl
theorem info30 : (Try.prog.info? 30).map (fun i => (i.zero, i.size, i.bytes)) = some (some (.slice none 0 0), 1, 24) := by kernel_rfl
/-- the sectors of pending writes, as cells -/
def ats (l : List (Nat × List UInt8)) : List Value := l.map fun x => Value.int .i64 (x.1 : Int)
theorem own_below {w w' : World} {B : Nat} {e : TypeId} {size n : Nat} {v : Value} {xs : List Value} (h : w.ownsRow B e size v n xs) (hb : Below w.heap.size w w') : w'.ownsRow B e size v n xs :=
  row_kept (Keep.below (S := fun _ => False) hb) h (fun _ _ e => e)

theorem one_int (z : Int) : ∀ u ∈ [Value.int .i64 z], u.oneCell' = true := by
  intro u hu
  have h : u = .int .i64 z := by simpa using hu
  rw [h]; rfl
theorem one_slice (a : Option Addr) (n c : Nat) : ∀ u ∈ [Value.slice a n c], u.oneCell' = true := by
  intro u hu
  have h : u = .slice a n c := by simpa using hu
  rw [h]; rfl

set_option maxHeartbeats 1000000 in
set_option maxRecDepth 100000 in
theorem pending_is {w : World} {d bs bl : Nat} {pv : Value} {nS nL : Nat} {DS DL : DataW Unit} {D : Disk} (h : DkAt w d bs bl pv nS nL DS DL D) (hn : D.ops < 100000000000) :
    Calls Try.prog 20 #[.pointer (some ⟨d, 0, none⟩)] w fun e w' => ∃ v, e = .returned v ∧ w'.ownsRow w.heap.size 3 1 v D.pend.length (ats D.pend) ∧ Below w.heap.size w w' := by
  have hm := isMade_is h
  obtain ⟨i0, hi, hz0, hz1, hz2⟩ := info_parts info3
  obtain ⟨Z, hZ, HZ⟩ := zero75
  obtain ⟨ao, cap, rfl, hao⟩ := row_opt h.row
  obtain ⟨n, hnl⟩ : ∃ n, n = D.pend.length := ⟨_, rfl⟩
  rw [← hnl] at h hao
  have HA : Hid (DkAt w d bs bl (.slice ao n cap) nS nL DS DL D) := h
  have HNL : Hid (n = D.pend.length) := hnl
  have HAO : Hid (0 < n → ∃ g, ao = some ⟨g, 0, none⟩ ∧ g < w.heap.size) := hao
  have HNN : Hid (n < 100000000000) := by have := h.roomS; show n < _; omega
  have qn : (n : Int) < 100000000000 := by have := HNN.out; omega
  have c2 := h.c2
  clear h hn hnl hao
  go_enter Try.func20, Try.ntmps20
  go_wp2_with (go_at_call 28; refine hm.mono ?_; rintro e w1 ⟨rfl, rfl⟩; clear hm)
  clear c2
  go_loopw [14, 3] (fun i v wr => ∃ t : Nat, i = .int .i64 t ∧ t ≤ n ∧ Hid (wr.ownsRow w.heap.size 3 1 v t (ats (D.pend.take t)) ∧ Below w.heap.size w wr)) (fun i _ _ => n - (intOf i).toNat)
  case atStart => exact ⟨0, rfl, Nat.zero_le _, ⟨rfl, .inl ⟨rfl, rfl⟩⟩, Below.refl _ _⟩
  case round =>
    obtain ⟨t, rfl, ht, hr⟩ := hrel
    by_cases hlt : t = n
    · have q1 : ¬ ((t : Int) < (n : Int)) := by omega
      have HE : Hid (D.pend.take t = D.pend ∧ t = D.pend.length) := ⟨by rw [hlt, HNL.out, List.take_length], by rw [hlt]; exact HNL.out⟩
      go_wp2
      go_ret
      refine ⟨_, rfl, ?_, hr.out.2⟩
      have := hr.out.1
      rw [HE.out.1] at this
      rw [← HE.out.2]
      exact this
    · have q1 : (t : Int) < (n : Int) := by omega
      have HLT : Hid (t < n) := by show _ < _; omega
      obtain ⟨g, hg, hgl⟩ := HAO.out (by omega)
      subst hg
      obtain ⟨x, hx⟩ : ∃ x, D.pend[t]? = some x := ⟨_, List.getElem?_eq_getElem (by rw [← HNL.out]; exact HLT.out)⟩
      have HX : Hid (x.2.length = 256) := (HA.out.good.2.2.2.1 x (List.mem_of_getElem? hx)).2
      have HAr : Hid (DkAt wr d bs bl (.slice (some ⟨g, 0, none⟩) n cap) nS nL DS DL D) := HA.out.at_below hr.out.2
      have HR : Hid (wr.rangeAt g (t * 257) (wc x)) := by
        have hrow := HAr.out.row
        exact row_range (n := n) (by rw [HNL.out]; rw [HNL.out] at hrow; exact hrow) (fun y hy => (HA.out.good.2.2.2.1 y hy).2) HNL.out.symm hx
      have HWC : Hid ((Try.prog.info? 75).map (·.size) = some (wc x).length) := by show _ = _; rw [wc_length HX.out]; exact size75
      have HTK : Hid (ats (D.pend.take (t + 1)) = ats (D.pend.take t) ++ [.int .i64 (x.1 : Int)]) := by show _ = _; rw [List.take_add_one, hx]; simp [ats]
      have hw : IntKind.i64.wrap ((t : Int) + 1) = (t : Int) + 1 := wrapi (by omega) (by omega)
      clear hx ht hlt qn
      go_wp2_with (first
        | (with_reducible change wpList _ _ _ ({ dst := some 17, op := Op.load 75 _, type := _, pos := _, after := _, guard := _ } :: _) _ _; refine wpList_load_mid rfl 75 (.tmp 16) rfl g (t * 257) rfl (wc x) _ HR.out Try.underlying75 rfl HWC.out ?_)
        | (with_reducible change wpList _ _ _ ({ dst := none, op := Op.store 75 _ _, type := _, pos := _, after := _, guard := _ } :: _) _ _
           refine wpList_store_blk rfl 75 (.tmp 5) (.tmp 17) rfl wr.heap.size 0 75 Z (wc x) rfl rfl (Blk.new wr Z.toArray 75) (by rw [wc_length HX.out, HZ.out]; omega) HWC.out (wc_one x) ?_
           intro w2 hb2 hg2
           have HB2 : Hid (Blk w2 wr.heap.size 75 (wc x)) := copied75 (wc_length HX.out) HZ.out hb2.out
           have HK2 : Hid (Below wr.heap.size wr w2) := (keep_new hg2.out).none_below
           have e0 : w2.cell? ⟨wr.heap.size, 0, none⟩ = some (.int .i64 (x.1 : Int)) := HB2.out.cell rfl
           have HO2 : Hid ((w2.alloc (.cells #[.int .i64 (x.1 : Int)] 3)).ownsRow w.heap.size 3 1 u3 t (ats (D.pend.take t))) := own_below (own_below hr.out.1 HK2.out) ((Below.refl _ w2).alloc (Nat.le_refl _) _)
           have HNW : Hid (∀ j u, [Value.int .i64 (x.1 : Int)][j]? = some u → (w2.alloc (.cells #[.int .i64 (x.1 : Int)] 3)).cell? ((⟨w2.heap.size, 0, none⟩ : Addr).add j) = some u) := (fun j u hj => by
             rw [Addr.add_lit, Nat.zero_add]
             exact (Blk.new w2 #[.int .i64 (x.1 : Int)] 3).cell hj)
           have HBW : Hid (Below w.heap.size w w2) := hr.out.2.trans (HK2.out.mono hr.out.2.size)
           clear hb2 hg2 q1)
        | (with_reducible change wpList _ _ _ ({ dst := some 22, op := Op.call _, type := _, pos := _, after := _, guard := _ } :: _) _ _
           refine wpList_append_own_at _ rfl (.tmp 18) (.tmp 21) 31 rfl w.heap.size 3 i0 (.int .i64 0) 1 8 Try.underlying31 hi hz0 hz1 hz2 rfl (by omega) _ t (ats (D.pend.take t)) rfl HO2.out ⟨w2.heap.size, 0, none⟩ 1 1 [.int .i64 (x.1 : Int)] rfl rfl HNW.out (one_int _) (by have := HNN.out; have := HLT.out; unfold maxLen; omega) (by have := HNN.out; have := HLT.out; omega) (by have := HBW.out.size; simp; omega) ?_
           intro v5 w5 ho5 hg5 _ _
           have HO5 : Hid (w5.ownsRow w.heap.size 3 1 v5 (t + 1) (ats (D.pend.take (t + 1)))) := (by rw [HTK.out]; exact ho5)
           have HB5 : Hid (Below w.heap.size w w5) := (HBW.out.alloc HBW.out.size _).grown hg5 (HBW.out.alloc HBW.out.size _).size (fun j hj => (World.ownsRow.lt HO2.out j hj).1)
           clear ho5 hg5))
      exact ⟨⟨t + 1, by simp, HLT.out, HO5.out, HB5.out⟩, by have := HLT.out; simp only [intOf]; omega⟩

/-- sectors, told: a list of lists of bytes of the call's own -/
def SV (w : World) (B : Nat) (v : Value) (ls : List (List UInt8)) : Prop :=
  ∃ gs : List Nat, w.ownsRow B 30 1 v ls.length (gs.map fun g => Value.slice (some ⟨g, 0, none⟩) 256 256) ∧ gs.length = ls.length ∧ gs.Nodup ∧ ∀ (i g : Nat) (l : List UInt8), gs[i]? = some g → ls[i]? = some l → B ≤ g ∧ Blk w g 72 (U l) ∧ l.length = 256
theorem SV.below {w w' : World} {B : Nat} {v : Value} {ls : List (List UInt8)} (h : SV w B v ls) (hb : Below w.heap.size w w') : SV w' B v ls := by
  obtain ⟨gs, h1, h2, h3, h4⟩ := h
  exact ⟨gs, own_below h1 hb, h2, h3, fun i g l hg hl => ⟨(h4 i g l hg hl).1, (h4 i g l hg hl).2.1.below hb (h4 i g l hg hl).2.1.lt, (h4 i g l hg hl).2.2⟩⟩
theorem SV.snoc {w w1 w2 : World} {B : Nat} {v2 : Value} {ls : List (List UInt8)} {l : List UInt8} {gs : List Nat} (k2 : gs.length = ls.length) (k3 : gs.Nodup) (k4 : ∀ (i g : Nat) (l : List UInt8), gs[i]? = some g → ls[i]? = some l → B ≤ g ∧ Blk w g 72 (U l) ∧ l.length = 256)
    (hB : B ≤ w.heap.size) (hl : l.length = 256) (h1 : Blk w1 w.heap.size 72 (U l)) (hb1 : Below w.heap.size w w1)
    (ho : w2.ownsRow B 30 1 v2 (ls.length + 1) ((gs.map fun g => Value.slice (some ⟨g, 0, none⟩) 256 256) ++ [.slice (some ⟨w.heap.size, 0, none⟩) 256 256]))
    (hk : ∀ b L, Blk w1 b 72 L → Blk w2 b 72 L) : SV w2 B v2 (ls ++ [l]) := by
  have hlt : ∀ g ∈ gs, g < w.heap.size := fun g hg => by
    obtain ⟨i, hi, e⟩ := List.getElem_of_mem hg
    exact (k4 i g (ls[i]'(by omega)) (by simp [hi, e]) (by simp)).2.1.lt
  refine ⟨gs ++ [w.heap.size], ?_, by simp [k2], ?_, fun i g l' hg hl' => ?_⟩
  · simpa using ho
  · refine List.nodup_append.2 ⟨k3, by simp, fun a ha b hb => ?_⟩
    have : b = w.heap.size := by simpa using hb
    have := hlt a ha
    omega
  · by_cases hi : i < gs.length
    · rw [List.getElem?_append_left hi] at hg
      rw [List.getElem?_append_left (by omega)] at hl'
      have := k4 i g l' hg hl'
      exact ⟨this.1, hk g _ (this.2.1.below hb1 this.2.1.lt), this.2.2⟩
    · have hi2 := (List.getElem?_eq_some_iff.1 hg).1
      have e : i = gs.length := by simp at hi2; omega
      subst e
      simp at hg
      rw [k2] at hl'
      simp at hl'
      subst hg hl'
      exact ⟨hB, hk _ _ h1, hl⟩

/-- the sure bytes of the first sectors -/
def suresTo (D : Disk) (t : Nat) : List (List UInt8) := (List.range t).map D.sure
theorem suresTo_succ (D : Disk) (t : Nat) : suresTo D (t + 1) = suresTo D t ++ [D.sure t] := by simp [suresTo, List.range_succ]
theorem suresTo_length (D : Disk) (t : Nat) : (suresTo D t).length = t := by simp [suresTo]
theorem row_type {w : World} {B : Nat} {e : TypeId} {size n : Nat} {v : Value} {xs : List Value} (h : w.ownsRow B e size v n xs) {g : Nat} (hg : v.ownBlock = some g) : ∃ cur, w.heap[g]? = some (.cells cur e (0, 0)) := by
  rcases h.2 with ⟨rfl, _⟩ | ⟨g', cap, cur, rfl, _, hb, _⟩
  · cases hg
  · have : g' = g := by simpa [Value.ownBlock] using hg
    subst this
    exact ⟨cur, hb⟩

theorem sure_step {w wr w1 w5 : World} {D : Disk} {t : Nat} {u3 v5 : Value} {gs : List Nat} (hG : wr.ownsRow w.heap.size 30 1 u3 t (gs.map fun g => Value.slice (some ⟨g, 0, none⟩) 256 256) ∧ gs.length = t ∧ gs.Nodup ∧ ∀ (i g : Nat) (l : List UInt8), gs[i]? = some g → (suresTo D t)[i]? = some l → w.heap.size ≤ g ∧ Blk wr g 72 (U l) ∧ l.length = 256)
    (hbr : Below w.heap.size w wr) (hgood : Good D) (h1 : Blk w1 wr.heap.size 72 (U (D.sure t)) ∧ Below wr.heap.size wr w1) (hb1 : Below w.heap.size w w1)
    (ho2 : (w1.alloc (.cells #[.slice (some ⟨wr.heap.size, 0, none⟩) 256 256] 30)).ownsRow w.heap.size 30 1 u3 t (gs.map fun g => Value.slice (some ⟨g, 0, none⟩) 256 256))
    (ho5 : w5.ownsRow w.heap.size 30 1 v5 (t + 1) ((gs.map fun g => Value.slice (some ⟨g, 0, none⟩) 256 256) ++ [.slice (some ⟨wr.heap.size, 0, none⟩) 256 256]))
    (hg5 : (w1.alloc (.cells #[.slice (some ⟨wr.heap.size, 0, none⟩) 256 256] 30)).grownBy w5 u3.ownBlock) : SV w5 w.heap.size v5 (suresTo D (t + 1)) ∧ Below w.heap.size w w5 := by
  refine ⟨?_, (hb1.alloc hb1.size _).grown hg5 (hb1.alloc hb1.size _).size (fun j hj => (World.ownsRow.lt ho2 j hj).1)⟩
  rw [suresTo_succ]
  refine SV.snoc (by rw [suresTo_length]; exact hG.2.1) hG.2.2.1 hG.2.2.2 hbr.size (hgood.2.2.1 t) h1.1 h1.2 (by rw [suresTo_length]; exact ho5) (fun b L hb => ?_)
  refine (hb.alloc _).kept hg5 (fun e => ?_)
  obtain ⟨cur, hc⟩ := row_type ho2 e.symm
  have := hb.alloc (.cells #[.slice (some ⟨wr.heap.size, 0, none⟩) 256 256] 30)
  unfold Blk at this
  rw [this] at hc
  simp at hc

set_option maxHeartbeats 1000000 in
set_option maxRecDepth 100000 in
theorem sure_is {w : World} {d bs bl : Nat} {pv : Value} {nS nL : Nat} {DS DL : DataW Unit} {D : Disk} (h : DkAt w d bs bl pv nS nL DS DL D) :
    Calls Try.prog 17 #[.pointer (some ⟨d, 0, none⟩)] w fun e w' => ∃ v, e = .returned v ∧ SV w' w.heap.size v (suresTo D D.n) ∧ Below w.heap.size w w' := by
  have hm := isMade_is h
  obtain ⟨i0, hi, hz0, hz1, hz2⟩ := info_parts info30
  have HA : Hid (DkAt w d bs bl pv nS nL DS DL D) := h
  have HN : Hid (D.n ≤ 4096) := h.good.2.1
  have c0 := h.c0
  obtain ⟨n, hn⟩ : ∃ n, n = D.n := ⟨_, rfl⟩
  rw [← hn] at c0
  have HNN : Hid (n = D.n ∧ n ≤ 4096) := ⟨hn, by rw [hn]; exact HN.out⟩
  clear h hn
  go_enter Try.func17, Try.ntmps17
  go_wp2_with (go_at_call 28; refine hm.mono ?_; rintro e w1 ⟨rfl, rfl⟩; clear hm)
  clear c0
  go_loopw [12, 3] (fun i v wr => ∃ t : Nat, i = .int .i64 t ∧ t ≤ n ∧ Hid (SV wr w.heap.size v (suresTo D t) ∧ Below w.heap.size w wr)) (fun i _ _ => n - (intOf i).toNat)
  case atStart => exact ⟨0, rfl, Nat.zero_le _, ⟨[], ⟨rfl, .inl ⟨rfl, rfl⟩⟩, rfl, List.nodup_nil, fun i g l hg _ => by cases hg⟩, Below.refl _ _⟩
  case round =>
    obtain ⟨t, rfl, ht, hr⟩ := hrel
    by_cases hlt : t = n
    · have q1 : ¬ ((t : Int) < (n : Int)) := by omega
      have HE : Hid (t = D.n) := by rw [hlt]; exact HNN.out.1
      go_wp2
      go_ret
      refine ⟨_, rfl, ?_, hr.out.2⟩
      have := hr.out.1
      rw [HE.out] at this
      exact this
    · have q1 : (t : Int) < (n : Int) := by omega
      have HLT : Hid (t < n) := by show _ < _; omega
      obtain ⟨gs, k1, k2, k3, k4⟩ := hr.out.1
      rw [suresTo_length] at k1 k2
      have HG : Hid (wr.ownsRow w.heap.size 30 1 u3 t (gs.map fun g => Value.slice (some ⟨g, 0, none⟩) 256 256) ∧ gs.length = t ∧ gs.Nodup ∧ ∀ (i g : Nat) (l : List UInt8), gs[i]? = some g → (suresTo D t)[i]? = some l → w.heap.size ≤ g ∧ Blk wr g 72 (U l) ∧ l.length = 256) := ⟨k1, k2, k3, k4⟩
      clear k1 k2 k3 k4
      have HAr : Hid (DkAt wr d bs bl pv nS nL DS DL D) := HA.out.at_below hr.out.2
      have c1 := HAr.out.c1
      have hls := look_sure HAr.out t (by rw [← HNN.out.1]; exact HLT.out)
      obtain ⟨Y, hY⟩ : ∃ Y, Y = (U (D.sure t)).toArray := ⟨_, rfl⟩
      rw [← hY] at hls
      have HY : Hid (Y = (U (D.sure t)).toArray) := hY
      have hcp := copied_is Y wr
      have hw : IntKind.i64.wrap ((t : Int) + 1) = (t : Int) + 1 := wrapi (by have := HNN.out; omega) (by have := HNN.out; omega)
      clear hlt ht hY
      go_wp2_with (first
        | (go_at_call 43; refine hcp.mono ?_; rintro e w1 ⟨rfl, hw1⟩
           have HW1 : Hid (Blk w1 wr.heap.size 72 (U (D.sure t)) ∧ Below wr.heap.size wr w1) := (by
             rw [hw1, HY.out]
             exact ⟨Blk.new wr (U (D.sure t)).toArray 72, (Below.refl _ wr).alloc (Nat.le_refl _) _⟩)
           have HBW : Hid (Below w.heap.size w w1) := hr.out.2.trans (HW1.out.2.mono hr.out.2.size)
           have HO2 : Hid ((w1.alloc (.cells #[.slice (some ⟨wr.heap.size, 0, none⟩) 256 256] 30)).ownsRow w.heap.size 30 1 u3 t (gs.map fun g => Value.slice (some ⟨g, 0, none⟩) 256 256)) := own_below (own_below HG.out.1 HW1.out.2) ((Below.refl _ w1).alloc (Nat.le_refl _) _)
           have HNW : Hid (∀ j u, [Value.slice (some ⟨wr.heap.size, 0, none⟩) 256 256][j]? = some u → (w1.alloc (.cells #[.slice (some ⟨wr.heap.size, 0, none⟩) 256 256] 30)).cell? ((⟨w1.heap.size, 0, none⟩ : Addr).add j) = some u) := (fun j u hj => by
             rw [Addr.add_lit, Nat.zero_add]
             exact (Blk.new w1 #[.slice (some ⟨wr.heap.size, 0, none⟩) 256 256] 30).cell hj)
           clear hw1 hls hcp c1 q1)
        | (with_reducible change wpList _ _ _ ({ dst := some 24, op := Op.call _, type := _, pos := _, after := _, guard := _ } :: _) _ _
           refine wpList_append_own_at _ rfl (.tmp 15) (.tmp 23) 44 rfl w.heap.size 30 i0 (.slice none 0 0) 1 24 Try.underlying44 hi hz0 hz1 hz2 rfl (by omega) u3 t _ rfl HO2.out ⟨w1.heap.size, 0, none⟩ 1 1 [.slice (some ⟨wr.heap.size, 0, none⟩) 256 256] rfl rfl HNW.out (one_slice _ _ _) (by have := HNN.out; have := HLT.out; unfold maxLen; omega) (by have := HNN.out; have := HLT.out; omega) (by have := HBW.out.size; simp; omega) ?_
           intro v5 w5 ho5 hg5 _ _
           have HS5 : Hid (SV w5 w.heap.size v5 (suresTo D (t + 1)) ∧ Below w.heap.size w w5) := sure_step HG.out hr.out.2 HAr.out.good HW1.out HBW.out HO2.out ho5 hg5
           clear ho5 hg5))
      exact ⟨⟨t + 1, by simp, HLT.out, HS5⟩, by have := HLT.out; simp only [intOf]; omega⟩
#print axioms pending_is
#print axioms sure_is
end Go.Proofs.Ytmhdldhplhffcaa.Oct
