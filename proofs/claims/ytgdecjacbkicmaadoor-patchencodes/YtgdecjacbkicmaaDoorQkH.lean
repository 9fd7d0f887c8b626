/-
  Slices of bytes of the call's own, and bytes as strings.
  Layer 2 (hash): 'Sum', the digest a letter; small laws on it.
  Layer 2 (hash): the reference's Sum, but for its block: the message with its ending.
  Layer 2 (hash): the reference's Sum, the digest a letter.
  Layer 2 (hash): what the row's list gives: the package variables start and k.
-/
import Derived.Test.YtgdecjacbkicmaaDoorQkE
import Derived.Test.YtgdecjacbkicmaaDoorQkHArgs
import Derived.Deep.Draws
import Derived.Test.YtgdecjacbkicmaaDoorQkF
import Derived.Lib.SlBytesConst
import Derived.Test.YtgdecjacbkicmaaDoorQkHRefReg
import Derived.Test.YtgdecjacbkicmaaDoorQkG
import Derived.Test.YtgdecjacbkicmaaDoorRows
import Derived.Lib.LaidTab
import Derived.Stop.LaidErr
import Derived.Below
/- Slices of bytes of the call's own, and bytes as strings. -/
namespace Go.Proofs.YtgdecjacbkicmaaDoor.Hsh
open Go.RowKit Sha

theorem own_in {e : TypeId} {B : Nat} {w : World} {v : Value} {l : List UInt8} (h : Own e B w v l) (hc : l.length ≤ 140737488355328) :
    ∃ a cp, v = .slice a l.length cp ∧ In w a l.length cp l ∧ (0 < l.length → ∃ g, a = some ⟨g, 0, none⟩ ∧ B ≤ g ∧ g < w.heap.size) := by
  rcases h.2 with ⟨h1, h2⟩ | ⟨g, cap, cur, e1, e2, hg, e3, e4, _⟩
  · have : l = [] := List.length_eq_zero_iff.1 h2
    subst this
    exact ⟨none, 0, h1, In.nil w, by simp⟩
  · subst e1
    exact ⟨some ⟨g, 0, none⟩, cap, rfl, h.toIn hc, fun _ => ⟨g, rfl, e2, lt_of_block hg⟩⟩

theorem string_in {P : Program} {e t9 t22 : TypeId} (h22 : P.underlying t22 = some (.slice e)) (h5 : P.underlying e = some (.int .u8)) (h9 : P.underlying t9 = some .string)
    {w : World} {a : Option Addr} {n cp : Nat} {l : List UInt8} (h : In w a n cp l) : (convert t22 t9 (.slice a n cp)).run P w = .ok (.string ⟨l.toArray⟩) w := by
  obtain ⟨h1, h2, h3, h4, h6⟩ := h
  rcases Nat.eq_zero_or_pos n with hn | hn
  · have hl : l = [] := List.length_eq_zero_iff.1 (by omega)
    subst hn hl
    cases a with
    | none => exact run_convert_bytes_nil w t22 e h22 h5 0 cp t9 h9
    | some x => exact run_convert_bytes_back w t22 t9 e x cp [] h22 h5 h9 (fun j hj => absurd hj (by simp))
  · obtain ⟨b, off, rfl, hb, hc⟩ := h6 hn
    subst h1
    refine run_convert_bytes_back w t22 t9 e ⟨b, off, none⟩ cp l h22 h5 h9 fun j hj => ?_
    rw [Addr.add_lit]
    exact hc j _ (List.getElem?_eq_getElem hj)
end Go.Proofs.YtgdecjacbkicmaaDoor.Hsh

/- Layer 2 (hash): 'Sum', the digest a letter; small laws on it. -/
namespace Go.Proofs.YtgdecjacbkicmaaDoor.Hsh
open Go.RowKit Sha

theorem in_const (w : World) (e : TypeId) (l : List UInt8) (fr : Nat × Nat) (hl : l.length ≤ 140737488355328) : In (w.alloc (.cells (U l).toArray e fr)) (some ⟨w.heap.size, 0, none⟩) l.length l.length l := by
  refine ⟨rfl, Nat.le_refl _, hl, by simp, fun _ => ⟨w.heap.size, 0, rfl, by simp, fun i c hc => ?_⟩⟩
  rw [Nat.zero_add, cell_of_row _ w.heap.size i _ e fr (heap_alloc_new _ _), List.getElem?_toArray]
  simp [U, hc]

theorem sum_get (l : List UInt8) (i : Nat) (x : UInt8) (h : (sum l)[i]? = some x) : (U (sum l))[i]? = some (.int .u8 (x.toNat : Int)) := by simp [U, h]

theorem stored {w : World} {b : Nat} {cells : List Value} (hl : cells.length = 32) (h : Blk w b 36 ((zb 32).take 0 ++ cells ++ (zb 32).drop (0 + cells.length))) : Blk w b 36 cells := by
  rw [List.drop_eq_nil_of_le (by rw [zb_length]; omega)] at h
  simpa using h

/-- a digest as a letter -/
theorem sum_is' (l D : List UInt8) (hD : sum l = D) (a : Option Addr) (len cap : Nat) (w : World) (hk : KT w) (hs : ST w) (hin : In w a len cap l) (hl : len < 900000000000) :
    Calls Tryd.prog 15 #[.slice a len cap] w fun e w' => e = .returned (.agg (U D).toArray) ∧ Hid (Below w.heap.size w w') := by
  subst hD
  exact (sum_is l a len cap w hk hs hin hl).mono fun _ _ h => h
theorem built35 : Tryd.prog.built 36 [] = some (zb 32).toArray := by kernel_rfl
theorem zb_one (n : Nat) : ∀ v ∈ zb n, v.oneCell' = true := by intro v hv; rw [List.eq_of_mem_replicate hv]; rfl
end Go.Proofs.YtgdecjacbkicmaaDoor.Hsh

/- Layer 2 (hash): the reference's Sum, but for its block: the message with its ending. -/
namespace Go.Proofs.YtgdecjacbkicmaaDoor.Hsh
open Go.RowKit Sha

/-- what the loop over the blocks keeps -/
def MI (w : World) (N6 N7 gm m cv : Nat) (L : List UInt8) (s : St) (wr : World) : Prop :=
  Blk wr N6 73 (V s.words) ∧ Blk wr N7 74 (V kTab) ∧ In wr (some ⟨gm, 0, none⟩) m cv L ∧ Blk wr w.heap.size 36 (zb 32) ∧ Below w.heap.size w wr ∧ gm ≠ N6 ∧ N7 ≠ N6 ∧ w.heap.size < N6
theorem MI.step {w wr w8 : World} {N6 N7 gm m cv : Nat} {L : List UInt8} {s s' : St} (h : MI w N6 N7 gm m cv L s wr) (hB : Blk w8 N6 73 (V s'.words)) (hg : wr.grownBy w8 (some N6)) : MI w N6 N7 gm m cv L s' w8 := by
  obtain ⟨h1, h2, h3, h4, h5, h6, h7, h8⟩ := h
  have hx : InX N6 wr (some ⟨gm, 0, none⟩) m cv L := ⟨h3, fun _ x e => by have := Option.some.inj e; subst this; exact h6⟩
  exact ⟨hB, h2.kept hg (fun e => h7 (Option.some.inj e)), (hx.grown hg).1, h4.kept hg (fun e => by have := Option.some.inj e; omega), h5.grown hg h5.size (fun k hk => by have := Option.some.inj hk; omega), h6, h7, h8⟩
/-- what the last loop keeps -/
def EI (w : World) (N6 N9 : Nat) (s : St) (L : List Value) (wr : World) : Prop := Blk wr N6 73 (V s.words) ∧ Blk wr N9 36 L ∧ Blk wr w.heap.size 36 (zb 32) ∧ Below w.heap.size w wr ∧ N6 ≠ N9 ∧ w.heap.size ≠ N9 ∧ w.heap.size < N9
theorem EI.store {w wr : World} {N6 N9 : Nat} {s : St} {L : List Value} (h : EI w N6 N9 s L wr) (k : Nat) (v : Value) : EI w N6 N9 s (L.set k v) (wr.setCell ⟨N9, k, none⟩ v) :=
  ⟨h.1.other h.2.2.2.2.1 v, h.2.1.set k v, h.2.2.1.other h.2.2.2.2.2.1 v, h.2.2.2.1.setCell (Nat.le_of_lt h.2.2.2.2.2.2) v, h.2.2.2.2⟩
theorem fold_next {L : List UInt8} {t : Nat} (h : 64 * t + 64 ≤ L.length) : fold Sha.start (L.take (64 * (t + 1))) = Sha.step (fold Sha.start (L.take (64 * t))) ((L.take (64 * t + 64)).drop (64 * t)) := by
  have hl : (L.take (64 * t)).length = 64 * t := by rw [List.length_take]; omega
  have e : L.take (64 * (t + 1)) = L.take (64 * t) ++ (L.take (64 * t + 64)).drop (64 * t) := by
    have e2 : L.take (64 * t) = (L.take (64 * t + 64)).take (64 * t) := by rw [List.take_take, Nat.min_eq_left (by omega)]
    rw [e2, List.take_append_drop, show 64 * (t + 1) = 64 * t + 64 by omega]
  rw [e, fold_full _ _ _ _ (Nat.le_refl _) (by rw [hl, List.length_drop, List.length_take]; omega)]
  congr 1
  rw [List.drop_eq_nil_of_le (by omega), List.nil_append]

theorem len8_next (n t k : Nat) (bt : UInt8) (ht : t < 8) (hk : k = 8 * (7 - t)) (hbt : bt = UInt8.ofNat (n * 8 / 2 ^ k)) : (lenBytes n).take (t + 1) = (lenBytes n).take t ++ [bt] := by
  have hcase : t = 0 ∨ t = 1 ∨ t = 2 ∨ t = 3 ∨ t = 4 ∨ t = 5 ∨ t = 6 ∨ t = 7 := by omega
  subst hk hbt
  rcases hcase with rfl | rfl | rfl | rfl | rfl | rfl | rfl | rfl
  · rfl
  · rfl
  · rfl
  · rfl
  · rfl
  · rfl
  · rfl
  · simp [lenBytes]
theorem byte8_mod (n : Nat) : (n : Int) % 256 = ((UInt8.ofNat n).toNat : Int) := by rw [UInt8.toNat_ofNat']; omega

set_option maxHeartbeats 1000000 in
set_option maxRecDepth 100000 in
theorem refSum_is (HBL : Hid BlockIs) (l : List UInt8) (a : Option Addr) (n cp : Nat) (w : World) (hl : In w a n cp l) (hn : n ≤ 100000) :
    Calls Tryd.prog 16 #[.slice a n cp] w fun e w' => e = .returned (.agg (U (sum l)).toArray) ∧ Below w.heap.size w w' := by
  obtain ⟨i0, hi, hz0, hz1, hz2⟩ := info_parts info5
  have HL : Hid (In w a n cp l) := hl
  have HLL : Hid (l.length = n) := hl.1
  have HN : Hid (n ≤ 100000) := hn
  have q0 : (n : Int) ≤ 100000 := by omega
  obtain ⟨W0, hW0⟩ : ∃ W0, W0 = w.alloc (.cells (zb 32).toArray 36) := ⟨_, rfl⟩
  have HS0 : Hid (W0.heap.size = w.heap.size + 1) := by rw [hW0]; show _ = _; simp
  have HR0 : Hid (Blk W0 w.heap.size 36 (zb 32)) := by rw [hW0]; exact Blk.new w _ 36
  have HB0 : Hid (Below w.heap.size w W0) := by rw [hW0]; exact (Below.refl _ w).alloc (Nat.le_refl _) _
  have H0 : Hid (((w.alloc (.cells (zb 32).toArray 36)).alloc (.cells #[] 5)).ownsRow (w.heap.size + 1) 5 1 (.slice (some ⟨w.heap.size + 1, 0, none⟩) 0 0) 0 (U [])) := by
    have e := World.ownsRow_made (base := w.heap.size + 1) (e := 5) (size := 1) W0 #[] 0 (by rw [HS0.out]; exact Nat.le_refl _) (by unfold maxLen; omega) rfl
    rw [HS0.out, hW0] at e
    exact e
  have HB00 : Hid (Below (w.heap.size + 1) W0 ((w.alloc (.cells (zb 32).toArray 36)).alloc (.cells #[] 5))) := by
    rw [← hW0]; exact (Below.refl _ W0).alloc (by rw [HS0.out]; exact Nat.le_refl _) _
  have HIA : Hid (In ((w.alloc (.cells (zb 32).toArray 36)).alloc (.cells #[] 5)) a n cp l) := by
    have e1 := HL.out.below HB0.out
    rw [hW0] at e1
    exact e1.below ((Below.refl _ _).alloc (Nat.le_refl _) _)
  clear hl
  go_enter Tryd.func16, Tryd.ntmps16
  go_wp2_with (at_builtin; refine wpList_append_in _ rfl (.tmp 11) (.tmp 12) 28 rfl (w.heap.size + 1) 5 i0 Tryd.underlying28 hi hz0 hz1 hz2 _ [] 0 rfl rfl H0.out a n cp l rfl HIA.out (by have := HN.out; omega) (by simp) ?_)
  intro v1 w1 ho1 hg1
  have HB1 : Hid (Below (w.heap.size + 1) W0 w1) := HB00.out.grown hg1 (by simp) (by intro b hb; simp [Value.ownBlock] at hb; omega)
  have HO1 : Hid ((w1.alloc (.cells (U [128]).toArray 5)).ownsRow (w.heap.size + 1) 5 1 v1 n (U l)) := World.ownsRow.alloc (own_size HLL.out ho1) _
  have HI1 : Hid (In (w1.alloc (.cells (U [128]).toArray 5)) (some ⟨w1.heap.size, 0, none⟩) 1 1 [128]) := in_new w1 5 [128] (by simp)
  clear ho1 hg1 hW0
  go_wp2_with (at_builtin; refine wpList_append_in _ rfl (.tmp 13) (.tmp 14) 28 rfl (w.heap.size + 1) 5 i0 Tryd.underlying28 hi hz0 hz1 hz2 v1 l n HLL.out rfl HO1.out (some ⟨w1.heap.size, 0, none⟩) 1 1 [128] rfl HI1.out (by have := HN.out; omega) (by have h1 := HB1.out.size; have h2 := HS0.out; simp; omega) ?_)
  intro v2 w2 ho2 hg2
  have HS1 : Hid (w.heap.size + 1 ≤ w1.heap.size) := by have h1 := HB1.out.size; have h2 := HS0.out; show _ ≤ _; omega
  have HB2 : Hid (Below (w.heap.size + 1) W0 w2) := (HB1.out.alloc HS1.out _).grown hg2 (by have := HS1.out; simp; omega) (by intro b hb; exact (HO1.out.lt b hb).1)
  have HO2 : Hid (Own 5 (w.heap.size + 1) w2 v2 (l ++ [128])) := ho2
  clear ho2 hg2 HO1 HI1
  obtain ⟨g, hg⟩ : ∃ g, g = (119 - n % 64) % 64 := ⟨_, rfl⟩
  have HG : Hid (g = (119 - n % 64) % 64) := hg
  have HG64 : Hid (g < 64) := by rw [hg]; exact Nat.mod_lt _ (by omega)
  clear hg
  go_wp2_with fail
  go_loopw [3] (fun v wr => ∃ (j m : Nat) (av : Option Addr) (cv : Nat) (L : List UInt8), v = .slice av m cv ∧ m ≤ 200000 ∧ Hid (m = n + 1 + j) ∧ Hid (j ≤ g) ∧ Hid (L.length = m) ∧ Hid (L = l ++ [128] ++ List.replicate j 0) ∧ Hid (Own 5 (w.heap.size + 1) wr (.slice av m cv) L) ∧ Hid (Below (w.heap.size + 1) W0 wr)) (fun v _ => 300000 - slen v)
  case atStart =>
    have hl2 : (l ++ [(128 : UInt8)]).length = n + 1 := by rw [List.length_append, HLL.out]; rfl
    obtain ⟨av, cv, hv, -, -⟩ := own_in HO2.out (by rw [hl2]; have := HN.out; omega)
    rw [hl2] at hv
    have ho := HO2.out
    rw [hv] at ho
    exact ⟨0, n + 1, av, cv, l ++ [128], hv, by have := HN.out; omega, rfl, Nat.zero_le _, hl2, (show _ = _ by simp), ho, HB2.out⟩
  case round =>
    obtain ⟨j, m, av, cv, L, rfl, hm2, hm, hj, hLm, hL, ho, hb⟩ := hrel
    have q1 : (m : Int) ≤ 200000 := by omega
    by_cases hend : m % 64 = 56
    · have q2 : (m : Int) % 64 = 56 := by omega
      have HJ : Hid (j = g) := by have h0 := hm.out; have h1 := HG.out; have h2 := hj.out; have h3 := HG64.out; show j = g; omega
      clear hend
      go_wp2_with fail
      clear q2
      go_loopw [5, 3] (fun i v wr => ∃ (t m2 : Nat) (av : Option Addr) (cv : Nat) (L2 : List UInt8), i = .int .i64 (7 - (t : Int)) ∧ t ≤ 8 ∧ v = .slice av m2 cv ∧ m2 ≤ 200100 ∧ Hid (m2 = m + t) ∧ Hid (L2.length = m2) ∧ Hid (L2 = L ++ (lenBytes n).take t) ∧ Hid (Own 5 (w.heap.size + 1) wr (.slice av m2 cv) L2) ∧ Hid (Below (w.heap.size + 1) W0 wr)) (fun i _ _ => (intOf i + 1).toNat)
      case atStart => exact ⟨0, m, av, cv, L, rfl, by omega, rfl, by omega, rfl, hLm.out, (show _ = _ by simp), ho.out, hb.out⟩
      case round =>
        obtain ⟨t, m2, av2, cv2, L2, rfl, ht, rfl, hm22, hm2t, hL2m, hL2, ho2, hb2⟩ := hrel
        by_cases hlt : t = 8
        · have q3 : (7 : Int) - (t : Int) < 0 := by omega
          subst hlt
          have HLE : Hid (L2 = l ++ ending n) := by
            show _ = _
            rw [hL2.out, hL.out, HJ.out, HG.out, List.take_of_length_le (by simp [lenBytes])]
            simp [ending]
          have HM64 : Hid (m2 % 64 = 0) := by have h1 := hm2t.out; have h2 := hm.out; have h3 := HJ.out; have h4 := HG.out; show m2 % 64 = 0; omega
          obtain ⟨ag, cg, hvg, hing, hshg⟩ := own_in ho2.out (by rw [hL2m.out]; omega)
          obtain ⟨gm, hag, hgB, hgl⟩ := hshg (by rw [hL2m.out]; have := hm2t.out; omega)
          simp only [Value.slice.injEq] at hvg
          obtain ⟨hva, -, hvc⟩ := hvg
          rw [hL2m.out] at hing
          subst hva hvc hag
          have HIG : Hid (In wr (some ⟨gm, 0, none⟩) m2 cv2 L2) := hing
          have HGB : Hid (w.heap.size + 1 ≤ gm ∧ gm < wr.heap.size) := ⟨hgB, hgl⟩
          have HCAP : Hid (m2 ≤ cv2) := hing.2.1
          have HBW : Hid (Below w.heap.size w wr) := HB0.out.trans (hb2.out.mono (by omega))
          have HRC : Hid (Blk wr w.heap.size 36 (zb 32)) := HR0.out.below hb2.out (by omega)
          have hz44 := zero44
          have hz52 := zero52
          obtain ⟨Z8, hZ8⟩ : ∃ Z8, zw 8 = Z8 := ⟨_, rfl⟩
          have HZ8L : Hid (Z8.length = 8) := by rw [← hZ8]; exact zw_length 8
          rw [hZ8] at hz44
          obtain ⟨Z, hZ⟩ : ∃ Z, zw 64 = Z := ⟨_, rfl⟩
          have HZL : Hid (Z.length = 64) := by rw [← hZ]; exact zw_length 64
          rw [hZ] at hz52
          obtain ⟨KL, hKL⟩ : ∃ KL, V kTab = KL := ⟨_, rfl⟩
          have HKL : Hid (V kTab = KL) := hKL
          have HKLL : Hid (KL.length = 64) := by rw [← hKL]; rfl
          have HKO : Hid (∀ v ∈ KL, v.oneCell' = true) := by rw [← hKL]; exact V_one _
          have HSW : Hid (V Sha.start.words = [.int .u32 1779033703, .int .u32 3144134277, .int .u32 1013904242, .int .u32 2773480762, .int .u32 1359893119, .int .u32 2600822924, .int .u32 528734635, .int .u32 1541459225]) := rfl
          clear hing hgB hgl hshg hZ8 hZ hKL
          go_wp2_with (first
            | (refine wpList_built8 rfl (.const (.int .u32 1779033703)) (.const (.int .u32 3144134277)) (.const (.int .u32 1013904242)) (.const (.int .u32 2773480762)) (.const (.int .u32 1359893119)) (.const (.int .u32 2600822924)) (.const (.int .u32 528734635)) (.const (.int .u32 1541459225)) rfl 1779033703 3144134277 1013904242 2773480762 1359893119 2600822924 528734635 1541459225 rfl rfl rfl rfl rfl rfl rfl rfl ?_)
            | (refine wpList_store_blk rfl 73 (.tmp 6) (.tmp 40) rfl wr.heap.size 0 73 Z8 [Value.int .u32 1779033703, .int .u32 3144134277, .int .u32 1013904242, .int .u32 2773480762, .int .u32 1359893119, .int .u32 2600822924, .int .u32 528734635, .int .u32 1541459225] rfl rfl (Blk.new wr Z8.toArray 73) (by rw [HZ8L.out]; show 0 + 8 ≤ 8; omega) size44 (by intro v hv; simp only [List.mem_cons, List.not_mem_nil, or_false] at hv; rcases hv with rfl | rfl | rfl | rfl | rfl | rfl | rfl | rfl <;> rfl) ?_; intro w4 hB4 hG4)
            | (go_at_call 33; fail))
          obtain ⟨N6, hN6⟩ : ∃ N6, N6 = wr.heap.size := ⟨_, rfl⟩
          rw [← hN6] at hB4 hG4 HGB ⊢
          have hal := (Below.refl wr.heap.size wr).alloc (Nat.le_refl _) (.cells Z8.toArray 73)
          have HB46 : Hid (Below N6 wr w4) := by rw [hN6] at hG4 ⊢; exact hal.grown hG4.out (by simp) (by intro k hk; have := Option.some.inj hk; omega)
          have HS4 : Hid (Blk w4 N6 73 (V Sha.start.words)) := by
            have e := hB4.out
            rw [HSW.out]
            rw [List.drop_eq_nil_of_le (by rw [HZ8L.out]; show 8 ≤ 0 + 8; omega), List.append_nil] at e
            exact e
          have HN6s : Hid (N6 = wr.heap.size) := hN6
          clear hB4 hG4 hal hN6
          refine (roots_is w4).mono ?_
          rintro e w5 ⟨rfl, hb5⟩
          rw [HKL.out]
          have HB5 : Hid (Below w4.heap.size w4 w5) := hb5
          have HN65 : Hid (N6 < w5.heap.size) := (HS4.out.below hb5 HS4.out.lt).lt
          clear hb5
          go_wp2_with (first
            | (refine wpList_store_blk rfl 74 (.tmp 7) (.tmp 41) rfl w5.heap.size 0 74 Z KL rfl rfl (Blk.new w5 Z.toArray 74) (by rw [HKLL.out, HZL.out]; omega) (by rw [size52, HKLL.out]) HKO.out ?_; intro w6 hB6 hG6)
            | fail)
          obtain ⟨N7, hN7⟩ : ∃ N7, N7 = w5.heap.size := ⟨_, rfl⟩
          rw [← hN7] at hB6 hG6 HN65 ⊢
          have HMI : Hid (MI w N6 N7 gm m2 cv2 L2 Sha.start w6) := by
            have hal := (Below.refl w5.heap.size w5).alloc (Nat.le_refl _) (.cells Z.toArray 74)
            have h56 : Below N7 w5 w6 := by rw [hN7] at hG6 ⊢; exact hal.grown hG6.out (by simp) (by intro k hk; have := Option.some.inj hk; omega)
            have hs4 := HB46.out.size
            have hgm := HGB.out
            have hn6 := HN6s.out
            have h65 := HN65.out
            have h45 := HB5.out.size
            have h46 : Below N6 wr w5 := HB46.out.trans (HB5.out.mono (by have := HS4.out.lt; omega))
            have h66 : Below N6 wr w6 := h46.trans (h56.mono (by omega))
            refine ⟨(HS4.out.below HB5.out HS4.out.lt).below h56 (by omega), ?_, ?_, ?_, ?_, by omega, by omega, ?_⟩
            · have e := hB6.out
              rw [HKL.out]
              rw [List.drop_eq_nil_of_le (by rw [HZL.out, HKLL.out]; omega), List.append_nil] at e
              simpa using e
            · rw [hn6] at h66; exact HIG.out.below h66
            · rw [hn6] at h66; exact HRC.out.below h66 HRC.out.lt
            · rw [hn6] at h66; exact HBW.out.trans (h66.mono HBW.out.size)
            · have := hgm.1; have := hgm.2; omega
          have HLL2 : Hid (L2.length = m2) := hL2m
          clear hB6 hG6 hN7 HB46 HB5 HS4 hz44 hz52 ho ho2 hb hb2 hL hL2 hm hm2t HB0 H0 HB00 HIA HB1 HB2 HO2
          go_loopw [8] (fun i wr => ∃ (t : Nat) (s : St), i = .int .i64 ((64 * t : Nat) : Int) ∧ 64 * t ≤ m2 ∧ Hid (s = fold Sha.start (L2.take (64 * t))) ∧ Hid (MI w N6 N7 gm m2 cv2 L2 s wr)) (fun i _ => m2 - (intOf i).toNat)
          case atStart => exact ⟨0, Sha.start, rfl, by omega, rfl, HMI.out⟩
          case round =>
            obtain ⟨t, s, rfl, ht, hs, hmi⟩ := hrel
            obtain ⟨i, hi64⟩ : ∃ i, i = 64 * t := ⟨_, rfl⟩
            have HI64 : Hid (i = 64 * t) := hi64
            rw [← hi64] at ht ⊢
            rw [← hi64] at hs
            clear hi64
            by_cases hlt : i = m2
            · have q4 : (m2 : Int) ≤ (i : Int) := by omega
              have HFIN : Hid (digest s = sum l) := by
                show _ = _
                have e : L2.take i = l ++ ending l.length := by rw [List.take_of_length_le (by rw [HLL2.out, hlt]; exact Nat.le_refl _), HLE.out, HLL.out]
                rw [hs.out, e]
                rfl
              clear hlt
              go_wp2_with fail
              obtain ⟨N9, hN9⟩ : ∃ N9, N9 = wr.heap.size := ⟨_, rfl⟩
              rw [← hN9]
              go_loopw [10] (fun i wr => ∃ k : Nat, i = .int .i64 k ∧ k ≤ 32 ∧ Hid (EI w N6 N9 s (U (bytesTo s k) ++ zb (32 - k)) wr)) (fun i _ => 32 - (intOf i).toNat)
              case atStart =>
                refine ⟨0, rfl, by omega, ?_⟩
                have h6 := hmi.out.1
                have h4 := hmi.out.2.2.2.1
                have h5 := hmi.out.2.2.2.2.1
                have l6 := h6.lt
                have l4 := h4.lt
                refine ⟨h6.alloc _, ?_, h4.alloc _, h5.alloc h5.size _, by omega, by omega, by have := hmi.out.2.2.2.2.2.2.2; omega⟩
                rw [hN9]
                exact Blk.new wr _ 36
              case round =>
                obtain ⟨k, rfl, hk, hr⟩ := hrel
                by_cases hlt : k = 32
                · have q5 : (32 : Int) ≤ (k : Int) := by omega
                  subst hlt
                  have HL32 : Hid ((U (bytesTo s 32)).length = 32) := by show _ = _; rw [U_length, bytesTo_length]
                  have HB2 : Hid (Blk wr N9 36 (U (bytesTo s 32))) := by
                    have e := hr.out.2.1
                    have ez : zb (32 - 32) = [] := rfl
                    rw [ez, List.append_nil] at e
                    exact e
                  clear q5
                  subst hN9
                  go_wp2_with (first
                    | (refine wpList_load_row rfl 36 (.tmp 9) rfl _ rfl 36 (U (bytesTo s 32)).toArray (0, 0) _ HB2.out Tryd.underlying36 rfl (by rw [size25, List.size_toArray, HL32.out]) ?_)
                    | (refine wpList_store_blk rfl 36 (.tmp 2) (.tmp 73) rfl w.heap.size 0 36 (zb 32) (U (bytesTo s 32)) rfl rfl hr.out.2.2.1 (by rw [HL32.out, zb_length]; omega) (by rw [size25, HL32.out]) (U_one _) ?_; intro w9 hB9 hG9))
                  have HR : Hid (w9.heap[w.heap.size]? = some (.cells (U (bytesTo s 32)).toArray 36 (0, 0))) := stored HL32.out hB9.out
                  refine bodyPost_ret (v := .agg (U (bytesTo s 32)).toArray) (results_cell_row rfl _ _ w.heap.size 36 _ (0, 0) _ rfl HR.out Tryd.underlying36 rfl (by rw [size25, List.size_toArray, HL32.out])) rfl ⟨?_, ?_⟩
                  · rw [← HFIN.out]; rfl
                  · have h5 := hr.out.2.2.2.1
                    exact h5.grown hG9.out h5.size (by intro j hj; have := Option.some.inj hj; omega)
                · have q5 : (k : Int) < 32 := by omega
                  have HK : Hid (k < 32) := by show k < 32; omega
                  obtain ⟨x, hx⟩ : ∃ x, x = s.words.getD (k / 4) 0 := ⟨_, rfl⟩
                  have c0 : wr.cell? ⟨N6, k / 4, none⟩ = some (.int .u32 (x.toNat : Int)) := by
                    rw [hx]; exact hr.out.1.cell (V_get s.words (k / 4) (by show k / 4 < 8; omega))
                  have c4 : wr.cell? ⟨N9, k, none⟩ = some (.int .u8 0) := by
                    refine hr.out.2.1.cell ?_
                    rw [List.getElem?_append_right (by rw [U_length, bytesTo_length]; exact Nat.le_refl _), U_length, bytesTo_length, Nat.sub_self, zb, List.getElem?_replicate, if_pos (by omega)]
                  have c5 : wr.frozen? ⟨N9, k, none⟩ = false := hr.out.2.1.free _
                  have q6 : (k : Int) / 4 < 8 := by omega
                  have q7 : (0 : Int) ≤ (k : Int) / 4 := by omega
                  obtain ⟨e, he⟩ : ∃ e, e = 24 - 8 * (k % 4) := ⟨_, rfl⟩
                  have q8 : 24 - 8 * ((k : Int) % 4) = (e : Int) := by omega
                  have q9 : (e : Int) ≤ 24 := by omega
                  have q10 : e ≤ 24 := by omega
                  have q11 : ((k : Int) / 4).toNat = k / 4 := by omega
                  have HX : Hid (x = s.words.getD (k / 4) 0) := hx
                  clear hlt hx
                  have HV : Hid ((x.toNat : Int) / 2 ^ e % 256 = ((byteAt s k).toNat : Int)) := by
                    show _ = _
                    rw [he]
                    unfold byteAt
                    rw [← HX.out, UInt8.toNat_ofNat']
                    simp
                  clear he
                  subst hN9
                  go_wp2_with fail
                  go_roundw
                  case rel =>
                    rw [HV.out]
                    refine ⟨k + 1, by go_num, HK.out, ?_⟩
                    have st := hr.out.store k (.int .u8 ((byteAt s k).toNat : Int))
                    rw [byte_set (bytesTo s k) (31 - k) k (byteAt s k) (bytesTo_length s k).symm (by have := HK.out; omega), ← bytesTo_succ] at st
                    exact st
                  case measure => simp [intOf]; omega
            · have q4 : (i : Int) < (m2 : Int) := by omega
              have HFIT : Hid (i + 64 ≤ m2) := by have h1 := HI64.out; have h2 := HM64.out; show i + 64 ≤ m2; omega
              obtain ⟨bs, hbs⟩ : ∃ bs, bs = (L2.take (i + 64)).drop i := ⟨_, rfl⟩
              have HBS : Hid (In wr (some ⟨gm, i, none⟩) 64 (cv2 - i) bs) := by
                rw [hbs]
                obtain ⟨h1, h2, h3, h4, h5⟩ := hmi.out.2.2.1
                have hf := HFIT.out
                refine ⟨by rw [List.length_drop, List.length_take]; omega, by omega, by omega, by simp, fun _ => ?_⟩
                obtain ⟨b', off', e1, e2, e3⟩ := h5 (by omega)
                simp only [Option.some.injEq, Addr.mk.injEq, and_true] at e1
                obtain ⟨rfl, rfl⟩ := e1
                refine ⟨gm, i, rfl, e2, fun j c hc => ?_⟩
                rw [List.getElem?_drop, List.getElem?_take] at hc
                split at hc
                · have e4 := e3 _ _ hc; rw [Nat.zero_add] at e4; exact e4
                · cases hc
              have HNS : Hid (Sha.step s bs = fold Sha.start (L2.take (i + 64))) := by
                have hf := HFIT.out
                have e := fold_next (L := L2) (t := t) (by rw [HLL2.out, ← HI64.out]; exact hf)
                rw [← HI64.out] at e
                rw [show 64 * (t + 1) = i + 64 by have := HI64.out; omega] at e
                show _ = _
                rw [e, hs.out, hbs]
              clear hlt hbs
              go_wp2_with fail
              refine region14 HBL.out N6 N7 s bs gm cv2 i m2 (by omega) HFIT.out HCAP.out wr hmi.out.1 hmi.out.2.1 HBS.out _ (fun _ _ _ _ _ h => h) _ rfl rfl rfl rfl rfl ?_
              intro w8 hb8 hg8 x48 x54 x55
              have HMI8 : Hid (MI w N6 N7 gm m2 cv2 L2 (Sha.step s bs) w8) := hmi.out.step hb8.out hg8.out
              unfold behind14
              go_simp
              go_wp2
              refine ⟨⟨t + 1, Sha.step s bs, congrArg (Value.int IntKind.i64) (by have := HI64.out; omega), ?_, ?_, HMI8⟩, ?_⟩
              · have h1 := HI64.out; have h2 := HFIT.out; omega
              · show _ = _
                rw [HNS.out, show 64 * (t + 1) = i + 64 by have := HI64.out; omega]
              · have h2 := HFIT.out
                simp only [intOf]
                omega
        · have q3 : (0 : Int) ≤ 7 - (t : Int) := by omega
          have HT : Hid (t < 8) := by show t < 8; omega
          obtain ⟨k, hk⟩ : ∃ k, k = 8 * (7 - t) := ⟨_, rfl⟩
          have q4 : 8 * (7 - (t : Int)) = (k : Int) := by omega
          have q5 : (k : Int) ≤ 56 := by omega
          have q6 : k ≤ 56 := by omega
          obtain ⟨bt, hbt⟩ : ∃ bt, bt = UInt8.ofNat (n * 8 / 2 ^ k) := ⟨_, rfl⟩
          have HNX : Hid ((lenBytes n).take (t + 1) = (lenBytes n).take t ++ [bt]) := len8_next n t k bt HT.out hk hbt
          have hv : (n : Int) * 8 / 2 ^ k % 256 = (bt.toNat : Int) := by rw [hbt, ← byte8_mod]; simp
          have HS2 : Hid (w.heap.size + 1 ≤ wr.heap.size) := by have h1 := hb2.out.size; have h2 := HS0.out; show _ ≤ _; omega
          have HOJ : Hid ((wr.alloc (.cells (U [bt]).toArray 5)).ownsRow (w.heap.size + 1) 5 1 (.slice av2 m2 cv2) m2 (U L2)) := World.ownsRow.alloc (own_size hL2m.out ho2.out) _
          have HIJ : Hid (In (wr.alloc (.cells (U [bt]).toArray 5)) (some ⟨wr.heap.size, 0, none⟩) 1 1 [bt]) := in_new wr 5 [bt] (by simp)
          clear hlt hk hbt
          go_wp2_with (at_builtin; refine wpList_append_in _ rfl (.tmp 31) (.tmp 38) 28 rfl (w.heap.size + 1) 5 i0 Tryd.underlying28 hi hz0 hz1 hz2 _ L2 m2 hL2m.out rfl HOJ.out (some ⟨wr.heap.size, 0, none⟩) 1 1 [bt] rfl HIJ.out (by omega) (by have := HS2.out; simp; omega) ?_)
          intro v3 w3 ho3 hg3
          have HB3 : Hid (Below (w.heap.size + 1) W0 w3) := (hb2.out.alloc HS2.out _).grown hg3 (by have := HS2.out; simp; omega) (by intro b hb; exact (HOJ.out.lt b hb).1)
          obtain ⟨L3, hL3⟩ : ∃ L3, L3 = L2 ++ [bt] := ⟨_, rfl⟩
          rw [← hL3] at ho3
          have hl3 : L3.length = m2 + 1 := by rw [hL3, List.length_append, hL2m.out]; rfl
          obtain ⟨a3, c3, rfl, -, -⟩ := own_in ho3 (by rw [hl3]; omega)
          rw [hl3] at ho3 ⊢
          have HO3 : Hid (Own 5 (w.heap.size + 1) w3 (.slice a3 (m2 + 1) c3) L3) := ho3
          have HL3 : Hid (L3 = L ++ (lenBytes n).take (t + 1)) := by show _ = _; rw [hL3, hL2.out, HNX.out, List.append_assoc]
          have HL3m : Hid (L3.length = m2 + 1) := hl3
          clear ho3 hg3 hl3 hL3
          have HMM : Hid (m2 + 1 = m + (t + 1)) := by have := hm2t.out; show m2 + 1 = m + (t + 1); omega
          have hmb : m2 + 1 ≤ 200100 := by have h1 := hm2t.out; have h2 := HT.out; omega
          go_wp2
          go_roundw
          case rel =>
            refine ⟨t + 1, m2 + 1, a3, c3, L3, ?_, HT.out, ?_, hmb, HMM, HL3m, HL3, HO3, HB3⟩
            · exact congrArg (Value.int IntKind.i64) (by omega)
            · rfl
          case measure =>
            have := HT.out
            simp [intOf]
            omega
    · have q2 : ¬ (m : Int) % 64 = 56 := by omega
      have q2b : ((m : Int) % 64 == 56) = false := by simpa using q2
      have HJ : Hid (j < g) := by
        have h0 := hm.out; have h1 := HG.out; have h2 := hj.out; have h3 := HG64.out
        show j < g
        rcases Nat.lt_or_ge j g with h | h
        · exact h
        · exfalso; apply hend; omega
      have HS2 : Hid (w.heap.size + 1 ≤ wr.heap.size) := by have h1 := hb.out.size; have h2 := HS0.out; show _ ≤ _; omega
      have HOJ : Hid ((wr.alloc (.cells (U [0]).toArray 5)).ownsRow (w.heap.size + 1) 5 1 (.slice av m cv) m (U L)) := World.ownsRow.alloc (own_size hLm.out ho.out) _
      have HIJ : Hid (In (wr.alloc (.cells (U [0]).toArray 5)) (some ⟨wr.heap.size, 0, none⟩) 1 1 [0]) := in_new wr 5 [0] (by simp)
      clear hend
      go_wp2_with (at_builtin; refine wpList_append_in _ rfl (.tmp 20) (.tmp 21) 28 rfl (w.heap.size + 1) 5 i0 Tryd.underlying28 hi hz0 hz1 hz2 _ L m hLm.out rfl HOJ.out (some ⟨wr.heap.size, 0, none⟩) 1 1 [0] rfl HIJ.out (by omega) (by have := HS2.out; simp; omega) ?_)
      intro v3 w3 ho3 hg3
      have HB3 : Hid (Below (w.heap.size + 1) W0 w3) := (hb.out.alloc HS2.out _).grown hg3 (by have := HS2.out; simp; omega) (by intro b hb; exact (HOJ.out.lt b hb).1)
      obtain ⟨L3, hL3⟩ : ∃ L3, L3 = L ++ [0] := ⟨_, rfl⟩
      rw [← hL3] at ho3
      have hl3 : L3.length = m + 1 := by rw [hL3, List.length_append, hLm.out]; rfl
      obtain ⟨a3, c3, rfl, -, -⟩ := own_in ho3 (by rw [hl3]; omega)
      rw [hl3] at ho3 ⊢
      have HO3 : Hid (Own 5 (w.heap.size + 1) w3 (.slice a3 (m + 1) c3) L3) := ho3
      have HL3 : Hid (L3 = l ++ [128] ++ List.replicate (j + 1) 0) := by show _ = _; rw [hL3, hL.out, List.append_assoc, ← List.replicate_succ']
      have HL3m : Hid (L3.length = m + 1) := hl3
      clear ho3 hg3 hl3 hL3
      go_wp2
      refine ⟨⟨j + 1, m + 1, a3, c3, L3, rfl, ?_, (by have := hm.out; show m + 1 = n + 1 + (j + 1); omega), HJ.out, HL3m, HL3, HO3, HB3⟩, ?_⟩
      · have h1 := hm.out; have h2 := HJ.out; have h3 := HG64.out; have h4 := HN.out; omega
      · show 300000 - (m + 1) < 300000 - m
        omega
end Go.Proofs.YtgdecjacbkicmaaDoor.Hsh

/- Layer 2 (hash): the reference's Sum, the digest a letter. -/
namespace Go.Proofs.YtgdecjacbkicmaaDoor.Hsh
open Go.RowKit Sha

theorem refIs (l D : List UInt8) (hD : sum l = D) (a : Option Addr) (n cp : Nat) (w : World) (hl : In w a n cp l) (hn : n ≤ 100000) :
    Calls Tryd.prog 16 #[.slice a n cp] w fun e w' => e = .returned (.agg (U D).toArray) ∧ Hid (Below w.heap.size w w') := by
  subst hD
  exact (refSum_is (show Hid BlockIs from fun s bs a cp w h => block_is s bs a cp w h) l a n cp w hl hn).mono fun _ _ h => h

end Go.Proofs.YtgdecjacbkicmaaDoor.Hsh

/- Layer 2 (hash): what the row's list gives: the package variables start and k. -/
namespace Go.Proofs.YtgdecjacbkicmaaDoor.Hsh
open Go.RowKit Sha

theorem own : ownKnob Tryd.prog.godebug = none := by kernel_rfl
theorem laidOut : laidOutB Tryd.prog = true := by kernel_rfl
theorem gS : Tryd.prog.globalNamed "ingot/hash.start" = some 0 := by kernel_rfl
theorem gK : Tryd.prog.globalNamed "ingot/hash.k" = some 1 := by kernel_rfl
theorem gSType : (Tryd.prog.globals[0]?).map (·.type) = some 85 := by kernel_rfl
theorem gKType : (Tryd.prog.globals[1]?).map (·.type) = some 74 := by kernel_rfl
def zS : List Int := Sha.start.words.map fun x => (x.toNat : Int)
def zK : List Int := kTab.map fun x => (x.toNat : Int)
theorem laidS : (Rows.laid_ingot_hash_start : DataW Unit) = Lib.tabData .u32 zS := by kernel_rfl
theorem laidK : (Rows.laid_ingot_hash_k : DataW Unit) = Lib.tabData .u32 zK := by kernel_rfl
theorem u52 : Tryd.prog.underlying 74 = some (.array 64 72) := by kernel_rfl
theorem u45 : Tryd.prog.underlying 85 = some (.array 8 72) := by kernel_rfl
theorem u44 : Tryd.prog.underlying 72 = some (.int .u32) := by kernel_rfl

theorem lt_of_cell {w : World} {b i : Nat} {v : Value} (h : w.cell? ⟨b, i, none⟩ = some v) : b < w.heap.size := by
  rcases Nat.lt_or_ge b w.heap.size with h1 | h1
  · exact h1
  · exfalso
    unfold World.cell? at h
    simp [h1] at h

theorem st_of_laid {W : World} (h : laidMetH Tryd.prog [("ingot/hash.start", Rows.laid_ingot_hash_start), ("ingot/hash.k", Rows.laid_ingot_hash_k)] W) : ST W := by
  have h' : laidMet Tryd.prog [("ingot/hash.start", Lib.tabData .u32 zS), ("ingot/hash.k", Rows.laid_ingot_hash_k)] W := by rw [← laidS]; exact h
  have ht := Lib.tabIs_of_head gS gSType u45 u44 (by kernel_rfl) (by kernel_rfl) h'
  have hc : ∀ j, j < 8 → W.cell? ⟨0, j, none⟩ = some (.int .u32 (zS.getD j 0)) := fun j hj => ht.cell gS j hj
  refine ⟨lt_of_cell (hc 0 (by omega)), fun j v hj => ?_⟩
  have hlt : j < 8 := by have := (List.getElem?_eq_some_iff.1 hj).1; exact this
  rw [Nat.zero_add, hc j hlt]
  rw [← hj]
  simp [V, zS, show j < Sha.start.words.length from hlt]
theorem kt_of_laid {W : World} (h : laidMetH Tryd.prog [("ingot/hash.start", Rows.laid_ingot_hash_start), ("ingot/hash.k", Rows.laid_ingot_hash_k)] W) : KT W := by
  have h1 : laidMet Tryd.prog [("ingot/hash.k", Rows.laid_ingot_hash_k)] W := laidMet.tail h
  have h' : laidMet Tryd.prog [("ingot/hash.k", Lib.tabData .u32 zK)] W := by rw [← laidK]; exact h1
  have ht := Lib.tabIs_of_head gK gKType u52 u44 (by kernel_rfl) (by kernel_rfl) h'
  have hl : kTab.length = 64 := rfl
  have hc : ∀ j, j < 64 → W.cell? ⟨1, j, none⟩ = some (.int .u32 (zK.getD j 0)) := fun j hj => ht.cell gK j (by simp [zK]; omega)
  refine ⟨lt_of_cell (hc 0 (by omega)), fun t ht => ?_⟩
  rw [hc t ht]
  simp [zK, show t < kTab.length by omega]
end Go.Proofs.YtgdecjacbkicmaaDoor.Hsh
