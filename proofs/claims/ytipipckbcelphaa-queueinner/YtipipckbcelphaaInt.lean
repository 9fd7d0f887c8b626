/-
  Layer 21 (queue): QueueInner: the try.
-/
import Derived.Test.YtipipckbcelphaaInr
import Derived.Test.YtipipckbcelphaaVac
import Derived.Test.YtipipckbcelphaaQpg
namespace Go.Proofs.Ytipipckbcelphaa.Oct
open Go.RowKit Go.Shelf
set_option linter.unusedSimpArgs false
set_option linter.unusedVariables false

/-- the boxes that the try reads -/
structure IB (W : World) (b b7 b10 b4 b5 gw m cw : Nat) (y : Av) (ans : Int) (l : List Int) : Prop where
  k7 : Blk W b7 25 [.pointer (some ⟨b, 0, none⟩)]
  k10 : Blk W b10 27 [.slice (some ⟨gw, 0, none⟩) m cw]
  k4 : Blk W b4 32 [iv y.kind, iv y.id, iv y.ans, .slice y.sa y.sn y.sc]
  k5 : Blk W b5 3 [iv ans]
  row : Nums W (some ⟨gw, 0, none⟩) m l
  lt : gw < W.heap.size
/-- which blocks lie apart -/
structure DS (b7 b10 b14 b4 b13 b5 gw : Nat) : Prop where
  a : b13 ≠ b14
  b : b7 ≠ b13 ∧ b7 ≠ b14
  c : b10 ≠ b13 ∧ b10 ≠ b14
  d : b4 ≠ b13 ∧ b4 ≠ b14
  e : b5 ≠ b13 ∧ b5 ≠ b14
  f : gw ≠ b13 ∧ gw ≠ b14
def SepM (M : Qu) (b b7 b10 b14 b4 b13 b5 gw : Nat) : Prop := ∀ k ∈ M.bl b, k ≠ b7 ∧ k ≠ b10 ∧ k ≠ b14 ∧ k ≠ b4 ∧ k ≠ b13 ∧ k ≠ b5 ∧ k ≠ gw
section
variable {A W V : World} {b b7 b10 b14 b4 b13 b5 gw m cw K : Nat} {y : Av} {ans x : Int} {l : List Int} {M M' : Qu} {T : Value}
theorem IB.keep {S : Nat → Prop} (h : IB W b b7 b10 b4 b5 gw m cw y ans l) (hk : Keep S W V) (h7 : ¬ S b7) (h10 : ¬ S b10) (h4 : ¬ S b4) (h5 : ¬ S b5) (hg : ¬ S gw) : IB V b b7 b10 b4 b5 gw m cw y ans l :=
  ⟨hk.blk h.k7 h7, hk.blk h.k10 h10, hk.blk h.k4 h4, hk.blk h.k5 h5, h.row.keep (fun g o e hl => by cases e; exact hk.block gw hl hg) hk.size, Nat.lt_of_lt_of_le h.lt hk.size⟩
theorem IB.below (h : IB W b b7 b10 b4 b5 gw m cw y ans l) (hb : Below W.heap.size W V) : IB V b b7 b10 b4 b5 gw m cw y ans l := h.keep (S := fun _ => False) (Keep.below hb) id id id id id
def S0 (M : Qu) (b b13 b14 : Nat) (k : Nat) : Prop := k ∈ M.bl b ∨ k = b13 ∨ k = b14
/-- where the try stands -/
structure InS (A V : World) (M M' : Qu) (T : Value) (b b13 b14 gw K : Nat) (x : Int) : Prop where
  q : QAt V b M' T K
  kp : Keep (S0 M b b13 b14) A V
  hd : M'.W[0]? = some x
  bl : ∀ k ∈ M'.bl b, k ∈ M.bl b ∨ A.heap.size ≤ k
  b14 : Blk V b14 4 [.bool true]
  rr : ∃ wv ev, Blk V b13 30 [wv, ev] ∧ RQ V wv ev M'.W M'.E ∧ (∀ g, blkOf wv = some g → (g = gw ∨ A.heap.size ≤ g) ∧ g ∉ M'.bl b) ∧ (∀ g, blkOf ev = some g → A.heap.size ≤ g ∧ g ∉ M'.bl b)
theorem InS.set14 (h : InS A V M M' T b b13 b14 gw K x) (hs : SepM M b b7 b10 b14 b4 b13 b5 gw) (hd : DS b7 b10 b14 b4 b13 b5 gw) (hlt : b14 < A.heap.size) : InS A (V.setCell ⟨b14, 0, none⟩ (.bool true)) M M' T b b13 b14 gw K x := by
  have hk : Keep (fun j => j = b14) V (V.setCell ⟨b14, 0, none⟩ (.bool true)) := Keep.grown (grown_setCell _ _ _ _) rfl
  have hb : ∀ k ∈ M'.bl b, k ≠ b14 := fun k hk => by
    rcases h.bl k hk with h1 | h1
    · exact (hs k h1).2.2.1
    · omega
  obtain ⟨wv, ev, r1, r2, r3, r4⟩ := h.rr
  refine ⟨h.q.keep hk (fun k hk e => hb k hk e), h.kp.trans hk (fun j hj _ => .inr (.inr hj)), h.hd, h.bl, h.b14.set 0 _, wv, ev, hk.blk r1 hd.a, r2.keep hk (fun g hg e => ?_) (fun g hg e => ?_), r3, r4⟩
  · rcases (r3 g hg).1 with h1 | h1
    · exact hd.f.2 (by rw [← h1]; exact e)
    · have e' : g = b14 := e
      omega
  · have h1 := (r4 g hg).1
    have e' : g = b14 := e
    omega
end
set_option maxRecDepth 100000 in
set_option maxHeartbeats 8000000 in
theorem try30 {A : World} {b b7 b10 b14 b4 b13 b5 gw m cw K F : Nat} {cs : Array Value} {y : Av} {ans x : Int} {M : Qu} (hq : QAt A b M (fnV F cs) K) (hK : K + 1 ≤ 100000) (hx : M.W[0]? = some x) (hE : M.E = []) (hm : M.W.length = m) (hib : IB A b b7 b10 b4 b5 gw m cw y ans M.W) (h14 : Blk A b14 4 [.bool true]) (h13 : Blk A b13 30 [.slice (some ⟨gw, 0, none⟩) m cw, .slice none 0 0]) (hs : SepM M b b7 b10 b14 b4 b13 b5 gw) (hd : DS b7 b10 b14 b4 b13 b5 gw)
    (hrq : RQ A (.slice (some ⟨gw, 0, none⟩) m cw) (.slice none 0 0) M.W []) :
    Calls Try.prog 30 #[iv x, .pointer (some ⟨b7, 0, none⟩), .pointer (some ⟨b10, 0, none⟩), .pointer (some ⟨b14, 0, none⟩), .pointer (some ⟨b4, 0, none⟩), .pointer (some ⟨b13, 0, none⟩), .pointer (some ⟨b5, 0, none⟩)] A fun e V => ∃ M', e = .returned (iv ans) ∧ InS A V M M' (fnV F cs) b b13 b14 gw (K + 1) x := by
  have hz38 := zero38
  have HST := step_over (F2 := 31) (cs2 := #[]) hq
  have H : Hid (QAt A b M (fnV F cs) K ∧ K + 1 ≤ 100000 ∧ M.W[0]? = some x ∧ M.E = [] ∧ M.W.length = m ∧ SepM M b b7 b10 b14 b4 b13 b5 gw ∧ DS b7 b10 b14 b4 b13 b5 gw ∧ 0 < m ∧ m ≤ 64) := ⟨hq, hK, hx, hE, hm, hs, hd, by rw [← hm]; exact (List.getElem?_eq_some_iff.1 hx).1, by rw [← hm]; exact hq.nW⟩
  have HI : Hid (IB A b b7 b10 b4 b5 gw m cw y ans M.W ∧ Blk A b14 4 [.bool true] ∧ Blk A b13 30 [.slice (some ⟨gw, 0, none⟩) m cw, .slice none 0 0] ∧ RQ A (.slice (some ⟨gw, 0, none⟩) m cw) (.slice none 0 0) M.W []) := ⟨hib, h14, h13, hrq⟩
  have c7 : A.cell? ⟨b7, 0, none⟩ = some (.pointer (some ⟨b, 0, none⟩)) := hib.k7.cell rfl
  clear hq hK hx hE hm hib h14 h13 hs hd hrq
  go_enter Try.func30, Try.ntmps30
  go_wp2_with fail
  refine HST.mono ?_
  rintro e W1 ⟨rfl, hb1⟩
  have hal : Below W1.heap.size W1 (W1.alloc (.cells #[iv 0, iv 0, iv 0] 38)) := below_al _ _
  obtain ⟨g9, hg9⟩ : ∃ g, W1.heap.size = g := ⟨_, rfl⟩
  have HB1 : Hid (Below A.heap.size A W1) := hb1
  clear HST hb1 c7
  go_wp2_with (with_reducible change wpList _ _ _ ({ dst := none, op := Op.store 38 _ _, type := _, pos := _, after := _, guard := _ } :: _) _ _; refine Hid.out ?_)
  show wpList _ _ _ _ _ _
  refine wpList_store_blk rfl 38 (.tmp 9) _ rfl g9 0 38 q0 q0 rfl rfl (by rw [← hg9]; exact Blk.new W1 _ _) (by simp [q0]) size38 (by intro u hu; simp [q0] at hu; subst hu; rfl) ?_
  intro V2 hb5 hg5
  have hV2 : Below W1.heap.size W1 V2 := hal.grown hg5.out hal.size (fun j hj => by cases hj; omega)
  have HB2 : Hid (Below A.heap.size A V2) := below_tr HB1.out hV2
  clear hb5 hg5 hal hV2 hg9
  have HQ2 : Hid (QAt V2 b M (fnV F cs) K ∧ IB V2 b b7 b10 b4 b5 gw m cw y ans M.W ∧ Blk V2 b14 4 [.bool true] ∧ Blk V2 b13 30 [.slice (some ⟨gw, 0, none⟩) m cw, .slice none 0 0]) := ⟨H.out.1.below HB2.out, HI.out.1.below HB2.out, HI.out.2.1.below HB2.out HI.out.2.1.lt, HI.out.2.2.1.below HB2.out HI.out.2.2.1.lt⟩
  have HDR := drop_over HQ2.out.1 H.out.2.2.1
  have c7 : V2.cell? ⟨b7, 0, none⟩ = some (.pointer (some ⟨b, 0, none⟩)) := HQ2.out.2.1.k7.cell rfl
  go_wp2_with fail
  refine HDR.mono ?_
  rintro e w3 ⟨rfl, rfl⟩
  have c10 : V2.cell? ⟨b10, 0, none⟩ = some (.slice (some ⟨gw, 0, none⟩) m cw) := HQ2.out.2.1.k10.cell rfl
  have cx : V2.cell? ⟨gw, 0, none⟩ = some (iv x) := by
    obtain ⟨b', o', e', _, h3⟩ := HQ2.out.2.1.row.2 H.out.2.2.2.2.2.2.2.1
    cases e'
    exact h3 0 x H.out.2.2.1
  have hkq : ∀ V, Keep (fun j => j = b14) V2 V → QAt V b M (fnV F cs) K := fun V hV => HQ2.out.1.keep hV (fun k hk => (H.out.2.2.2.2.2.1 k hk).2.2.1)
  have HL3 : Hid ((b7 < V2.heap.size ∧ b7 ≠ b14) ∧ (b10 < V2.heap.size ∧ b10 ≠ b14) ∧ (gw < V2.heap.size ∧ gw ≠ b14)) := ⟨⟨HQ2.out.2.1.k7.lt, H.out.2.2.2.2.2.2.1.b.2⟩, ⟨HQ2.out.2.1.k10.lt, H.out.2.2.2.2.2.2.1.c.2⟩, HQ2.out.2.1.lt, H.out.2.2.2.2.2.2.1.f.2⟩
  have HK3 : Hid (Blk V2 b14 4 [.bool true]) := HQ2.out.2.2.1
  have HN3 : Hid (0 < m ∧ m ≤ 64) := H.out.2.2.2.2.2.2.2
  have HD3 : Hid (∀ V, Keep (fun j => j = b14) V2 V → Calls Try.prog 19 #[.pointer (some ⟨b, 0, none⟩), fnV 32 #[]] V fun e V' => e = .returned (.slice none 0 0) ∧ Below V.heap.size V V') := fun V hV => drain_nonef (n := m) H.out.2.2.2.2.2.2.2.2 (fun W hb => (waiting_is ((hkq V hV).below hb)).mono (by
    rintro e V' ⟨v, rfl, h1, h2⟩
    obtain ⟨a, c, hv, _⟩ := nums_own h1
    exact ⟨a, c, by rw [hv, H.out.2.2.2.2.1], h2⟩)) (.inr fun W hb => (step_over (F2 := 32) (cs2 := #[]) ((hkq V hV).below hb)).mono (by
    rintro e V' ⟨rfl, h2⟩
    exact ⟨0, 0, 0, 82, rfl, by decide, h2⟩))
  have HW3 : Hid (∀ V, Keep (fun j => j = b14) V2 V → Calls Try.prog 23 #[.pointer (some ⟨b, 0, none⟩)] V fun e V' => ∃ aw cw2, e = .returned (.slice aw m cw2) ∧ Nums V' aw m M.W ∧ Below V.heap.size V V') := fun V hV => (waiting_is (hkq V hV)).mono (by
    rintro e V' ⟨v, rfl, h1, h2⟩
    obtain ⟨a, c, hv, _, _, h3, _⟩ := nums_own h1
    rw [H.out.2.2.2.2.1] at hv h3
    exact ⟨a, c, by rw [hv], h3, h2⟩)
  have HRW3 : Hid (∀ V, Keep (fun j => j = b14) V2 V → Nums V (some ⟨gw, 0, none⟩) m M.W) := fun V hV => HQ2.out.2.1.row.keep (fun g o e hl => by cases e; exact hV.block gw hl H.out.2.2.2.2.2.2.1.f.2) hV.size
  clear HDR hkq
  go_wp2_with fail
  refine inn3 HL3 c7 c10 cx HK3 HN3 HD3 HW3 HRW3 ?_
  intro V3 aw3 cw3 hb14 hk3
  have hk3' : Keep (S0 M b b13 b14) A V3 := (Keep.below HB2.out).trans (hk3.mono (T := S0 M b b13 b14) (fun j _ hj => .inr (.inr hj))) (fun _ hj _ => hj)
  have hd := H.out.2.2.2.2.2.2.1
  have hA3 : A.heap.size ≤ V3.heap.size := hk3'.size
  have HQ3 : Hid (QAt V3 b M (fnV F cs) K ∧ IB V3 b b7 b10 b4 b5 gw m cw y ans M.W ∧ Blk V3 b14 4 [.bool true] ∧ Blk V3 b13 30 [.slice (some ⟨gw, 0, none⟩) m cw, .slice none 0 0] ∧ Keep (S0 M b b13 b14) A V3 ∧ RQ V3 (.slice (some ⟨gw, 0, none⟩) m cw) (.slice none 0 0) M.W [] ∧ A.heap.size ≤ V3.heap.size) := ⟨HQ2.out.1.keep hk3 (fun k hk => (H.out.2.2.2.2.2.1 k hk).2.2.1), HQ2.out.2.1.keep hk3 hd.b.2 hd.c.2 hd.d.2 hd.e.2 hd.f.2, hb14, hk3.blk HQ2.out.2.2.2 hd.a, hk3', (HI.out.2.2.2.below HB2.out).keep hk3 (fun g hg e => by have hg' : gw = g := (by simpa [blkOf] using hg); exact hd.f.2 (by rw [hg']; exact e)) (fun g hg e => by simp [blkOf] at hg), hA3⟩
  have d0 : V3.cell? ⟨b4, 0, none⟩ = some (iv y.kind) := HQ3.out.2.1.k4.cell rfl
  have d1 : V3.cell? ⟨b4, 1, none⟩ = some (iv y.id) := HQ3.out.2.1.k4.cell rfl
  have d7 : V3.cell? ⟨b7, 0, none⟩ = some (.pointer (some ⟨b, 0, none⟩)) := HQ3.out.2.1.k7.cell rfl
  have HLT : Hid (b14 < A.heap.size ∧ b13 < A.heap.size ∧ gw < A.heap.size) := ⟨HI.out.2.1.lt, HI.out.2.2.1.lt, HI.out.1.lt⟩
  clear hb14 hk3 hk3' hd hA3 c7 c10 cx HL3 HK3 HN3 HD3 HW3 HRW3
  by_cases hk0 : y.kind = 0
  · have q1 : (y.kind == 0) = true := by simp [hk0]
    clear hk0
    have HPU := put_is HQ3.out.1 H.out.2.1 y.id
    go_wp2_with fail
    refine HPU.mono ?_
    rintro e V4 ⟨rfl, v4, hq4, ha4⟩
    have hnb : ∀ j, j ≠ b → True := fun _ _ => trivial
    have hk4 : ∀ j, j ∉ M.bl b → j < V3.heap.size → V4.heap[j]? = V3.heap[j]? := fun j hj hl => ha4.2.block j hl hj
    have hsep := H.out.2.2.2.2.2.1
    have n4 : b4 ∉ M.bl b := fun e => (hsep b4 e).2.2.2.1 rfl
    have n5 : b5 ∉ M.bl b := fun e => (hsep b5 e).2.2.2.2.2.1 rfl
    have n13 : b13 ∉ M.bl b := fun e => (hsep b13 e).2.2.2.2.1 rfl
    have n14 : b14 ∉ M.bl b := fun e => (hsep b14 e).2.2.1 rfl
    have ng : gw ∉ M.bl b := fun e => (hsep gw e).2.2.2.2.2.2 rfl
    have HR4 : Hid (RQ V4 (.slice (some ⟨gw, 0, none⟩) m cw) (.slice none 0 0) M.W [] ∧ Blk V4 b13 30 [.slice (some ⟨gw, 0, none⟩) m cw, .slice none 0 0] ∧ Blk V4 b4 32 [iv y.kind, iv y.id, iv y.ans, .slice y.sa y.sn y.sc] ∧ Blk V4 b5 3 [iv ans] ∧ Blk V4 b14 4 [.bool true]) := ⟨HQ3.out.2.2.2.2.2.1.keep ha4.2 (fun g hg e => by have hg' : gw = g := (by simpa [blkOf] using hg); exact ng (by rw [hg']; exact e)) (fun g hg e => by simp [blkOf] at hg), ha4.2.blk HQ3.out.2.2.2.1 n13, ha4.2.blk HQ3.out.2.1.k4 n4, ha4.2.blk HQ3.out.2.1.k5 n5, ha4.2.blk HQ3.out.2.2.1 n14⟩
    have HQ4 : Hid (QAt V4 b ⟨v4, M.ev, putW M.W y.id, M.E⟩ (fnV F cs) (K + 1) ∧ QAfter V3 b M ⟨v4, M.ev, putW M.W y.id, M.E⟩ V4) := ⟨hq4, ha4⟩
    have HRP := rput_is HR4.out.1 (by have := H.out.2.2.2.2.2.2.2.2; have := H.out.2.2.2.2.1; omega) y.id
    have r0 : V4.cell? ⟨b13, 0, none⟩ = some (.slice (some ⟨gw, 0, none⟩) m cw) := HR4.out.2.1.cell rfl
    have r1 : V4.cell? ⟨b13, 1, none⟩ = some (.slice none 0 0) := HR4.out.2.1.cell rfl
    have r4 : V4.cell? ⟨b4, 1, none⟩ = some (iv y.id) := HR4.out.2.2.1.cell rfl
    clear HPU hq4 ha4 hnb hk4 hsep n4 n5 n13 n14 ng d0 d1 d7
    go_wp2_with fail
    refine HRP.mono ?_
    rintro e V5 ⟨wv5, rfl, hr5, hb5, ho5⟩
    obtain ⟨a5, c5', a6, c6', hsw, hse⟩ := hr5.shape
    obtain ⟨n5', hn5'⟩ : ∃ n, (putW M.W y.id).length = n := ⟨_, rfl⟩
    rw [hn5'] at hsw
    subst hsw
    have HR5 : Hid (RQ V5 (.slice a5 n5' c5') (.slice none 0 0) (putW M.W y.id) [] ∧ Below V4.heap.size V4 V5 ∧ (.slice a5 n5' c5' = Value.slice (some ⟨gw, 0, none⟩) m cw ∨ ∀ g, blkOf (.slice a5 n5' c5') = some g → V4.heap.size ≤ g) ∧ Blk V5 b13 30 [.slice (some ⟨gw, 0, none⟩) m cw, .slice none 0 0] ∧ Blk V5 b5 3 [iv ans] ∧ Blk V5 b14 4 [.bool true]) := ⟨hr5, hb5, ho5, HR4.out.2.1.below hb5 HR4.out.2.1.lt, HR4.out.2.2.2.1.below hb5 HR4.out.2.2.2.1.lt, HR4.out.2.2.2.2.below hb5 HR4.out.2.2.2.2.lt⟩
    clear HRP hr5 hb5 ho5 hse hn5' r0 r1 r4
    go_wp2_with (with_reducible change wpList _ _ _ ({ dst := none, op := Op.store 30 _ _, type := _, pos := _, after := _, guard := _ } :: _) _ _; refine Hid.out ?_)
    show wpList _ _ _ _ _ _
    refine wpList_store_blk rfl 30 (.tmp 5) (.tmp 60) rfl b13 0 30 [.slice (some ⟨gw, 0, none⟩) m cw, .slice none 0 0] [.slice a5 n5' c5', .slice none 0 0] rfl rfl HR5.out.2.2.2.1 (by simp) size30 (by intro u hu; simp at hu; rcases hu with rfl | rfl <;> rfl) ?_
    intro V6 hb6 hg6
    have hk6 : Keep (fun j => j = b13) V5 V6 := Keep.grown hg6.out rfl
    have HIN : Hid (InS A V6 M ⟨v4, M.ev, putW M.W y.id, M.E⟩ (fnV F cs) b b13 b14 gw (K + 1) x) := by
      have hbl : ∀ k ∈ Qu.bl ⟨v4, M.ev, putW M.W y.id, M.E⟩ b, (k ∈ M.bl b ∨ V3.heap.size ≤ k) ∧ k < V4.heap.size := fun k hk => ⟨HQ4.out.2.1 k hk, HQ4.out.1.lt k hk⟩
      have h13 : ∀ k ∈ Qu.bl ⟨v4, M.ev, putW M.W y.id, M.E⟩ b, k ≠ b13 := fun k hk e => by
        rcases (hbl k hk).1 with h1 | h1
        · exact (H.out.2.2.2.2.2.1 k h1).2.2.2.2.1 e
        · have h2 := HLT.out.2.1; have h3 := HQ3.out.2.2.2.2.2.2; omega
      refine ⟨(HQ4.out.1.below HR5.out.2.1).keep hk6 (fun k hk e => h13 k hk e), ?_, ?_, fun k hk => (hbl k hk).1.imp id (fun h => Nat.le_trans HQ3.out.2.2.2.2.2.2 h), hk6.blk HR5.out.2.2.2.2.2 (fun e => H.out.2.2.2.2.2.2.1.a e.symm), _, _, hb6.out, ?_, ?_, fun g hg => by simp [blkOf] at hg⟩
      · exact HQ3.out.2.2.2.2.1.trans ((HQ4.out.2.2.mono (T := S0 M b b13 b14) (fun j _ hj => .inl hj)).trans ((Keep.below HR5.out.2.1).trans (hk6.mono (T := S0 M b b13 b14) (fun j _ hj => .inr (.inl hj))) (fun _ hj _ => hj)) (fun _ hj _ => hj)) (fun _ hj _ => hj)
      · show (putW M.W y.id)[0]? = some x
        rcases putW_cases M.W y.id with e | e
        · rw [e]; exact H.out.2.2.1
        · rw [e, List.getElem?_append_left (List.getElem?_eq_some_iff.1 H.out.2.2.1).1]; exact H.out.2.2.1
      · show RQ V6 _ _ (putW M.W y.id) M.E
        rw [H.out.2.2.2.1]
        refine HR5.out.1.keep hk6 (fun g hg e => ?_) (fun g hg e => by simp [blkOf] at hg)
        have e' : g = b13 := e
        rcases HR5.out.2.2.1 with h1 | h1
        · rw [h1] at hg
          have hg' : gw = g := by simpa [blkOf] using hg
          exact H.out.2.2.2.2.2.2.1.f.1 (by rw [hg', e'])
        · have h2 := h1 g hg; have h3 := HLT.out.2.1; have h4 := HQ3.out.2.2.2.2.2.2; have h5 := HQ4.out.2.2.size; omega
      · intro g hg
        rcases HR5.out.2.2.1 with h1 | h1
        · rw [h1] at hg
          have hg' : gw = g := by simpa [blkOf] using hg
          subst hg'
          refine ⟨.inl rfl, fun e => ?_⟩
          rcases (hbl gw e).1 with h2 | h2
          · exact (H.out.2.2.2.2.2.1 gw h2).2.2.2.2.2.2 rfl
          · have h3 := HLT.out.2.2; have h4 := HQ3.out.2.2.2.2.2.2; omega
        · have h2 := h1 g hg
          have h4 := HQ3.out.2.2.2.2.2.2
          have h5 := HQ4.out.2.2.size
          exact ⟨.inr (by omega), fun e => by have := (hbl g e).2; omega⟩
    have HI5 : Hid (Blk V6 b5 3 [iv ans]) := hk6.blk HR5.out.2.2.2.2.1 H.out.2.2.2.2.2.2.1.e.1
    obtain ⟨cc, hcc⟩ : ∃ cc, putC M.W y.id = cc := ⟨_, rfl⟩
    rw [hcc]
    clear hb6 hg6 hk6 hcc
    have c14 : V6.cell? ⟨b14, 0, none⟩ = some (.bool true) := HIN.out.b14.cell rfl
    have f14 : V6.frozen? ⟨b14, 0, none⟩ = false := HIN.out.b14.free 0
    have c5 : (V6.setCell ⟨b14, 0, none⟩ (.bool true)).cell? ⟨b5, 0, none⟩ = some (iv ans) := (HI5.out.other (by exact H.out.2.2.2.2.2.2.1.e.2) _).cell rfl
    have HFI : Hid _ := HIN.out.set14 H.out.2.2.2.2.2.1 H.out.2.2.2.2.2.2.1 HLT.out.1
    go_wp2
    go_ret
    exact ⟨_, rfl, HFI.out⟩
  · have q1 : (y.kind == 0) = false := by simpa using hk0
    clear hk0
    by_cases hid : y.id = x
    · have q2 : (y.id != x) = false := by simp [hid]
      have HIN : Hid (InS A V3 M M (fnV F cs) b b13 b14 gw (K + 1) x) := by
        refine ⟨HQ3.out.1.more (by omega) H.out.2.1, HQ3.out.2.2.2.2.1, H.out.2.2.1, fun k hk => .inl hk, HQ3.out.2.2.1, _, _, HQ3.out.2.2.2.1, by rw [H.out.2.2.2.1]; exact HQ3.out.2.2.2.2.2.1, fun g hg => ?_, fun g hg => by simp [blkOf] at hg⟩
        have hg' : gw = g := by simpa [blkOf] using hg
        subst hg'
        exact ⟨.inl rfl, fun e => (H.out.2.2.2.2.2.1 gw e).2.2.2.2.2.2 rfl⟩
      have HI5 : Hid (Blk V3 b5 3 [iv ans]) := HQ3.out.2.1.k5
      clear hid
      obtain ⟨VT, hVT⟩ : ∃ VT, V3 = VT := ⟨_, rfl⟩
      have c14 : V3.cell? ⟨b14, 0, none⟩ = some (.bool true) := HIN.out.b14.cell rfl
      have f14 : V3.frozen? ⟨b14, 0, none⟩ = false := HIN.out.b14.free 0
      have c5 : (V3.setCell ⟨b14, 0, none⟩ (.bool true)).cell? ⟨b5, 0, none⟩ = some (iv ans) := (HI5.out.other (by exact H.out.2.2.2.2.2.2.1.e.2) _).cell rfl
      have HFI : Hid _ := HIN.out.set14 H.out.2.2.2.2.2.1 H.out.2.2.2.2.2.2.1 HLT.out.1
      clear hVT
      go_wp2
      go_ret
      exact ⟨M, rfl, HFI.out⟩
    · have q2 : (y.id != x) = true := by simpa using hid
      have hfirst : ∀ k : Nat, M.W[k]? = some y.id → k ≠ 0 := fun k hk e => by
        rw [e, H.out.2.2.1] at hk
        cases hk
        exact hid rfl
      rcases plc_cases M.W y.id with ⟨_, hno⟩ | ⟨k, _, hk, hkf⟩
      · have HDN := drop_no HQ3.out.1 hno
        have HRN := rdrop_no HQ3.out.2.2.2.2.2.1 hno
        have HR4 : Hid (True ∧ Blk V3 b13 30 [.slice (some ⟨gw, 0, none⟩) m cw, .slice none 0 0] ∧ Blk V3 b4 32 [iv y.kind, iv y.id, iv y.ans, .slice y.sa y.sn y.sc]) := ⟨trivial, HQ3.out.2.2.2.1, HQ3.out.2.1.k4⟩
        have r0 : V3.cell? ⟨b13, 0, none⟩ = some (.slice (some ⟨gw, 0, none⟩) m cw) := HR4.out.2.1.cell rfl
        have r1 : V3.cell? ⟨b13, 1, none⟩ = some (.slice none 0 0) := HR4.out.2.1.cell rfl
        clear hfirst hno hid
        go_wp2_with fail
        refine HDN.mono ?_
        rintro e w4 ⟨rfl, rfl⟩
        clear HDN
        go_wp2_with fail
        refine HRN.mono ?_
        rintro e V5 ⟨rfl, hb5⟩
        have HR5 : Hid (Below V3.heap.size V3 V5 ∧ Blk V5 b13 30 [.slice (some ⟨gw, 0, none⟩) m cw, .slice none 0 0]) := ⟨hb5, HQ3.out.2.2.2.1.below hb5 HQ3.out.2.2.2.1.lt⟩
        clear HRN hb5 r0 r1 d0 d1 d7
        go_wp2_with (with_reducible change wpList _ _ _ ({ dst := none, op := Op.store 30 _ _, type := _, pos := _, after := _, guard := _ } :: _) _ _; refine Hid.out ?_)
        show wpList _ _ _ _ _ _
        refine wpList_store_blk rfl 30 (.tmp 5) (.tmp 76) rfl b13 0 30 [.slice (some ⟨gw, 0, none⟩) m cw, .slice none 0 0] [.slice (some ⟨gw, 0, none⟩) m cw, .slice none 0 0] rfl rfl HR5.out.2 (by simp) size30 (by intro u hu; simp at hu; rcases hu with rfl | rfl <;> rfl) ?_
        intro V6 hb6 hg6
        have hk6 : Keep (fun j => j = b13) V3 V6 := (Keep.below (S := fun j => j = b13) HR5.out.1).trans (Keep.grown (S := fun j => j = b13) hg6.out rfl) (fun _ hj _ => hj)
        have HIN : Hid (InS A V6 M M (fnV F cs) b b13 b14 gw (K + 1) x) := by
          refine ⟨(HQ3.out.1.more (by omega) H.out.2.1).keep hk6 (fun k hk => (H.out.2.2.2.2.2.1 k hk).2.2.2.2.1), HQ3.out.2.2.2.2.1.trans (hk6.mono (T := S0 M b b13 b14) (fun j _ hj => .inr (.inl hj))) (fun _ hj _ => hj), H.out.2.2.1, fun k hk => .inl hk, hk6.blk HQ3.out.2.2.1 (fun e => H.out.2.2.2.2.2.2.1.a e.symm), _, _, hb6.out, ?_, fun g hg => ?_, fun g hg => by simp [blkOf] at hg⟩
          · rw [H.out.2.2.2.1]
            exact HQ3.out.2.2.2.2.2.1.keep hk6 (fun g hg e => by have hg' : gw = g := (by simpa [blkOf] using hg); exact H.out.2.2.2.2.2.2.1.f.1 (by rw [hg']; exact e)) (fun g hg e => by simp [blkOf] at hg)
          · have hg' : gw = g := by simpa [blkOf] using hg
            subst hg'
            exact ⟨.inl rfl, fun e => (H.out.2.2.2.2.2.1 gw e).2.2.2.2.2.2 rfl⟩
        have HI5 : Hid (Blk V6 b5 3 [iv ans]) := hk6.blk HQ3.out.2.1.k5 H.out.2.2.2.2.2.2.1.e.1
        clear hb6 hg6 hk6
        have c14 : V6.cell? ⟨b14, 0, none⟩ = some (.bool true) := HIN.out.b14.cell rfl
        have f14 : V6.frozen? ⟨b14, 0, none⟩ = false := HIN.out.b14.free 0
        have c5 : (V6.setCell ⟨b14, 0, none⟩ (.bool true)).cell? ⟨b5, 0, none⟩ = some (iv ans) := (HI5.out.other (by exact H.out.2.2.2.2.2.2.1.e.2) _).cell rfl
        have HFI : Hid _ := HIN.out.set14 H.out.2.2.2.2.2.1 H.out.2.2.2.2.2.2.1 HLT.out.1
        go_wp2
        go_ret
        exact ⟨_, rfl, HFI.out⟩
      · have HDY := drop_yes HQ3.out.1 hk hkf (.inr (hfirst k hk))
        have HKK : Hid (M.W[k]? = some y.id ∧ (∀ (j : Nat) (z : Int), j < k → M.W[j]? = some z → z ≠ y.id) ∧ k ≠ 0) := ⟨hk, hkf, hfirst k hk⟩
        clear hfirst hk hkf hid
        go_wp2_with fail
        refine HDY.mono ?_
        rintro e V4 ⟨rfl, v4, u4, hq4, ha4⟩
        obtain ⟨M4, hM4⟩ : ∃ M4 : Qu, ⟨v4, u4, M.W.eraseIdx k, M.E ++ [(y.id, 2, 201)]⟩ = M4 := ⟨_, rfl⟩
        rw [hM4] at hq4 ha4
        have HM4 : Hid (M4.W = M.W.eraseIdx k ∧ M4.E = [(y.id, 2, 201)]) := by rw [← hM4, H.out.2.2.2.1]; exact ⟨rfl, rfl⟩
        have hsep := H.out.2.2.2.2.2.1
        have n4 : b4 ∉ M.bl b := fun e => (hsep b4 e).2.2.2.1 rfl
        have n5 : b5 ∉ M.bl b := fun e => (hsep b5 e).2.2.2.2.2.1 rfl
        have n13 : b13 ∉ M.bl b := fun e => (hsep b13 e).2.2.2.2.1 rfl
        have n14 : b14 ∉ M.bl b := fun e => (hsep b14 e).2.2.1 rfl
        have ng : gw ∉ M.bl b := fun e => (hsep gw e).2.2.2.2.2.2 rfl
        have HR4 : Hid (RQ V4 (.slice (some ⟨gw, 0, none⟩) m cw) (.slice none 0 0) M.W [] ∧ Blk V4 b13 30 [.slice (some ⟨gw, 0, none⟩) m cw, .slice none 0 0] ∧ Blk V4 b4 32 [iv y.kind, iv y.id, iv y.ans, .slice y.sa y.sn y.sc] ∧ Blk V4 b5 3 [iv ans] ∧ Blk V4 b14 4 [.bool true]) := ⟨HQ3.out.2.2.2.2.2.1.keep ha4.2 (fun g hg e => by have hg' : gw = g := (by simpa [blkOf] using hg); exact ng (by rw [hg']; exact e)) (fun g hg e => by simp [blkOf] at hg), ha4.2.blk HQ3.out.2.2.2.1 n13, ha4.2.blk HQ3.out.2.1.k4 n4, ha4.2.blk HQ3.out.2.1.k5 n5, ha4.2.blk HQ3.out.2.2.1 n14⟩
        have HQ4 : Hid (QAt V4 b M4 (fnV F cs) K ∧ QAfter V3 b M M4 V4) := ⟨hq4, ha4⟩
        have HRP := rdrop_yes HR4.out.1 (by simp) HKK.out.1 HKK.out.2.1
        have r0 : V4.cell? ⟨b13, 0, none⟩ = some (.slice (some ⟨gw, 0, none⟩) m cw) := HR4.out.2.1.cell rfl
        have r1 : V4.cell? ⟨b13, 1, none⟩ = some (.slice none 0 0) := HR4.out.2.1.cell rfl
        have r4 : V4.cell? ⟨b4, 1, none⟩ = some (iv y.id) := HR4.out.2.2.1.cell rfl
        clear HDY hq4 ha4 hM4 hsep n4 n5 n13 n14 ng d0 d1 d7
        go_wp2_with fail
        refine HRP.mono ?_
        rintro e V5 ⟨wv5, ev5, rfl, hr5⟩
        obtain ⟨a5, c5', a6, c6', hsw, hse⟩ := hr5.1.shape
        obtain ⟨n5', hn5'⟩ : ∃ n, (M.W.eraseIdx k).length = n := ⟨_, rfl⟩
        rw [hn5'] at hsw
        subst hsw
        rw [show (([] : List (Int × Int × Int)) ++ [(y.id, (2 : Int), (201 : Int))]).length = 1 from rfl] at hse
        subst hse
        have HR5 : Hid (REndP V4 (M.W.eraseIdx k) [(y.id, 2, 201)] (.slice a5 n5' c5') (.slice a6 1 c6') V5 ∧ Blk V5 b13 30 [.slice (some ⟨gw, 0, none⟩) m cw, .slice none 0 0] ∧ Blk V5 b5 3 [iv ans] ∧ Blk V5 b14 4 [.bool true]) := ⟨hr5, HR4.out.2.1.below hr5.2.1 HR4.out.2.1.lt, HR4.out.2.2.2.1.below hr5.2.1 HR4.out.2.2.2.1.lt, HR4.out.2.2.2.2.below hr5.2.1 HR4.out.2.2.2.2.lt⟩
        clear HRP hr5 hn5' r0 r1 r4
        go_wp2_with (with_reducible change wpList _ _ _ ({ dst := none, op := Op.store 30 _ _, type := _, pos := _, after := _, guard := _ } :: _) _ _; refine Hid.out ?_)
        show wpList _ _ _ _ _ _
        refine wpList_store_blk rfl 30 (.tmp 5) (.tmp 76) rfl b13 0 30 [.slice (some ⟨gw, 0, none⟩) m cw, .slice none 0 0] [.slice a5 n5' c5', .slice a6 1 c6'] rfl rfl HR5.out.2.1 (by simp) size30 (by intro u hu; simp at hu; rcases hu with rfl | rfl <;> rfl) ?_
        intro V6 hb6 hg6
        have hk6 : Keep (fun j => j = b13) V5 V6 := Keep.grown hg6.out rfl
        have HIN : Hid (InS A V6 M M4 (fnV F cs) b b13 b14 gw (K + 1) x) := by
          have h4 := HQ3.out.2.2.2.2.2.2
          have h5 := HQ4.out.2.2.size
          have h3 := HLT.out.2.1
          have hbl : ∀ k ∈ M4.bl b, (k ∈ M.bl b ∨ V3.heap.size ≤ k) ∧ k < V4.heap.size := fun k hk => ⟨HQ4.out.2.1 k hk, HQ4.out.1.lt k hk⟩
          have h13 : ∀ k ∈ M4.bl b, k ≠ b13 := fun k hk e => by
            rcases (hbl k hk).1 with h1 | h1
            · exact (H.out.2.2.2.2.2.1 k h1).2.2.2.2.1 e
            · omega
          refine ⟨((HQ4.out.1.more (Nat.le_succ _) H.out.2.1).below HR5.out.1.2.1).keep hk6 (fun k hk e => h13 k hk e), ?_, ?_, fun k hk => (hbl k hk).1.imp id (fun h => Nat.le_trans h4 h), hk6.blk HR5.out.2.2.2 (fun e => H.out.2.2.2.2.2.2.1.a e.symm), _, _, hb6.out, ?_, fun g hg => ?_, fun g hg => ?_⟩
          · exact HQ3.out.2.2.2.2.1.trans ((HQ4.out.2.2.mono (T := S0 M b b13 b14) (fun j _ hj => .inl hj)).trans ((Keep.below HR5.out.1.2.1).trans (hk6.mono (T := S0 M b b13 b14) (fun j _ hj => .inr (.inl hj))) (fun _ hj _ => hj)) (fun _ hj _ => hj)) (fun _ hj _ => hj)
          · rw [HM4.out.1, List.getElem?_eraseIdx, if_pos (by have := HKK.out.2.2; omega)]
            exact H.out.2.2.1
          · rw [HM4.out.1, HM4.out.2]
            exact HR5.out.1.1.keep hk6 (fun g hg e => by have e' : g = b13 := e; have := HR5.out.1.2.2.1 g hg; omega) (fun g hg e => by have e' : g = b13 := e; have := HR5.out.1.2.2.2 g hg; omega)
          · have h1 := HR5.out.1.2.2.1 g hg
            exact ⟨.inr (by omega), fun e => by have := (hbl g e).2; omega⟩
          · have h1 := HR5.out.1.2.2.2 g hg
            exact ⟨by omega, fun e => by have := (hbl g e).2; omega⟩
        have HI5 : Hid (Blk V6 b5 3 [iv ans]) := hk6.blk HR5.out.2.2.1 H.out.2.2.2.2.2.2.1.e.1
        clear hb6 hg6 hk6
        have c14 : V6.cell? ⟨b14, 0, none⟩ = some (.bool true) := HIN.out.b14.cell rfl
        have f14 : V6.frozen? ⟨b14, 0, none⟩ = false := HIN.out.b14.free 0
        have c5 : (V6.setCell ⟨b14, 0, none⟩ (.bool true)).cell? ⟨b5, 0, none⟩ = some (iv ans) := (HI5.out.other (by exact H.out.2.2.2.2.2.2.1.e.2) _).cell rfl
        have HFI : Hid _ := HIN.out.set14 H.out.2.2.2.2.2.1 H.out.2.2.2.2.2.2.1 HLT.out.1
        go_wp2
        go_ret
        exact ⟨_, rfl, HFI.out⟩
#print axioms try30
end Go.Proofs.Ytipipckbcelphaa.Oct
