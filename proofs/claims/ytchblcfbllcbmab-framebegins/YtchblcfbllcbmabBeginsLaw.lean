/-
  Layer 4 (frame): the law on frames one behind the other, walked.
-/
import Derived.Test.YtchblcfbllcbmabAll
import Derived.Test.YtchblcfbllcbmabKept
import Derived.Test.YtchblcfbllcbmabRound
import Derived.Test.YtchblcfbllcbmabSums
import Derived.Test.YtchblcfbllcbmabFrameb
import Derived.Test.YtchblcfbllcbmabLast
namespace Go.Proofs.Ytchblcfbllcbmab.Oct
open Go.RowKit Go.Shelf
attribute [local go_sem] Oper.semAt_some

theorem src_of {w : World} {g m c : Nat} {l : List UInt8} (h : In w (some ⟨g, 0, none⟩) m c l) : ∀ j u, (U l)[j]? = some u → w.cell? ((⟨g, 0, none⟩ : Addr).add j) = some u := by
  intro j u hj
  have hp : 0 < (U l).length := by have := (List.getElem?_eq_some_iff.1 hj).1; omega
  obtain ⟨ad, e1, e2⟩ := cells_of_in h hp
  obtain rfl := Option.some.inj e1
  exact e2 j u hj
theorem cell_new_one (w : World) (t : TypeId) (v : Value) : ∀ j u, [v][j]? = some u → (w.alloc (.cells #[v] t)).cell? ((⟨w.heap.size, 0, none⟩ : Addr).add j) = some u := by
  intro j u hj
  have e := World.cell?_alloc_mark w #[v] t (0, 0) j
  rw [Addr.add_lit, Nat.zero_add, e]
  simpa using hj

theorem eq_func (d g : Nat) (W : World) : (Op.equalIn (d + 1) 32 (.func (.func 17) #[] #[.pointer (some ⟨g, 0, none⟩)]) .nilFunc).run Try.prog W = .ok false W := by
  simp [Op.equalIn, run_underlying Try.underlying32]
theorem each_some (g : Nat) (W : World) : (binOp .eql 32 (.func (.func 17) #[] #[.pointer (some ⟨g, 0, none⟩)]) .nilFunc).run Try.prog W = .ok (.bool false) W := by
  have h : (Op.equal 32 (.func (.func 17) #[] #[.pointer (some ⟨g, 0, none⟩)]) .nilFunc).run Try.prog W = .ok false W := eq_func 9999 g W
  simp [binOp, h]
theorem E_take (ls : List (List UInt8)) (t i : Nat) (h : i ≤ t) : E (ls.take t) i = E ls i := by
  unfold E
  rw [List.take_take, Nat.min_eq_left h]
/-- what stands between two rounds of the law's loop -/
def LawInv (ls : List (List UInt8)) (t : Nat) (w2 : World) (s : Nat) (A : World) : Prop := ∃ i, i ≤ t ∧ s = E (ls.take t) i ∧ A.heap[w2.heap.size]? = some (.cells #[.int .i64 (i : Int)] 3) ∧ Below w2.heap.size w2 A ∧ w2.heap.size + 1 ≤ A.heap.size
theorem held_put {m₀ l : Nat} (hl : l < m₀) {A B : World} {o o' : Obj} (h : Held m₀ (A.putObj l o) B) : Held m₀ A (B.putObj l o') := by
  obtain ⟨h1, h2⟩ := h
  simp only [World.putObj_size] at h1 h2
  refine ⟨by simpa using h1, fun b hb hm => ?_⟩
  exact (World.putObj_heap_other (by omega)).trans ((h2 b hb hm).trans (World.putObj_heap_other (by omega)))
theorem lies_put {L : List UInt8} {n m₀ s l : Nat} (hl : l < m₀) {x : Handed} {A : World} {o : Obj} (h : Lies L n m₀ s x A) : Lies L n m₀ s x (A.putObj l o) := by
  obtain ⟨h1, ⟨k1, k2, k3, k4, k5⟩, h3⟩ := h
  refine ⟨h1, ⟨k1, k2, k3, k4, fun hp => ?_⟩, h3⟩
  obtain ⟨b, off, e1, e2, e3⟩ := k5 hp
  obtain ⟨g, e4, e5⟩ := h3 hp
  rw [e1] at e4
  simp only [Option.some.injEq, Addr.mk.injEq, and_true] at e4
  obtain ⟨rfl, rfl⟩ := e4
  refine ⟨b, 0, e1, by simpa using e2, fun i c hc => ?_⟩
  have hb : (A.putObj l o).heap[b]? = A.heap[b]? := World.putObj_heap_other (by omega)
  have e6 := e3 i c hc
  unfold World.cell? at e6 ⊢
  simp only [hb]
  exact e6
def isDefer : Op → Bool
  | .defer _ => true
  | _ => false
theorem nodefer_of {ops : Array Oper} (h : ops.all (fun o => !isDefer o.op) = true) : ∀ (i : Nat) (o : Oper), ops[i]? = some o → ∀ c, o.op ≠ Op.defer c := by
  intro i o ho c hc
  have hm := Array.mem_of_getElem? ho
  have := (Array.all_eq_true_iff_forall_mem.1 h) o hm
  rw [hc] at this
  cases this
theorem rem_of (cut : Int) (nb : Nat) : ∃ P : Nat, (IntKind.u64.wrap cut).tmod ((nb : Int) + 1) = (P : Int) ∧ P ≤ nb := by
  have hwr : IntKind.u64.wrap cut = cut % 18446744073709551616 := IntKind.wrap_u64 cut
  have hnn : 0 ≤ IntKind.u64.wrap cut := by rw [hwr]; omega
  have htm : (IntKind.u64.wrap cut).tmod ((nb : Int) + 1) = (IntKind.u64.wrap cut) % ((nb : Int) + 1) := Int.tmod_eq_emod_of_nonneg hnn
  have hlo : 0 ≤ (IntKind.u64.wrap cut) % ((nb : Int) + 1) := Int.emod_nonneg _ (by omega)
  have hhi : (IntKind.u64.wrap cut) % ((nb : Int) + 1) < (nb : Int) + 1 := Int.emod_lt_of_pos _ (by omega)
  exact ⟨((IntKind.u64.wrap cut) % ((nb : Int) + 1)).toNat, by rw [htm]; omega, by omega⟩
theorem in_of_own {B : Nat} {w : World} {ab : Option Addr} {nb cb : Nat} {l : List UInt8} (hn : l.length = nb) (h : Own 5 B w (.slice ab nb cb) l) (hb : nb ≤ 140737488355328) : In w ab nb cb l := by
  obtain ⟨a', c', e, hin, -⟩ := own_in h (by omega)
  rw [hn] at e hin
  cases e
  exact hin
theorem in_prefix {w : World} {a : Option Addr} {n cp : Nat} {l : List UInt8} (h : In w a n cp l) {P : Nat} (hP : P ≤ n) : In w a P cp (l.take P) := by
  obtain ⟨h1, h2, h3, h4, h5⟩ := h
  refine ⟨by rw [List.length_take]; omega, by omega, by omega, h4, fun hp => ?_⟩
  obtain ⟨b, off, e1, e2, e3⟩ := h5 (by omega)
  refine ⟨b, off, e1, e2, fun i c hc => e3 i c ?_⟩
  rw [List.getElem?_take] at hc
  split at hc
  · exact hc
  · cases hc

set_option maxRecDepth 100000 in
set_option maxHeartbeats 4000000 in
theorem begins (ls : List (List UInt8)) (a : Option Addr) (len cap : Nat) (cut : Int) (w : World) (hl : ArgL w a len cap ls) (hrows : ∀ r ∈ ls, r.length ≤ 140737488355328) :
    Calls Try.prog 4 #[.slice a len cap, .int .i64 cut] w fun e w' => e = .returned (.bool true) ∧ Below w.heap.size w w' := by
  have HL : Hid (ArgL w a len cap ls) := hl
  have HLL : Hid (ls.length = len) := hl.1
  have HROWS : Hid (∀ r ∈ ls, r.length ≤ 140737488355328) := hrows
  have b0 : len ≤ 140737488355328 ∨ True := .inr trivial
  clear hl hrows b0
  refine (callsIn_wide (n := 9)).1 ?_
  refine callsIn_of_wp_marks Try.func4 rfl trivial ?_ rfl
  simp only [Try.ntmps4, List.size_toArray, List.length_cons, List.length_nil, Nat.reduceAdd, Nat.reduceSub, Array.replicate_succ, Array.replicate_zero, List.push_toArray, List.append_toArray, List.nil_append, List.cons_append]
  gi_wp2
  obtain ⟨i5, hi5, hz50, hz51, hz52⟩ := info_parts info5
  obtain ⟨i3, hi3, hz30, hz31, hz32⟩ := info_parts info3
  gi_loopw [18, 5] (fun i v wr => ∃ (t : Nat) (ab : Option Addr) (nb cb : Nat) (ae : Option Addr) (ce : Nat), i = .int .i64 t ∧ v = .slice ab nb cb ∧ Hid (Kept w ls a len cap t ab nb cb ae ce wr)) (fun i _ _ => len - (intOf i).toNat)
  case atStart =>
    refine ⟨0, none, 0, 0, none, 0, rfl, rfl, ?_⟩
    exact kept_start w ls a len cap
  case round =>
    obtain ⟨t, ab, nb, cb, ae, ce, rfl, rfl, HK⟩ := hrel
    have b2 : (nb : Int) ≤ 20012 := by have := HK.out.nb_le; omega
    have b3 : (t : Int) ≤ 51 := by have := HK.out.few; omega
    have c2 : wr.cell? ⟨w.heap.size + 1 + 1, 0, none⟩ = some (.slice ae t ce) := cell_one HK.out.box2
    obtain ⟨P, hP, hPn⟩ := rem_of cut nb
    have HPN : Hid (P ≤ nb) := hPn
    have hin0 : In wr ab nb cb (bb (ls.take t)) := in_of_own (by rw [HK.out.nb_eq]; rfl) HK.out.own (by have := HK.out.nb_le; omega)
    have HPX : Hid (In wr ab P cb ((bb (ls.take t)).take P)) := in_prefix hin0 hPn
    have b7 : (P : Int) ≤ (nb : Int) := by omega
    have b8 : (P : Int) ≤ (cb : Int) := by have := hin0.2.1; omega
    have b9 : P ≤ cb := by have := hin0.2.1; omega
    clear hin0 hPn
    have hes := each_some
    by_cases hlt : t < len
    · obtain ⟨bl, ol, A, Lx, C, x, rfl, hx, hcx, hAx⟩ := (HL.out.below HK.out.below).row t hlt
      have q1 : (t : Int) < (len : Int) := by omega
      have hlt' : t < ls.length := by rw [HLL.out]; exact hlt
      have hxe : ls[t] = x := by rw [List.getElem?_eq_getElem hlt'] at hx; exact Option.some.inj hx
      have HXE : Hid (ls[t] = x) := hxe
      have HLT : Hid (t < ls.length) := hlt'
      have hLx : x.length = Lx := hAx.1
      have b4 : (Lx : Int) ≤ 140737488355328 := by have := HROWS.out x (by rw [← hxe]; exact List.getElem_mem hlt'); omega
      have HIX : Hid (In wr A Lx C x) := hAx.toIn (by omega)
      have HLX : Hid (x.length = Lx) := hLx
      clear hx hAx hLx
      by_cases hbig : 20000 < nb + Lx
      · have q2 : (20000 : Int) < (nb : Int) + (Lx : Int) := by omega
        gi_wp2_with (first
          | (refine ⟨trivial, ?_⟩; gi_at_call 10; refine (callsIn_wide.2 (all_is ((bb (ls.take t)).take P) ab P cb (wr.alloc (.cells #[.int .i64 (P : Int)] 3)) (HPX.out.below ((Below.refl _ wr).alloc (Nat.le_refl _) _)) (by have h1 := HPN.out; have h2 := HK.out.nb_le; omega))).mono ?_; rintro e w2 ⟨g, a2, c2, rfl, HG, HC, HI2, HB2⟩)
          | fail)
        obtain ⟨W3, hW3⟩ : ∃ W3, W3 = w2.alloc (.cells #[.int .i64 0] 3) := ⟨_, rfl⟩
        have HS3 : Hid (W3.heap.size = w2.heap.size + 1) := by show _ = _; rw [hW3]; simp
        have HN3 : Hid (W3.heap[w2.heap.size]? = some (.cells #[.int .i64 0] 3)) := by show _ = _; rw [hW3]; exact heap_alloc_new w2 _
        have HB3 : Hid (Below w2.heap.size w2 W3) := by rw [hW3]; exact (Below.refl _ w2).alloc (Nat.le_refl _) _
        rw [← hW3]
        clear hW3
        obtain ⟨L, hL⟩ : ∃ L, L = (bb (ls.take t)).take P := ⟨_, rfl⟩
        rw [← hL] at HI2
        have HLD : Hid (L = (bb (ls.take t)).take P) := hL
        have HGG : Hid (g < w2.heap.size) := HG.out.2
        refine' rangeOver (gf := 17) (lb := #[.pointer (some ⟨g, 0, none⟩)]) rfl (enters_of Try.func17 (by kernel_rfl) rfl) (fun x : Handed => #[.int .i64 (x.at_ : Int), .slice x.a x.m x.c]) (fun _ => rfl) (fun s x => s + x.m + 12)
          (fun s x A => Lies L P (W3.heap.size + 2) s x A) (fun A B => Held (W3.heap.size + 2) A B) (fun s => s ≤ P ∧ errOf (L.drop s) ≠ 0) (LawInv ls t w2) ?inv (fun A B o o' h => held_put (by omega) h) (fun s x A o h => lies_put (by omega) h) ?start _ ?assign ?body ?iter ?done
        case inv =>
          rintro s A B ⟨i, h1, h2, h3, h4, h5⟩ hb
          rw [HS3.out] at hb
          exact ⟨i, h1, h2, (hb.block _ (by omega)).trans h3, h4.trans (hb.mono (by omega)), Nat.le_trans h5 hb.size⟩
        case start =>
          exact ⟨0, Nat.zero_le _, (E_zero _).symm, HN3.out, HB3.out, by rw [HS3.out]; exact Nat.le_refl _⟩
        case assign =>
          intro x A K hK
          gi_wp2
          exact hK
        case iter =>
          intro J W' hS' hB' hJb hJI hY hJ0
          exact all1_in (9 - 1) _ g a2 P c2 L (by have h1 := HPN.out; have h2 := HK.out.nb_le; omega) (W3.heap.size + 2) J hJb (fun s A hj => by
              obtain ⟨⟨i, h1, h2, h3, h4, h5⟩, h6⟩ := hJI s A hj
              exact ⟨(h4.cell (p := ⟨g, 0, none⟩) HGG.out).trans HC.out, HI2.out.below h4, h6⟩)
            (fun s x A hj hp => YieldAt.deep 0 (hY s x A hj hp)) W' hS' hJ0
        case body =>
          rintro s x A ⟨i, hi, hs, hbx, hbel, hsz⟩ ⟨⟨hat, he, hm, hle⟩, hin, hg⟩ hlt
          subst hs
          have HLT3 : Hid (W3.heap.size + 1 < A.heap.size) := hlt
          clear hlt
          have hlenx : (ls.take t).length = t := by rw [List.length_take, HLL.out]; exact Nat.min_eq_left HK.out.le
          rw [HLD.out] at he hm hin
          obtain ⟨hix, hEP, hnm, hbd⟩ := (at_frame (ls.take t) P i (fun y hy => by have := HK.out.short y hy; omega) (by rw [hlenx]; exact hi)).1 he
          have hit : i < t := by rw [hlenx] at hix; exact hix
          have hils : i < ls.length := by have := HK.out.le; rw [HLL.out]; omega
          have hxi : (ls.take t)[i] = ls[i] := List.getElem_take
          rw [hbd, hxi] at hin
          have HIN : Hid (In A x.a x.m x.c ls[i]) := hin
          have hsw := HK.out.size
          have hs2 := HB2.out.size
          rw [World.size_alloc] at hs2
          have hblk : ∀ b, b < wr.heap.size → A.heap[b]? = wr.heap[b]? := fun b hb => (hbel.block b (by omega)).trans ((HB2.out.block b (by rw [World.size_alloc]; omega)).trans (Below.heap_alloc _ _ _ hb))
          have hBA : Below wr.heap.size wr A := ⟨hbel.os.trans HB2.out.os, hbel.tape.trans HB2.out.tape, hbel.output.trans HB2.out.output, by have := hbel.size; omega, hblk⟩
          have cI := (cell_box hbx).1
          have fI := (cell_box hbx).2
          have cE : A.cell? ⟨w.heap.size + 1 + 1, 0, none⟩ = some (.slice ae t ce) := cell_one ((hblk _ (by omega)).trans HK.out.box2)
          have cL : A.cell? ⟨w.heap.size, 0, none⟩ = some (.slice _ len cap) := cell_one ((hblk _ (by omega)).trans HK.out.box0)
          have cN : A.cell? ⟨wr.heap.size, 0, none⟩ = some (.int .i64 (P : Int)) := cell_one ((hbel.block _ (by omega)).trans ((HB2.out.block _ (by rw [World.size_alloc]; omega)).trans (heap_alloc_new wr _)))
          obtain ⟨bl, ol, Ar, Lr, Cr, y, hae, hy, hcy, hAy⟩ := ((HL.out.below HK.out.below).below hBA).row i (by have := HK.out.le; omega)
          cases hae
          have hye : ls[i] = y := by rw [List.getElem?_eq_getElem hils] at hy; exact Option.some.inj hy
          have HIY : Hid (In A Ar Lr Cr y) := hAy.toIn (by have h1 := HROWS.out ls[i] (List.getElem_mem hils); rw [hye] at h1; have h2 := hAy.1; omega)
          obtain ⟨ge, cge, hve, hge1, hge2⟩ : ∃ ge c', (Value.slice ae t ce) = .slice (some ⟨ge, 0, none⟩) t c' ∧ w.heap.size + 3 ≤ ge ∧ ge < wr.heap.size := by
            rcases HK.out.ends.2 with ⟨_, h0⟩ | ⟨g', c', cur, e1, e2, e3, _⟩
            · omega
            · exact ⟨g', c', e1, e2, lt_of_block e3⟩
          cases hve
          have cEi : A.cell? ⟨ge, i, none⟩ = some (.int .i64 (E ls (i + 1) : Int)) := by
            have e1 := World.ownsRow.cellAt HK.out.ends i (by omega)
            have e2 : (endsOf ls t)[i]? = some (.int .i64 (E ls (i + 1) : Int)) := by simp [endsOf, hit]
            exact (hBA.cell (p := ⟨ge, i, none⟩) hge2).trans (e1.trans e2)
          have hEi : E ls (i + 1) ≤ P := by rw [← E_take ls t (i + 1) (by omega)]; exact hEP
          obtain ⟨EE, hEE⟩ : ∃ EE, EE = E ls (i + 1) := ⟨_, rfl⟩
          rw [← hEE] at cEi hEi
          obtain ⟨SS, hSS⟩ : ∃ S : ByteArray, S = ⟨y.toArray⟩ := ⟨_, rfl⟩
          have k1 : ∀ W, In W x.a x.m x.c y → (convert 22 9 (.slice x.a x.m x.c)).run Try.prog W = .ok (.string SS) W := fun W h => by rw [hSS]; exact string_in Try.underlying22 Try.underlying5 Try.underlying9 h
          have k2 : ∀ W, In W Ar Lr Cr y → (convert 22 9 (.slice Ar Lr Cr)).run Try.prog W = .ok (.string SS) W := fun W h => by rw [hSS]; exact string_in Try.underlying22 Try.underlying5 Try.underlying9 h
          rw [hye] at HIN
          have j1 := k1 A.drew (show In A.drew _ _ _ _ from HIN.out)
          have j2 := k2 A.drew (show In A.drew _ _ _ _ from HIY.out)
          have q5 : (i : Int) < (t : Int) := by omega
          have q6 : (EE : Int) ≤ (P : Int) := by omega
          have q7 : (i : Int) < (len : Int) := by have := HK.out.le; omega
          have hmx : Try.prog.follows .mixedOrders = true := by kernel_rfl
          have hxm : x.m = y.length := by rw [← hm, hnm, hxi, hye]
          have HNX : Hid (E (ls.take t) i + x.m + 12 = E (ls.take t) (i + 1)) := by show _ = _; rw [E_succ (ls.take t) i (by rw [hlenx]; exact hit), hxi, hye, hxm]
          clear hEE hSS hxm hye hxi hnm hbd hm he hlenx k1 k2
          gi_wp2
          refine region_round (fun W => W.cell? ⟨w2.heap.size, 0, none⟩ = some (.int .i64 (i : Int)) ∧ W.cell? ⟨w.heap.size + 1 + 1, 0, none⟩ = some (.slice (some ⟨ge, 0, none⟩) t ce) ∧ W.cell? ⟨ge, i, none⟩ = some (.int .i64 (EE : Int)) ∧ W.cell? ⟨wr.heap.size, 0, none⟩ = some (.int .i64 (P : Int)) ∧ W.cell? ⟨w.heap.size, 0, none⟩ = some (.slice (some ⟨bl, ol, none⟩) len cap) ∧ W.cell? ⟨bl, ol + i, none⟩ = some (.slice Ar Lr Cr) ∧ (convert 22 9 (.slice x.a x.m x.c)).run Try.prog W = .ok (.string SS) W ∧ (convert 22 9 (.slice Ar Lr Cr)).run Try.prog W = .ok (.string SS) W) hmx (nodefer_of (by kernel_rfl)) (by rintro ⟨_, _, h⟩; cases h.1) ?_
          have hS : A.drew.cell? ⟨w2.heap.size, 0, none⟩ = some (.int .i64 (i : Int)) ∧ A.drew.cell? ⟨w.heap.size + 1 + 1, 0, none⟩ = some (.slice (some ⟨ge, 0, none⟩) t ce) ∧ A.drew.cell? ⟨ge, i, none⟩ = some (.int .i64 (EE : Int)) ∧ A.drew.cell? ⟨wr.heap.size, 0, none⟩ = some (.int .i64 (P : Int)) ∧ A.drew.cell? ⟨w.heap.size, 0, none⟩ = some (.slice (some ⟨bl, ol, none⟩) len cap) ∧ A.drew.cell? ⟨bl, ol + i, none⟩ = some (.slice Ar Lr Cr) ∧ (convert 22 9 (.slice x.a x.m x.c)).run Try.prog A.drew = .ok (.string SS) A.drew ∧ (convert 22 9 (.slice Ar Lr Cr)).run Try.prog A.drew = .ok (.string SS) A.drew := ⟨cI, cE, cEi, cN, cL, hcy, j1, j2⟩
          refine wpAnyH_take (i := 0) (oi := { dst := some 74, op := Op.load 3 (Operand.tmp 13), type := 3, pos := "law.go:94", after := #[], guard := none }) (v := .int .i64 (i : Int)) rfl (by kernel_rfl) (by kernel_rfl) (by kernel_rfl) (fun _ _ _ h => h) (Or.inl ⟨by rfl, ?y0⟩) hS ?_
          case y0 =>
            intro W hW
            obtain ⟨s1, s2, s3, s4, s5, s6, s7, s8⟩ := hW
            go_simp
          simp only [Act.put, List.setIfInBounds_toArray, List.set_cons_zero, List.set_cons_succ]
          refine wpAnyH_take (i := 1) (oi := { dst := some 75, op := Op.load 35 (Operand.tmp 6), type := 35, pos := "law.go:94", after := #[], guard := none }) (v := .slice (some ⟨ge, 0, none⟩) t ce) rfl (by kernel_rfl) (by kernel_rfl) (by kernel_rfl) (fun _ _ _ h => h) (Or.inl ⟨by rfl, ?y1⟩) hS ?_
          case y1 =>
            intro W hW
            obtain ⟨s1, s2, s3, s4, s5, s6, s7, s8⟩ := hW
            go_simp
          simp only [Act.put, List.setIfInBounds_toArray, List.set_cons_zero, List.set_cons_succ]
          refine wpAnyH_take (i := 2) (oi := { dst := some 76, op := Op.call { callee := Callee.builtin Builtin.len, args := #[Operand.tmp 75], argTypes := #[35] }, type := 3, pos := "law.go:94", after := #[{ on := 1, ground := Ground.data }], guard := none }) (v := .int .i64 (t : Int)) rfl (by kernel_rfl) (by kernel_rfl) (by kernel_rfl) (fun _ _ _ h => h) (Or.inl ⟨by rfl, ?y2⟩) hS ?_
          case y2 =>
            intro W hW
            obtain ⟨s1, s2, s3, s4, s5, s6, s7, s8⟩ := hW
            go_simp
          simp only [Act.put, List.setIfInBounds_toArray, List.set_cons_zero, List.set_cons_succ]
          refine wpAnyH_take (i := 3) (oi := { dst := some 77, op := Op.binOp BinOp.geq 3 (Operand.tmp 74) (Operand.tmp 76) 3, type := 4, pos := "law.go:94", after := #[{ on := 0, ground := Ground.data }, { on := 2, ground := Ground.data }], guard := none }) (v := .bool false) rfl (by kernel_rfl) (by kernel_rfl) (by kernel_rfl) (fun _ _ _ h => h) (Or.inl ⟨by rfl, ?y3⟩) hS ?_
          case y3 =>
            intro W hW
            obtain ⟨s1, s2, s3, s4, s5, s6, s7, s8⟩ := hW
            go_simp
          simp only [Act.put, List.setIfInBounds_toArray, List.set_cons_zero, List.set_cons_succ]
          refine wpAnyH_take (i := 4) (oi := { dst := some 78, op := Op.move (Operand.tmp 77), type := 4, pos := "law.go:94", after := #[{ on := 3, ground := Ground.data }], guard := none }) (v := .bool false) rfl (by kernel_rfl) (by kernel_rfl) (by kernel_rfl) (fun _ _ _ h => h) (Or.inl ⟨by rfl, ?y4⟩) hS ?_
          case y4 =>
            intro W hW
            obtain ⟨s1, s2, s3, s4, s5, s6, s7, s8⟩ := hW
            go_simp
          simp only [Act.put, List.setIfInBounds_toArray, List.set_cons_zero, List.set_cons_succ]
          refine wpAnyH_take (i := 5) (oi := { dst := some 79, op := Op.load 35 (Operand.tmp 6), type := 35, pos := "law.go:94", after := #[{ on := 4, ground := Ground.guard }], guard := some (4, false) }) (v := .slice (some ⟨ge, 0, none⟩) t ce) rfl (by kernel_rfl) (by kernel_rfl) (by kernel_rfl) (fun _ _ _ h => h) (Or.inl ⟨by rfl, ?y5⟩) hS ?_
          case y5 =>
            intro W hW
            obtain ⟨s1, s2, s3, s4, s5, s6, s7, s8⟩ := hW
            go_simp
          simp only [Act.put, List.setIfInBounds_toArray, List.set_cons_zero, List.set_cons_succ]
          refine wpAnyH_take (i := 6) (oi := { dst := some 80, op := Op.load 3 (Operand.tmp 13), type := 3, pos := "law.go:94", after := #[{ on := 4, ground := Ground.guard }], guard := some (4, false) }) (v := .int .i64 (i : Int)) rfl (by kernel_rfl) (by kernel_rfl) (by kernel_rfl) (fun _ _ _ h => h) (Or.inl ⟨by rfl, ?y6⟩) hS ?_
          case y6 =>
            intro W hW
            obtain ⟨s1, s2, s3, s4, s5, s6, s7, s8⟩ := hW
            go_simp
          simp only [Act.put, List.setIfInBounds_toArray, List.set_cons_zero, List.set_cons_succ]
          refine wpAnyH_take (i := 7) (oi := { dst := some 81, op := Op.indexAddr 35 (Operand.tmp 79) (Operand.tmp 80), type := 0, pos := "law.go:94", after := #[{ on := 5, ground := Ground.data }, { on := 6, ground := Ground.data }, { on := 4, ground := Ground.guard }], guard := some (4, false) }) (v := .pointer (some ⟨ge, i, none⟩)) rfl (by kernel_rfl) (by kernel_rfl) (by kernel_rfl) (fun _ _ _ h => h) (Or.inl ⟨by rfl, ?y7⟩) hS ?_
          case y7 =>
            intro W hW
            obtain ⟨s1, s2, s3, s4, s5, s6, s7, s8⟩ := hW
            go_simp
          simp only [Act.put, List.setIfInBounds_toArray, List.set_cons_zero, List.set_cons_succ]
          refine wpAnyH_take (i := 8) (oi := { dst := some 82, op := Op.load 3 (Operand.tmp 81), type := 3, pos := "law.go:94", after := #[{ on := 7, ground := Ground.data }, { on := 4, ground := Ground.guard }], guard := some (4, false) }) (v := .int .i64 (EE : Int)) rfl (by kernel_rfl) (by kernel_rfl) (by kernel_rfl) (fun _ _ _ h => h) (Or.inl ⟨by rfl, ?y8⟩) hS ?_
          case y8 =>
            intro W hW
            obtain ⟨s1, s2, s3, s4, s5, s6, s7, s8⟩ := hW
            go_simp
          simp only [Act.put, List.setIfInBounds_toArray, List.set_cons_zero, List.set_cons_succ]
          refine wpAnyH_take (i := 9) (oi := { dst := some 83, op := Op.load 3 (Operand.tmp 11), type := 3, pos := "law.go:94", after := #[{ on := 4, ground := Ground.guard }], guard := some (4, false) }) (v := .int .i64 (P : Int)) rfl (by kernel_rfl) (by kernel_rfl) (by kernel_rfl) (fun _ _ _ h => h) (Or.inl ⟨by rfl, ?y9⟩) hS ?_
          case y9 =>
            intro W hW
            obtain ⟨s1, s2, s3, s4, s5, s6, s7, s8⟩ := hW
            go_simp
          simp only [Act.put, List.setIfInBounds_toArray, List.set_cons_zero, List.set_cons_succ]
          refine wpAnyH_take (i := 10) (oi := { dst := some 84, op := Op.binOp BinOp.gtr 3 (Operand.tmp 82) (Operand.tmp 83) 3, type := 4, pos := "law.go:94", after := #[{ on := 8, ground := Ground.data }, { on := 9, ground := Ground.data }, { on := 4, ground := Ground.guard }], guard := some (4, false) }) (v := .bool false) rfl (by kernel_rfl) (by kernel_rfl) (by kernel_rfl) (fun _ _ _ h => h) (Or.inl ⟨by rfl, ?y10⟩) hS ?_
          case y10 =>
            intro W hW
            obtain ⟨s1, s2, s3, s4, s5, s6, s7, s8⟩ := hW
            go_simp
          simp only [Act.put, List.setIfInBounds_toArray, List.set_cons_zero, List.set_cons_succ]
          refine wpAnyH_take (i := 11) (oi := { dst := some 85, op := Op.pick (Operand.tmp 78) (Operand.const (Value.bool true)) (Operand.tmp 84), type := 4, pos := "law.go:94", after := #[{ on := 4, ground := Ground.data }, { on := 10, ground := Ground.data }], guard := none }) (v := .bool false) rfl (by kernel_rfl) (by kernel_rfl) (by kernel_rfl) (fun _ _ _ h => h) (Or.inl ⟨by rfl, ?y11⟩) hS ?_
          case y11 =>
            intro W hW
            obtain ⟨s1, s2, s3, s4, s5, s6, s7, s8⟩ := hW
            go_simp
          simp only [Act.put, List.setIfInBounds_toArray, List.set_cons_zero, List.set_cons_succ]
          refine wpAnyH_take (i := 12) (oi := { dst := some 86, op := Op.move (Operand.tmp 85), type := 4, pos := "law.go:94", after := #[{ on := 11, ground := Ground.data }, { on := 4, ground := Ground.chain }], guard := none }) (v := .bool false) rfl (by kernel_rfl) (by kernel_rfl) (by kernel_rfl) (fun _ _ _ h => h) (Or.inl ⟨by rfl, ?y12⟩) hS ?_
          case y12 =>
            intro W hW
            obtain ⟨s1, s2, s3, s4, s5, s6, s7, s8⟩ := hW
            go_simp
          simp only [Act.put, List.setIfInBounds_toArray, List.set_cons_zero, List.set_cons_succ]
          refine wpAnyH_take (i := 13) (oi := { dst := some 87, op := Op.move (Operand.tmp 15), type := 22, pos := "law.go:94", after := #[{ on := 12, ground := Ground.guard }], guard := some (12, false) }) (v := .slice x.a x.m x.c) rfl (by kernel_rfl) (by kernel_rfl) (by kernel_rfl) (fun _ _ _ h => h) (Or.inl ⟨by rfl, ?y13⟩) hS ?_
          case y13 =>
            intro W hW
            obtain ⟨s1, s2, s3, s4, s5, s6, s7, s8⟩ := hW
            go_simp
          simp only [Act.put, List.setIfInBounds_toArray, List.set_cons_zero, List.set_cons_succ]
          refine wpAnyH_take (i := 14) (oi := { dst := some 88, op := Op.convert 22 9 (Operand.tmp 87), type := 9, pos := "law.go:94", after := #[{ on := 13, ground := Ground.data }, { on := 12, ground := Ground.guard }], guard := some (12, false) }) (v := .string SS) rfl (by kernel_rfl) (by kernel_rfl) (by kernel_rfl) (fun _ _ _ h => h) (Or.inl ⟨by rfl, ?y14⟩) hS ?_
          case y14 =>
            intro W hW
            obtain ⟨s1, s2, s3, s4, s5, s6, s7, s8⟩ := hW
            go_simp
          simp only [Act.put, List.setIfInBounds_toArray, List.set_cons_zero, List.set_cons_succ]
          refine wpAnyH_take (i := 15) (oi := { dst := some 89, op := Op.load 29 (Operand.tmp 2), type := 29, pos := "law.go:94", after := #[{ on := 12, ground := Ground.guard }], guard := some (12, false) }) (v := .slice (some ⟨bl, ol, none⟩) len cap) rfl (by kernel_rfl) (by kernel_rfl) (by kernel_rfl) (fun _ _ _ h => h) (Or.inl ⟨by rfl, ?y15⟩) hS ?_
          case y15 =>
            intro W hW
            obtain ⟨s1, s2, s3, s4, s5, s6, s7, s8⟩ := hW
            go_simp
          simp only [Act.put, List.setIfInBounds_toArray, List.set_cons_zero, List.set_cons_succ]
          refine wpAnyH_take (i := 16) (oi := { dst := some 90, op := Op.load 3 (Operand.tmp 13), type := 3, pos := "law.go:94", after := #[{ on := 12, ground := Ground.guard }], guard := some (12, false) }) (v := .int .i64 (i : Int)) rfl (by kernel_rfl) (by kernel_rfl) (by kernel_rfl) (fun _ _ _ h => h) (Or.inl ⟨by rfl, ?y16⟩) hS ?_
          case y16 =>
            intro W hW
            obtain ⟨s1, s2, s3, s4, s5, s6, s7, s8⟩ := hW
            go_simp
          simp only [Act.put, List.setIfInBounds_toArray, List.set_cons_zero, List.set_cons_succ]
          refine wpAnyH_take (i := 17) (oi := { dst := some 91, op := Op.indexAddr 29 (Operand.tmp 89) (Operand.tmp 90), type := 0, pos := "law.go:94", after := #[{ on := 15, ground := Ground.data }, { on := 16, ground := Ground.data }, { on := 12, ground := Ground.guard }], guard := some (12, false) }) (v := .pointer (some ⟨bl, ol + i, none⟩)) rfl (by kernel_rfl) (by kernel_rfl) (by kernel_rfl) (fun _ _ _ h => h) (Or.inl ⟨by rfl, ?y17⟩) hS ?_
          case y17 =>
            intro W hW
            obtain ⟨s1, s2, s3, s4, s5, s6, s7, s8⟩ := hW
            go_simp
          simp only [Act.put, List.setIfInBounds_toArray, List.set_cons_zero, List.set_cons_succ]
          refine wpAnyH_take (i := 18) (oi := { dst := some 92, op := Op.load 22 (Operand.tmp 91), type := 22, pos := "law.go:94", after := #[{ on := 17, ground := Ground.data }, { on := 12, ground := Ground.guard }], guard := some (12, false) }) (v := .slice Ar Lr Cr) rfl (by kernel_rfl) (by kernel_rfl) (by kernel_rfl) (fun _ _ _ h => h) (Or.inl ⟨by rfl, ?y18⟩) hS ?_
          case y18 =>
            intro W hW
            obtain ⟨s1, s2, s3, s4, s5, s6, s7, s8⟩ := hW
            go_simp
          simp only [Act.put, List.setIfInBounds_toArray, List.set_cons_zero, List.set_cons_succ]
          refine wpAnyH_take (i := 19) (oi := { dst := some 93, op := Op.convert 22 9 (Operand.tmp 92), type := 9, pos := "law.go:94", after := #[{ on := 18, ground := Ground.data }, { on := 12, ground := Ground.guard }], guard := some (12, false) }) (v := .string SS) rfl (by kernel_rfl) (by kernel_rfl) (by kernel_rfl) (fun _ _ _ h => h) (Or.inl ⟨by rfl, ?y19⟩) hS ?_
          case y19 =>
            intro W hW
            obtain ⟨s1, s2, s3, s4, s5, s6, s7, s8⟩ := hW
            go_simp
          simp only [Act.put, List.setIfInBounds_toArray, List.set_cons_zero, List.set_cons_succ]
          refine wpAnyH_take (i := 20) (oi := { dst := some 94, op := Op.binOp BinOp.neq 9 (Operand.tmp 88) (Operand.tmp 93) 9, type := 4, pos := "law.go:94", after := #[{ on := 14, ground := Ground.data }, { on := 19, ground := Ground.data }, { on := 12, ground := Ground.guard }], guard := some (12, false) }) (v := .bool false) rfl (by kernel_rfl) (by kernel_rfl) (by kernel_rfl) (fun _ _ _ h => h) (Or.inl ⟨by rfl, ?y20⟩) hS ?_
          case y20 =>
            intro W hW
            obtain ⟨s1, s2, s3, s4, s5, s6, s7, s8⟩ := hW
            go_simp
          simp only [Act.put, List.setIfInBounds_toArray, List.set_cons_zero, List.set_cons_succ]
          refine wpAnyH_take (i := 21) (oi := { dst := some 95, op := Op.pick (Operand.tmp 86) (Operand.const (Value.bool true)) (Operand.tmp 94), type := 4, pos := "law.go:94", after := #[{ on := 12, ground := Ground.data }, { on := 20, ground := Ground.data }], guard := none }) (v := .bool false) rfl (by kernel_rfl) (by kernel_rfl) (by kernel_rfl) (fun _ _ _ h => h) (Or.inl ⟨by rfl, ?y21⟩) hS ?_
          case y21 =>
            intro W hW
            obtain ⟨s1, s2, s3, s4, s5, s6, s7, s8⟩ := hW
            go_simp
          simp only [Act.put, List.setIfInBounds_toArray, List.set_cons_zero, List.set_cons_succ]
          refine wpAnyH_done (by kernel_rfl) ?_ _
          gi_wp2
          have hoth : ∀ b, b ≠ w2.heap.size → (A.setCell ⟨w2.heap.size, 0, none⟩ (.int .i64 ((i : Int) + 1))).drew.heap[b]? = A.heap[b]? := fun b hb => heap_setCell_other A ⟨w2.heap.size, 0, none⟩ b _ hb
          have h3s := HS3.out
          have hsame : (A.setCell ⟨w2.heap.size, 0, none⟩ (.int .i64 ((i : Int) + 1))).drew.heap[w2.heap.size]? = some (.cells #[.int .i64 ((i + 1 : Nat) : Int)] 3) := heap_setCell_same A w2.heap.size 0 #[.int .i64 (i : Int)] 3 (.int .i64 ((i : Int) + 1)) hbx
          refine ⟨⟨i + 1, hit, HNX.out, hsame, (hbel.setCell (p := ⟨w2.heap.size, 0, none⟩) (Nat.le_refl _) _).trans (below_drewN _ _ 1), by simpa using hsz⟩, ⟨by simp, fun b _ hb => hoth b (by omega)⟩, hoth _ (by omega), hoth _ (by omega)⟩
        case done =>
          rintro s A ⟨i, hi, hs, hbx, hbel, hsz⟩ ⟨hsP, hne⟩ hKD
          subst hs
          have hlenx : (ls.take t).length = t := by rw [List.length_take, HLL.out]; exact Nat.min_eq_left HK.out.le
          rw [HLD.out] at hne
          have hend := (at_frame (ls.take t) P i (fun y hy => by have := HK.out.short y hy; omega) (by rw [hlenx]; exact hi)).2 hne
          rw [hlenx] at hend
          have hsw := HK.out.size
          have hs2 := HB2.out.size
          rw [World.size_alloc] at hs2
          have h3s := HS3.out
          have hblk : ∀ b, b < wr.heap.size → A.heap[b]? = wr.heap[b]? := fun b hb => (hbel.block b (by omega)).trans ((HB2.out.block b (by rw [World.size_alloc]; omega)).trans (Below.heap_alloc _ _ _ hb))
          have hBA : Below wr.heap.size wr A := ⟨hbel.os.trans HB2.out.os, hbel.tape.trans HB2.out.tape, hbel.output.trans HB2.out.output, by have := hbel.size; omega, hblk⟩
          have HBA : Hid (Below w.heap.size w A) := HK.out.below.trans (hBA.mono (by omega))
          have cI := (cell_box hbx).1
          have cE : A.cell? ⟨w.heap.size + 1 + 1, 0, none⟩ = some (.slice ae t ce) := cell_one ((hblk _ (by omega)).trans HK.out.box2)
          have cN : A.cell? ⟨wr.heap.size, 0, none⟩ = some (.int .i64 (P : Int)) := cell_one ((hbel.block _ (by omega)).trans ((HB2.out.block _ (by rw [World.size_alloc]; omega)).trans (heap_alloc_new wr _)))
          have HR : Hid (A.heap[w.heap.size + 1]? = some (.cells #[.bool false] 4)) := (hblk _ (by omega)).trans HK.out.box1
          have HKD : Hid (A.heap[W3.heap.size]? = some (.deferred (some []))) := hKD
          have HLA : Hid (W3.heap.size < A.heap.size) := (Array.getElem?_eq_some_iff.1 hKD).1
          have HWS : Hid (w.heap.size + 3 ≤ wr.heap.size ∧ wr.heap.size < w2.heap.size) := ⟨hsw, by omega⟩
          clear hKD hbx hbel hsz hne hlenx
          by_cases hit : i = t
          · gi_wp2
            refine wpIn_wide.2 ?_
            refine last_all cI cE HR.out (by omega) (by omega) hit ?_
            rintro ⟨tm, df⟩ w9 h1 h2 h3
            dsimp only at h1 h2
            subst h1
            gi_wp2
            exact leaves_last HBA.out h3 (by omega) HKD.out HR.out h2
          · have hit' : i < t := by omega
            have hPE : P < E (ls.take t) (i + 1) := hend.resolve_left hit
            rw [E_take ls t (i + 1) (by omega)] at hPE
            obtain ⟨ge, cge, hve, hge1, hge2⟩ : ∃ ge c', (Value.slice ae t ce) = .slice (some ⟨ge, 0, none⟩) t c' ∧ w.heap.size + 3 ≤ ge ∧ ge < wr.heap.size := by
              rcases HK.out.ends.2 with ⟨_, h0⟩ | ⟨g', c', cur, e1, e2, e3, _⟩
              · omega
              · exact ⟨g', c', e1, e2, lt_of_block e3⟩
            cases hve
            have cEi : A.cell? ⟨ge, i, none⟩ = some (.int .i64 (E ls (i + 1) : Int)) := by
              have e1 := World.ownsRow.cellAt HK.out.ends i (by omega)
              have e2 : (endsOf ls t)[i]? = some (.int .i64 (E ls (i + 1) : Int)) := by simp [endsOf, hit']
              exact (hBA.cell (p := ⟨ge, i, none⟩) hge2).trans (e1.trans e2)
            gi_wp2
            refine wpIn_wide.2 ?_
            refine last_cut cI cE HR.out (by omega) (by omega) hit' cN cEi hPE (by omega) (by omega) ?_
            rintro ⟨tm, df⟩ w9 h1 h2 h3
            dsimp only at h1 h2
            subst h1
            gi_wp2
            exact leaves_last HBA.out h3 (by omega) HKD.out HR.out h2
      · have q2 : (nb : Int) + (Lx : Int) ≤ 20000 := by omega
        by_cases hfew : 50 < t
        · have q3 : (50 : Int) < (t : Int) := by omega
          gi_wp2_with (first
            | (refine ⟨trivial, ?_⟩; gi_at_call 10; refine (callsIn_wide.2 (all_is ((bb (ls.take t)).take P) ab P cb (wr.alloc (.cells #[.int .i64 (P : Int)] 3)) (HPX.out.below ((Below.refl _ wr).alloc (Nat.le_refl _) _)) (by have h1 := HPN.out; have h2 := HK.out.nb_le; omega))).mono ?_; rintro e w2 ⟨g, a2, c2, rfl, HG, HC, HI2, HB2⟩)
            | fail)
          obtain ⟨W3, hW3⟩ : ∃ W3, W3 = w2.alloc (.cells #[.int .i64 0] 3) := ⟨_, rfl⟩
          have HS3 : Hid (W3.heap.size = w2.heap.size + 1) := by show _ = _; rw [hW3]; simp
          have HN3 : Hid (W3.heap[w2.heap.size]? = some (.cells #[.int .i64 0] 3)) := by show _ = _; rw [hW3]; exact heap_alloc_new w2 _
          have HB3 : Hid (Below w2.heap.size w2 W3) := by rw [hW3]; exact (Below.refl _ w2).alloc (Nat.le_refl _) _
          rw [← hW3]
          clear hW3
          obtain ⟨L, hL⟩ : ∃ L, L = (bb (ls.take t)).take P := ⟨_, rfl⟩
          rw [← hL] at HI2
          have HLD : Hid (L = (bb (ls.take t)).take P) := hL
          have HGG : Hid (g < w2.heap.size) := HG.out.2
          refine' rangeOver (gf := 17) (lb := #[.pointer (some ⟨g, 0, none⟩)]) rfl (enters_of Try.func17 (by kernel_rfl) rfl) (fun x : Handed => #[.int .i64 (x.at_ : Int), .slice x.a x.m x.c]) (fun _ => rfl) (fun s x => s + x.m + 12)
            (fun s x A => Lies L P (W3.heap.size + 2) s x A) (fun A B => Held (W3.heap.size + 2) A B) (fun s => s ≤ P ∧ errOf (L.drop s) ≠ 0) (LawInv ls t w2) ?inv (fun A B o o' h => held_put (by omega) h) (fun s x A o h => lies_put (by omega) h) ?start _ ?assign ?body ?iter ?done
          case inv =>
            rintro s A B ⟨i, h1, h2, h3, h4, h5⟩ hb
            rw [HS3.out] at hb
            exact ⟨i, h1, h2, (hb.block _ (by omega)).trans h3, h4.trans (hb.mono (by omega)), Nat.le_trans h5 hb.size⟩
          case start =>
            exact ⟨0, Nat.zero_le _, (E_zero _).symm, HN3.out, HB3.out, by rw [HS3.out]; exact Nat.le_refl _⟩
          case assign =>
            intro x A K hK
            gi_wp2
            exact hK
          case iter =>
            intro J W' hS' hB' hJb hJI hY hJ0
            exact all1_in (9 - 1) _ g a2 P c2 L (by have h1 := HPN.out; have h2 := HK.out.nb_le; omega) (W3.heap.size + 2) J hJb (fun s A hj => by
                obtain ⟨⟨i, h1, h2, h3, h4, h5⟩, h6⟩ := hJI s A hj
                exact ⟨(h4.cell (p := ⟨g, 0, none⟩) HGG.out).trans HC.out, HI2.out.below h4, h6⟩)
              (fun s x A hj hp => YieldAt.deep 0 (hY s x A hj hp)) W' hS' hJ0
          case body =>
            rintro s x A ⟨i, hi, hs, hbx, hbel, hsz⟩ ⟨⟨hat, he, hm, hle⟩, hin, hg⟩ hlt
            subst hs
            have HLT3 : Hid (W3.heap.size + 1 < A.heap.size) := hlt
            clear hlt
            have hlenx : (ls.take t).length = t := by rw [List.length_take, HLL.out]; exact Nat.min_eq_left HK.out.le
            rw [HLD.out] at he hm hin
            obtain ⟨hix, hEP, hnm, hbd⟩ := (at_frame (ls.take t) P i (fun y hy => by have := HK.out.short y hy; omega) (by rw [hlenx]; exact hi)).1 he
            have hit : i < t := by rw [hlenx] at hix; exact hix
            have hils : i < ls.length := by have := HK.out.le; rw [HLL.out]; omega
            have hxi : (ls.take t)[i] = ls[i] := List.getElem_take
            rw [hbd, hxi] at hin
            have HIN : Hid (In A x.a x.m x.c ls[i]) := hin
            have hsw := HK.out.size
            have hs2 := HB2.out.size
            rw [World.size_alloc] at hs2
            have hblk : ∀ b, b < wr.heap.size → A.heap[b]? = wr.heap[b]? := fun b hb => (hbel.block b (by omega)).trans ((HB2.out.block b (by rw [World.size_alloc]; omega)).trans (Below.heap_alloc _ _ _ hb))
            have hBA : Below wr.heap.size wr A := ⟨hbel.os.trans HB2.out.os, hbel.tape.trans HB2.out.tape, hbel.output.trans HB2.out.output, by have := hbel.size; omega, hblk⟩
            have cI := (cell_box hbx).1
            have fI := (cell_box hbx).2
            have cE : A.cell? ⟨w.heap.size + 1 + 1, 0, none⟩ = some (.slice ae t ce) := cell_one ((hblk _ (by omega)).trans HK.out.box2)
            have cL : A.cell? ⟨w.heap.size, 0, none⟩ = some (.slice _ len cap) := cell_one ((hblk _ (by omega)).trans HK.out.box0)
            have cN : A.cell? ⟨wr.heap.size, 0, none⟩ = some (.int .i64 (P : Int)) := cell_one ((hbel.block _ (by omega)).trans ((HB2.out.block _ (by rw [World.size_alloc]; omega)).trans (heap_alloc_new wr _)))
            obtain ⟨bl, ol, Ar, Lr, Cr, y, hae, hy, hcy, hAy⟩ := ((HL.out.below HK.out.below).below hBA).row i (by have := HK.out.le; omega)
            cases hae
            have hye : ls[i] = y := by rw [List.getElem?_eq_getElem hils] at hy; exact Option.some.inj hy
            have HIY : Hid (In A Ar Lr Cr y) := hAy.toIn (by have h1 := HROWS.out ls[i] (List.getElem_mem hils); rw [hye] at h1; have h2 := hAy.1; omega)
            obtain ⟨ge, cge, hve, hge1, hge2⟩ : ∃ ge c', (Value.slice ae t ce) = .slice (some ⟨ge, 0, none⟩) t c' ∧ w.heap.size + 3 ≤ ge ∧ ge < wr.heap.size := by
              rcases HK.out.ends.2 with ⟨_, h0⟩ | ⟨g', c', cur, e1, e2, e3, _⟩
              · omega
              · exact ⟨g', c', e1, e2, lt_of_block e3⟩
            cases hve
            have cEi : A.cell? ⟨ge, i, none⟩ = some (.int .i64 (E ls (i + 1) : Int)) := by
              have e1 := World.ownsRow.cellAt HK.out.ends i (by omega)
              have e2 : (endsOf ls t)[i]? = some (.int .i64 (E ls (i + 1) : Int)) := by simp [endsOf, hit]
              exact (hBA.cell (p := ⟨ge, i, none⟩) hge2).trans (e1.trans e2)
            have hEi : E ls (i + 1) ≤ P := by rw [← E_take ls t (i + 1) (by omega)]; exact hEP
            obtain ⟨EE, hEE⟩ : ∃ EE, EE = E ls (i + 1) := ⟨_, rfl⟩
            rw [← hEE] at cEi hEi
            obtain ⟨SS, hSS⟩ : ∃ S : ByteArray, S = ⟨y.toArray⟩ := ⟨_, rfl⟩
            have k1 : ∀ W, In W x.a x.m x.c y → (convert 22 9 (.slice x.a x.m x.c)).run Try.prog W = .ok (.string SS) W := fun W h => by rw [hSS]; exact string_in Try.underlying22 Try.underlying5 Try.underlying9 h
            have k2 : ∀ W, In W Ar Lr Cr y → (convert 22 9 (.slice Ar Lr Cr)).run Try.prog W = .ok (.string SS) W := fun W h => by rw [hSS]; exact string_in Try.underlying22 Try.underlying5 Try.underlying9 h
            rw [hye] at HIN
            have j1 := k1 A.drew (show In A.drew _ _ _ _ from HIN.out)
            have j2 := k2 A.drew (show In A.drew _ _ _ _ from HIY.out)
            have q5 : (i : Int) < (t : Int) := by omega
            have q6 : (EE : Int) ≤ (P : Int) := by omega
            have q7 : (i : Int) < (len : Int) := by have := HK.out.le; omega
            have hmx : Try.prog.follows .mixedOrders = true := by kernel_rfl
            have hxm : x.m = y.length := by rw [← hm, hnm, hxi, hye]
            have HNX : Hid (E (ls.take t) i + x.m + 12 = E (ls.take t) (i + 1)) := by show _ = _; rw [E_succ (ls.take t) i (by rw [hlenx]; exact hit), hxi, hye, hxm]
            clear hEE hSS hxm hye hxi hnm hbd hm he hlenx k1 k2
            gi_wp2
            refine region_round (fun W => W.cell? ⟨w2.heap.size, 0, none⟩ = some (.int .i64 (i : Int)) ∧ W.cell? ⟨w.heap.size + 1 + 1, 0, none⟩ = some (.slice (some ⟨ge, 0, none⟩) t ce) ∧ W.cell? ⟨ge, i, none⟩ = some (.int .i64 (EE : Int)) ∧ W.cell? ⟨wr.heap.size, 0, none⟩ = some (.int .i64 (P : Int)) ∧ W.cell? ⟨w.heap.size, 0, none⟩ = some (.slice (some ⟨bl, ol, none⟩) len cap) ∧ W.cell? ⟨bl, ol + i, none⟩ = some (.slice Ar Lr Cr) ∧ (convert 22 9 (.slice x.a x.m x.c)).run Try.prog W = .ok (.string SS) W ∧ (convert 22 9 (.slice Ar Lr Cr)).run Try.prog W = .ok (.string SS) W) hmx (nodefer_of (by kernel_rfl)) (by rintro ⟨_, _, h⟩; cases h.1) ?_
            have hS : A.drew.cell? ⟨w2.heap.size, 0, none⟩ = some (.int .i64 (i : Int)) ∧ A.drew.cell? ⟨w.heap.size + 1 + 1, 0, none⟩ = some (.slice (some ⟨ge, 0, none⟩) t ce) ∧ A.drew.cell? ⟨ge, i, none⟩ = some (.int .i64 (EE : Int)) ∧ A.drew.cell? ⟨wr.heap.size, 0, none⟩ = some (.int .i64 (P : Int)) ∧ A.drew.cell? ⟨w.heap.size, 0, none⟩ = some (.slice (some ⟨bl, ol, none⟩) len cap) ∧ A.drew.cell? ⟨bl, ol + i, none⟩ = some (.slice Ar Lr Cr) ∧ (convert 22 9 (.slice x.a x.m x.c)).run Try.prog A.drew = .ok (.string SS) A.drew ∧ (convert 22 9 (.slice Ar Lr Cr)).run Try.prog A.drew = .ok (.string SS) A.drew := ⟨cI, cE, cEi, cN, cL, hcy, j1, j2⟩
            refine wpAnyH_take (i := 0) (oi := { dst := some 74, op := Op.load 3 (Operand.tmp 13), type := 3, pos := "law.go:94", after := #[], guard := none }) (v := .int .i64 (i : Int)) rfl (by kernel_rfl) (by kernel_rfl) (by kernel_rfl) (fun _ _ _ h => h) (Or.inl ⟨by rfl, ?y0⟩) hS ?_
            case y0 =>
              intro W hW
              obtain ⟨s1, s2, s3, s4, s5, s6, s7, s8⟩ := hW
              go_simp
            simp only [Act.put, List.setIfInBounds_toArray, List.set_cons_zero, List.set_cons_succ]
            refine wpAnyH_take (i := 1) (oi := { dst := some 75, op := Op.load 35 (Operand.tmp 6), type := 35, pos := "law.go:94", after := #[], guard := none }) (v := .slice (some ⟨ge, 0, none⟩) t ce) rfl (by kernel_rfl) (by kernel_rfl) (by kernel_rfl) (fun _ _ _ h => h) (Or.inl ⟨by rfl, ?y1⟩) hS ?_
            case y1 =>
              intro W hW
              obtain ⟨s1, s2, s3, s4, s5, s6, s7, s8⟩ := hW
              go_simp
            simp only [Act.put, List.setIfInBounds_toArray, List.set_cons_zero, List.set_cons_succ]
            refine wpAnyH_take (i := 2) (oi := { dst := some 76, op := Op.call { callee := Callee.builtin Builtin.len, args := #[Operand.tmp 75], argTypes := #[35] }, type := 3, pos := "law.go:94", after := #[{ on := 1, ground := Ground.data }], guard := none }) (v := .int .i64 (t : Int)) rfl (by kernel_rfl) (by kernel_rfl) (by kernel_rfl) (fun _ _ _ h => h) (Or.inl ⟨by rfl, ?y2⟩) hS ?_
            case y2 =>
              intro W hW
              obtain ⟨s1, s2, s3, s4, s5, s6, s7, s8⟩ := hW
              go_simp
            simp only [Act.put, List.setIfInBounds_toArray, List.set_cons_zero, List.set_cons_succ]
            refine wpAnyH_take (i := 3) (oi := { dst := some 77, op := Op.binOp BinOp.geq 3 (Operand.tmp 74) (Operand.tmp 76) 3, type := 4, pos := "law.go:94", after := #[{ on := 0, ground := Ground.data }, { on := 2, ground := Ground.data }], guard := none }) (v := .bool false) rfl (by kernel_rfl) (by kernel_rfl) (by kernel_rfl) (fun _ _ _ h => h) (Or.inl ⟨by rfl, ?y3⟩) hS ?_
            case y3 =>
              intro W hW
              obtain ⟨s1, s2, s3, s4, s5, s6, s7, s8⟩ := hW
              go_simp
            simp only [Act.put, List.setIfInBounds_toArray, List.set_cons_zero, List.set_cons_succ]
            refine wpAnyH_take (i := 4) (oi := { dst := some 78, op := Op.move (Operand.tmp 77), type := 4, pos := "law.go:94", after := #[{ on := 3, ground := Ground.data }], guard := none }) (v := .bool false) rfl (by kernel_rfl) (by kernel_rfl) (by kernel_rfl) (fun _ _ _ h => h) (Or.inl ⟨by rfl, ?y4⟩) hS ?_
            case y4 =>
              intro W hW
              obtain ⟨s1, s2, s3, s4, s5, s6, s7, s8⟩ := hW
              go_simp
            simp only [Act.put, List.setIfInBounds_toArray, List.set_cons_zero, List.set_cons_succ]
            refine wpAnyH_take (i := 5) (oi := { dst := some 79, op := Op.load 35 (Operand.tmp 6), type := 35, pos := "law.go:94", after := #[{ on := 4, ground := Ground.guard }], guard := some (4, false) }) (v := .slice (some ⟨ge, 0, none⟩) t ce) rfl (by kernel_rfl) (by kernel_rfl) (by kernel_rfl) (fun _ _ _ h => h) (Or.inl ⟨by rfl, ?y5⟩) hS ?_
            case y5 =>
              intro W hW
              obtain ⟨s1, s2, s3, s4, s5, s6, s7, s8⟩ := hW
              go_simp
            simp only [Act.put, List.setIfInBounds_toArray, List.set_cons_zero, List.set_cons_succ]
            refine wpAnyH_take (i := 6) (oi := { dst := some 80, op := Op.load 3 (Operand.tmp 13), type := 3, pos := "law.go:94", after := #[{ on := 4, ground := Ground.guard }], guard := some (4, false) }) (v := .int .i64 (i : Int)) rfl (by kernel_rfl) (by kernel_rfl) (by kernel_rfl) (fun _ _ _ h => h) (Or.inl ⟨by rfl, ?y6⟩) hS ?_
            case y6 =>
              intro W hW
              obtain ⟨s1, s2, s3, s4, s5, s6, s7, s8⟩ := hW
              go_simp
            simp only [Act.put, List.setIfInBounds_toArray, List.set_cons_zero, List.set_cons_succ]
            refine wpAnyH_take (i := 7) (oi := { dst := some 81, op := Op.indexAddr 35 (Operand.tmp 79) (Operand.tmp 80), type := 0, pos := "law.go:94", after := #[{ on := 5, ground := Ground.data }, { on := 6, ground := Ground.data }, { on := 4, ground := Ground.guard }], guard := some (4, false) }) (v := .pointer (some ⟨ge, i, none⟩)) rfl (by kernel_rfl) (by kernel_rfl) (by kernel_rfl) (fun _ _ _ h => h) (Or.inl ⟨by rfl, ?y7⟩) hS ?_
            case y7 =>
              intro W hW
              obtain ⟨s1, s2, s3, s4, s5, s6, s7, s8⟩ := hW
              go_simp
            simp only [Act.put, List.setIfInBounds_toArray, List.set_cons_zero, List.set_cons_succ]
            refine wpAnyH_take (i := 8) (oi := { dst := some 82, op := Op.load 3 (Operand.tmp 81), type := 3, pos := "law.go:94", after := #[{ on := 7, ground := Ground.data }, { on := 4, ground := Ground.guard }], guard := some (4, false) }) (v := .int .i64 (EE : Int)) rfl (by kernel_rfl) (by kernel_rfl) (by kernel_rfl) (fun _ _ _ h => h) (Or.inl ⟨by rfl, ?y8⟩) hS ?_
            case y8 =>
              intro W hW
              obtain ⟨s1, s2, s3, s4, s5, s6, s7, s8⟩ := hW
              go_simp
            simp only [Act.put, List.setIfInBounds_toArray, List.set_cons_zero, List.set_cons_succ]
            refine wpAnyH_take (i := 9) (oi := { dst := some 83, op := Op.load 3 (Operand.tmp 11), type := 3, pos := "law.go:94", after := #[{ on := 4, ground := Ground.guard }], guard := some (4, false) }) (v := .int .i64 (P : Int)) rfl (by kernel_rfl) (by kernel_rfl) (by kernel_rfl) (fun _ _ _ h => h) (Or.inl ⟨by rfl, ?y9⟩) hS ?_
            case y9 =>
              intro W hW
              obtain ⟨s1, s2, s3, s4, s5, s6, s7, s8⟩ := hW
              go_simp
            simp only [Act.put, List.setIfInBounds_toArray, List.set_cons_zero, List.set_cons_succ]
            refine wpAnyH_take (i := 10) (oi := { dst := some 84, op := Op.binOp BinOp.gtr 3 (Operand.tmp 82) (Operand.tmp 83) 3, type := 4, pos := "law.go:94", after := #[{ on := 8, ground := Ground.data }, { on := 9, ground := Ground.data }, { on := 4, ground := Ground.guard }], guard := some (4, false) }) (v := .bool false) rfl (by kernel_rfl) (by kernel_rfl) (by kernel_rfl) (fun _ _ _ h => h) (Or.inl ⟨by rfl, ?y10⟩) hS ?_
            case y10 =>
              intro W hW
              obtain ⟨s1, s2, s3, s4, s5, s6, s7, s8⟩ := hW
              go_simp
            simp only [Act.put, List.setIfInBounds_toArray, List.set_cons_zero, List.set_cons_succ]
            refine wpAnyH_take (i := 11) (oi := { dst := some 85, op := Op.pick (Operand.tmp 78) (Operand.const (Value.bool true)) (Operand.tmp 84), type := 4, pos := "law.go:94", after := #[{ on := 4, ground := Ground.data }, { on := 10, ground := Ground.data }], guard := none }) (v := .bool false) rfl (by kernel_rfl) (by kernel_rfl) (by kernel_rfl) (fun _ _ _ h => h) (Or.inl ⟨by rfl, ?y11⟩) hS ?_
            case y11 =>
              intro W hW
              obtain ⟨s1, s2, s3, s4, s5, s6, s7, s8⟩ := hW
              go_simp
            simp only [Act.put, List.setIfInBounds_toArray, List.set_cons_zero, List.set_cons_succ]
            refine wpAnyH_take (i := 12) (oi := { dst := some 86, op := Op.move (Operand.tmp 85), type := 4, pos := "law.go:94", after := #[{ on := 11, ground := Ground.data }, { on := 4, ground := Ground.chain }], guard := none }) (v := .bool false) rfl (by kernel_rfl) (by kernel_rfl) (by kernel_rfl) (fun _ _ _ h => h) (Or.inl ⟨by rfl, ?y12⟩) hS ?_
            case y12 =>
              intro W hW
              obtain ⟨s1, s2, s3, s4, s5, s6, s7, s8⟩ := hW
              go_simp
            simp only [Act.put, List.setIfInBounds_toArray, List.set_cons_zero, List.set_cons_succ]
            refine wpAnyH_take (i := 13) (oi := { dst := some 87, op := Op.move (Operand.tmp 15), type := 22, pos := "law.go:94", after := #[{ on := 12, ground := Ground.guard }], guard := some (12, false) }) (v := .slice x.a x.m x.c) rfl (by kernel_rfl) (by kernel_rfl) (by kernel_rfl) (fun _ _ _ h => h) (Or.inl ⟨by rfl, ?y13⟩) hS ?_
            case y13 =>
              intro W hW
              obtain ⟨s1, s2, s3, s4, s5, s6, s7, s8⟩ := hW
              go_simp
            simp only [Act.put, List.setIfInBounds_toArray, List.set_cons_zero, List.set_cons_succ]
            refine wpAnyH_take (i := 14) (oi := { dst := some 88, op := Op.convert 22 9 (Operand.tmp 87), type := 9, pos := "law.go:94", after := #[{ on := 13, ground := Ground.data }, { on := 12, ground := Ground.guard }], guard := some (12, false) }) (v := .string SS) rfl (by kernel_rfl) (by kernel_rfl) (by kernel_rfl) (fun _ _ _ h => h) (Or.inl ⟨by rfl, ?y14⟩) hS ?_
            case y14 =>
              intro W hW
              obtain ⟨s1, s2, s3, s4, s5, s6, s7, s8⟩ := hW
              go_simp
            simp only [Act.put, List.setIfInBounds_toArray, List.set_cons_zero, List.set_cons_succ]
            refine wpAnyH_take (i := 15) (oi := { dst := some 89, op := Op.load 29 (Operand.tmp 2), type := 29, pos := "law.go:94", after := #[{ on := 12, ground := Ground.guard }], guard := some (12, false) }) (v := .slice (some ⟨bl, ol, none⟩) len cap) rfl (by kernel_rfl) (by kernel_rfl) (by kernel_rfl) (fun _ _ _ h => h) (Or.inl ⟨by rfl, ?y15⟩) hS ?_
            case y15 =>
              intro W hW
              obtain ⟨s1, s2, s3, s4, s5, s6, s7, s8⟩ := hW
              go_simp
            simp only [Act.put, List.setIfInBounds_toArray, List.set_cons_zero, List.set_cons_succ]
            refine wpAnyH_take (i := 16) (oi := { dst := some 90, op := Op.load 3 (Operand.tmp 13), type := 3, pos := "law.go:94", after := #[{ on := 12, ground := Ground.guard }], guard := some (12, false) }) (v := .int .i64 (i : Int)) rfl (by kernel_rfl) (by kernel_rfl) (by kernel_rfl) (fun _ _ _ h => h) (Or.inl ⟨by rfl, ?y16⟩) hS ?_
            case y16 =>
              intro W hW
              obtain ⟨s1, s2, s3, s4, s5, s6, s7, s8⟩ := hW
              go_simp
            simp only [Act.put, List.setIfInBounds_toArray, List.set_cons_zero, List.set_cons_succ]
            refine wpAnyH_take (i := 17) (oi := { dst := some 91, op := Op.indexAddr 29 (Operand.tmp 89) (Operand.tmp 90), type := 0, pos := "law.go:94", after := #[{ on := 15, ground := Ground.data }, { on := 16, ground := Ground.data }, { on := 12, ground := Ground.guard }], guard := some (12, false) }) (v := .pointer (some ⟨bl, ol + i, none⟩)) rfl (by kernel_rfl) (by kernel_rfl) (by kernel_rfl) (fun _ _ _ h => h) (Or.inl ⟨by rfl, ?y17⟩) hS ?_
            case y17 =>
              intro W hW
              obtain ⟨s1, s2, s3, s4, s5, s6, s7, s8⟩ := hW
              go_simp
            simp only [Act.put, List.setIfInBounds_toArray, List.set_cons_zero, List.set_cons_succ]
            refine wpAnyH_take (i := 18) (oi := { dst := some 92, op := Op.load 22 (Operand.tmp 91), type := 22, pos := "law.go:94", after := #[{ on := 17, ground := Ground.data }, { on := 12, ground := Ground.guard }], guard := some (12, false) }) (v := .slice Ar Lr Cr) rfl (by kernel_rfl) (by kernel_rfl) (by kernel_rfl) (fun _ _ _ h => h) (Or.inl ⟨by rfl, ?y18⟩) hS ?_
            case y18 =>
              intro W hW
              obtain ⟨s1, s2, s3, s4, s5, s6, s7, s8⟩ := hW
              go_simp
            simp only [Act.put, List.setIfInBounds_toArray, List.set_cons_zero, List.set_cons_succ]
            refine wpAnyH_take (i := 19) (oi := { dst := some 93, op := Op.convert 22 9 (Operand.tmp 92), type := 9, pos := "law.go:94", after := #[{ on := 18, ground := Ground.data }, { on := 12, ground := Ground.guard }], guard := some (12, false) }) (v := .string SS) rfl (by kernel_rfl) (by kernel_rfl) (by kernel_rfl) (fun _ _ _ h => h) (Or.inl ⟨by rfl, ?y19⟩) hS ?_
            case y19 =>
              intro W hW
              obtain ⟨s1, s2, s3, s4, s5, s6, s7, s8⟩ := hW
              go_simp
            simp only [Act.put, List.setIfInBounds_toArray, List.set_cons_zero, List.set_cons_succ]
            refine wpAnyH_take (i := 20) (oi := { dst := some 94, op := Op.binOp BinOp.neq 9 (Operand.tmp 88) (Operand.tmp 93) 9, type := 4, pos := "law.go:94", after := #[{ on := 14, ground := Ground.data }, { on := 19, ground := Ground.data }, { on := 12, ground := Ground.guard }], guard := some (12, false) }) (v := .bool false) rfl (by kernel_rfl) (by kernel_rfl) (by kernel_rfl) (fun _ _ _ h => h) (Or.inl ⟨by rfl, ?y20⟩) hS ?_
            case y20 =>
              intro W hW
              obtain ⟨s1, s2, s3, s4, s5, s6, s7, s8⟩ := hW
              go_simp
            simp only [Act.put, List.setIfInBounds_toArray, List.set_cons_zero, List.set_cons_succ]
            refine wpAnyH_take (i := 21) (oi := { dst := some 95, op := Op.pick (Operand.tmp 86) (Operand.const (Value.bool true)) (Operand.tmp 94), type := 4, pos := "law.go:94", after := #[{ on := 12, ground := Ground.data }, { on := 20, ground := Ground.data }], guard := none }) (v := .bool false) rfl (by kernel_rfl) (by kernel_rfl) (by kernel_rfl) (fun _ _ _ h => h) (Or.inl ⟨by rfl, ?y21⟩) hS ?_
            case y21 =>
              intro W hW
              obtain ⟨s1, s2, s3, s4, s5, s6, s7, s8⟩ := hW
              go_simp
            simp only [Act.put, List.setIfInBounds_toArray, List.set_cons_zero, List.set_cons_succ]
            refine wpAnyH_done (by kernel_rfl) ?_ _
            gi_wp2
            have hoth : ∀ b, b ≠ w2.heap.size → (A.setCell ⟨w2.heap.size, 0, none⟩ (.int .i64 ((i : Int) + 1))).drew.heap[b]? = A.heap[b]? := fun b hb => heap_setCell_other A ⟨w2.heap.size, 0, none⟩ b _ hb
            have h3s := HS3.out
            have hsame : (A.setCell ⟨w2.heap.size, 0, none⟩ (.int .i64 ((i : Int) + 1))).drew.heap[w2.heap.size]? = some (.cells #[.int .i64 ((i + 1 : Nat) : Int)] 3) := heap_setCell_same A w2.heap.size 0 #[.int .i64 (i : Int)] 3 (.int .i64 ((i : Int) + 1)) hbx
            refine ⟨⟨i + 1, hit, HNX.out, hsame, (hbel.setCell (p := ⟨w2.heap.size, 0, none⟩) (Nat.le_refl _) _).trans (below_drewN _ _ 1), by simpa using hsz⟩, ⟨by simp, fun b _ hb => hoth b (by omega)⟩, hoth _ (by omega), hoth _ (by omega)⟩
          case done =>
            rintro s A ⟨i, hi, hs, hbx, hbel, hsz⟩ ⟨hsP, hne⟩ hKD
            subst hs
            have hlenx : (ls.take t).length = t := by rw [List.length_take, HLL.out]; exact Nat.min_eq_left HK.out.le
            rw [HLD.out] at hne
            have hend := (at_frame (ls.take t) P i (fun y hy => by have := HK.out.short y hy; omega) (by rw [hlenx]; exact hi)).2 hne
            rw [hlenx] at hend
            have hsw := HK.out.size
            have hs2 := HB2.out.size
            rw [World.size_alloc] at hs2
            have h3s := HS3.out
            have hblk : ∀ b, b < wr.heap.size → A.heap[b]? = wr.heap[b]? := fun b hb => (hbel.block b (by omega)).trans ((HB2.out.block b (by rw [World.size_alloc]; omega)).trans (Below.heap_alloc _ _ _ hb))
            have hBA : Below wr.heap.size wr A := ⟨hbel.os.trans HB2.out.os, hbel.tape.trans HB2.out.tape, hbel.output.trans HB2.out.output, by have := hbel.size; omega, hblk⟩
            have HBA : Hid (Below w.heap.size w A) := HK.out.below.trans (hBA.mono (by omega))
            have cI := (cell_box hbx).1
            have cE : A.cell? ⟨w.heap.size + 1 + 1, 0, none⟩ = some (.slice ae t ce) := cell_one ((hblk _ (by omega)).trans HK.out.box2)
            have cN : A.cell? ⟨wr.heap.size, 0, none⟩ = some (.int .i64 (P : Int)) := cell_one ((hbel.block _ (by omega)).trans ((HB2.out.block _ (by rw [World.size_alloc]; omega)).trans (heap_alloc_new wr _)))
            have HR : Hid (A.heap[w.heap.size + 1]? = some (.cells #[.bool false] 4)) := (hblk _ (by omega)).trans HK.out.box1
            have HKD : Hid (A.heap[W3.heap.size]? = some (.deferred (some []))) := hKD
            have HLA : Hid (W3.heap.size < A.heap.size) := (Array.getElem?_eq_some_iff.1 hKD).1
            have HWS : Hid (w.heap.size + 3 ≤ wr.heap.size ∧ wr.heap.size < w2.heap.size) := ⟨hsw, by omega⟩
            clear hKD hbx hbel hsz hne hlenx
            by_cases hit : i = t
            · gi_wp2
              refine wpIn_wide.2 ?_
              refine last_all cI cE HR.out (by omega) (by omega) hit ?_
              rintro ⟨tm, df⟩ w9 h1 h2 h3
              dsimp only at h1 h2
              subst h1
              gi_wp2
              exact leaves_last HBA.out h3 (by omega) HKD.out HR.out h2
            · have hit' : i < t := by omega
              have hPE : P < E (ls.take t) (i + 1) := hend.resolve_left hit
              rw [E_take ls t (i + 1) (by omega)] at hPE
              obtain ⟨ge, cge, hve, hge1, hge2⟩ : ∃ ge c', (Value.slice ae t ce) = .slice (some ⟨ge, 0, none⟩) t c' ∧ w.heap.size + 3 ≤ ge ∧ ge < wr.heap.size := by
                rcases HK.out.ends.2 with ⟨_, h0⟩ | ⟨g', c', cur, e1, e2, e3, _⟩
                · omega
                · exact ⟨g', c', e1, e2, lt_of_block e3⟩
              cases hve
              have cEi : A.cell? ⟨ge, i, none⟩ = some (.int .i64 (E ls (i + 1) : Int)) := by
                have e1 := World.ownsRow.cellAt HK.out.ends i (by omega)
                have e2 : (endsOf ls t)[i]? = some (.int .i64 (E ls (i + 1) : Int)) := by simp [endsOf, hit']
                exact (hBA.cell (p := ⟨ge, i, none⟩) hge2).trans (e1.trans e2)
              gi_wp2
              refine wpIn_wide.2 ?_
              refine last_cut cI cE HR.out (by omega) (by omega) hit' cN cEi hPE (by omega) (by omega) ?_
              rintro ⟨tm, df⟩ w9 h1 h2 h3
              dsimp only at h1 h2
              subst h1
              gi_wp2
              exact leaves_last HBA.out h3 (by omega) HKD.out HR.out h2
        · have q3 : (t : Int) ≤ 50 := by omega
          have HBIG : Hid (nb + Lx ≤ 20000) := by show _ ≤ _; omega
          have HFEW : Hid (t ≤ 50) := by show _ ≤ _; omega
          clear hbig hfew hlt
          obtain ⟨m12, hm12⟩ : ∃ m12 : Nat, m12 = Lx + 12 := ⟨_, rfl⟩
          have HM12 : Hid (m12 = Lx + 12) := hm12
          have q4 : (Lx : Int) + 12 = (m12 : Int) := by omega
          obtain ⟨nb', hnb'⟩ : ∃ nb' : Nat, nb' = nb + m12 := ⟨_, rfl⟩
          have HNB : Hid (nb' = nb + m12) := hnb'
          have hfl : (frameOf x).length = m12 := by rw [frameOf_length, HLX.out]; exact hm12.symm
          have HFL : Hid ((frameOf x).length = m12) := hfl
          clear hm12 hnb' hfl
          gi_wp2_with (first
            | (refine ⟨trivial, ?_⟩; gi_at_call 11; refine (callsIn_wide.2 (frame_is x A Lx C wr HIX.out (by have := HBIG.out; omega))).mono ?_; rintro e w1 ⟨v1, rfl, ho1, hb1⟩; obtain ⟨a1, c1, hv1, hin1, hs1⟩ := own_in ho1 (by rw [HFL.out, HM12.out]; have := HBIG.out; omega); rw [HFL.out] at hv1 hin1 hs1; obtain ⟨g1, rfl, hgb1, hgl1⟩ := hs1 (by rw [HM12.out]; omega); subst hv1; have HB1 : Hid (Below wr.heap.size wr w1) := hb1; have HI1 : Hid (In w1 (some ⟨g1, 0, none⟩) m12 c1 (frameOf x)) := hin1; clear ho1 hb1 hin1 hs1)
            | (with_reducible change wpListIn _ _ _ _ _ ({ dst := some 50, op := _, type := _, pos := _, after := _, guard := _ } :: _) _ _
               refine wpListIn_append_own _ rfl (.tmp 48) (.tmp 49) 22 rfl (w.heap.size + 3) 5 i5 (.int .u8 0) 1 1 Try.underlying22 hi5 hz50 hz51 hz52 rfl (by decide) _ nb (U (bb (ls.take t))) rfl (own_size (by rw [HK.out.nb_eq]; rfl) (Own.below HK.out.own HB1.out (Nat.le_refl _))) ⟨g1, 0, none⟩ m12 c1 (U (frameOf x)) rfl (by rw [U_length, HFL.out, Nat.mul_one]) (src_of HI1.out) (U_one _) (by have h1 := HK.out.nb_le; have h2 := HM12.out; have h3 := HBIG.out; unfold maxLen; omega) (by have h1 := HK.out.nb_le; have h2 := HM12.out; have h3 := HBIG.out; omega) (by have h1 := HK.out.size; have h2 := HB1.out.size; omega) ?_
               intro v2 w2 ho2 hg2 _
               rw [← HNB.out] at ho2
               obtain ⟨ab2, cb2, hv2⟩ := row_shape ho2 (by rw [HNB.out, HM12.out]; omega)
               subst hv2
               have HM2 : Hid (w2.ownsRow (w.heap.size + 3) 3 1 (.slice ae t ce) t (endsOf ls t) ∧ w2.heap[w.heap.size + 2]? = some (.cells #[.slice ae t ce] 35) ∧ w.heap.size + 3 ≤ w2.heap.size) := HK.out.mid HB1.out hg2
               have c2b : w2.cell? ⟨w.heap.size + 1 + 1, 0, none⟩ = some (.slice ae t ce) := (cell_box HM2.out.2.1).1
               have HO2 : Hid (w2.ownsRow (w.heap.size + 3) 5 1 (.slice ab2 nb' cb2) nb' (U (bb (ls.take t)) ++ U (frameOf x))) := ho2
               have HG2 : Hid (w1.grownBy w2 (Value.slice ab nb cb).ownBlock) := hg2
               have b6 : (nb' : Int) ≤ 20012 := by have h1 := HNB.out; have h2 := HM12.out; have h3 := HBIG.out; omega
               clear ho2 hg2)
            | (with_reducible change wpListIn _ _ _ _ _ ({ dst := some 55, op := _, type := _, pos := _, after := _, guard := _ } :: _) _ _
               refine wpListIn_append_own _ rfl (.tmp 51) (.tmp 54) 35 rfl (w.heap.size + 3) 3 i3 (.int .i64 0) 1 8 Try.underlying35 hi3 hz30 hz31 hz32 rfl (by decide) _ t (endsOf ls t) rfl (World.ownsRow.alloc HM2.out.1 _) ⟨w2.heap.size, 0, none⟩ 1 1 [.int .i64 (nb' : Int)] rfl rfl (cell_new_one w2 3 (.int .i64 (nb' : Int))) (by simp [Value.oneCell']) (by have := HFEW.out; unfold maxLen; omega) (by have := HFEW.out; omega) (by have := HM2.out.2.2; simp; omega) ?_
               intro v4 w4 ho4 hg4 _
               obtain ⟨ae4, ce4, hv4⟩ := row_shape ho4 (by omega)
               subst hv4
               have HBX : Hid (w4.heap[w.heap.size + 2]? = some (.cells #[.slice ae t ce] 35)) := box_four HM2.out.1 HM2.out.2.1 hg4
               have c4 : w4.cell? ⟨w.heap.size + 1 + 1, 0, none⟩ = some (.slice ae t ce) := (cell_box HBX.out).1
               have f4 : w4.frozen? ⟨w.heap.size + 1 + 1, 0, none⟩ = false := (cell_box HBX.out).2
               have HO4 : Hid (w4.ownsRow (w.heap.size + 3) 3 1 (.slice ae4 (t + 1) ce4) (t + 1) (endsOf ls t ++ [.int .i64 (nb' : Int)])) := ho4
               have HG4 : Hid ((w2.alloc (.cells #[.int .i64 (nb' : Int)] 3)).grownBy w4 (Value.slice ae t ce).ownBlock) := hg4
               clear ho4 hg4)
            | fail)
          have hnx := HK.out.next HLL.out HLT.out (by rw [HXE.out, HLX.out]; exact HBIG.out) HFEW.out nb' (by rw [HXE.out, HLX.out, HNB.out, HM12.out]) HB1.out (by rw [HXE.out]; exact HO2.out) HG2.out HO4.out HG4.out
          obtain ⟨ab', cb', ae', ce', e1, e2, hK'⟩ := hnx
          cases e1
          cases e2
          refine ⟨⟨t + 1, _, _, _, _, _, by go_num, rfl, hK'⟩, ?_⟩
          have h1 := HLT.out
          have h2 := HLL.out
          simp only [intOf]
          omega
    · have q1 : (len : Int) ≤ (t : Int) := by omega
      gi_wp2_with (first
        | (refine ⟨trivial, ?_⟩; gi_at_call 10; refine (callsIn_wide.2 (all_is ((bb (ls.take t)).take P) ab P cb (wr.alloc (.cells #[.int .i64 (P : Int)] 3)) (HPX.out.below ((Below.refl _ wr).alloc (Nat.le_refl _) _)) (by have h1 := HPN.out; have h2 := HK.out.nb_le; omega))).mono ?_; rintro e w2 ⟨g, a2, c2, rfl, HG, HC, HI2, HB2⟩)
        | fail)
      obtain ⟨W3, hW3⟩ : ∃ W3, W3 = w2.alloc (.cells #[.int .i64 0] 3) := ⟨_, rfl⟩
      have HS3 : Hid (W3.heap.size = w2.heap.size + 1) := by show _ = _; rw [hW3]; simp
      have HN3 : Hid (W3.heap[w2.heap.size]? = some (.cells #[.int .i64 0] 3)) := by show _ = _; rw [hW3]; exact heap_alloc_new w2 _
      have HB3 : Hid (Below w2.heap.size w2 W3) := by rw [hW3]; exact (Below.refl _ w2).alloc (Nat.le_refl _) _
      rw [← hW3]
      clear hW3
      obtain ⟨L, hL⟩ : ∃ L, L = (bb (ls.take t)).take P := ⟨_, rfl⟩
      rw [← hL] at HI2
      have HLD : Hid (L = (bb (ls.take t)).take P) := hL
      have HGG : Hid (g < w2.heap.size) := HG.out.2
      refine' rangeOver (gf := 17) (lb := #[.pointer (some ⟨g, 0, none⟩)]) rfl (enters_of Try.func17 (by kernel_rfl) rfl) (fun x : Handed => #[.int .i64 (x.at_ : Int), .slice x.a x.m x.c]) (fun _ => rfl) (fun s x => s + x.m + 12)
        (fun s x A => Lies L P (W3.heap.size + 2) s x A) (fun A B => Held (W3.heap.size + 2) A B) (fun s => s ≤ P ∧ errOf (L.drop s) ≠ 0) (LawInv ls t w2) ?inv (fun A B o o' h => held_put (by omega) h) (fun s x A o h => lies_put (by omega) h) ?start _ ?assign ?body ?iter ?done
      case inv =>
        rintro s A B ⟨i, h1, h2, h3, h4, h5⟩ hb
        rw [HS3.out] at hb
        exact ⟨i, h1, h2, (hb.block _ (by omega)).trans h3, h4.trans (hb.mono (by omega)), Nat.le_trans h5 hb.size⟩
      case start =>
        exact ⟨0, Nat.zero_le _, (E_zero _).symm, HN3.out, HB3.out, by rw [HS3.out]; exact Nat.le_refl _⟩
      case assign =>
        intro x A K hK
        gi_wp2
        exact hK
      case iter =>
        intro J W' hS' hB' hJb hJI hY hJ0
        exact all1_in (9 - 1) _ g a2 P c2 L (by have h1 := HPN.out; have h2 := HK.out.nb_le; omega) (W3.heap.size + 2) J hJb (fun s A hj => by
            obtain ⟨⟨i, h1, h2, h3, h4, h5⟩, h6⟩ := hJI s A hj
            exact ⟨(h4.cell (p := ⟨g, 0, none⟩) HGG.out).trans HC.out, HI2.out.below h4, h6⟩)
          (fun s x A hj hp => YieldAt.deep 0 (hY s x A hj hp)) W' hS' hJ0
      case body =>
        rintro s x A ⟨i, hi, hs, hbx, hbel, hsz⟩ ⟨⟨hat, he, hm, hle⟩, hin, hg⟩ hlt
        subst hs
        have HLT3 : Hid (W3.heap.size + 1 < A.heap.size) := hlt
        clear hlt
        have hlenx : (ls.take t).length = t := by rw [List.length_take, HLL.out]; exact Nat.min_eq_left HK.out.le
        rw [HLD.out] at he hm hin
        obtain ⟨hix, hEP, hnm, hbd⟩ := (at_frame (ls.take t) P i (fun y hy => by have := HK.out.short y hy; omega) (by rw [hlenx]; exact hi)).1 he
        have hit : i < t := by rw [hlenx] at hix; exact hix
        have hils : i < ls.length := by have := HK.out.le; rw [HLL.out]; omega
        have hxi : (ls.take t)[i] = ls[i] := List.getElem_take
        rw [hbd, hxi] at hin
        have HIN : Hid (In A x.a x.m x.c ls[i]) := hin
        have hsw := HK.out.size
        have hs2 := HB2.out.size
        rw [World.size_alloc] at hs2
        have hblk : ∀ b, b < wr.heap.size → A.heap[b]? = wr.heap[b]? := fun b hb => (hbel.block b (by omega)).trans ((HB2.out.block b (by rw [World.size_alloc]; omega)).trans (Below.heap_alloc _ _ _ hb))
        have hBA : Below wr.heap.size wr A := ⟨hbel.os.trans HB2.out.os, hbel.tape.trans HB2.out.tape, hbel.output.trans HB2.out.output, by have := hbel.size; omega, hblk⟩
        have cI := (cell_box hbx).1
        have fI := (cell_box hbx).2
        have cE : A.cell? ⟨w.heap.size + 1 + 1, 0, none⟩ = some (.slice ae t ce) := cell_one ((hblk _ (by omega)).trans HK.out.box2)
        have cL : A.cell? ⟨w.heap.size, 0, none⟩ = some (.slice _ len cap) := cell_one ((hblk _ (by omega)).trans HK.out.box0)
        have cN : A.cell? ⟨wr.heap.size, 0, none⟩ = some (.int .i64 (P : Int)) := cell_one ((hbel.block _ (by omega)).trans ((HB2.out.block _ (by rw [World.size_alloc]; omega)).trans (heap_alloc_new wr _)))
        obtain ⟨bl, ol, Ar, Lr, Cr, y, hae, hy, hcy, hAy⟩ := ((HL.out.below HK.out.below).below hBA).row i (by have := HK.out.le; omega)
        cases hae
        have hye : ls[i] = y := by rw [List.getElem?_eq_getElem hils] at hy; exact Option.some.inj hy
        have HIY : Hid (In A Ar Lr Cr y) := hAy.toIn (by have h1 := HROWS.out ls[i] (List.getElem_mem hils); rw [hye] at h1; have h2 := hAy.1; omega)
        obtain ⟨ge, cge, hve, hge1, hge2⟩ : ∃ ge c', (Value.slice ae t ce) = .slice (some ⟨ge, 0, none⟩) t c' ∧ w.heap.size + 3 ≤ ge ∧ ge < wr.heap.size := by
          rcases HK.out.ends.2 with ⟨_, h0⟩ | ⟨g', c', cur, e1, e2, e3, _⟩
          · omega
          · exact ⟨g', c', e1, e2, lt_of_block e3⟩
        cases hve
        have cEi : A.cell? ⟨ge, i, none⟩ = some (.int .i64 (E ls (i + 1) : Int)) := by
          have e1 := World.ownsRow.cellAt HK.out.ends i (by omega)
          have e2 : (endsOf ls t)[i]? = some (.int .i64 (E ls (i + 1) : Int)) := by simp [endsOf, hit]
          exact (hBA.cell (p := ⟨ge, i, none⟩) hge2).trans (e1.trans e2)
        have hEi : E ls (i + 1) ≤ P := by rw [← E_take ls t (i + 1) (by omega)]; exact hEP
        obtain ⟨EE, hEE⟩ : ∃ EE, EE = E ls (i + 1) := ⟨_, rfl⟩
        rw [← hEE] at cEi hEi
        obtain ⟨SS, hSS⟩ : ∃ S : ByteArray, S = ⟨y.toArray⟩ := ⟨_, rfl⟩
        have k1 : ∀ W, In W x.a x.m x.c y → (convert 22 9 (.slice x.a x.m x.c)).run Try.prog W = .ok (.string SS) W := fun W h => by rw [hSS]; exact string_in Try.underlying22 Try.underlying5 Try.underlying9 h
        have k2 : ∀ W, In W Ar Lr Cr y → (convert 22 9 (.slice Ar Lr Cr)).run Try.prog W = .ok (.string SS) W := fun W h => by rw [hSS]; exact string_in Try.underlying22 Try.underlying5 Try.underlying9 h
        rw [hye] at HIN
        have j1 := k1 A.drew (show In A.drew _ _ _ _ from HIN.out)
        have j2 := k2 A.drew (show In A.drew _ _ _ _ from HIY.out)
        have q5 : (i : Int) < (t : Int) := by omega
        have q6 : (EE : Int) ≤ (P : Int) := by omega
        have q7 : (i : Int) < (len : Int) := by have := HK.out.le; omega
        have hmx : Try.prog.follows .mixedOrders = true := by kernel_rfl
        have hxm : x.m = y.length := by rw [← hm, hnm, hxi, hye]
        have HNX : Hid (E (ls.take t) i + x.m + 12 = E (ls.take t) (i + 1)) := by show _ = _; rw [E_succ (ls.take t) i (by rw [hlenx]; exact hit), hxi, hye, hxm]
        clear hEE hSS hxm hye hxi hnm hbd hm he hlenx k1 k2
        gi_wp2
        refine region_round (fun W => W.cell? ⟨w2.heap.size, 0, none⟩ = some (.int .i64 (i : Int)) ∧ W.cell? ⟨w.heap.size + 1 + 1, 0, none⟩ = some (.slice (some ⟨ge, 0, none⟩) t ce) ∧ W.cell? ⟨ge, i, none⟩ = some (.int .i64 (EE : Int)) ∧ W.cell? ⟨wr.heap.size, 0, none⟩ = some (.int .i64 (P : Int)) ∧ W.cell? ⟨w.heap.size, 0, none⟩ = some (.slice (some ⟨bl, ol, none⟩) len cap) ∧ W.cell? ⟨bl, ol + i, none⟩ = some (.slice Ar Lr Cr) ∧ (convert 22 9 (.slice x.a x.m x.c)).run Try.prog W = .ok (.string SS) W ∧ (convert 22 9 (.slice Ar Lr Cr)).run Try.prog W = .ok (.string SS) W) hmx (nodefer_of (by kernel_rfl)) (by rintro ⟨_, _, h⟩; cases h.1) ?_
        have hS : A.drew.cell? ⟨w2.heap.size, 0, none⟩ = some (.int .i64 (i : Int)) ∧ A.drew.cell? ⟨w.heap.size + 1 + 1, 0, none⟩ = some (.slice (some ⟨ge, 0, none⟩) t ce) ∧ A.drew.cell? ⟨ge, i, none⟩ = some (.int .i64 (EE : Int)) ∧ A.drew.cell? ⟨wr.heap.size, 0, none⟩ = some (.int .i64 (P : Int)) ∧ A.drew.cell? ⟨w.heap.size, 0, none⟩ = some (.slice (some ⟨bl, ol, none⟩) len cap) ∧ A.drew.cell? ⟨bl, ol + i, none⟩ = some (.slice Ar Lr Cr) ∧ (convert 22 9 (.slice x.a x.m x.c)).run Try.prog A.drew = .ok (.string SS) A.drew ∧ (convert 22 9 (.slice Ar Lr Cr)).run Try.prog A.drew = .ok (.string SS) A.drew := ⟨cI, cE, cEi, cN, cL, hcy, j1, j2⟩
        refine wpAnyH_take (i := 0) (oi := { dst := some 74, op := Op.load 3 (Operand.tmp 13), type := 3, pos := "law.go:94", after := #[], guard := none }) (v := .int .i64 (i : Int)) rfl (by kernel_rfl) (by kernel_rfl) (by kernel_rfl) (fun _ _ _ h => h) (Or.inl ⟨by rfl, ?y0⟩) hS ?_
        case y0 =>
          intro W hW
          obtain ⟨s1, s2, s3, s4, s5, s6, s7, s8⟩ := hW
          go_simp
        simp only [Act.put, List.setIfInBounds_toArray, List.set_cons_zero, List.set_cons_succ]
        refine wpAnyH_take (i := 1) (oi := { dst := some 75, op := Op.load 35 (Operand.tmp 6), type := 35, pos := "law.go:94", after := #[], guard := none }) (v := .slice (some ⟨ge, 0, none⟩) t ce) rfl (by kernel_rfl) (by kernel_rfl) (by kernel_rfl) (fun _ _ _ h => h) (Or.inl ⟨by rfl, ?y1⟩) hS ?_
        case y1 =>
          intro W hW
          obtain ⟨s1, s2, s3, s4, s5, s6, s7, s8⟩ := hW
          go_simp
        simp only [Act.put, List.setIfInBounds_toArray, List.set_cons_zero, List.set_cons_succ]
        refine wpAnyH_take (i := 2) (oi := { dst := some 76, op := Op.call { callee := Callee.builtin Builtin.len, args := #[Operand.tmp 75], argTypes := #[35] }, type := 3, pos := "law.go:94", after := #[{ on := 1, ground := Ground.data }], guard := none }) (v := .int .i64 (t : Int)) rfl (by kernel_rfl) (by kernel_rfl) (by kernel_rfl) (fun _ _ _ h => h) (Or.inl ⟨by rfl, ?y2⟩) hS ?_
        case y2 =>
          intro W hW
          obtain ⟨s1, s2, s3, s4, s5, s6, s7, s8⟩ := hW
          go_simp
        simp only [Act.put, List.setIfInBounds_toArray, List.set_cons_zero, List.set_cons_succ]
        refine wpAnyH_take (i := 3) (oi := { dst := some 77, op := Op.binOp BinOp.geq 3 (Operand.tmp 74) (Operand.tmp 76) 3, type := 4, pos := "law.go:94", after := #[{ on := 0, ground := Ground.data }, { on := 2, ground := Ground.data }], guard := none }) (v := .bool false) rfl (by kernel_rfl) (by kernel_rfl) (by kernel_rfl) (fun _ _ _ h => h) (Or.inl ⟨by rfl, ?y3⟩) hS ?_
        case y3 =>
          intro W hW
          obtain ⟨s1, s2, s3, s4, s5, s6, s7, s8⟩ := hW
          go_simp
        simp only [Act.put, List.setIfInBounds_toArray, List.set_cons_zero, List.set_cons_succ]
        refine wpAnyH_take (i := 4) (oi := { dst := some 78, op := Op.move (Operand.tmp 77), type := 4, pos := "law.go:94", after := #[{ on := 3, ground := Ground.data }], guard := none }) (v := .bool false) rfl (by kernel_rfl) (by kernel_rfl) (by kernel_rfl) (fun _ _ _ h => h) (Or.inl ⟨by rfl, ?y4⟩) hS ?_
        case y4 =>
          intro W hW
          obtain ⟨s1, s2, s3, s4, s5, s6, s7, s8⟩ := hW
          go_simp
        simp only [Act.put, List.setIfInBounds_toArray, List.set_cons_zero, List.set_cons_succ]
        refine wpAnyH_take (i := 5) (oi := { dst := some 79, op := Op.load 35 (Operand.tmp 6), type := 35, pos := "law.go:94", after := #[{ on := 4, ground := Ground.guard }], guard := some (4, false) }) (v := .slice (some ⟨ge, 0, none⟩) t ce) rfl (by kernel_rfl) (by kernel_rfl) (by kernel_rfl) (fun _ _ _ h => h) (Or.inl ⟨by rfl, ?y5⟩) hS ?_
        case y5 =>
          intro W hW
          obtain ⟨s1, s2, s3, s4, s5, s6, s7, s8⟩ := hW
          go_simp
        simp only [Act.put, List.setIfInBounds_toArray, List.set_cons_zero, List.set_cons_succ]
        refine wpAnyH_take (i := 6) (oi := { dst := some 80, op := Op.load 3 (Operand.tmp 13), type := 3, pos := "law.go:94", after := #[{ on := 4, ground := Ground.guard }], guard := some (4, false) }) (v := .int .i64 (i : Int)) rfl (by kernel_rfl) (by kernel_rfl) (by kernel_rfl) (fun _ _ _ h => h) (Or.inl ⟨by rfl, ?y6⟩) hS ?_
        case y6 =>
          intro W hW
          obtain ⟨s1, s2, s3, s4, s5, s6, s7, s8⟩ := hW
          go_simp
        simp only [Act.put, List.setIfInBounds_toArray, List.set_cons_zero, List.set_cons_succ]
        refine wpAnyH_take (i := 7) (oi := { dst := some 81, op := Op.indexAddr 35 (Operand.tmp 79) (Operand.tmp 80), type := 0, pos := "law.go:94", after := #[{ on := 5, ground := Ground.data }, { on := 6, ground := Ground.data }, { on := 4, ground := Ground.guard }], guard := some (4, false) }) (v := .pointer (some ⟨ge, i, none⟩)) rfl (by kernel_rfl) (by kernel_rfl) (by kernel_rfl) (fun _ _ _ h => h) (Or.inl ⟨by rfl, ?y7⟩) hS ?_
        case y7 =>
          intro W hW
          obtain ⟨s1, s2, s3, s4, s5, s6, s7, s8⟩ := hW
          go_simp
        simp only [Act.put, List.setIfInBounds_toArray, List.set_cons_zero, List.set_cons_succ]
        refine wpAnyH_take (i := 8) (oi := { dst := some 82, op := Op.load 3 (Operand.tmp 81), type := 3, pos := "law.go:94", after := #[{ on := 7, ground := Ground.data }, { on := 4, ground := Ground.guard }], guard := some (4, false) }) (v := .int .i64 (EE : Int)) rfl (by kernel_rfl) (by kernel_rfl) (by kernel_rfl) (fun _ _ _ h => h) (Or.inl ⟨by rfl, ?y8⟩) hS ?_
        case y8 =>
          intro W hW
          obtain ⟨s1, s2, s3, s4, s5, s6, s7, s8⟩ := hW
          go_simp
        simp only [Act.put, List.setIfInBounds_toArray, List.set_cons_zero, List.set_cons_succ]
        refine wpAnyH_take (i := 9) (oi := { dst := some 83, op := Op.load 3 (Operand.tmp 11), type := 3, pos := "law.go:94", after := #[{ on := 4, ground := Ground.guard }], guard := some (4, false) }) (v := .int .i64 (P : Int)) rfl (by kernel_rfl) (by kernel_rfl) (by kernel_rfl) (fun _ _ _ h => h) (Or.inl ⟨by rfl, ?y9⟩) hS ?_
        case y9 =>
          intro W hW
          obtain ⟨s1, s2, s3, s4, s5, s6, s7, s8⟩ := hW
          go_simp
        simp only [Act.put, List.setIfInBounds_toArray, List.set_cons_zero, List.set_cons_succ]
        refine wpAnyH_take (i := 10) (oi := { dst := some 84, op := Op.binOp BinOp.gtr 3 (Operand.tmp 82) (Operand.tmp 83) 3, type := 4, pos := "law.go:94", after := #[{ on := 8, ground := Ground.data }, { on := 9, ground := Ground.data }, { on := 4, ground := Ground.guard }], guard := some (4, false) }) (v := .bool false) rfl (by kernel_rfl) (by kernel_rfl) (by kernel_rfl) (fun _ _ _ h => h) (Or.inl ⟨by rfl, ?y10⟩) hS ?_
        case y10 =>
          intro W hW
          obtain ⟨s1, s2, s3, s4, s5, s6, s7, s8⟩ := hW
          go_simp
        simp only [Act.put, List.setIfInBounds_toArray, List.set_cons_zero, List.set_cons_succ]
        refine wpAnyH_take (i := 11) (oi := { dst := some 85, op := Op.pick (Operand.tmp 78) (Operand.const (Value.bool true)) (Operand.tmp 84), type := 4, pos := "law.go:94", after := #[{ on := 4, ground := Ground.data }, { on := 10, ground := Ground.data }], guard := none }) (v := .bool false) rfl (by kernel_rfl) (by kernel_rfl) (by kernel_rfl) (fun _ _ _ h => h) (Or.inl ⟨by rfl, ?y11⟩) hS ?_
        case y11 =>
          intro W hW
          obtain ⟨s1, s2, s3, s4, s5, s6, s7, s8⟩ := hW
          go_simp
        simp only [Act.put, List.setIfInBounds_toArray, List.set_cons_zero, List.set_cons_succ]
        refine wpAnyH_take (i := 12) (oi := { dst := some 86, op := Op.move (Operand.tmp 85), type := 4, pos := "law.go:94", after := #[{ on := 11, ground := Ground.data }, { on := 4, ground := Ground.chain }], guard := none }) (v := .bool false) rfl (by kernel_rfl) (by kernel_rfl) (by kernel_rfl) (fun _ _ _ h => h) (Or.inl ⟨by rfl, ?y12⟩) hS ?_
        case y12 =>
          intro W hW
          obtain ⟨s1, s2, s3, s4, s5, s6, s7, s8⟩ := hW
          go_simp
        simp only [Act.put, List.setIfInBounds_toArray, List.set_cons_zero, List.set_cons_succ]
        refine wpAnyH_take (i := 13) (oi := { dst := some 87, op := Op.move (Operand.tmp 15), type := 22, pos := "law.go:94", after := #[{ on := 12, ground := Ground.guard }], guard := some (12, false) }) (v := .slice x.a x.m x.c) rfl (by kernel_rfl) (by kernel_rfl) (by kernel_rfl) (fun _ _ _ h => h) (Or.inl ⟨by rfl, ?y13⟩) hS ?_
        case y13 =>
          intro W hW
          obtain ⟨s1, s2, s3, s4, s5, s6, s7, s8⟩ := hW
          go_simp
        simp only [Act.put, List.setIfInBounds_toArray, List.set_cons_zero, List.set_cons_succ]
        refine wpAnyH_take (i := 14) (oi := { dst := some 88, op := Op.convert 22 9 (Operand.tmp 87), type := 9, pos := "law.go:94", after := #[{ on := 13, ground := Ground.data }, { on := 12, ground := Ground.guard }], guard := some (12, false) }) (v := .string SS) rfl (by kernel_rfl) (by kernel_rfl) (by kernel_rfl) (fun _ _ _ h => h) (Or.inl ⟨by rfl, ?y14⟩) hS ?_
        case y14 =>
          intro W hW
          obtain ⟨s1, s2, s3, s4, s5, s6, s7, s8⟩ := hW
          go_simp
        simp only [Act.put, List.setIfInBounds_toArray, List.set_cons_zero, List.set_cons_succ]
        refine wpAnyH_take (i := 15) (oi := { dst := some 89, op := Op.load 29 (Operand.tmp 2), type := 29, pos := "law.go:94", after := #[{ on := 12, ground := Ground.guard }], guard := some (12, false) }) (v := .slice (some ⟨bl, ol, none⟩) len cap) rfl (by kernel_rfl) (by kernel_rfl) (by kernel_rfl) (fun _ _ _ h => h) (Or.inl ⟨by rfl, ?y15⟩) hS ?_
        case y15 =>
          intro W hW
          obtain ⟨s1, s2, s3, s4, s5, s6, s7, s8⟩ := hW
          go_simp
        simp only [Act.put, List.setIfInBounds_toArray, List.set_cons_zero, List.set_cons_succ]
        refine wpAnyH_take (i := 16) (oi := { dst := some 90, op := Op.load 3 (Operand.tmp 13), type := 3, pos := "law.go:94", after := #[{ on := 12, ground := Ground.guard }], guard := some (12, false) }) (v := .int .i64 (i : Int)) rfl (by kernel_rfl) (by kernel_rfl) (by kernel_rfl) (fun _ _ _ h => h) (Or.inl ⟨by rfl, ?y16⟩) hS ?_
        case y16 =>
          intro W hW
          obtain ⟨s1, s2, s3, s4, s5, s6, s7, s8⟩ := hW
          go_simp
        simp only [Act.put, List.setIfInBounds_toArray, List.set_cons_zero, List.set_cons_succ]
        refine wpAnyH_take (i := 17) (oi := { dst := some 91, op := Op.indexAddr 29 (Operand.tmp 89) (Operand.tmp 90), type := 0, pos := "law.go:94", after := #[{ on := 15, ground := Ground.data }, { on := 16, ground := Ground.data }, { on := 12, ground := Ground.guard }], guard := some (12, false) }) (v := .pointer (some ⟨bl, ol + i, none⟩)) rfl (by kernel_rfl) (by kernel_rfl) (by kernel_rfl) (fun _ _ _ h => h) (Or.inl ⟨by rfl, ?y17⟩) hS ?_
        case y17 =>
          intro W hW
          obtain ⟨s1, s2, s3, s4, s5, s6, s7, s8⟩ := hW
          go_simp
        simp only [Act.put, List.setIfInBounds_toArray, List.set_cons_zero, List.set_cons_succ]
        refine wpAnyH_take (i := 18) (oi := { dst := some 92, op := Op.load 22 (Operand.tmp 91), type := 22, pos := "law.go:94", after := #[{ on := 17, ground := Ground.data }, { on := 12, ground := Ground.guard }], guard := some (12, false) }) (v := .slice Ar Lr Cr) rfl (by kernel_rfl) (by kernel_rfl) (by kernel_rfl) (fun _ _ _ h => h) (Or.inl ⟨by rfl, ?y18⟩) hS ?_
        case y18 =>
          intro W hW
          obtain ⟨s1, s2, s3, s4, s5, s6, s7, s8⟩ := hW
          go_simp
        simp only [Act.put, List.setIfInBounds_toArray, List.set_cons_zero, List.set_cons_succ]
        refine wpAnyH_take (i := 19) (oi := { dst := some 93, op := Op.convert 22 9 (Operand.tmp 92), type := 9, pos := "law.go:94", after := #[{ on := 18, ground := Ground.data }, { on := 12, ground := Ground.guard }], guard := some (12, false) }) (v := .string SS) rfl (by kernel_rfl) (by kernel_rfl) (by kernel_rfl) (fun _ _ _ h => h) (Or.inl ⟨by rfl, ?y19⟩) hS ?_
        case y19 =>
          intro W hW
          obtain ⟨s1, s2, s3, s4, s5, s6, s7, s8⟩ := hW
          go_simp
        simp only [Act.put, List.setIfInBounds_toArray, List.set_cons_zero, List.set_cons_succ]
        refine wpAnyH_take (i := 20) (oi := { dst := some 94, op := Op.binOp BinOp.neq 9 (Operand.tmp 88) (Operand.tmp 93) 9, type := 4, pos := "law.go:94", after := #[{ on := 14, ground := Ground.data }, { on := 19, ground := Ground.data }, { on := 12, ground := Ground.guard }], guard := some (12, false) }) (v := .bool false) rfl (by kernel_rfl) (by kernel_rfl) (by kernel_rfl) (fun _ _ _ h => h) (Or.inl ⟨by rfl, ?y20⟩) hS ?_
        case y20 =>
          intro W hW
          obtain ⟨s1, s2, s3, s4, s5, s6, s7, s8⟩ := hW
          go_simp
        simp only [Act.put, List.setIfInBounds_toArray, List.set_cons_zero, List.set_cons_succ]
        refine wpAnyH_take (i := 21) (oi := { dst := some 95, op := Op.pick (Operand.tmp 86) (Operand.const (Value.bool true)) (Operand.tmp 94), type := 4, pos := "law.go:94", after := #[{ on := 12, ground := Ground.data }, { on := 20, ground := Ground.data }], guard := none }) (v := .bool false) rfl (by kernel_rfl) (by kernel_rfl) (by kernel_rfl) (fun _ _ _ h => h) (Or.inl ⟨by rfl, ?y21⟩) hS ?_
        case y21 =>
          intro W hW
          obtain ⟨s1, s2, s3, s4, s5, s6, s7, s8⟩ := hW
          go_simp
        simp only [Act.put, List.setIfInBounds_toArray, List.set_cons_zero, List.set_cons_succ]
        refine wpAnyH_done (by kernel_rfl) ?_ _
        gi_wp2
        have hoth : ∀ b, b ≠ w2.heap.size → (A.setCell ⟨w2.heap.size, 0, none⟩ (.int .i64 ((i : Int) + 1))).drew.heap[b]? = A.heap[b]? := fun b hb => heap_setCell_other A ⟨w2.heap.size, 0, none⟩ b _ hb
        have h3s := HS3.out
        have hsame : (A.setCell ⟨w2.heap.size, 0, none⟩ (.int .i64 ((i : Int) + 1))).drew.heap[w2.heap.size]? = some (.cells #[.int .i64 ((i + 1 : Nat) : Int)] 3) := heap_setCell_same A w2.heap.size 0 #[.int .i64 (i : Int)] 3 (.int .i64 ((i : Int) + 1)) hbx
        refine ⟨⟨i + 1, hit, HNX.out, hsame, (hbel.setCell (p := ⟨w2.heap.size, 0, none⟩) (Nat.le_refl _) _).trans (below_drewN _ _ 1), by simpa using hsz⟩, ⟨by simp, fun b _ hb => hoth b (by omega)⟩, hoth _ (by omega), hoth _ (by omega)⟩
      case done =>
        rintro s A ⟨i, hi, hs, hbx, hbel, hsz⟩ ⟨hsP, hne⟩ hKD
        subst hs
        have hlenx : (ls.take t).length = t := by rw [List.length_take, HLL.out]; exact Nat.min_eq_left HK.out.le
        rw [HLD.out] at hne
        have hend := (at_frame (ls.take t) P i (fun y hy => by have := HK.out.short y hy; omega) (by rw [hlenx]; exact hi)).2 hne
        rw [hlenx] at hend
        have hsw := HK.out.size
        have hs2 := HB2.out.size
        rw [World.size_alloc] at hs2
        have h3s := HS3.out
        have hblk : ∀ b, b < wr.heap.size → A.heap[b]? = wr.heap[b]? := fun b hb => (hbel.block b (by omega)).trans ((HB2.out.block b (by rw [World.size_alloc]; omega)).trans (Below.heap_alloc _ _ _ hb))
        have hBA : Below wr.heap.size wr A := ⟨hbel.os.trans HB2.out.os, hbel.tape.trans HB2.out.tape, hbel.output.trans HB2.out.output, by have := hbel.size; omega, hblk⟩
        have HBA : Hid (Below w.heap.size w A) := HK.out.below.trans (hBA.mono (by omega))
        have cI := (cell_box hbx).1
        have cE : A.cell? ⟨w.heap.size + 1 + 1, 0, none⟩ = some (.slice ae t ce) := cell_one ((hblk _ (by omega)).trans HK.out.box2)
        have cN : A.cell? ⟨wr.heap.size, 0, none⟩ = some (.int .i64 (P : Int)) := cell_one ((hbel.block _ (by omega)).trans ((HB2.out.block _ (by rw [World.size_alloc]; omega)).trans (heap_alloc_new wr _)))
        have HR : Hid (A.heap[w.heap.size + 1]? = some (.cells #[.bool false] 4)) := (hblk _ (by omega)).trans HK.out.box1
        have HKD : Hid (A.heap[W3.heap.size]? = some (.deferred (some []))) := hKD
        have HLA : Hid (W3.heap.size < A.heap.size) := (Array.getElem?_eq_some_iff.1 hKD).1
        have HWS : Hid (w.heap.size + 3 ≤ wr.heap.size ∧ wr.heap.size < w2.heap.size) := ⟨hsw, by omega⟩
        clear hKD hbx hbel hsz hne hlenx
        by_cases hit : i = t
        · gi_wp2
          refine wpIn_wide.2 ?_
          refine last_all cI cE HR.out (by omega) (by omega) hit ?_
          rintro ⟨tm, df⟩ w9 h1 h2 h3
          dsimp only at h1 h2
          subst h1
          gi_wp2
          exact leaves_last HBA.out h3 (by omega) HKD.out HR.out h2
        · have hit' : i < t := by omega
          have hPE : P < E (ls.take t) (i + 1) := hend.resolve_left hit
          rw [E_take ls t (i + 1) (by omega)] at hPE
          obtain ⟨ge, cge, hve, hge1, hge2⟩ : ∃ ge c', (Value.slice ae t ce) = .slice (some ⟨ge, 0, none⟩) t c' ∧ w.heap.size + 3 ≤ ge ∧ ge < wr.heap.size := by
            rcases HK.out.ends.2 with ⟨_, h0⟩ | ⟨g', c', cur, e1, e2, e3, _⟩
            · omega
            · exact ⟨g', c', e1, e2, lt_of_block e3⟩
          cases hve
          have cEi : A.cell? ⟨ge, i, none⟩ = some (.int .i64 (E ls (i + 1) : Int)) := by
            have e1 := World.ownsRow.cellAt HK.out.ends i (by omega)
            have e2 : (endsOf ls t)[i]? = some (.int .i64 (E ls (i + 1) : Int)) := by simp [endsOf, hit']
            exact (hBA.cell (p := ⟨ge, i, none⟩) hge2).trans (e1.trans e2)
          gi_wp2
          refine wpIn_wide.2 ?_
          refine last_cut cI cE HR.out (by omega) (by omega) hit' cN cEi hPE (by omega) (by omega) ?_
          rintro ⟨tm, df⟩ w9 h1 h2 h3
          dsimp only at h1 h2
          subst h1
          gi_wp2
          exact leaves_last HBA.out h3 (by omega) HKD.out HR.out h2
#print axioms begins
end Go.Proofs.Ytchblcfbllcbmab.Oct
