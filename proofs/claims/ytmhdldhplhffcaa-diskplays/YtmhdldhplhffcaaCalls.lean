/-
  Layer 5 (disk): Write in all its cases; Read; New.
-/
import Derived.Test.YtmhdldhplhffcaaWrite
namespace Go.Proofs.Ytmhdldhplhffcaa.Oct
open Go.RowKit Go.Maps Go.Lib

set_option maxHeartbeats 1000000 in
theorem write_ch {w : World} {d bs bl : Nat} {pv : Value} {nS nL : Nat} {DS DL : DataW Unit} {D : Disk} (h : DkAt w d bs bl pv nS nL DS DL D) (hn : D.ops < 100000000000) (i : Int) (a : Option Addr) (len cap : Nat) (b : List UInt8) (hin : In w a len cap b) :
    Calls Try.prog 18 #[.pointer (some ⟨d, 0, none⟩), .int .i64 i, .slice a len cap] w fun e w' => e = .returned (.int .i64 (D.write i b).1) ∧ Ch w d bs bl pv (D.write i b).2 w' := by
  have hbl := hin.1
  have hlm := hin.2.2.1
  have HU : Hid (DkAt w d bs bl pv nS nL DS DL D) := h
  have hr := ready_is h
  have hh := has_is h i
  unfold Disk.write
  cases hd : D.down
  · rw [hd] at hr
    simp only [Bool.false_eq_true, if_false] at hr ⊢
    by_cases hok : 0 ≤ i ∧ i < D.n
    · rw [decide_eq_true hok] at hh
      by_cases h256 : len = 256
      · subst h256
        rw [if_neg (by rw [hbl]; simp [hok])]
        cases ho : D.out
        · simp only [Bool.false_eq_true, if_false]
          obtain ⟨j, rfl⟩ : ∃ j : Nat, i = j := ⟨i.toNat, by omega⟩
          rw [Int.toNat_natCast]
          exact write_on h hn hd ho j (by omega) a cap b hin
        · simp only [if_true]
          have hs := spend_out h hd ho
          clear h hd ho hn hin hok hbl hlm
          go_enter Try.func18, Try.ntmps18
          go_wp2_with (first
            | (go_at_call 40; refine hr.mono ?_; rintro e w1 ⟨rfl, rfl⟩)
            | (go_at_call 44; refine hh.mono ?_; rintro e w1 ⟨rfl, rfl⟩)
            | (go_at_call 41; refine hs.mono ?_; rintro e w1 ⟨rfl, hA, hG⟩; have HA : Hid (DkAt w1 d bs bl pv nS nL DS DL D.off) := hA; have HG : Hid (w.grownBy w1 (some d)) := hG; clear hA hG hr hs hh))
          go_ret
          exact ⟨rfl, pv, nS, nL, DS, DL, HA.out, fun _ hg => .inl hg, Keep.grown HG.out (.inl rfl)⟩
      · rw [if_pos (.inr (by rw [hbl]; exact h256))]
        have q1 : ¬ ((len : Int) = 256) := by omega
        clear h hd hn hin hok hbl h256
        go_enter Try.func18, Try.ntmps18
        go_wp2_with (first
          | (go_at_call 40; refine hr.mono ?_; rintro e w1 ⟨rfl, rfl⟩)
          | (go_at_call 44; refine hh.mono ?_; rintro e w1 ⟨rfl, rfl⟩))
        go_ret
        exact ⟨rfl, Ch.same HU.out⟩
    · rw [decide_eq_false hok] at hh
      rw [if_pos (.inl hok)]
      clear h hd hn hin hok hbl hlm
      go_enter Try.func18, Try.ntmps18
      go_wp2_with (first
        | (go_at_call 40; refine hr.mono ?_; rintro e w1 ⟨rfl, rfl⟩)
        | (go_at_call 44; refine hh.mono ?_; rintro e w1 ⟨rfl, rfl⟩))
      go_ret
      exact ⟨rfl, Ch.same HU.out⟩
  · rw [hd] at hr
    simp only [if_true] at hr ⊢
    clear h hd hn hin hbl hlm hh
    go_enter Try.func18, Try.ntmps18
    go_wp2_with (go_at_call 40; refine hr.mono ?_; rintro e w1 ⟨rfl, rfl⟩)
    go_ret
    exact ⟨rfl, Ch.same HU.out⟩

theorem zero72 (W : World) : (zeroValue 72).run Try.prog W = .ok (.agg (U zeros).toArray) W := by
  have h : (Try.prog.info? 72).bind (·.zero) = some (.agg (U zeros).toArray) := by kernel_rfl
  obtain ⟨i, hi, hz⟩ := Option.bind_eq_some_iff.1 h
  generalize (U zeros).toArray = Y at *
  simp only [zeroValue, typeInfo]
  simp [hi, hz]

/-- 'm[i]' of the sure sectors -/
theorem look_sure {w : World} {d bs bl : Nat} {pv : Value} {nS nL : Nat} {DS DL : DataW Unit} {D : Disk} (h : DkAt w d bs bl pv nS nL DS DL D) (i : Nat) (hi : i < D.n) : (Instr.lookup 57 (.map (some bs)) (.int .i64 (i : Int)) false).run Try.prog w = .ok (.agg (U (D.sure i)).toArray) w := by
  obtain ⟨v, ps, hrun, hv⟩ := h.sure.lookup keyed (t := 57) (e := 72) Try.underlying57 (zero72 w) (RS_mk zeros zeros_length) (key_of i (by have := h.good.2.1; omega))
  rw [h.looks i] at hv
  obtain ⟨rfl, _⟩ := RS_inv hv
  exact hrun
/-- 'v, ok := m[i]' of the last writes -/
theorem look_last {w : World} {d bs bl : Nat} {pv : Value} {nS nL : Nat} {DS DL : DataW Unit} {D : Disk} (h : DkAt w d bs bl pv nS nL DS DL D) (i : Nat) (hi : i < D.n) :
    ((∀ x ∈ D.pend, x.1 ≠ i) ∧ (Instr.lookup 59 (.map (some bl)) (.int .i64 (i : Int)) true).run Try.prog w = .ok (.tuple #[.int .i64 0, .bool false]) w) ∨
    ∃ (p : Nat) (b : List UInt8), D.pend[p]? = some (i, b) ∧ (∀ q y, p < q → D.pend[q]? = some y → y.1 ≠ i) ∧ (Instr.lookup 59 (.map (some bl)) (.int .i64 (i : Int)) true).run Try.prog w = .ok (.tuple #[.int .i64 (p : Int), .bool true]) w := by
  have hz3 : (zeroValue 3).run Try.prog w = .ok (.int .i64 0) w := by kernel_rfl
  obtain ⟨v, ps, hrun, hv⟩ := h.last.look_ok keyed (t := 59) (e := 3) Try.underlying59 hz3 (plainElem_int Try.underlying3 (by decide)) (key_of i (by have := h.good.2.1; omega))
  obtain ⟨c, rfl, hc, _⟩ := plainElem_int_inv Try.underlying3 hv
  have hc' : DL.atKey (kl i) (.lit (.int .i64 0)) = .lit (.int .i64 c) := congrArg Prod.fst hc
  rcases h.lasts i with ⟨h1, h2⟩ | ⟨p, b, h1, h2, h3, h4⟩
  · rw [atKey_of_not_has h1] at hc'
    simp at hc'
    rw [h1, ← hc'] at hrun
    exact .inl ⟨h2, hrun⟩
  · rw [h2] at hc'
    simp at hc'
    rw [h1, ← hc'] at hrun
    exact .inr ⟨p, b, h3, h4, hrun⟩
theorem row_range1 {w : World} {g n cap : Nat} {l : List (Nat × List UInt8)} (h : w.ownsRow 0 75 257 (.slice (some ⟨g, 0, none⟩) n cap) n (l.flatMap wc)) (hl : ∀ x ∈ l, x.2.length = 256) (hn : l.length = n) {t i : Nat} {b : List UInt8} (hx : l[t]? = some (i, b)) :
    w.rangeAt g (t * 257 + 1) (U b) := by
  intro j v hj
  have := row_range h hl hn hx (j + 1) v (by simpa [wc] using hj)
  rw [show t * 257 + 1 + j = t * 257 + (j + 1) by omega]
  exact this

set_option maxHeartbeats 1000000 in
set_option maxRecDepth 100000 in
theorem read_ok {w : World} {d bs bl : Nat} {pv : Value} {nS nL : Nat} {DS DL : DataW Unit} {D : Disk} (h : DkAt w d bs bl pv nS nL DS DL D) (hn : D.ops < 1000000000000) (hd : D.down = false) (i : Nat) (hi : i < D.n) :
    Calls Try.prog 21 #[.pointer (some ⟨d, 0, none⟩), .int .i64 (i : Int)] w fun e w' => e = .returned (.tuple #[.slice (some ⟨w.heap.size, 0, none⟩) 256 256, .int .i64 0]) ∧ w' = w.alloc (.cells (U (settled D.sure D.pend i)).toArray 72) := by
  have hr := ready_is h
  rw [hd] at hr
  have hh := has_is h (i : Int)
  rw [decide_eq_true (show 0 ≤ (i : Int) ∧ (i : Int) < (D.n : Int) by omega)] at hh
  have c3 := h.c3
  have c1 := h.c1
  have c2 := h.c2
  obtain ⟨ao, cp, rfl, hao⟩ := row_opt h.row
  obtain ⟨n, hnl⟩ : ∃ n, n = D.pend.length := ⟨_, rfl⟩
  rw [← hnl] at h c2 hao
  have hroom := h.roomS
  rcases look_last h i hi with ⟨hno, hlast⟩ | ⟨p, b, hp, hq, hlast⟩
  · have hls := look_sure h i hi
    rw [settled_none D.pend i D.sure hno]
    obtain ⟨Y, hY⟩ : ∃ Y, Y = (U (D.sure i)).toArray := ⟨_, rfl⟩
    rw [← hY] at hls ⊢
    have hcp := copied_is Y w
    clear h hY hno hd hao
    go_enter Try.func21, Try.ntmps21
    go_wp2_with (first
      | (go_at_call 40; refine hr.mono ?_; rintro e w1 ⟨rfl, rfl⟩)
      | (go_at_call 44; refine hh.mono ?_; rintro e w1 ⟨rfl, rfl⟩)
      | (go_at_call 43; refine hcp.mono ?_; rintro e w1 ⟨rfl, rfl⟩))
    go_ret2
    exact ⟨rfl, rfl⟩
  · have hpl : p < n := by rw [hnl]; exact (List.getElem?_eq_some_iff.1 hp).1
    have hbl : b.length = 256 := (h.good.2.2.2.1 _ (List.mem_of_getElem? hp)).2
    rw [settled_at D.pend i b D.sure p hp hq]
    obtain ⟨g, hg, hgl⟩ := hao (by omega)
    subst hg
    have HR : Hid (w.rangeAt g (p * 257 + 1) (U b)) := by
      have hrow := h.row
      exact row_range1 (n := n) (by rw [hnl]; rw [hnl] at hrow; exact hrow) (fun y hy => (h.good.2.2.2.1 y hy).2) hnl.symm hp
    have HS : Hid ((Try.prog.info? 72).map (·.size) = some (U b).length) := by show _ = _; rw [U_length, hbl]; exact size72
    have hcp := copied_is (U b).toArray w
    have q1 : (p : Int) < (n : Int) := by omega
    have HN : Hid (n < 1000000000000) := by show n < _; omega
    clear h hp hq hd hnl hroom hn hao hbl hpl
    go_enter Try.func21, Try.ntmps21
    go_wp2_with (first
      | (go_at_call 40; refine hr.mono ?_; rintro e w1 ⟨rfl, rfl⟩)
      | (go_at_call 44; refine hh.mono ?_; rintro e w1 ⟨rfl, rfl⟩)
      | (with_reducible change wpList _ _ _ ({ dst := some 35, op := Op.load 72 _, type := _, pos := _, after := _, guard := _ } :: _) _ _; refine wpList_load_mid rfl 72 (.tmp 34) rfl g (p * 257 + 1) rfl (U b) _ HR.out arr72 rfl HS.out ?_)
      | (go_at_call 43; refine hcp.mono ?_; rintro e w1 ⟨rfl, rfl⟩))
    go_ret2
    exact ⟨rfl, rfl⟩
theorem read_bad {w : World} {d bs bl : Nat} {pv : Value} {nS nL : Nat} {DS DL : DataW Unit} {D : Disk} (h : DkAt w d bs bl pv nS nL DS DL D) (i : Int) (hb : D.down = true ∨ ¬ (0 ≤ i ∧ i < D.n)) :
    Calls Try.prog 21 #[.pointer (some ⟨d, 0, none⟩), .int .i64 i] w fun e w' => e = .returned (.tuple #[.slice none 0 0, .int .i64 (D.read i).2]) ∧ w' = w := by
  have hr := ready_is h
  have hh := has_is h i
  unfold Disk.read
  cases hd : D.down
  · rw [hd] at hr
    have hok : ¬ (0 ≤ i ∧ i < D.n) := hb.resolve_left (by rw [hd]; simp)
    rw [decide_eq_false hok] at hh
    simp only [Bool.false_eq_true, if_false, hok, not_false_eq_true, if_true] at hr ⊢
    clear h hd hb hok
    go_enter Try.func21, Try.ntmps21
    go_wp2_with (first
      | (go_at_call 40; refine hr.mono ?_; rintro e w1 ⟨rfl, rfl⟩)
      | (go_at_call 44; refine hh.mono ?_; rintro e w1 ⟨rfl, rfl⟩))
    go_ret2
    exact ⟨rfl, rfl⟩
  · rw [hd] at hr
    simp only [if_true] at hr ⊢
    clear h hd hb hh
    go_enter Try.func21, Try.ntmps21
    go_wp2_with (go_at_call 40; refine hr.mono ?_; rintro e w1 ⟨rfl, rfl⟩)
    go_ret2
    exact ⟨rfl, rfl⟩

/-- a new disk -/
def fresh (n : Nat) : Disk := { n := n, sure := fun _ => zeros, pend := [], plan := none, down := false, ops := 0 }
theorem built61 (n : Int) (b c : Nat) : Try.prog.built 61 [(0, .int .i64 n), (1, .map (some b)), (3, .map (some c)), (4, .int .i64 (-1))] = some #[.int .i64 n, .map (some b), .slice none 0 0, .map (some c), .int .i64 (-1), .bool false, .int .i64 0] := by kernel_rfl
theorem new_bad (n : Int) (hn : n < 1 ∨ 4096 < n) (w : World) : Calls Try.prog 7 #[.int .i64 n] w fun e w' => e = .returned (.tuple #[.pointer none, .int .i64 2]) ∧ w' = w := by
  by_cases h1 : n < 1
  · clear hn
    go_enter Try.func7, Try.ntmps7
    go_wp2
    go_ret2
    exact ⟨rfl, rfl⟩
  · have h2 := hn.resolve_left h1
    clear hn
    go_enter Try.func7, Try.ntmps7
    go_wp2
    go_ret2
    exact ⟨rfl, rfl⟩
set_option maxRecDepth 100000 in
theorem new_is (n : Nat) (h1 : 1 ≤ n) (h2 : n ≤ 4096) (w : World) : Calls Try.prog 7 #[.int .i64 (n : Int)] w fun e w' => e = .returned (.tuple #[.pointer (some ⟨w.heap.size + 1 + 1, 0, none⟩), .int .i64 0]) ∧ Dk w' (fun k => w.heap.size ≤ k ∧ k < w'.heap.size) (w.heap.size + 1 + 1) (fresh n) ∧ Below w.heap.size w w' := by
  have q1 : ¬ ((n : Int) < 1) := by omega
  have q2 : ¬ ((4096 : Int) < (n : Int)) := by omega
  have hmm := @run_makeMap Try.prog
  have HN : Hid (1 ≤ n ∧ n ≤ 4096) := ⟨h1, h2⟩
  clear h1 h2
  obtain ⟨C, hC⟩ : ∃ C : Array Value, C = #[.int .i64 (n : Int), .map (some w.heap.size), .slice none 0 0, .map (some (w.heap.size + 1)), .int .i64 (-1), .bool false, .int .i64 0] := ⟨_, rfl⟩
  have HC : Hid (C = #[.int .i64 (n : Int), .map (some w.heap.size), .slice none 0 0, .map (some (w.heap.size + 1)), .int .i64 (-1), .bool false, .int .i64 0]) := hC
  have HBT : Hid (Try.prog.built 61 [(0, .int .i64 (n : Int)), (1, .map (some w.heap.size)), (3, .map (some (w.heap.size + 1))), (4, .int .i64 (-1))] = some C) := by rw [hC]; exact built61 _ _ _
  clear hC
  go_enter Try.func7, Try.ntmps7
  go_wp2_with (with_reducible change wpList _ _ _ ({ dst := some 13, op := Op.build 61 _, type := _, pos := _, after := _, guard := _ } :: _) _ _; refine wpList_built rfl 61 _ rfl C (by simp [Act.eval]; exact HBT.out) ?_)
  go_ret2
  refine ⟨rfl, ⟨w.heap.size, w.heap.size + 1, .slice none 0 0, 0, 0, .map [], .map [], ⟨?_, ?_, ?_, fun i => rfl, (fun i => .inl ⟨rfl, fun x hx => by cases hx⟩), row_nil _, Nat.le_refl _, Nat.le_refl _, by omega, ?_⟩, ?_, ?_, ?_, (fun g hg => by cases hg), fun k hk => hk.2⟩, ?_⟩
  · rw [HC.out]
    have := Blk.new ((w.alloc (.map #[] 0)).alloc (.map #[] 0)) #[.int .i64 (n : Int), .map (some w.heap.size), .slice none 0 0, .map (some (w.heap.size + 1)), .int .i64 (-1), .bool false, .int .i64 0] 61
    simpa [dc, fresh, planI] using this
  · exact ((World.ownsMap_made w Try.prog 3 RS).alloc _).alloc _
  · have := (World.ownsMap_made (w.alloc (.map #[] 0)) Try.prog 3 (plainElem (H := Unit) Try.prog 3)).alloc (.cells C 61)
    simpa using this
  · exact ⟨HN.out.1, HN.out.2, fun _ => zeros_length, (fun x hx => by cases hx), (fun k hk => by cases hk)⟩
  · simp; omega
  · simp; omega
  · simp
  · exact (((Below.refl _ w).alloc (Nat.le_refl _) _).alloc (by simp) _).alloc (by simp; omega) _
#print axioms new_is
#print axioms write_ch
#print axioms look_last
#print axioms read_ok
end Go.Proofs.Ytmhdldhplhffcaa.Oct
