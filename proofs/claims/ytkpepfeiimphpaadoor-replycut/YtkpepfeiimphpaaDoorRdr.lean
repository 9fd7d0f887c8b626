/-
  Layer 24 (reply): Read of the reference.
-/
import Derived.Test.YtkpepfeiimphpaaDoorPrw
namespace Go.Proofs.YtkpepfeiimphpaaDoor.Oct
open Go.RowKit
set_option linter.unusedSimpArgs false
set_option linter.unusedVariables false

theorem results_cell2 {fn : Func} {p u u2 : Tmp} {ty : TypeId} (h : fn.results = #[.cell p ty, .tmp u, .tmp u2]) (tmps : Array Value) (P : Program) (w : World) :
    (results fn tmps).run P w = ((asAddr (tmps.getD p undef)).run P w).andThen fun a w₁ => ((loadVar ty a).run P w₁).andThen fun v w₂ => .ok (.tuple #[v, tmps.getD u undef, tmps.getD u2 undef]) w₂ := by
  simp only [results, h]
  simp [Sem.run_bind, Result.andThen]
theorem rret23uu {R : Ending → World → Prop} {fn : Func} {pt u u2 : Tmp} {a : Act} {w : World} {g : Nat} {X : List Value} (hr : fn.results = #[.cell pt 23, .tmp u, .tmp u2]) (hd : a.defers = []) (hp : a.tmps.getD pt undef = .pointer (some ⟨g, 0, none⟩)) (hl : X.length = 4)
    (hb : Blk w g 23 X) (hR : R (.returned (.tuple #[.agg X.toArray, a.tmps.getD u undef, a.tmps.getD u2 undef])) w) : bodyPost Tryd.prog fn R .ret a w := by
  have hl := run_loadVar_mid (P := Tryd.prog) w g 0 23 X _ (by have := hb.range 0 4; rwa [List.drop_zero, List.take_of_length_le (by omega)] at this) Tryd.underlying23 rfl (by rw [hl]; exact size23)
  refine bodyPost_ret (v := .tuple #[.agg X.toArray, a.tmps.getD u undef, a.tmps.getD u2 undef]) ?_ hd hR
  rw [results_cell2 hr, hp]
  simp [asAddr, hl, Result.andThen]
/-- a reply's four cells -/
abbrev rpc (st : Int) (ty bo : BA) (cl : Bool) : List Value := [iv st, .string ty, .string bo, .bool cl]
abbrev e0 : BA := ⟨#[]⟩
theorem rpc_one (st : Int) (ty bo : BA) (cl : Bool) : ∀ v ∈ rpc st ty bo cl, v.oneCell' = true := by
  intro v hv
  simp [rpc] at hv
  rcases hv with rfl | rfl | rfl | rfl <;> rfl
/-- where a reader stands: its answer at b, what it has read at g -/
structure RS (w W : World) (b g : Nat) (X : List Value) : Prop where
  pw : PT w
  bl : Below w.heap.size w W
  z : Blk W b 23 (rpc 0 e0 e0 false)
  x : Blk W g 23 X
  ne : b ≠ g
  lb : w.heap.size ≤ b
  lg : w.heap.size ≤ g
theorem RS.pt {w W : World} {b g : Nat} {X : List Value} (h : RS w W b g X) : PT W := h.pw.below h.bl
theorem RS.below {w W W' : World} {b g : Nat} {X : List Value} (h : RS w W b g X) (hb : Below W.heap.size W W') : RS w W' b g X := ⟨h.pw, below_tr h.bl hb, h.z.below hb h.z.lt, h.x.below hb h.x.lt, h.ne, h.lb, h.lg⟩
theorem RS.set {w W : World} {b g : Nat} {X : List Value} (h : RS w W b g X) (i : Nat) (v : Value) : RS w (W.setCell ⟨g, i, none⟩ v) b g (X.set i v) := ⟨h.pw, h.bl.setCell h.lg v, h.z.other h.ne v, h.x.set i v, h.ne, h.lb, h.lg⟩
theorem tw_p {d : UInt8 → Bool} {l : List UInt8} {t : Nat} (h : (l.take t).all d = true) (h2 : ∀ h : t < l.length, d l[t] = false) : l.takeWhile d = l.take t ∧ l.dropWhile d = l.drop t := by
  have ha : ∀ a ∈ l.take t, d a = true := by simpa [List.all_eq_true] using h
  have e : (l.drop t).takeWhile d = [] ∧ (l.drop t).dropWhile d = l.drop t := by
    by_cases k : t < l.length
    · rw [List.drop_eq_getElem_cons k]
      exact ⟨List.takeWhile_cons_of_neg (by rw [h2 k]; decide), List.dropWhile_cons_of_neg (by rw [h2 k]; decide)⟩
    · rw [List.drop_eq_nil_of_le (by omega)]
      exact ⟨rfl, rfl⟩
  refine ⟨?_, ?_⟩
  · conv => lhs; rw [← List.take_append_drop t l]
    rw [List.takeWhile_append_of_pos ha, e.1, List.append_nil]
  · conv => lhs; rw [← List.take_append_drop t l]
    rw [List.dropWhile_append_of_pos ha, e.2]
theorem all_snoc_p {d : UInt8 → Bool} {l : List UInt8} {t : Nat} (h : t < l.length) : (l.take (t + 1)).all d = ((l.take t).all d && d l[t]) := by
  rw [List.take_add_one, List.getElem?_eq_getElem h, List.all_append]
  simp
/-- what a reading answers -/
def RdP (l : List UInt8) (e : Ending) : Prop :=
  (∃ (st : Int) (ty bo : BA) (cl : Bool), e = .returned (.tuple #[.agg (rpc st ty bo cl).toArray, iv ((prL st ty bo cl).1.length : Int), iv 0]) ∧ (prL st ty bo cl).2 = 0 ∧ aftB l (prL st ty bo cl).1 = true) ∨
  (e = .returned (.tuple #[.agg (rpc 0 e0 e0 false).toArray, iv 0, iv 240]) ∧ ∀ (st : Int) (ty bo : BA) (cl : Bool), (prL st ty bo cl).2 = 0 → aftB l (prL st ty bo cl).1 = false)
theorem rp_pr {l : List UInt8} {st : Int} {ty bo : BA} {cl : Bool} (h0 : (prL st ty bo cl).2 = 0) (h1 : aftB l (prL st ty bo cl).1 = true) : (rpS l : Int) = st ∧ rpT l = ty.data.toList ∧ rpN l = bo.size ∧ rpC l = cl ∧ ∃ r, rpR l = bo.data.toList ++ r := by
  unfold prL at h0 h1
  by_cases c1 : st < 100 ∨ 999 < st ∨ typB ty.data.toList = false
  · rw [if_pos c1] at h0; exact absurd h0 (by decide)
  rw [if_neg c1] at h0 h1
  by_cases c2 : 65536 < bo.size
  · rw [if_pos c2] at h0; exact absurd h0 (by decide)
  rw [if_neg c2] at h0 h1
  have hT : ty.data.toList.all okc = true := by
    cases h : typB ty.data.toList with
    | false => exact absurd (.inr (.inr h)) c1
    | true => unfold typB at h; simp only [Bool.and_eq_true] at h; exact h.2
  unfold aftB at h1
  rw [List.isPrefixOf_iff_prefix] at h1
  obtain ⟨r, rfl⟩ := h1
  dsimp only
  rw [List.append_assoc]
  obtain ⟨a1, a2, a3, a4, a5⟩ := rp_of (st := st.toNat) (n := bo.size) (ty := ty.data.toList) (cl := cl) (by omega) hT (by omega) (bo.data.toList ++ r)
  exact ⟨by rw [a1]; omega, a2, a3, a4, r, a5⟩
/-- read alike by any two -/
theorem rd_one {l : List UInt8} {e e' : Ending} (h : RdP l e) (h' : RdP l e') : e = e' := by
  rcases h with ⟨st, ty, bo, cl, rfl, a1, a2⟩ | ⟨rfl, a⟩ <;> rcases h' with ⟨st', ty', bo', cl', rfl, b1, b2⟩ | ⟨rfl, k⟩
  · obtain ⟨p1, p2, p3, p4, r, p5⟩ := rp_pr a1 a2
    obtain ⟨q1, q2, q3, q4, r', q5⟩ := rp_pr b1 b2
    obtain rfl : st = st' := p1.symm.trans q1
    obtain rfl : ty = ty' := ba_ext (p2.symm.trans q2)
    obtain rfl : cl = cl' := p4.symm.trans q4
    have hz : bo.data.toList.length = bo'.data.toList.length := (p3.symm.trans q3 : bo.size = bo'.size)
    obtain rfl : bo = bo' := ba_ext (List.append_inj_left (p5.symm.trans q5) hz)
    rfl
  · rw [k st ty bo cl a1] at a2; cases a2
  · rw [a st' ty' bo' cl' b1] at b2; cases b2
  · rfl
#print axioms rd_one
theorem RS.out {w W W' : World} {b g : Nat} {X : List Value} (h : RS w W b g X) (hg : W.grownBy W' (some b)) : Below w.heap.size w W' := by
  obtain ⟨a1, a2, a3, a4, a5⟩ := hg
  obtain ⟨b1, b2, b3, b4, b5⟩ := h.bl
  have := h.lb
  exact ⟨a1.trans b1, a2.trans b2, a3.trans b3, Nat.le_trans b4 a4, fun k hk => (a5 k (Nat.lt_of_lt_of_le hk b4) (by simp; omega)).trans (b5 k hk)⟩
theorem prL_len (st : Int) (ty bo : BA) (cl : Bool) : (prL st ty bo cl).1.length ≤ 140737488355328 := by
  unfold prL
  by_cases c1 : st < 100 ∨ 999 < st ∨ typB ty.data.toList = false
  · rw [if_pos c1]; decide
  rw [if_neg c1]
  by_cases c2 : 65536 < bo.size
  · rw [if_pos c2]; decide
  rw [if_neg c2]
  have hT : ty.data.toList.length ≤ 64 := by
    cases h : typB ty.data.toList with
    | false => exact absurd (.inr (.inr h)) c1
    | true => unfold typB at h; simp only [Bool.and_eq_true, decide_eq_true_eq] at h; exact h.1.1.1
  have h1 := dec_len st.toNat st.toNat (Nat.le_refl _)
  have h2 := dec_len bo.size bo.size (Nat.le_refl _)
  have h3 : (reasonS (st.toNat : Int)).data.toList.length ≤ 1000 := reason_sz _
  have h4 : bo.data.toList.length = bo.size := rfl
  show (headL _ _ _ _ ++ _).length ≤ _
  have h5 : (if ty.data.toList = [] then ([] : List UInt8) else ctL ++ (ty.data.toList ++ crL)).length ≤ 100 := by
    split
    · decide
    · simp only [List.length_append]
      have : ctL.length = 14 := rfl
      have : crL.length = 2 := rfl
      omega
  have h6 : (if cl then ccL else ([] : List UInt8)).length ≤ 100 := by cases cl <;> decide
  unfold headL
  rw [List.length_append, List.length_append, List.length_append, List.length_append, List.length_append, List.length_append, List.length_append, List.length_append, List.length_append, List.length_append, List.length_append]
  have e1 : vL.length = 9 := rfl
  have e2 : crL.length = 2 := rfl
  have e3 : clL.length = 16 := rfl
  have e4 : ((⟨#[32]⟩ : BA).data.toList).length = 1 := rfl
  rw [e1, e2, e3, e4]
  have h7 : ∀ (a b c d e f g : Nat), a ≤ 1000 → b ≤ 1000 → c ≤ 100 → d ≤ 65537 → e ≤ 100 → f ≤ 65536 → 9 + (a + (1 + (b + (2 + (c + (16 + (d + (2 + (e + 2))))))))) + f ≤ 140737488355328 := by omega
  exact h7 _ _ _ _ _ _ 0 (by omega) h3 h5 (by omega) h6 (by omega)
theorem numN_le (l : List UInt8) : numN l ≤ 65537 := by
  unfold numN
  generalize l.takeWhile digB = d
  suffices h : ∀ (d : List UInt8) (a : Nat), a ≤ 65537 → d.foldl numS a ≤ 65537 from h d 0 (by omega)
  intro d
  induction d with
  | nil => intro a h; exact h
  | cons c d ih => intro a _; exact ih _ (numS_le a c)
set_option maxRecDepth 100000 in
set_option maxHeartbeats 4000000 in
theorem rread_is (s : BA) (hs : s.size ≤ 140737488355328) (w : World) (hp : PT w) : Calls Tryd.prog 13 #[.string s] w fun e w' => RdP s.data.toList e ∧ Below w.heap.size w w' := by
  obtain ⟨b, hb⟩ : ∃ b, w.heap.size = b := ⟨_, rfl⟩
  obtain ⟨A1, hA1⟩ : ∃ A, w.alloc (.cells #[iv 0, .string e0, .string e0, .bool false] 23) = A := ⟨_, rfl⟩
  obtain ⟨g, hg⟩ : ∃ g, A1.heap.size = g := ⟨_, rfl⟩
  obtain ⟨A, hA⟩ : ∃ A, A1.alloc (.cells #[iv 0, .string e0, .string e0, .bool false] 23) = A := ⟨_, rfl⟩
  have hB1 : Below w.heap.size w A1 := by rw [← hA1]; exact below_al _ _
  have hB2 : Below A1.heap.size A1 A := by rw [← hA]; exact below_al _ _
  have HA : Hid (RS w A b g (rpc 0 e0 e0 false)) := by
    have k1 : Blk A1 b 23 (rpc 0 e0 e0 false) := by rw [← hA1, ← hb]; exact Blk.new w _ _
    have k2 := k1.lt
    refine ⟨hp, below_tr hB1 hB2, k1.below hB2 k1.lt, by rw [← hA, ← hg]; exact Blk.new A1 _ _, by omega, by omega, by omega⟩
  have HSs : Hid (s.size ≤ 140737488355328) := hs
  clear hp hs hB1 hB2
  go_enter Tryd.func13, Tryd.ntmps13
  go_wp2_with fail
  refine (rafter_is s (⟨#[72, 84, 84, 80, 47, 49, 46, 49, 32]⟩ : BA) HSs.out (by decide) _).mono ?_
  rintro e X ⟨⟨s1, rfl, H1⟩, rfl⟩
  have HSs1 : Hid (s1.size ≤ 140737488355328) := Nat.le_trans H1.out.2 HSs.out
  obtain ⟨B1, hB⟩ : ∃ B, aftB s.data.toList (⟨#[72, 84, 84, 80, 47, 49, 46, 49, 32]⟩ : BA).data.toList = B := ⟨_, rfl⟩
  have HB1 : Hid (aftB s.data.toList (⟨#[72, 84, 84, 80, 47, 49, 46, 49, 32]⟩ : BA).data.toList = B1) := hB
  rw [hB]
  clear hB
  clear hA1 hA hb hg
  go_wp2_with fail
  refine (rnum_is s1 HSs1.out _).mono ?_
  rintro e W1 ⟨⟨s2, rfl, H2⟩, hbW⟩
  have HSs2 : Hid (s2.size ≤ 140737488355328) := Nat.le_trans H2.out.2 HSs1.out
  obtain ⟨n1, hnn⟩ : ∃ n, numN s1.data.toList = n := ⟨_, rfl⟩
  have Hn1 : Hid (numN s1.data.toList = n1 ∧ n1 ≤ 65537) := ⟨hnn, by rw [← hnn]; exact numN_le _⟩
  rw [hnn]
  have HA2 : Hid _ := HA.out.below hbW
  clear hnn hbW HA
  have c0 : W1.cell? ⟨g, 0, none⟩ = some (iv 0) := HA2.out.x.cell rfl
  have f0 : W1.frozen? ⟨g, 0, none⟩ = false := HA2.out.x.free 0
  obtain ⟨W2, hX⟩ : ∃ X, W1.setCell ⟨g, 0, none⟩ (iv (n1 : Int)) = X := ⟨_, rfl⟩
  have HA3 : Hid (RS w W2 b g (rpc (n1 : Int) e0 e0 false)) := by show RS _ _ _ _ _; rw [← hX]; exact HA2.out.set 0 _
  have k0 : W2.cell? ⟨g, 0, none⟩ = some (iv (n1 : Int)) := HA3.out.x.cell rfl
  go_wp2_with fail
  clear c0 f0 hX
  obtain ⟨rs, hrs⟩ : ∃ r, reasonS (n1 : Int) = r := ⟨_, rfl⟩
  have HRS : Hid (reasonS (n1 : Int) = rs ∧ rs.size ≤ 1000) := ⟨hrs, by rw [← hrs]; exact reason_sz _⟩
  have qrs : rs.size ≤ 1000 := HRS.out.2
  refine (rreason_is (n1 : Int) _).mono ?_
  rintro e X ⟨rfl, rfl⟩
  rw [hrs]
  clear hrs
  go_wp2_with fail
  obtain ⟨P3, hP3⟩ : ∃ P, (⟨#[32]⟩ : BA) ++ rs ++ (⟨#[13, 10]⟩ : BA) = P := ⟨_, rfl⟩
  have HP3 : Hid (P3.data.toList = [32] ++ (reasonS (n1 : Int)).data.toList ++ crL ∧ P3.size ≤ 140737488355328) := by
    refine ⟨?_, ?_⟩
    · rw [← hP3, HRS.out.1]; simp [ByteArray.data_append]
    · rw [← hP3]; exact Nat.le_trans (sz_app (sz_app (show (⟨#[32]⟩ : BA).size ≤ 100 by decide) HRS.out.2) (show (⟨#[13, 10]⟩ : BA).size ≤ 100 by decide)) (by decide)
  rw [hP3]
  clear hP3 qrs
  refine (rafter_is s2 P3 HSs2.out HP3.out.2 _).mono ?_
  rintro e X ⟨⟨s3, rfl, H3⟩, rfl⟩
  have HSs3 : Hid (s3.size ≤ 140737488355328) := Nat.le_trans H3.out.2 HSs2.out
  obtain ⟨B3, hB⟩ : ∃ B, aftB s2.data.toList P3.data.toList = B := ⟨_, rfl⟩
  have HB3 : Hid (aftB s2.data.toList P3.data.toList = B3) := hB
  rw [hB]
  clear hB
  have HR1 : Hid (rp1 s.data.toList = (n1, s3.data.toList)) := by
    have a1 : s1.data.toList = aftL s.data.toList vL := H1.out.1
    show rp1 _ = _
    unfold rp1
    rw [← a1, Hn1.out.1, ← H2.out.1, ← HP3.out.1, ← H3.out.1]
  clear k0 HP3 HRS H1 H2 H3 Hn1 HB1 HB3
  go_wp2_with fail
  refine (rafter_is s3 (⟨#[99, 111, 110, 116, 101, 110, 116, 45, 116, 121, 112, 101, 58, 32]⟩ : BA) HSs3.out (by decide) _).mono ?_
  rintro e X ⟨⟨r4, rfl, H4⟩, rfl⟩
  have HSr4 : Hid (r4.size ≤ 140737488355328) := Nat.le_trans H4.out.2 HSs3.out
  obtain ⟨B4, hB⟩ : ∃ B, aftB s3.data.toList (⟨#[99, 111, 110, 116, 101, 110, 116, 45, 116, 121, 112, 101, 58, 32]⟩ : BA).data.toList = B := ⟨_, rfl⟩
  have HB4 : Hid (aftB s3.data.toList (⟨#[99, 111, 110, 116, 101, 110, 116, 45, 116, 121, 112, 101, 58, 32]⟩ : BA).data.toList = B4) := hB
  rw [hB]
  clear hB
  cases B4
  ·
    have HTYS : Hid (e0.size ≤ 140737488355328) := (by decide : e0.size ≤ 140737488355328)
    have HR2 : Hid (rp2 s3.data.toList = (e0.data.toList, s3.data.toList)) := by
      have a0 : aftB s3.data.toList ctL = false := HB4.out
      show rp2 _ = _
      unfold rp2
      rw [a0]
      rfl
    go_wp2_with fail
    refine (rafter_is s3 (⟨#[99, 111, 110, 116, 101, 110, 116, 45, 108, 101, 110, 103, 116, 104, 58, 32]⟩ : BA) HSs3.out (by decide) _).mono ?_
    rintro e X ⟨⟨s5, rfl, H6⟩, rfl⟩
    have HSs5 : Hid (s5.size ≤ 140737488355328) := Nat.le_trans H6.out.2 HSs3.out
    obtain ⟨B6, hB⟩ : ∃ B, aftB s3.data.toList (⟨#[99, 111, 110, 116, 101, 110, 116, 45, 108, 101, 110, 103, 116, 104, 58, 32]⟩ : BA).data.toList = B := ⟨_, rfl⟩
    have HB6 : Hid (aftB s3.data.toList (⟨#[99, 111, 110, 116, 101, 110, 116, 45, 108, 101, 110, 103, 116, 104, 58, 32]⟩ : BA).data.toList = B6) := hB
    rw [hB]
    clear hB
    go_wp2_with fail
    refine (rnum_is s5 HSs5.out _).mono ?_
    rintro e W5 ⟨⟨s6, rfl, H7⟩, hbW⟩
    have HSs6 : Hid (s6.size ≤ 140737488355328) := Nat.le_trans H7.out.2 HSs5.out
    obtain ⟨n2, hnn⟩ : ∃ n, numN s5.data.toList = n := ⟨_, rfl⟩
    have Hn2 : Hid (numN s5.data.toList = n2 ∧ n2 ≤ 65537) := ⟨hnn, by rw [← hnn]; exact numN_le _⟩
    rw [hnn]
    have HD : Hid _ := HA3.out.below hbW
    clear hnn hbW HA3
    have qn2 : (n2 : Int) ≤ 65537 := by have := Hn2.out.2; omega
    go_wp2_with fail
    refine (rafter_is s6 (⟨#[13, 10]⟩ : BA) HSs6.out (by decide) _).mono ?_
    rintro e X ⟨⟨s7, rfl, H8⟩, rfl⟩
    have HSs7 : Hid (s7.size ≤ 140737488355328) := Nat.le_trans H8.out.2 HSs6.out
    obtain ⟨B8, hB⟩ : ∃ B, aftB s6.data.toList (⟨#[13, 10]⟩ : BA).data.toList = B := ⟨_, rfl⟩
    have HB8 : Hid (aftB s6.data.toList (⟨#[13, 10]⟩ : BA).data.toList = B8) := hB
    rw [hB]
    clear hB
    have HR3 : Hid (rp3 s3.data.toList = (n2, s7.data.toList)) := by
      have a1 : s5.data.toList = aftL s3.data.toList clL := H6.out.1
      have a2 : s7.data.toList = aftL s6.data.toList crL := H8.out.1
      show rp3 _ = _
      unfold rp3
      rw [← a1, Hn2.out.1, ← H7.out.1, ← a2]
    clear H6 H7 H8 Hn2 HB6 HB8
    go_wp2_with fail
    refine (rafter_is s7 (⟨#[99, 111, 110, 110, 101, 99, 116, 105, 111, 110, 58, 32, 99, 108, 111, 115, 101, 13, 10]⟩ : BA) HSs7.out (by decide) _).mono ?_
    rintro e X ⟨⟨r8, rfl, H9⟩, rfl⟩
    have HSr8 : Hid (r8.size ≤ 140737488355328) := Nat.le_trans H9.out.2 HSs7.out
    obtain ⟨B9, hB⟩ : ∃ B, aftB s7.data.toList (⟨#[99, 111, 110, 110, 101, 99, 116, 105, 111, 110, 58, 32, 99, 108, 111, 115, 101, 13, 10]⟩ : BA).data.toList = B := ⟨_, rfl⟩
    have HB9 : Hid (aftB s7.data.toList (⟨#[99, 111, 110, 110, 101, 99, 116, 105, 111, 110, 58, 32, 99, 108, 111, 115, 101, 13, 10]⟩ : BA).data.toList = B9) := hB
    rw [hB]
    clear hB
    cases B9
    ·
      go_wp2_with fail
      refine (rafter_is s7 (⟨#[13, 10]⟩ : BA) HSs7.out (by decide) _).mono ?_
      rintro e X ⟨⟨s9, rfl, H10⟩, rfl⟩
      have HSs9 : Hid (s9.size ≤ 140737488355328) := Nat.le_trans H10.out.2 HSs7.out
      obtain ⟨B10, hB⟩ : ∃ B, aftB s7.data.toList (⟨#[13, 10]⟩ : BA).data.toList = B := ⟨_, rfl⟩
      have HB10 : Hid (aftB s7.data.toList (⟨#[13, 10]⟩ : BA).data.toList = B10) := hB
      rw [hB]
      clear hB
      have HR4 : Hid (rp4 s7.data.toList = (false, s9.data.toList)) := by
        show rp4 _ = _
        have a1 : aftB s7.data.toList ccL = false := HB9.out
        have a2 : s9.data.toList = aftL s7.data.toList crL := H10.out.1
        have a3 : aftL s7.data.toList ccL = s7.data.toList := by unfold aftL; rw [a1]; rfl
        unfold rp4
        rw [a3, a1, ← a2]
      obtain ⟨m, hm⟩ : ∃ m, s9.size = m := ⟨_, rfl⟩
      have HM : Hid (s9.size = m ∧ s9.data.toList.length = m) := ⟨hm, hm⟩
      have qm : (m : Int) ≤ 140737488355328 := by have := HSs9.out; omega
      by_cases hn2 : m < n2
      · have q2 : (m : Int) < (n2 : Int) := by omega
        go_wp2_with (with_reducible change wpList _ _ _ ({ dst := none, op := Op.store 23 _ _, type := _, pos := _, after := _, guard := _ } :: _) _ _; refine Hid.out ?_)
        show wpList _ _ _ _ _ _
        refine wpList_store_blk rfl 23 (.tmp 2) (.tmp 100) rfl b 0 23 _ (rpc 0 e0 e0 false) rfl rfl HD.out.z (by decide) size23 (rpc_one _ _ _ _) ?_
        intro W9 hz hgr
        have HZ : Hid (Blk W9 b 23 (rpc 0 e0 e0 false) ∧ Below w.heap.size w W9) := ⟨hz.out, HD.out.out hgr.out⟩
        clear hz hgr
        go_wp2
        refine rret23uu rfl rfl rfl rfl HZ.out.1 ⟨.inr ⟨rfl, ?_⟩, HZ.out.2⟩
        intro st' ty' bo' cl' k1
        cases k2 : aftB s.data.toList (prL st' ty' bo' cl').1 with
        | false => rfl
        | true =>
          exfalso
          obtain ⟨p1, p2, p3, p4, r, p5⟩ := rp_pr k1 k2
          unfold rpS at p1
          unfold rpT at p2
          unfold rpN at p3
          unfold rpC at p4
          unfold rpR at p5
          rw [HR1.out] at p1 p2 p3 p4 p5
          dsimp only at p1 p2 p3 p4 p5
          rw [HR2.out] at p2 p3 p4 p5
          dsimp only at p2 p3 p4 p5
          rw [HR3.out] at p3 p4 p5
          dsimp only at p3 p4 p5
          rw [HR4.out] at p4 p5
          dsimp only at p4 p5
          have := congrArg List.length p5
          rw [HM.out.2, List.length_append] at this
          have h4 : bo'.data.toList.length = bo'.size := rfl
          omega
      · have q2 : (n2 : Int) ≤ (m : Int) := by omega
        have d2 : decide ((m : Int) < (n2 : Int)) = false := decide_eq_false (by omega)
        clear hn2
        obtain ⟨bo, hbo⟩ : ∃ y, s9.extract 0 n2 = y := ⟨_, rfl⟩
        have HBO : Hid (bo.data.toList = s9.data.toList.take n2 ∧ bo.size ≤ 140737488355328) := by
          refine ⟨?_, ?_⟩
          · rw [← hbo, ← toList_d, ext_to]
          · rw [← hbo, ByteArray.size_extract]; have := HSs9.out; omega
        have c2 : W5.cell? ⟨g, 2, none⟩ = some (.string e0) := HD.out.x.cell rfl
        have f2 : W5.frozen? ⟨g, 2, none⟩ = false := HD.out.x.free 2
        obtain ⟨W7, hX⟩ : ∃ X, W5.setCell ⟨g, 2, none⟩ (.string bo) = X := ⟨_, rfl⟩
        have HB : Hid (RS w W7 b g (rpc (n1 : Int) e0 bo false)) := by show RS _ _ _ _ _; rw [← hX]; exact HD.out.set 2 _
        go_wp2_with (with_reducible change wpList _ _ _ ({ dst := some 106, op := _, type := _, pos := _, after := _, guard := _ } :: _) _ _; refine Hid.out ?_)
        show wpList _ _ _ _ _ _
        clear hbo qm q2 d2
        clear c2 f2 hX
        refine wpList_load_row rfl 23 (.tmp 5) rfl g rfl 23 (rpc (n1 : Int) e0 bo false).toArray (0, 0) _ HB.out.x Tryd.underlying23 rfl size23 ?_
        go_wp2_with fail
        refine (rprint_w (n1 : Int) e0 bo false _ HB.out.pt HTYS.out HBO.out.2).mono ?_
        rintro e W8 ⟨tx, rfl, HTX, hbW⟩
        have HC : Hid _ := HB.out.below hbW
        clear hbW HB
        obtain ⟨k, hk⟩ : ∃ k, (prL (n1 : Int) e0 bo false).2 = k := ⟨_, rfl⟩
        have HK : Hid ((prL (n1 : Int) e0 bo false).2 = k) := hk
        rw [hk]
        clear hk
        have HXS : Hid (tx.size ≤ 140737488355328) := by
          show tx.data.toList.length ≤ _
          rw [HTX.out]; exact prL_len _ _ _ _
        go_wp2_with fail
        refine (rafter_is s tx HSs.out HXS.out _).mono ?_
        rintro e X ⟨⟨r11, rfl, H11⟩, rfl⟩
        have HSr11 : Hid (r11.size ≤ 140737488355328) := Nat.le_trans H11.out.2 HSs.out
        obtain ⟨B11, hB⟩ : ∃ B, aftB s.data.toList tx.data.toList = B := ⟨_, rfl⟩
        have HB11 : Hid (aftB s.data.toList tx.data.toList = B11) := hB
        rw [hB]
        clear hB
        cases B11
        ·
          go_wp2_with (with_reducible change wpList _ _ _ ({ dst := none, op := Op.store 23 _ _, type := _, pos := _, after := _, guard := _ } :: _) _ _; refine Hid.out ?_)
          show wpList _ _ _ _ _ _
          refine wpList_store_blk rfl 23 (.tmp 2) (.tmp 122) rfl b 0 23 _ (rpc 0 e0 e0 false) rfl rfl HC.out.z (by decide) size23 (rpc_one _ _ _ _) ?_
          intro W9 hz hgr
          have HZ : Hid (Blk W9 b 23 (rpc 0 e0 e0 false) ∧ Below w.heap.size w W9) := ⟨hz.out, HC.out.out hgr.out⟩
          clear hz hgr
          go_wp2
          refine rret23uu rfl rfl rfl rfl HZ.out.1 ⟨.inr ⟨rfl, ?_⟩, HZ.out.2⟩
          intro st' ty' bo' cl' k1
          cases k2 : aftB s.data.toList (prL st' ty' bo' cl').1 with
          | false => rfl
          | true =>
            exfalso
            obtain ⟨p1, p2, p3, p4, r, p5⟩ := rp_pr k1 k2
            unfold rpS at p1
            unfold rpT at p2
            unfold rpN at p3
            unfold rpC at p4
            unfold rpR at p5
            rw [HR1.out] at p1 p2 p3 p4 p5
            dsimp only at p1 p2 p3 p4 p5
            rw [HR2.out] at p2 p3 p4 p5
            dsimp only at p2 p3 p4 p5
            rw [HR3.out] at p3 p4 p5
            dsimp only at p3 p4 p5
            rw [HR4.out] at p4 p5
            dsimp only at p4 p5
            subst p1
            obtain rfl : e0 = ty' := ba_ext p2
            subst p4
            obtain rfl : bo = bo' := by
              apply ba_ext
              rw [HBO.out.1, p5, p3]
              exact List.take_left' rfl
            rw [← HTX.out, HB11.out] at k2
            cases k2
        · by_cases hk0 : k = 0
          · subst hk0
            go_wp2_with (with_reducible change wpList _ _ _ ({ dst := some 123, op := _, type := _, pos := _, after := _, guard := _ } :: _) _ _; refine Hid.out ?_)
            show wpList _ _ _ _ _ _
            refine wpList_load_row rfl 23 (.tmp 5) rfl g rfl 23 (rpc (n1 : Int) e0 bo false).toArray (0, 0) _ HC.out.x Tryd.underlying23 rfl size23 ?_
            go_wp2_with (with_reducible change wpList _ _ _ ({ dst := none, op := Op.store 23 _ _, type := _, pos := _, after := _, guard := _ } :: _) _ _; refine Hid.out ?_)
            show wpList _ _ _ _ _ _
            refine wpList_store_blk rfl 23 (.tmp 2) (.tmp 123) rfl b 0 23 _ (rpc (n1 : Int) e0 bo false) rfl rfl HC.out.z (Nat.le_refl 4) size23 (rpc_one _ _ _ _) ?_
            intro W9 hz hgr
            have HZ : Hid (Blk W9 b 23 (rpc (n1 : Int) e0 bo false) ∧ Below w.heap.size w W9) := ⟨hz.out, HC.out.out hgr.out⟩
            clear hz hgr
            go_wp2
            refine rret23uu rfl rfl rfl rfl HZ.out.1 ⟨.inl ⟨n1, e0, bo, false, ?_, HK.out, by rw [← HTX.out]; exact HB11.out⟩, HZ.out.2⟩
            rw [← HTX.out]
            rfl
          · have e9 : (k != 0) = true := by simpa using hk0
            have e8 : (k == 0) = false := by simpa using hk0
            have HK0 : Hid (k ≠ 0) := hk0
            clear hk0
            go_wp2_with (with_reducible change wpList _ _ _ ({ dst := none, op := Op.store 23 _ _, type := _, pos := _, after := _, guard := _ } :: _) _ _; refine Hid.out ?_)
            show wpList _ _ _ _ _ _
            refine wpList_store_blk rfl 23 (.tmp 2) (.tmp 122) rfl b 0 23 _ (rpc 0 e0 e0 false) rfl rfl HC.out.z (by decide) size23 (rpc_one _ _ _ _) ?_
            intro W9 hz hgr
            have HZ : Hid (Blk W9 b 23 (rpc 0 e0 e0 false) ∧ Below w.heap.size w W9) := ⟨hz.out, HC.out.out hgr.out⟩
            clear hz hgr
            go_wp2
            refine rret23uu rfl rfl rfl rfl HZ.out.1 ⟨.inr ⟨rfl, ?_⟩, HZ.out.2⟩
            intro st' ty' bo' cl' k1
            cases k2 : aftB s.data.toList (prL st' ty' bo' cl').1 with
            | false => rfl
            | true =>
              exfalso
              obtain ⟨p1, p2, p3, p4, r, p5⟩ := rp_pr k1 k2
              unfold rpS at p1
              unfold rpT at p2
              unfold rpN at p3
              unfold rpC at p4
              unfold rpR at p5
              rw [HR1.out] at p1 p2 p3 p4 p5
              dsimp only at p1 p2 p3 p4 p5
              rw [HR2.out] at p2 p3 p4 p5
              dsimp only at p2 p3 p4 p5
              rw [HR3.out] at p3 p4 p5
              dsimp only at p3 p4 p5
              rw [HR4.out] at p4 p5
              dsimp only at p4 p5
              subst p1
              obtain rfl : e0 = ty' := ba_ext p2
              subst p4
              obtain rfl : bo = bo' := by
                apply ba_ext
                rw [HBO.out.1, p5, p3]
                exact List.take_left' rfl
              exact HK0.out (HK.out.symm.trans k1)
    ·
      have c3 : W5.cell? ⟨g, 3, none⟩ = some (.bool false) := HD.out.x.cell rfl
      have f3 : W5.frozen? ⟨g, 3, none⟩ = false := HD.out.x.free 3
      obtain ⟨W6, hX⟩ : ∃ X, W5.setCell ⟨g, 3, none⟩ (.bool true) = X := ⟨_, rfl⟩
      have HE : Hid (RS w W6 b g (rpc (n1 : Int) e0 e0 true)) := by show RS _ _ _ _ _; rw [← hX]; exact HD.out.set 3 _
      go_wp2_with fail
      refine (rafter_is r8 (⟨#[13, 10]⟩ : BA) HSr8.out (by decide) _).mono ?_
      rintro e X ⟨⟨s9, rfl, H10⟩, rfl⟩
      have HSs9 : Hid (s9.size ≤ 140737488355328) := Nat.le_trans H10.out.2 HSr8.out
      obtain ⟨B10, hB⟩ : ∃ B, aftB r8.data.toList (⟨#[13, 10]⟩ : BA).data.toList = B := ⟨_, rfl⟩
      have HB10 : Hid (aftB r8.data.toList (⟨#[13, 10]⟩ : BA).data.toList = B10) := hB
      rw [hB]
      clear hB
      have HR4 : Hid (rp4 s7.data.toList = (true, s9.data.toList)) := by
        show rp4 _ = _
        have a1 : aftB s7.data.toList ccL = true := HB9.out
        have a2 : s9.data.toList = aftL r8.data.toList crL := H10.out.1
        have a3 : r8.data.toList = aftL s7.data.toList ccL := H9.out.1
        unfold rp4
        rw [← a3, a1, ← a2]
      obtain ⟨m, hm⟩ : ∃ m, s9.size = m := ⟨_, rfl⟩
      have HM : Hid (s9.size = m ∧ s9.data.toList.length = m) := ⟨hm, hm⟩
      have qm : (m : Int) ≤ 140737488355328 := by have := HSs9.out; omega
      by_cases hn2 : m < n2
      · have q2 : (m : Int) < (n2 : Int) := by omega
        go_wp2_with (with_reducible change wpList _ _ _ ({ dst := none, op := Op.store 23 _ _, type := _, pos := _, after := _, guard := _ } :: _) _ _; refine Hid.out ?_)
        show wpList _ _ _ _ _ _
        refine wpList_store_blk rfl 23 (.tmp 2) (.tmp 100) rfl b 0 23 _ (rpc 0 e0 e0 false) rfl rfl HE.out.z (by decide) size23 (rpc_one _ _ _ _) ?_
        intro W9 hz hgr
        have HZ : Hid (Blk W9 b 23 (rpc 0 e0 e0 false) ∧ Below w.heap.size w W9) := ⟨hz.out, HE.out.out hgr.out⟩
        clear hz hgr
        go_wp2
        refine rret23uu rfl rfl rfl rfl HZ.out.1 ⟨.inr ⟨rfl, ?_⟩, HZ.out.2⟩
        intro st' ty' bo' cl' k1
        cases k2 : aftB s.data.toList (prL st' ty' bo' cl').1 with
        | false => rfl
        | true =>
          exfalso
          obtain ⟨p1, p2, p3, p4, r, p5⟩ := rp_pr k1 k2
          unfold rpS at p1
          unfold rpT at p2
          unfold rpN at p3
          unfold rpC at p4
          unfold rpR at p5
          rw [HR1.out] at p1 p2 p3 p4 p5
          dsimp only at p1 p2 p3 p4 p5
          rw [HR2.out] at p2 p3 p4 p5
          dsimp only at p2 p3 p4 p5
          rw [HR3.out] at p3 p4 p5
          dsimp only at p3 p4 p5
          rw [HR4.out] at p4 p5
          dsimp only at p4 p5
          have := congrArg List.length p5
          rw [HM.out.2, List.length_append] at this
          have h4 : bo'.data.toList.length = bo'.size := rfl
          omega
      · have q2 : (n2 : Int) ≤ (m : Int) := by omega
        have d2 : decide ((m : Int) < (n2 : Int)) = false := decide_eq_false (by omega)
        clear hn2
        obtain ⟨bo, hbo⟩ : ∃ y, s9.extract 0 n2 = y := ⟨_, rfl⟩
        have HBO : Hid (bo.data.toList = s9.data.toList.take n2 ∧ bo.size ≤ 140737488355328) := by
          refine ⟨?_, ?_⟩
          · rw [← hbo, ← toList_d, ext_to]
          · rw [← hbo, ByteArray.size_extract]; have := HSs9.out; omega
        have c2 : W6.cell? ⟨g, 2, none⟩ = some (.string e0) := HE.out.x.cell rfl
        have f2 : W6.frozen? ⟨g, 2, none⟩ = false := HE.out.x.free 2
        obtain ⟨W7, hX⟩ : ∃ X, W6.setCell ⟨g, 2, none⟩ (.string bo) = X := ⟨_, rfl⟩
        have HB : Hid (RS w W7 b g (rpc (n1 : Int) e0 bo true)) := by show RS _ _ _ _ _; rw [← hX]; exact HE.out.set 2 _
        go_wp2_with (with_reducible change wpList _ _ _ ({ dst := some 106, op := _, type := _, pos := _, after := _, guard := _ } :: _) _ _; refine Hid.out ?_)
        show wpList _ _ _ _ _ _
        clear hbo qm q2 d2
        clear c2 f2 hX
        refine wpList_load_row rfl 23 (.tmp 5) rfl g rfl 23 (rpc (n1 : Int) e0 bo true).toArray (0, 0) _ HB.out.x Tryd.underlying23 rfl size23 ?_
        go_wp2_with fail
        refine (rprint_w (n1 : Int) e0 bo true _ HB.out.pt HTYS.out HBO.out.2).mono ?_
        rintro e W8 ⟨tx, rfl, HTX, hbW⟩
        have HC : Hid _ := HB.out.below hbW
        clear hbW HB
        obtain ⟨k, hk⟩ : ∃ k, (prL (n1 : Int) e0 bo true).2 = k := ⟨_, rfl⟩
        have HK : Hid ((prL (n1 : Int) e0 bo true).2 = k) := hk
        rw [hk]
        clear hk
        have HXS : Hid (tx.size ≤ 140737488355328) := by
          show tx.data.toList.length ≤ _
          rw [HTX.out]; exact prL_len _ _ _ _
        go_wp2_with fail
        refine (rafter_is s tx HSs.out HXS.out _).mono ?_
        rintro e X ⟨⟨r11, rfl, H11⟩, rfl⟩
        have HSr11 : Hid (r11.size ≤ 140737488355328) := Nat.le_trans H11.out.2 HSs.out
        obtain ⟨B11, hB⟩ : ∃ B, aftB s.data.toList tx.data.toList = B := ⟨_, rfl⟩
        have HB11 : Hid (aftB s.data.toList tx.data.toList = B11) := hB
        rw [hB]
        clear hB
        cases B11
        ·
          go_wp2_with (with_reducible change wpList _ _ _ ({ dst := none, op := Op.store 23 _ _, type := _, pos := _, after := _, guard := _ } :: _) _ _; refine Hid.out ?_)
          show wpList _ _ _ _ _ _
          refine wpList_store_blk rfl 23 (.tmp 2) (.tmp 122) rfl b 0 23 _ (rpc 0 e0 e0 false) rfl rfl HC.out.z (by decide) size23 (rpc_one _ _ _ _) ?_
          intro W9 hz hgr
          have HZ : Hid (Blk W9 b 23 (rpc 0 e0 e0 false) ∧ Below w.heap.size w W9) := ⟨hz.out, HC.out.out hgr.out⟩
          clear hz hgr
          go_wp2
          refine rret23uu rfl rfl rfl rfl HZ.out.1 ⟨.inr ⟨rfl, ?_⟩, HZ.out.2⟩
          intro st' ty' bo' cl' k1
          cases k2 : aftB s.data.toList (prL st' ty' bo' cl').1 with
          | false => rfl
          | true =>
            exfalso
            obtain ⟨p1, p2, p3, p4, r, p5⟩ := rp_pr k1 k2
            unfold rpS at p1
            unfold rpT at p2
            unfold rpN at p3
            unfold rpC at p4
            unfold rpR at p5
            rw [HR1.out] at p1 p2 p3 p4 p5
            dsimp only at p1 p2 p3 p4 p5
            rw [HR2.out] at p2 p3 p4 p5
            dsimp only at p2 p3 p4 p5
            rw [HR3.out] at p3 p4 p5
            dsimp only at p3 p4 p5
            rw [HR4.out] at p4 p5
            dsimp only at p4 p5
            subst p1
            obtain rfl : e0 = ty' := ba_ext p2
            subst p4
            obtain rfl : bo = bo' := by
              apply ba_ext
              rw [HBO.out.1, p5, p3]
              exact List.take_left' rfl
            rw [← HTX.out, HB11.out] at k2
            cases k2
        · by_cases hk0 : k = 0
          · subst hk0
            go_wp2_with (with_reducible change wpList _ _ _ ({ dst := some 123, op := _, type := _, pos := _, after := _, guard := _ } :: _) _ _; refine Hid.out ?_)
            show wpList _ _ _ _ _ _
            refine wpList_load_row rfl 23 (.tmp 5) rfl g rfl 23 (rpc (n1 : Int) e0 bo true).toArray (0, 0) _ HC.out.x Tryd.underlying23 rfl size23 ?_
            go_wp2_with (with_reducible change wpList _ _ _ ({ dst := none, op := Op.store 23 _ _, type := _, pos := _, after := _, guard := _ } :: _) _ _; refine Hid.out ?_)
            show wpList _ _ _ _ _ _
            refine wpList_store_blk rfl 23 (.tmp 2) (.tmp 123) rfl b 0 23 _ (rpc (n1 : Int) e0 bo true) rfl rfl HC.out.z (Nat.le_refl 4) size23 (rpc_one _ _ _ _) ?_
            intro W9 hz hgr
            have HZ : Hid (Blk W9 b 23 (rpc (n1 : Int) e0 bo true) ∧ Below w.heap.size w W9) := ⟨hz.out, HC.out.out hgr.out⟩
            clear hz hgr
            go_wp2
            refine rret23uu rfl rfl rfl rfl HZ.out.1 ⟨.inl ⟨n1, e0, bo, true, ?_, HK.out, by rw [← HTX.out]; exact HB11.out⟩, HZ.out.2⟩
            rw [← HTX.out]
            rfl
          · have e9 : (k != 0) = true := by simpa using hk0
            have e8 : (k == 0) = false := by simpa using hk0
            have HK0 : Hid (k ≠ 0) := hk0
            clear hk0
            go_wp2_with (with_reducible change wpList _ _ _ ({ dst := none, op := Op.store 23 _ _, type := _, pos := _, after := _, guard := _ } :: _) _ _; refine Hid.out ?_)
            show wpList _ _ _ _ _ _
            refine wpList_store_blk rfl 23 (.tmp 2) (.tmp 122) rfl b 0 23 _ (rpc 0 e0 e0 false) rfl rfl HC.out.z (by decide) size23 (rpc_one _ _ _ _) ?_
            intro W9 hz hgr
            have HZ : Hid (Blk W9 b 23 (rpc 0 e0 e0 false) ∧ Below w.heap.size w W9) := ⟨hz.out, HC.out.out hgr.out⟩
            clear hz hgr
            go_wp2
            refine rret23uu rfl rfl rfl rfl HZ.out.1 ⟨.inr ⟨rfl, ?_⟩, HZ.out.2⟩
            intro st' ty' bo' cl' k1
            cases k2 : aftB s.data.toList (prL st' ty' bo' cl').1 with
            | false => rfl
            | true =>
              exfalso
              obtain ⟨p1, p2, p3, p4, r, p5⟩ := rp_pr k1 k2
              unfold rpS at p1
              unfold rpT at p2
              unfold rpN at p3
              unfold rpC at p4
              unfold rpR at p5
              rw [HR1.out] at p1 p2 p3 p4 p5
              dsimp only at p1 p2 p3 p4 p5
              rw [HR2.out] at p2 p3 p4 p5
              dsimp only at p2 p3 p4 p5
              rw [HR3.out] at p3 p4 p5
              dsimp only at p3 p4 p5
              rw [HR4.out] at p4 p5
              dsimp only at p4 p5
              subst p1
              obtain rfl : e0 = ty' := ba_ext p2
              subst p4
              obtain rfl : bo = bo' := by
                apply ba_ext
                rw [HBO.out.1, p5, p3]
                exact List.take_left' rfl
              exact HK0.out (HK.out.symm.trans k1)
  ·
    obtain ⟨n, hn⟩ : ∃ n, r4.size = n := ⟨_, rfl⟩
    obtain ⟨l, hl⟩ : ∃ l, r4.data.toList = l := ⟨_, rfl⟩
    have HL : Hid (r4.data.toList = l) := hl
    have HLL : Hid (l.length = n) := by show _ = _; rw [← hl, ← hn]; rfl
    have HN : Hid (r4.size = n) := hn
    have qn : (n : Int) ≤ 140737488355328 := by have := HSr4.out; omega
    clear hl
    go_wp2
    go_loopw [10] (fun u wr => ∃ t : Nat, u = iv (t : Int) ∧ Hid (t ≤ n ∧ (l.take t).all ncr = true ∧ W2 = wr)) (fun u _ => n - (intOf u).toNat)
    case atStart => exact ⟨0, rfl, Nat.zero_le _, rfl, rfl⟩
    case round =>
      obtain ⟨t, rfl, HI⟩ := hrel
      obtain rfl : W2 = wr := HI.out.2.2
      by_cases ht : t = n
      · have q1 : (n : Int) ≤ (t : Int) := by omega
        have q3 : (t : Int) ≤ (n : Int) := by omega
        have d1 : decide ((t : Int) < (n : Int)) = false := decide_eq_false (by omega)
        have HT : Hid _ := tw_p HI.out.2.1 (fun h => absurd h (by rw [HLL.out]; omega))
        clear ht
        obtain ⟨ty, hty⟩ : ∃ y, r4.extract 0 t = y := ⟨_, rfl⟩
        obtain ⟨r5, hr5⟩ : ∃ y, r4.extract t n = y := ⟨_, rfl⟩
        have HTY : Hid (ty.data.toList = (aftL s3.data.toList ctL).takeWhile ncr ∧ r5.data.toList = (aftL s3.data.toList ctL).dropWhile ncr) := by
          have a1 : r4.data.toList = aftL s3.data.toList ctL := H4.out.1
          refine ⟨?_, ?_⟩
          · rw [← hty, ← toList_d, ext_to, ← a1, HL.out, HT.out.1]
          · rw [← hr5, ← HN.out, ext_from, ← a1, HL.out, HT.out.2]
        have HTYS : Hid (ty.size ≤ 140737488355328) := by show _ ≤ _; rw [← hty, ByteArray.size_extract]; have := HSr4.out; omega
        have HSr5 : Hid (r5.size ≤ 140737488355328) := by show _ ≤ _; rw [← hr5, ByteArray.size_extract]; have := HSr4.out; omega
        have c1 : W2.cell? ⟨g, 1, none⟩ = some (.string e0) := HA3.out.x.cell rfl
        have f1 : W2.frozen? ⟨g, 1, none⟩ = false := HA3.out.x.free 1
        obtain ⟨W3, hX⟩ : ∃ X, W2.setCell ⟨g, 1, none⟩ (.string ty) = X := ⟨_, rfl⟩
        have HA4 : Hid (RS w W3 b g (rpc (n1 : Int) ty e0 false)) := by show RS _ _ _ _ _; rw [← hX]; exact HA3.out.set 1 _
        go_wp2_with fail
        clear hty hr5
        clear c1 f1 hX
        refine (rafter_is r5 (⟨#[13, 10]⟩ : BA) HSr5.out (by decide) _).mono ?_
        rintro e X ⟨⟨s4, rfl, H5⟩, rfl⟩
        have HSs4 : Hid (s4.size ≤ 140737488355328) := Nat.le_trans H5.out.2 HSr5.out
        obtain ⟨B5, hB⟩ : ∃ B, aftB r5.data.toList (⟨#[13, 10]⟩ : BA).data.toList = B := ⟨_, rfl⟩
        have HB5 : Hid (aftB r5.data.toList (⟨#[13, 10]⟩ : BA).data.toList = B5) := hB
        rw [hB]
        clear hB
        have HR2 : Hid (rp2 s3.data.toList = (ty.data.toList, s4.data.toList)) := by
          have a0 : aftB s3.data.toList ctL = true := HB4.out
          have a2 : s4.data.toList = aftL r5.data.toList crL := H5.out.1
          show rp2 _ = _
          unfold rp2
          rw [a0, if_pos rfl, ← HTY.out.1, ← HTY.out.2, ← a2]
        go_wp2_with fail
        refine (rafter_is s4 (⟨#[99, 111, 110, 116, 101, 110, 116, 45, 108, 101, 110, 103, 116, 104, 58, 32]⟩ : BA) HSs4.out (by decide) _).mono ?_
        rintro e X ⟨⟨s5, rfl, H6⟩, rfl⟩
        have HSs5 : Hid (s5.size ≤ 140737488355328) := Nat.le_trans H6.out.2 HSs4.out
        obtain ⟨B6, hB⟩ : ∃ B, aftB s4.data.toList (⟨#[99, 111, 110, 116, 101, 110, 116, 45, 108, 101, 110, 103, 116, 104, 58, 32]⟩ : BA).data.toList = B := ⟨_, rfl⟩
        have HB6 : Hid (aftB s4.data.toList (⟨#[99, 111, 110, 116, 101, 110, 116, 45, 108, 101, 110, 103, 116, 104, 58, 32]⟩ : BA).data.toList = B6) := hB
        rw [hB]
        clear hB
        go_wp2_with fail
        refine (rnum_is s5 HSs5.out _).mono ?_
        rintro e W5 ⟨⟨s6, rfl, H7⟩, hbW⟩
        have HSs6 : Hid (s6.size ≤ 140737488355328) := Nat.le_trans H7.out.2 HSs5.out
        obtain ⟨n2, hnn⟩ : ∃ n, numN s5.data.toList = n := ⟨_, rfl⟩
        have Hn2 : Hid (numN s5.data.toList = n2 ∧ n2 ≤ 65537) := ⟨hnn, by rw [← hnn]; exact numN_le _⟩
        rw [hnn]
        have HD : Hid _ := HA4.out.below hbW
        clear hnn hbW HA4
        have qn2 : (n2 : Int) ≤ 65537 := by have := Hn2.out.2; omega
        go_wp2_with fail
        refine (rafter_is s6 (⟨#[13, 10]⟩ : BA) HSs6.out (by decide) _).mono ?_
        rintro e X ⟨⟨s7, rfl, H8⟩, rfl⟩
        have HSs7 : Hid (s7.size ≤ 140737488355328) := Nat.le_trans H8.out.2 HSs6.out
        obtain ⟨B8, hB⟩ : ∃ B, aftB s6.data.toList (⟨#[13, 10]⟩ : BA).data.toList = B := ⟨_, rfl⟩
        have HB8 : Hid (aftB s6.data.toList (⟨#[13, 10]⟩ : BA).data.toList = B8) := hB
        rw [hB]
        clear hB
        have HR3 : Hid (rp3 s4.data.toList = (n2, s7.data.toList)) := by
          have a1 : s5.data.toList = aftL s4.data.toList clL := H6.out.1
          have a2 : s7.data.toList = aftL s6.data.toList crL := H8.out.1
          show rp3 _ = _
          unfold rp3
          rw [← a1, Hn2.out.1, ← H7.out.1, ← a2]
        clear H6 H7 H8 Hn2 HB6 HB8
        go_wp2_with fail
        refine (rafter_is s7 (⟨#[99, 111, 110, 110, 101, 99, 116, 105, 111, 110, 58, 32, 99, 108, 111, 115, 101, 13, 10]⟩ : BA) HSs7.out (by decide) _).mono ?_
        rintro e X ⟨⟨r8, rfl, H9⟩, rfl⟩
        have HSr8 : Hid (r8.size ≤ 140737488355328) := Nat.le_trans H9.out.2 HSs7.out
        obtain ⟨B9, hB⟩ : ∃ B, aftB s7.data.toList (⟨#[99, 111, 110, 110, 101, 99, 116, 105, 111, 110, 58, 32, 99, 108, 111, 115, 101, 13, 10]⟩ : BA).data.toList = B := ⟨_, rfl⟩
        have HB9 : Hid (aftB s7.data.toList (⟨#[99, 111, 110, 110, 101, 99, 116, 105, 111, 110, 58, 32, 99, 108, 111, 115, 101, 13, 10]⟩ : BA).data.toList = B9) := hB
        rw [hB]
        clear hB
        cases B9
        ·
          go_wp2_with fail
          refine (rafter_is s7 (⟨#[13, 10]⟩ : BA) HSs7.out (by decide) _).mono ?_
          rintro e X ⟨⟨s9, rfl, H10⟩, rfl⟩
          have HSs9 : Hid (s9.size ≤ 140737488355328) := Nat.le_trans H10.out.2 HSs7.out
          obtain ⟨B10, hB⟩ : ∃ B, aftB s7.data.toList (⟨#[13, 10]⟩ : BA).data.toList = B := ⟨_, rfl⟩
          have HB10 : Hid (aftB s7.data.toList (⟨#[13, 10]⟩ : BA).data.toList = B10) := hB
          rw [hB]
          clear hB
          have HR4 : Hid (rp4 s7.data.toList = (false, s9.data.toList)) := by
            show rp4 _ = _
            have a1 : aftB s7.data.toList ccL = false := HB9.out
            have a2 : s9.data.toList = aftL s7.data.toList crL := H10.out.1
            have a3 : aftL s7.data.toList ccL = s7.data.toList := by unfold aftL; rw [a1]; rfl
            unfold rp4
            rw [a3, a1, ← a2]
          obtain ⟨m, hm⟩ : ∃ m, s9.size = m := ⟨_, rfl⟩
          have HM : Hid (s9.size = m ∧ s9.data.toList.length = m) := ⟨hm, hm⟩
          have qm : (m : Int) ≤ 140737488355328 := by have := HSs9.out; omega
          by_cases hn2 : m < n2
          · have q2 : (m : Int) < (n2 : Int) := by omega
            go_wp2_with (with_reducible change wpList _ _ _ ({ dst := none, op := Op.store 23 _ _, type := _, pos := _, after := _, guard := _ } :: _) _ _; refine Hid.out ?_)
            show wpList _ _ _ _ _ _
            refine wpList_store_blk rfl 23 (.tmp 2) (.tmp 100) rfl b 0 23 _ (rpc 0 e0 e0 false) rfl rfl HD.out.z (by decide) size23 (rpc_one _ _ _ _) ?_
            intro W9 hz hgr
            have HZ : Hid (Blk W9 b 23 (rpc 0 e0 e0 false) ∧ Below w.heap.size w W9) := ⟨hz.out, HD.out.out hgr.out⟩
            clear hz hgr
            go_wp2
            refine rret23uu rfl rfl rfl rfl HZ.out.1 ⟨.inr ⟨rfl, ?_⟩, HZ.out.2⟩
            intro st' ty' bo' cl' k1
            cases k2 : aftB s.data.toList (prL st' ty' bo' cl').1 with
            | false => rfl
            | true =>
              exfalso
              obtain ⟨p1, p2, p3, p4, r, p5⟩ := rp_pr k1 k2
              unfold rpS at p1
              unfold rpT at p2
              unfold rpN at p3
              unfold rpC at p4
              unfold rpR at p5
              rw [HR1.out] at p1 p2 p3 p4 p5
              dsimp only at p1 p2 p3 p4 p5
              rw [HR2.out] at p2 p3 p4 p5
              dsimp only at p2 p3 p4 p5
              rw [HR3.out] at p3 p4 p5
              dsimp only at p3 p4 p5
              rw [HR4.out] at p4 p5
              dsimp only at p4 p5
              have := congrArg List.length p5
              rw [HM.out.2, List.length_append] at this
              have h4 : bo'.data.toList.length = bo'.size := rfl
              omega
          · have q2 : (n2 : Int) ≤ (m : Int) := by omega
            have d2 : decide ((m : Int) < (n2 : Int)) = false := decide_eq_false (by omega)
            clear hn2
            obtain ⟨bo, hbo⟩ : ∃ y, s9.extract 0 n2 = y := ⟨_, rfl⟩
            have HBO : Hid (bo.data.toList = s9.data.toList.take n2 ∧ bo.size ≤ 140737488355328) := by
              refine ⟨?_, ?_⟩
              · rw [← hbo, ← toList_d, ext_to]
              · rw [← hbo, ByteArray.size_extract]; have := HSs9.out; omega
            have c2 : W5.cell? ⟨g, 2, none⟩ = some (.string e0) := HD.out.x.cell rfl
            have f2 : W5.frozen? ⟨g, 2, none⟩ = false := HD.out.x.free 2
            obtain ⟨W7, hX⟩ : ∃ X, W5.setCell ⟨g, 2, none⟩ (.string bo) = X := ⟨_, rfl⟩
            have HB : Hid (RS w W7 b g (rpc (n1 : Int) ty bo false)) := by show RS _ _ _ _ _; rw [← hX]; exact HD.out.set 2 _
            go_wp2_with (with_reducible change wpList _ _ _ ({ dst := some 106, op := _, type := _, pos := _, after := _, guard := _ } :: _) _ _; refine Hid.out ?_)
            show wpList _ _ _ _ _ _
            clear hbo qm q2 d2
            clear c2 f2 hX
            refine wpList_load_row rfl 23 (.tmp 5) rfl g rfl 23 (rpc (n1 : Int) ty bo false).toArray (0, 0) _ HB.out.x Tryd.underlying23 rfl size23 ?_
            go_wp2_with fail
            refine (rprint_w (n1 : Int) ty bo false _ HB.out.pt HTYS.out HBO.out.2).mono ?_
            rintro e W8 ⟨tx, rfl, HTX, hbW⟩
            have HC : Hid _ := HB.out.below hbW
            clear hbW HB
            obtain ⟨k, hk⟩ : ∃ k, (prL (n1 : Int) ty bo false).2 = k := ⟨_, rfl⟩
            have HK : Hid ((prL (n1 : Int) ty bo false).2 = k) := hk
            rw [hk]
            clear hk
            have HXS : Hid (tx.size ≤ 140737488355328) := by
              show tx.data.toList.length ≤ _
              rw [HTX.out]; exact prL_len _ _ _ _
            go_wp2_with fail
            refine (rafter_is s tx HSs.out HXS.out _).mono ?_
            rintro e X ⟨⟨r11, rfl, H11⟩, rfl⟩
            have HSr11 : Hid (r11.size ≤ 140737488355328) := Nat.le_trans H11.out.2 HSs.out
            obtain ⟨B11, hB⟩ : ∃ B, aftB s.data.toList tx.data.toList = B := ⟨_, rfl⟩
            have HB11 : Hid (aftB s.data.toList tx.data.toList = B11) := hB
            rw [hB]
            clear hB
            cases B11
            ·
              go_wp2_with (with_reducible change wpList _ _ _ ({ dst := none, op := Op.store 23 _ _, type := _, pos := _, after := _, guard := _ } :: _) _ _; refine Hid.out ?_)
              show wpList _ _ _ _ _ _
              refine wpList_store_blk rfl 23 (.tmp 2) (.tmp 122) rfl b 0 23 _ (rpc 0 e0 e0 false) rfl rfl HC.out.z (by decide) size23 (rpc_one _ _ _ _) ?_
              intro W9 hz hgr
              have HZ : Hid (Blk W9 b 23 (rpc 0 e0 e0 false) ∧ Below w.heap.size w W9) := ⟨hz.out, HC.out.out hgr.out⟩
              clear hz hgr
              go_wp2
              refine rret23uu rfl rfl rfl rfl HZ.out.1 ⟨.inr ⟨rfl, ?_⟩, HZ.out.2⟩
              intro st' ty' bo' cl' k1
              cases k2 : aftB s.data.toList (prL st' ty' bo' cl').1 with
              | false => rfl
              | true =>
                exfalso
                obtain ⟨p1, p2, p3, p4, r, p5⟩ := rp_pr k1 k2
                unfold rpS at p1
                unfold rpT at p2
                unfold rpN at p3
                unfold rpC at p4
                unfold rpR at p5
                rw [HR1.out] at p1 p2 p3 p4 p5
                dsimp only at p1 p2 p3 p4 p5
                rw [HR2.out] at p2 p3 p4 p5
                dsimp only at p2 p3 p4 p5
                rw [HR3.out] at p3 p4 p5
                dsimp only at p3 p4 p5
                rw [HR4.out] at p4 p5
                dsimp only at p4 p5
                subst p1
                obtain rfl : ty = ty' := ba_ext p2
                subst p4
                obtain rfl : bo = bo' := by
                  apply ba_ext
                  rw [HBO.out.1, p5, p3]
                  exact List.take_left' rfl
                rw [← HTX.out, HB11.out] at k2
                cases k2
            · by_cases hk0 : k = 0
              · subst hk0
                go_wp2_with (with_reducible change wpList _ _ _ ({ dst := some 123, op := _, type := _, pos := _, after := _, guard := _ } :: _) _ _; refine Hid.out ?_)
                show wpList _ _ _ _ _ _
                refine wpList_load_row rfl 23 (.tmp 5) rfl g rfl 23 (rpc (n1 : Int) ty bo false).toArray (0, 0) _ HC.out.x Tryd.underlying23 rfl size23 ?_
                go_wp2_with (with_reducible change wpList _ _ _ ({ dst := none, op := Op.store 23 _ _, type := _, pos := _, after := _, guard := _ } :: _) _ _; refine Hid.out ?_)
                show wpList _ _ _ _ _ _
                refine wpList_store_blk rfl 23 (.tmp 2) (.tmp 123) rfl b 0 23 _ (rpc (n1 : Int) ty bo false) rfl rfl HC.out.z (Nat.le_refl 4) size23 (rpc_one _ _ _ _) ?_
                intro W9 hz hgr
                have HZ : Hid (Blk W9 b 23 (rpc (n1 : Int) ty bo false) ∧ Below w.heap.size w W9) := ⟨hz.out, HC.out.out hgr.out⟩
                clear hz hgr
                go_wp2
                refine rret23uu rfl rfl rfl rfl HZ.out.1 ⟨.inl ⟨n1, ty, bo, false, ?_, HK.out, by rw [← HTX.out]; exact HB11.out⟩, HZ.out.2⟩
                rw [← HTX.out]
                rfl
              · have e9 : (k != 0) = true := by simpa using hk0
                have e8 : (k == 0) = false := by simpa using hk0
                have HK0 : Hid (k ≠ 0) := hk0
                clear hk0
                go_wp2_with (with_reducible change wpList _ _ _ ({ dst := none, op := Op.store 23 _ _, type := _, pos := _, after := _, guard := _ } :: _) _ _; refine Hid.out ?_)
                show wpList _ _ _ _ _ _
                refine wpList_store_blk rfl 23 (.tmp 2) (.tmp 122) rfl b 0 23 _ (rpc 0 e0 e0 false) rfl rfl HC.out.z (by decide) size23 (rpc_one _ _ _ _) ?_
                intro W9 hz hgr
                have HZ : Hid (Blk W9 b 23 (rpc 0 e0 e0 false) ∧ Below w.heap.size w W9) := ⟨hz.out, HC.out.out hgr.out⟩
                clear hz hgr
                go_wp2
                refine rret23uu rfl rfl rfl rfl HZ.out.1 ⟨.inr ⟨rfl, ?_⟩, HZ.out.2⟩
                intro st' ty' bo' cl' k1
                cases k2 : aftB s.data.toList (prL st' ty' bo' cl').1 with
                | false => rfl
                | true =>
                  exfalso
                  obtain ⟨p1, p2, p3, p4, r, p5⟩ := rp_pr k1 k2
                  unfold rpS at p1
                  unfold rpT at p2
                  unfold rpN at p3
                  unfold rpC at p4
                  unfold rpR at p5
                  rw [HR1.out] at p1 p2 p3 p4 p5
                  dsimp only at p1 p2 p3 p4 p5
                  rw [HR2.out] at p2 p3 p4 p5
                  dsimp only at p2 p3 p4 p5
                  rw [HR3.out] at p3 p4 p5
                  dsimp only at p3 p4 p5
                  rw [HR4.out] at p4 p5
                  dsimp only at p4 p5
                  subst p1
                  obtain rfl : ty = ty' := ba_ext p2
                  subst p4
                  obtain rfl : bo = bo' := by
                    apply ba_ext
                    rw [HBO.out.1, p5, p3]
                    exact List.take_left' rfl
                  exact HK0.out (HK.out.symm.trans k1)
        ·
          have c3 : W5.cell? ⟨g, 3, none⟩ = some (.bool false) := HD.out.x.cell rfl
          have f3 : W5.frozen? ⟨g, 3, none⟩ = false := HD.out.x.free 3
          obtain ⟨W6, hX⟩ : ∃ X, W5.setCell ⟨g, 3, none⟩ (.bool true) = X := ⟨_, rfl⟩
          have HE : Hid (RS w W6 b g (rpc (n1 : Int) ty e0 true)) := by show RS _ _ _ _ _; rw [← hX]; exact HD.out.set 3 _
          go_wp2_with fail
          refine (rafter_is r8 (⟨#[13, 10]⟩ : BA) HSr8.out (by decide) _).mono ?_
          rintro e X ⟨⟨s9, rfl, H10⟩, rfl⟩
          have HSs9 : Hid (s9.size ≤ 140737488355328) := Nat.le_trans H10.out.2 HSr8.out
          obtain ⟨B10, hB⟩ : ∃ B, aftB r8.data.toList (⟨#[13, 10]⟩ : BA).data.toList = B := ⟨_, rfl⟩
          have HB10 : Hid (aftB r8.data.toList (⟨#[13, 10]⟩ : BA).data.toList = B10) := hB
          rw [hB]
          clear hB
          have HR4 : Hid (rp4 s7.data.toList = (true, s9.data.toList)) := by
            show rp4 _ = _
            have a1 : aftB s7.data.toList ccL = true := HB9.out
            have a2 : s9.data.toList = aftL r8.data.toList crL := H10.out.1
            have a3 : r8.data.toList = aftL s7.data.toList ccL := H9.out.1
            unfold rp4
            rw [← a3, a1, ← a2]
          obtain ⟨m, hm⟩ : ∃ m, s9.size = m := ⟨_, rfl⟩
          have HM : Hid (s9.size = m ∧ s9.data.toList.length = m) := ⟨hm, hm⟩
          have qm : (m : Int) ≤ 140737488355328 := by have := HSs9.out; omega
          by_cases hn2 : m < n2
          · have q2 : (m : Int) < (n2 : Int) := by omega
            go_wp2_with (with_reducible change wpList _ _ _ ({ dst := none, op := Op.store 23 _ _, type := _, pos := _, after := _, guard := _ } :: _) _ _; refine Hid.out ?_)
            show wpList _ _ _ _ _ _
            refine wpList_store_blk rfl 23 (.tmp 2) (.tmp 100) rfl b 0 23 _ (rpc 0 e0 e0 false) rfl rfl HE.out.z (by decide) size23 (rpc_one _ _ _ _) ?_
            intro W9 hz hgr
            have HZ : Hid (Blk W9 b 23 (rpc 0 e0 e0 false) ∧ Below w.heap.size w W9) := ⟨hz.out, HE.out.out hgr.out⟩
            clear hz hgr
            go_wp2
            refine rret23uu rfl rfl rfl rfl HZ.out.1 ⟨.inr ⟨rfl, ?_⟩, HZ.out.2⟩
            intro st' ty' bo' cl' k1
            cases k2 : aftB s.data.toList (prL st' ty' bo' cl').1 with
            | false => rfl
            | true =>
              exfalso
              obtain ⟨p1, p2, p3, p4, r, p5⟩ := rp_pr k1 k2
              unfold rpS at p1
              unfold rpT at p2
              unfold rpN at p3
              unfold rpC at p4
              unfold rpR at p5
              rw [HR1.out] at p1 p2 p3 p4 p5
              dsimp only at p1 p2 p3 p4 p5
              rw [HR2.out] at p2 p3 p4 p5
              dsimp only at p2 p3 p4 p5
              rw [HR3.out] at p3 p4 p5
              dsimp only at p3 p4 p5
              rw [HR4.out] at p4 p5
              dsimp only at p4 p5
              have := congrArg List.length p5
              rw [HM.out.2, List.length_append] at this
              have h4 : bo'.data.toList.length = bo'.size := rfl
              omega
          · have q2 : (n2 : Int) ≤ (m : Int) := by omega
            have d2 : decide ((m : Int) < (n2 : Int)) = false := decide_eq_false (by omega)
            clear hn2
            obtain ⟨bo, hbo⟩ : ∃ y, s9.extract 0 n2 = y := ⟨_, rfl⟩
            have HBO : Hid (bo.data.toList = s9.data.toList.take n2 ∧ bo.size ≤ 140737488355328) := by
              refine ⟨?_, ?_⟩
              · rw [← hbo, ← toList_d, ext_to]
              · rw [← hbo, ByteArray.size_extract]; have := HSs9.out; omega
            have c2 : W6.cell? ⟨g, 2, none⟩ = some (.string e0) := HE.out.x.cell rfl
            have f2 : W6.frozen? ⟨g, 2, none⟩ = false := HE.out.x.free 2
            obtain ⟨W7, hX⟩ : ∃ X, W6.setCell ⟨g, 2, none⟩ (.string bo) = X := ⟨_, rfl⟩
            have HB : Hid (RS w W7 b g (rpc (n1 : Int) ty bo true)) := by show RS _ _ _ _ _; rw [← hX]; exact HE.out.set 2 _
            go_wp2_with (with_reducible change wpList _ _ _ ({ dst := some 106, op := _, type := _, pos := _, after := _, guard := _ } :: _) _ _; refine Hid.out ?_)
            show wpList _ _ _ _ _ _
            clear hbo qm q2 d2
            clear c2 f2 hX
            refine wpList_load_row rfl 23 (.tmp 5) rfl g rfl 23 (rpc (n1 : Int) ty bo true).toArray (0, 0) _ HB.out.x Tryd.underlying23 rfl size23 ?_
            go_wp2_with fail
            refine (rprint_w (n1 : Int) ty bo true _ HB.out.pt HTYS.out HBO.out.2).mono ?_
            rintro e W8 ⟨tx, rfl, HTX, hbW⟩
            have HC : Hid _ := HB.out.below hbW
            clear hbW HB
            obtain ⟨k, hk⟩ : ∃ k, (prL (n1 : Int) ty bo true).2 = k := ⟨_, rfl⟩
            have HK : Hid ((prL (n1 : Int) ty bo true).2 = k) := hk
            rw [hk]
            clear hk
            have HXS : Hid (tx.size ≤ 140737488355328) := by
              show tx.data.toList.length ≤ _
              rw [HTX.out]; exact prL_len _ _ _ _
            go_wp2_with fail
            refine (rafter_is s tx HSs.out HXS.out _).mono ?_
            rintro e X ⟨⟨r11, rfl, H11⟩, rfl⟩
            have HSr11 : Hid (r11.size ≤ 140737488355328) := Nat.le_trans H11.out.2 HSs.out
            obtain ⟨B11, hB⟩ : ∃ B, aftB s.data.toList tx.data.toList = B := ⟨_, rfl⟩
            have HB11 : Hid (aftB s.data.toList tx.data.toList = B11) := hB
            rw [hB]
            clear hB
            cases B11
            ·
              go_wp2_with (with_reducible change wpList _ _ _ ({ dst := none, op := Op.store 23 _ _, type := _, pos := _, after := _, guard := _ } :: _) _ _; refine Hid.out ?_)
              show wpList _ _ _ _ _ _
              refine wpList_store_blk rfl 23 (.tmp 2) (.tmp 122) rfl b 0 23 _ (rpc 0 e0 e0 false) rfl rfl HC.out.z (by decide) size23 (rpc_one _ _ _ _) ?_
              intro W9 hz hgr
              have HZ : Hid (Blk W9 b 23 (rpc 0 e0 e0 false) ∧ Below w.heap.size w W9) := ⟨hz.out, HC.out.out hgr.out⟩
              clear hz hgr
              go_wp2
              refine rret23uu rfl rfl rfl rfl HZ.out.1 ⟨.inr ⟨rfl, ?_⟩, HZ.out.2⟩
              intro st' ty' bo' cl' k1
              cases k2 : aftB s.data.toList (prL st' ty' bo' cl').1 with
              | false => rfl
              | true =>
                exfalso
                obtain ⟨p1, p2, p3, p4, r, p5⟩ := rp_pr k1 k2
                unfold rpS at p1
                unfold rpT at p2
                unfold rpN at p3
                unfold rpC at p4
                unfold rpR at p5
                rw [HR1.out] at p1 p2 p3 p4 p5
                dsimp only at p1 p2 p3 p4 p5
                rw [HR2.out] at p2 p3 p4 p5
                dsimp only at p2 p3 p4 p5
                rw [HR3.out] at p3 p4 p5
                dsimp only at p3 p4 p5
                rw [HR4.out] at p4 p5
                dsimp only at p4 p5
                subst p1
                obtain rfl : ty = ty' := ba_ext p2
                subst p4
                obtain rfl : bo = bo' := by
                  apply ba_ext
                  rw [HBO.out.1, p5, p3]
                  exact List.take_left' rfl
                rw [← HTX.out, HB11.out] at k2
                cases k2
            · by_cases hk0 : k = 0
              · subst hk0
                go_wp2_with (with_reducible change wpList _ _ _ ({ dst := some 123, op := _, type := _, pos := _, after := _, guard := _ } :: _) _ _; refine Hid.out ?_)
                show wpList _ _ _ _ _ _
                refine wpList_load_row rfl 23 (.tmp 5) rfl g rfl 23 (rpc (n1 : Int) ty bo true).toArray (0, 0) _ HC.out.x Tryd.underlying23 rfl size23 ?_
                go_wp2_with (with_reducible change wpList _ _ _ ({ dst := none, op := Op.store 23 _ _, type := _, pos := _, after := _, guard := _ } :: _) _ _; refine Hid.out ?_)
                show wpList _ _ _ _ _ _
                refine wpList_store_blk rfl 23 (.tmp 2) (.tmp 123) rfl b 0 23 _ (rpc (n1 : Int) ty bo true) rfl rfl HC.out.z (Nat.le_refl 4) size23 (rpc_one _ _ _ _) ?_
                intro W9 hz hgr
                have HZ : Hid (Blk W9 b 23 (rpc (n1 : Int) ty bo true) ∧ Below w.heap.size w W9) := ⟨hz.out, HC.out.out hgr.out⟩
                clear hz hgr
                go_wp2
                refine rret23uu rfl rfl rfl rfl HZ.out.1 ⟨.inl ⟨n1, ty, bo, true, ?_, HK.out, by rw [← HTX.out]; exact HB11.out⟩, HZ.out.2⟩
                rw [← HTX.out]
                rfl
              · have e9 : (k != 0) = true := by simpa using hk0
                have e8 : (k == 0) = false := by simpa using hk0
                have HK0 : Hid (k ≠ 0) := hk0
                clear hk0
                go_wp2_with (with_reducible change wpList _ _ _ ({ dst := none, op := Op.store 23 _ _, type := _, pos := _, after := _, guard := _ } :: _) _ _; refine Hid.out ?_)
                show wpList _ _ _ _ _ _
                refine wpList_store_blk rfl 23 (.tmp 2) (.tmp 122) rfl b 0 23 _ (rpc 0 e0 e0 false) rfl rfl HC.out.z (by decide) size23 (rpc_one _ _ _ _) ?_
                intro W9 hz hgr
                have HZ : Hid (Blk W9 b 23 (rpc 0 e0 e0 false) ∧ Below w.heap.size w W9) := ⟨hz.out, HC.out.out hgr.out⟩
                clear hz hgr
                go_wp2
                refine rret23uu rfl rfl rfl rfl HZ.out.1 ⟨.inr ⟨rfl, ?_⟩, HZ.out.2⟩
                intro st' ty' bo' cl' k1
                cases k2 : aftB s.data.toList (prL st' ty' bo' cl').1 with
                | false => rfl
                | true =>
                  exfalso
                  obtain ⟨p1, p2, p3, p4, r, p5⟩ := rp_pr k1 k2
                  unfold rpS at p1
                  unfold rpT at p2
                  unfold rpN at p3
                  unfold rpC at p4
                  unfold rpR at p5
                  rw [HR1.out] at p1 p2 p3 p4 p5
                  dsimp only at p1 p2 p3 p4 p5
                  rw [HR2.out] at p2 p3 p4 p5
                  dsimp only at p2 p3 p4 p5
                  rw [HR3.out] at p3 p4 p5
                  dsimp only at p3 p4 p5
                  rw [HR4.out] at p4 p5
                  dsimp only at p4 p5
                  subst p1
                  obtain rfl : ty = ty' := ba_ext p2
                  subst p4
                  obtain rfl : bo = bo' := by
                    apply ba_ext
                    rw [HBO.out.1, p5, p3]
                    exact List.take_left' rfl
                  exact HK0.out (HK.out.symm.trans k1)
      · have q5 : t < n := by have := HI.out.1; omega
        have q1 : (t : Int) < (n : Int) := by omega
        have q3 : (t : Int) ≤ (n : Int) := by omega
        have d1 : decide ((t : Int) < (n : Int)) = true := decide_eq_true q1
        have HTN : Hid (t < n) := q5
        have htl : t < l.length := by rw [HLL.out]; exact q5
        obtain ⟨c, hc⟩ : ∃ c, c = l[t] := ⟨_, rfl⟩
        have HNX : Hid ((l.take (t + 1)).all ncr = ncr c) := by
          show _ = _
          rw [all_snoc_p htl, HI.out.2.1, hc]; rfl
        have HEND : Hid (ncr c = false → l.takeWhile ncr = l.take t ∧ l.dropWhile ncr = l.drop t) := fun hd => tw_p HI.out.2.1 (fun h => by rw [← hc]; exact hd)
        have hg1 : ∀ h, r4[t]'h = c := by
          intro h
          subst hc
          have e := HL.out
          subst e
          rfl
        have hlt := c.toNat_lt
        have HCX : Hid (ncr c = !(c.toNat == 13)) := by
          show ncr c = _
          unfold ncr
          rw [Bool.eq_iff_iff]
          simp [bne_iff_ne, ← UInt8.toNat_inj]
        obtain ⟨X, hX⟩ : ∃ X, c.toNat = X := ⟨_, rfl⟩
        rw [hX] at HCX
        clear ht hc htl
        by_cases h13 : X = 13
        · have HT : Hid _ := HEND.out (by rw [HCX.out, h13]; rfl)
          have e13 : ((X : Int) == 13) = true := by simp [h13]
          have q13 : (X : Int) = 13 := by omega
          have n13 : ((X : Int) != 13) = false := by simp [h13]
          clear h13 HEND HNX
          obtain ⟨ty, hty⟩ : ∃ y, r4.extract 0 t = y := ⟨_, rfl⟩
          obtain ⟨r5, hr5⟩ : ∃ y, r4.extract t n = y := ⟨_, rfl⟩
          have HTY : Hid (ty.data.toList = (aftL s3.data.toList ctL).takeWhile ncr ∧ r5.data.toList = (aftL s3.data.toList ctL).dropWhile ncr) := by
            have a1 : r4.data.toList = aftL s3.data.toList ctL := H4.out.1
            refine ⟨?_, ?_⟩
            · rw [← hty, ← toList_d, ext_to, ← a1, HL.out, HT.out.1]
            · rw [← hr5, ← HN.out, ext_from, ← a1, HL.out, HT.out.2]
          have HTYS : Hid (ty.size ≤ 140737488355328) := by show _ ≤ _; rw [← hty, ByteArray.size_extract]; have := HSr4.out; omega
          have HSr5 : Hid (r5.size ≤ 140737488355328) := by show _ ≤ _; rw [← hr5, ByteArray.size_extract]; have := HSr4.out; omega
          have c1 : W2.cell? ⟨g, 1, none⟩ = some (.string e0) := HA3.out.x.cell rfl
          have f1 : W2.frozen? ⟨g, 1, none⟩ = false := HA3.out.x.free 1
          obtain ⟨W3, hX⟩ : ∃ X, W2.setCell ⟨g, 1, none⟩ (.string ty) = X := ⟨_, rfl⟩
          have HA4 : Hid (RS w W3 b g (rpc (n1 : Int) ty e0 false)) := by show RS _ _ _ _ _; rw [← hX]; exact HA3.out.set 1 _
          go_wp2_with fail
          clear hty hr5
          clear c1 f1 hX
          refine (rafter_is r5 (⟨#[13, 10]⟩ : BA) HSr5.out (by decide) _).mono ?_
          rintro e X ⟨⟨s4, rfl, H5⟩, rfl⟩
          have HSs4 : Hid (s4.size ≤ 140737488355328) := Nat.le_trans H5.out.2 HSr5.out
          obtain ⟨B5, hB⟩ : ∃ B, aftB r5.data.toList (⟨#[13, 10]⟩ : BA).data.toList = B := ⟨_, rfl⟩
          have HB5 : Hid (aftB r5.data.toList (⟨#[13, 10]⟩ : BA).data.toList = B5) := hB
          rw [hB]
          clear hB
          have HR2 : Hid (rp2 s3.data.toList = (ty.data.toList, s4.data.toList)) := by
            have a0 : aftB s3.data.toList ctL = true := HB4.out
            have a2 : s4.data.toList = aftL r5.data.toList crL := H5.out.1
            show rp2 _ = _
            unfold rp2
            rw [a0, if_pos rfl, ← HTY.out.1, ← HTY.out.2, ← a2]
          go_wp2_with fail
          refine (rafter_is s4 (⟨#[99, 111, 110, 116, 101, 110, 116, 45, 108, 101, 110, 103, 116, 104, 58, 32]⟩ : BA) HSs4.out (by decide) _).mono ?_
          rintro e X ⟨⟨s5, rfl, H6⟩, rfl⟩
          have HSs5 : Hid (s5.size ≤ 140737488355328) := Nat.le_trans H6.out.2 HSs4.out
          obtain ⟨B6, hB⟩ : ∃ B, aftB s4.data.toList (⟨#[99, 111, 110, 116, 101, 110, 116, 45, 108, 101, 110, 103, 116, 104, 58, 32]⟩ : BA).data.toList = B := ⟨_, rfl⟩
          have HB6 : Hid (aftB s4.data.toList (⟨#[99, 111, 110, 116, 101, 110, 116, 45, 108, 101, 110, 103, 116, 104, 58, 32]⟩ : BA).data.toList = B6) := hB
          rw [hB]
          clear hB
          go_wp2_with fail
          refine (rnum_is s5 HSs5.out _).mono ?_
          rintro e W5 ⟨⟨s6, rfl, H7⟩, hbW⟩
          have HSs6 : Hid (s6.size ≤ 140737488355328) := Nat.le_trans H7.out.2 HSs5.out
          obtain ⟨n2, hnn⟩ : ∃ n, numN s5.data.toList = n := ⟨_, rfl⟩
          have Hn2 : Hid (numN s5.data.toList = n2 ∧ n2 ≤ 65537) := ⟨hnn, by rw [← hnn]; exact numN_le _⟩
          rw [hnn]
          have HD : Hid _ := HA4.out.below hbW
          clear hnn hbW HA4
          have qn2 : (n2 : Int) ≤ 65537 := by have := Hn2.out.2; omega
          go_wp2_with fail
          refine (rafter_is s6 (⟨#[13, 10]⟩ : BA) HSs6.out (by decide) _).mono ?_
          rintro e X ⟨⟨s7, rfl, H8⟩, rfl⟩
          have HSs7 : Hid (s7.size ≤ 140737488355328) := Nat.le_trans H8.out.2 HSs6.out
          obtain ⟨B8, hB⟩ : ∃ B, aftB s6.data.toList (⟨#[13, 10]⟩ : BA).data.toList = B := ⟨_, rfl⟩
          have HB8 : Hid (aftB s6.data.toList (⟨#[13, 10]⟩ : BA).data.toList = B8) := hB
          rw [hB]
          clear hB
          have HR3 : Hid (rp3 s4.data.toList = (n2, s7.data.toList)) := by
            have a1 : s5.data.toList = aftL s4.data.toList clL := H6.out.1
            have a2 : s7.data.toList = aftL s6.data.toList crL := H8.out.1
            show rp3 _ = _
            unfold rp3
            rw [← a1, Hn2.out.1, ← H7.out.1, ← a2]
          clear H6 H7 H8 Hn2 HB6 HB8
          go_wp2_with fail
          refine (rafter_is s7 (⟨#[99, 111, 110, 110, 101, 99, 116, 105, 111, 110, 58, 32, 99, 108, 111, 115, 101, 13, 10]⟩ : BA) HSs7.out (by decide) _).mono ?_
          rintro e X ⟨⟨r8, rfl, H9⟩, rfl⟩
          have HSr8 : Hid (r8.size ≤ 140737488355328) := Nat.le_trans H9.out.2 HSs7.out
          obtain ⟨B9, hB⟩ : ∃ B, aftB s7.data.toList (⟨#[99, 111, 110, 110, 101, 99, 116, 105, 111, 110, 58, 32, 99, 108, 111, 115, 101, 13, 10]⟩ : BA).data.toList = B := ⟨_, rfl⟩
          have HB9 : Hid (aftB s7.data.toList (⟨#[99, 111, 110, 110, 101, 99, 116, 105, 111, 110, 58, 32, 99, 108, 111, 115, 101, 13, 10]⟩ : BA).data.toList = B9) := hB
          rw [hB]
          clear hB
          cases B9
          ·
            go_wp2_with fail
            refine (rafter_is s7 (⟨#[13, 10]⟩ : BA) HSs7.out (by decide) _).mono ?_
            rintro e X ⟨⟨s9, rfl, H10⟩, rfl⟩
            have HSs9 : Hid (s9.size ≤ 140737488355328) := Nat.le_trans H10.out.2 HSs7.out
            obtain ⟨B10, hB⟩ : ∃ B, aftB s7.data.toList (⟨#[13, 10]⟩ : BA).data.toList = B := ⟨_, rfl⟩
            have HB10 : Hid (aftB s7.data.toList (⟨#[13, 10]⟩ : BA).data.toList = B10) := hB
            rw [hB]
            clear hB
            have HR4 : Hid (rp4 s7.data.toList = (false, s9.data.toList)) := by
              show rp4 _ = _
              have a1 : aftB s7.data.toList ccL = false := HB9.out
              have a2 : s9.data.toList = aftL s7.data.toList crL := H10.out.1
              have a3 : aftL s7.data.toList ccL = s7.data.toList := by unfold aftL; rw [a1]; rfl
              unfold rp4
              rw [a3, a1, ← a2]
            obtain ⟨m, hm⟩ : ∃ m, s9.size = m := ⟨_, rfl⟩
            have HM : Hid (s9.size = m ∧ s9.data.toList.length = m) := ⟨hm, hm⟩
            have qm : (m : Int) ≤ 140737488355328 := by have := HSs9.out; omega
            by_cases hn2 : m < n2
            · have q2 : (m : Int) < (n2 : Int) := by omega
              go_wp2_with (with_reducible change wpList _ _ _ ({ dst := none, op := Op.store 23 _ _, type := _, pos := _, after := _, guard := _ } :: _) _ _; refine Hid.out ?_)
              show wpList _ _ _ _ _ _
              refine wpList_store_blk rfl 23 (.tmp 2) (.tmp 100) rfl b 0 23 _ (rpc 0 e0 e0 false) rfl rfl HD.out.z (by decide) size23 (rpc_one _ _ _ _) ?_
              intro W9 hz hgr
              have HZ : Hid (Blk W9 b 23 (rpc 0 e0 e0 false) ∧ Below w.heap.size w W9) := ⟨hz.out, HD.out.out hgr.out⟩
              clear hz hgr
              go_wp2
              refine rret23uu rfl rfl rfl rfl HZ.out.1 ⟨.inr ⟨rfl, ?_⟩, HZ.out.2⟩
              intro st' ty' bo' cl' k1
              cases k2 : aftB s.data.toList (prL st' ty' bo' cl').1 with
              | false => rfl
              | true =>
                exfalso
                obtain ⟨p1, p2, p3, p4, r, p5⟩ := rp_pr k1 k2
                unfold rpS at p1
                unfold rpT at p2
                unfold rpN at p3
                unfold rpC at p4
                unfold rpR at p5
                rw [HR1.out] at p1 p2 p3 p4 p5
                dsimp only at p1 p2 p3 p4 p5
                rw [HR2.out] at p2 p3 p4 p5
                dsimp only at p2 p3 p4 p5
                rw [HR3.out] at p3 p4 p5
                dsimp only at p3 p4 p5
                rw [HR4.out] at p4 p5
                dsimp only at p4 p5
                have := congrArg List.length p5
                rw [HM.out.2, List.length_append] at this
                have h4 : bo'.data.toList.length = bo'.size := rfl
                omega
            · have q2 : (n2 : Int) ≤ (m : Int) := by omega
              have d2 : decide ((m : Int) < (n2 : Int)) = false := decide_eq_false (by omega)
              clear hn2
              obtain ⟨bo, hbo⟩ : ∃ y, s9.extract 0 n2 = y := ⟨_, rfl⟩
              have HBO : Hid (bo.data.toList = s9.data.toList.take n2 ∧ bo.size ≤ 140737488355328) := by
                refine ⟨?_, ?_⟩
                · rw [← hbo, ← toList_d, ext_to]
                · rw [← hbo, ByteArray.size_extract]; have := HSs9.out; omega
              have c2 : W5.cell? ⟨g, 2, none⟩ = some (.string e0) := HD.out.x.cell rfl
              have f2 : W5.frozen? ⟨g, 2, none⟩ = false := HD.out.x.free 2
              obtain ⟨W7, hX⟩ : ∃ X, W5.setCell ⟨g, 2, none⟩ (.string bo) = X := ⟨_, rfl⟩
              have HB : Hid (RS w W7 b g (rpc (n1 : Int) ty bo false)) := by show RS _ _ _ _ _; rw [← hX]; exact HD.out.set 2 _
              go_wp2_with (with_reducible change wpList _ _ _ ({ dst := some 106, op := _, type := _, pos := _, after := _, guard := _ } :: _) _ _; refine Hid.out ?_)
              show wpList _ _ _ _ _ _
              clear hbo qm q2 d2
              clear c2 f2 hX
              refine wpList_load_row rfl 23 (.tmp 5) rfl g rfl 23 (rpc (n1 : Int) ty bo false).toArray (0, 0) _ HB.out.x Tryd.underlying23 rfl size23 ?_
              go_wp2_with fail
              refine (rprint_w (n1 : Int) ty bo false _ HB.out.pt HTYS.out HBO.out.2).mono ?_
              rintro e W8 ⟨tx, rfl, HTX, hbW⟩
              have HC : Hid _ := HB.out.below hbW
              clear hbW HB
              obtain ⟨k, hk⟩ : ∃ k, (prL (n1 : Int) ty bo false).2 = k := ⟨_, rfl⟩
              have HK : Hid ((prL (n1 : Int) ty bo false).2 = k) := hk
              rw [hk]
              clear hk
              have HXS : Hid (tx.size ≤ 140737488355328) := by
                show tx.data.toList.length ≤ _
                rw [HTX.out]; exact prL_len _ _ _ _
              go_wp2_with fail
              refine (rafter_is s tx HSs.out HXS.out _).mono ?_
              rintro e X ⟨⟨r11, rfl, H11⟩, rfl⟩
              have HSr11 : Hid (r11.size ≤ 140737488355328) := Nat.le_trans H11.out.2 HSs.out
              obtain ⟨B11, hB⟩ : ∃ B, aftB s.data.toList tx.data.toList = B := ⟨_, rfl⟩
              have HB11 : Hid (aftB s.data.toList tx.data.toList = B11) := hB
              rw [hB]
              clear hB
              cases B11
              ·
                go_wp2_with (with_reducible change wpList _ _ _ ({ dst := none, op := Op.store 23 _ _, type := _, pos := _, after := _, guard := _ } :: _) _ _; refine Hid.out ?_)
                show wpList _ _ _ _ _ _
                refine wpList_store_blk rfl 23 (.tmp 2) (.tmp 122) rfl b 0 23 _ (rpc 0 e0 e0 false) rfl rfl HC.out.z (by decide) size23 (rpc_one _ _ _ _) ?_
                intro W9 hz hgr
                have HZ : Hid (Blk W9 b 23 (rpc 0 e0 e0 false) ∧ Below w.heap.size w W9) := ⟨hz.out, HC.out.out hgr.out⟩
                clear hz hgr
                go_wp2
                refine rret23uu rfl rfl rfl rfl HZ.out.1 ⟨.inr ⟨rfl, ?_⟩, HZ.out.2⟩
                intro st' ty' bo' cl' k1
                cases k2 : aftB s.data.toList (prL st' ty' bo' cl').1 with
                | false => rfl
                | true =>
                  exfalso
                  obtain ⟨p1, p2, p3, p4, r, p5⟩ := rp_pr k1 k2
                  unfold rpS at p1
                  unfold rpT at p2
                  unfold rpN at p3
                  unfold rpC at p4
                  unfold rpR at p5
                  rw [HR1.out] at p1 p2 p3 p4 p5
                  dsimp only at p1 p2 p3 p4 p5
                  rw [HR2.out] at p2 p3 p4 p5
                  dsimp only at p2 p3 p4 p5
                  rw [HR3.out] at p3 p4 p5
                  dsimp only at p3 p4 p5
                  rw [HR4.out] at p4 p5
                  dsimp only at p4 p5
                  subst p1
                  obtain rfl : ty = ty' := ba_ext p2
                  subst p4
                  obtain rfl : bo = bo' := by
                    apply ba_ext
                    rw [HBO.out.1, p5, p3]
                    exact List.take_left' rfl
                  rw [← HTX.out, HB11.out] at k2
                  cases k2
              · by_cases hk0 : k = 0
                · subst hk0
                  go_wp2_with (with_reducible change wpList _ _ _ ({ dst := some 123, op := _, type := _, pos := _, after := _, guard := _ } :: _) _ _; refine Hid.out ?_)
                  show wpList _ _ _ _ _ _
                  refine wpList_load_row rfl 23 (.tmp 5) rfl g rfl 23 (rpc (n1 : Int) ty bo false).toArray (0, 0) _ HC.out.x Tryd.underlying23 rfl size23 ?_
                  go_wp2_with (with_reducible change wpList _ _ _ ({ dst := none, op := Op.store 23 _ _, type := _, pos := _, after := _, guard := _ } :: _) _ _; refine Hid.out ?_)
                  show wpList _ _ _ _ _ _
                  refine wpList_store_blk rfl 23 (.tmp 2) (.tmp 123) rfl b 0 23 _ (rpc (n1 : Int) ty bo false) rfl rfl HC.out.z (Nat.le_refl 4) size23 (rpc_one _ _ _ _) ?_
                  intro W9 hz hgr
                  have HZ : Hid (Blk W9 b 23 (rpc (n1 : Int) ty bo false) ∧ Below w.heap.size w W9) := ⟨hz.out, HC.out.out hgr.out⟩
                  clear hz hgr
                  go_wp2
                  refine rret23uu rfl rfl rfl rfl HZ.out.1 ⟨.inl ⟨n1, ty, bo, false, ?_, HK.out, by rw [← HTX.out]; exact HB11.out⟩, HZ.out.2⟩
                  rw [← HTX.out]
                  rfl
                · have e9 : (k != 0) = true := by simpa using hk0
                  have e8 : (k == 0) = false := by simpa using hk0
                  have HK0 : Hid (k ≠ 0) := hk0
                  clear hk0
                  go_wp2_with (with_reducible change wpList _ _ _ ({ dst := none, op := Op.store 23 _ _, type := _, pos := _, after := _, guard := _ } :: _) _ _; refine Hid.out ?_)
                  show wpList _ _ _ _ _ _
                  refine wpList_store_blk rfl 23 (.tmp 2) (.tmp 122) rfl b 0 23 _ (rpc 0 e0 e0 false) rfl rfl HC.out.z (by decide) size23 (rpc_one _ _ _ _) ?_
                  intro W9 hz hgr
                  have HZ : Hid (Blk W9 b 23 (rpc 0 e0 e0 false) ∧ Below w.heap.size w W9) := ⟨hz.out, HC.out.out hgr.out⟩
                  clear hz hgr
                  go_wp2
                  refine rret23uu rfl rfl rfl rfl HZ.out.1 ⟨.inr ⟨rfl, ?_⟩, HZ.out.2⟩
                  intro st' ty' bo' cl' k1
                  cases k2 : aftB s.data.toList (prL st' ty' bo' cl').1 with
                  | false => rfl
                  | true =>
                    exfalso
                    obtain ⟨p1, p2, p3, p4, r, p5⟩ := rp_pr k1 k2
                    unfold rpS at p1
                    unfold rpT at p2
                    unfold rpN at p3
                    unfold rpC at p4
                    unfold rpR at p5
                    rw [HR1.out] at p1 p2 p3 p4 p5
                    dsimp only at p1 p2 p3 p4 p5
                    rw [HR2.out] at p2 p3 p4 p5
                    dsimp only at p2 p3 p4 p5
                    rw [HR3.out] at p3 p4 p5
                    dsimp only at p3 p4 p5
                    rw [HR4.out] at p4 p5
                    dsimp only at p4 p5
                    subst p1
                    obtain rfl : ty = ty' := ba_ext p2
                    subst p4
                    obtain rfl : bo = bo' := by
                      apply ba_ext
                      rw [HBO.out.1, p5, p3]
                      exact List.take_left' rfl
                    exact HK0.out (HK.out.symm.trans k1)
          ·
            have c3 : W5.cell? ⟨g, 3, none⟩ = some (.bool false) := HD.out.x.cell rfl
            have f3 : W5.frozen? ⟨g, 3, none⟩ = false := HD.out.x.free 3
            obtain ⟨W6, hX⟩ : ∃ X, W5.setCell ⟨g, 3, none⟩ (.bool true) = X := ⟨_, rfl⟩
            have HE : Hid (RS w W6 b g (rpc (n1 : Int) ty e0 true)) := by show RS _ _ _ _ _; rw [← hX]; exact HD.out.set 3 _
            go_wp2_with fail
            refine (rafter_is r8 (⟨#[13, 10]⟩ : BA) HSr8.out (by decide) _).mono ?_
            rintro e X ⟨⟨s9, rfl, H10⟩, rfl⟩
            have HSs9 : Hid (s9.size ≤ 140737488355328) := Nat.le_trans H10.out.2 HSr8.out
            obtain ⟨B10, hB⟩ : ∃ B, aftB r8.data.toList (⟨#[13, 10]⟩ : BA).data.toList = B := ⟨_, rfl⟩
            have HB10 : Hid (aftB r8.data.toList (⟨#[13, 10]⟩ : BA).data.toList = B10) := hB
            rw [hB]
            clear hB
            have HR4 : Hid (rp4 s7.data.toList = (true, s9.data.toList)) := by
              show rp4 _ = _
              have a1 : aftB s7.data.toList ccL = true := HB9.out
              have a2 : s9.data.toList = aftL r8.data.toList crL := H10.out.1
              have a3 : r8.data.toList = aftL s7.data.toList ccL := H9.out.1
              unfold rp4
              rw [← a3, a1, ← a2]
            obtain ⟨m, hm⟩ : ∃ m, s9.size = m := ⟨_, rfl⟩
            have HM : Hid (s9.size = m ∧ s9.data.toList.length = m) := ⟨hm, hm⟩
            have qm : (m : Int) ≤ 140737488355328 := by have := HSs9.out; omega
            by_cases hn2 : m < n2
            · have q2 : (m : Int) < (n2 : Int) := by omega
              go_wp2_with (with_reducible change wpList _ _ _ ({ dst := none, op := Op.store 23 _ _, type := _, pos := _, after := _, guard := _ } :: _) _ _; refine Hid.out ?_)
              show wpList _ _ _ _ _ _
              refine wpList_store_blk rfl 23 (.tmp 2) (.tmp 100) rfl b 0 23 _ (rpc 0 e0 e0 false) rfl rfl HE.out.z (by decide) size23 (rpc_one _ _ _ _) ?_
              intro W9 hz hgr
              have HZ : Hid (Blk W9 b 23 (rpc 0 e0 e0 false) ∧ Below w.heap.size w W9) := ⟨hz.out, HE.out.out hgr.out⟩
              clear hz hgr
              go_wp2
              refine rret23uu rfl rfl rfl rfl HZ.out.1 ⟨.inr ⟨rfl, ?_⟩, HZ.out.2⟩
              intro st' ty' bo' cl' k1
              cases k2 : aftB s.data.toList (prL st' ty' bo' cl').1 with
              | false => rfl
              | true =>
                exfalso
                obtain ⟨p1, p2, p3, p4, r, p5⟩ := rp_pr k1 k2
                unfold rpS at p1
                unfold rpT at p2
                unfold rpN at p3
                unfold rpC at p4
                unfold rpR at p5
                rw [HR1.out] at p1 p2 p3 p4 p5
                dsimp only at p1 p2 p3 p4 p5
                rw [HR2.out] at p2 p3 p4 p5
                dsimp only at p2 p3 p4 p5
                rw [HR3.out] at p3 p4 p5
                dsimp only at p3 p4 p5
                rw [HR4.out] at p4 p5
                dsimp only at p4 p5
                have := congrArg List.length p5
                rw [HM.out.2, List.length_append] at this
                have h4 : bo'.data.toList.length = bo'.size := rfl
                omega
            · have q2 : (n2 : Int) ≤ (m : Int) := by omega
              have d2 : decide ((m : Int) < (n2 : Int)) = false := decide_eq_false (by omega)
              clear hn2
              obtain ⟨bo, hbo⟩ : ∃ y, s9.extract 0 n2 = y := ⟨_, rfl⟩
              have HBO : Hid (bo.data.toList = s9.data.toList.take n2 ∧ bo.size ≤ 140737488355328) := by
                refine ⟨?_, ?_⟩
                · rw [← hbo, ← toList_d, ext_to]
                · rw [← hbo, ByteArray.size_extract]; have := HSs9.out; omega
              have c2 : W6.cell? ⟨g, 2, none⟩ = some (.string e0) := HE.out.x.cell rfl
              have f2 : W6.frozen? ⟨g, 2, none⟩ = false := HE.out.x.free 2
              obtain ⟨W7, hX⟩ : ∃ X, W6.setCell ⟨g, 2, none⟩ (.string bo) = X := ⟨_, rfl⟩
              have HB : Hid (RS w W7 b g (rpc (n1 : Int) ty bo true)) := by show RS _ _ _ _ _; rw [← hX]; exact HE.out.set 2 _
              go_wp2_with (with_reducible change wpList _ _ _ ({ dst := some 106, op := _, type := _, pos := _, after := _, guard := _ } :: _) _ _; refine Hid.out ?_)
              show wpList _ _ _ _ _ _
              clear hbo qm q2 d2
              clear c2 f2 hX
              refine wpList_load_row rfl 23 (.tmp 5) rfl g rfl 23 (rpc (n1 : Int) ty bo true).toArray (0, 0) _ HB.out.x Tryd.underlying23 rfl size23 ?_
              go_wp2_with fail
              refine (rprint_w (n1 : Int) ty bo true _ HB.out.pt HTYS.out HBO.out.2).mono ?_
              rintro e W8 ⟨tx, rfl, HTX, hbW⟩
              have HC : Hid _ := HB.out.below hbW
              clear hbW HB
              obtain ⟨k, hk⟩ : ∃ k, (prL (n1 : Int) ty bo true).2 = k := ⟨_, rfl⟩
              have HK : Hid ((prL (n1 : Int) ty bo true).2 = k) := hk
              rw [hk]
              clear hk
              have HXS : Hid (tx.size ≤ 140737488355328) := by
                show tx.data.toList.length ≤ _
                rw [HTX.out]; exact prL_len _ _ _ _
              go_wp2_with fail
              refine (rafter_is s tx HSs.out HXS.out _).mono ?_
              rintro e X ⟨⟨r11, rfl, H11⟩, rfl⟩
              have HSr11 : Hid (r11.size ≤ 140737488355328) := Nat.le_trans H11.out.2 HSs.out
              obtain ⟨B11, hB⟩ : ∃ B, aftB s.data.toList tx.data.toList = B := ⟨_, rfl⟩
              have HB11 : Hid (aftB s.data.toList tx.data.toList = B11) := hB
              rw [hB]
              clear hB
              cases B11
              ·
                go_wp2_with (with_reducible change wpList _ _ _ ({ dst := none, op := Op.store 23 _ _, type := _, pos := _, after := _, guard := _ } :: _) _ _; refine Hid.out ?_)
                show wpList _ _ _ _ _ _
                refine wpList_store_blk rfl 23 (.tmp 2) (.tmp 122) rfl b 0 23 _ (rpc 0 e0 e0 false) rfl rfl HC.out.z (by decide) size23 (rpc_one _ _ _ _) ?_
                intro W9 hz hgr
                have HZ : Hid (Blk W9 b 23 (rpc 0 e0 e0 false) ∧ Below w.heap.size w W9) := ⟨hz.out, HC.out.out hgr.out⟩
                clear hz hgr
                go_wp2
                refine rret23uu rfl rfl rfl rfl HZ.out.1 ⟨.inr ⟨rfl, ?_⟩, HZ.out.2⟩
                intro st' ty' bo' cl' k1
                cases k2 : aftB s.data.toList (prL st' ty' bo' cl').1 with
                | false => rfl
                | true =>
                  exfalso
                  obtain ⟨p1, p2, p3, p4, r, p5⟩ := rp_pr k1 k2
                  unfold rpS at p1
                  unfold rpT at p2
                  unfold rpN at p3
                  unfold rpC at p4
                  unfold rpR at p5
                  rw [HR1.out] at p1 p2 p3 p4 p5
                  dsimp only at p1 p2 p3 p4 p5
                  rw [HR2.out] at p2 p3 p4 p5
                  dsimp only at p2 p3 p4 p5
                  rw [HR3.out] at p3 p4 p5
                  dsimp only at p3 p4 p5
                  rw [HR4.out] at p4 p5
                  dsimp only at p4 p5
                  subst p1
                  obtain rfl : ty = ty' := ba_ext p2
                  subst p4
                  obtain rfl : bo = bo' := by
                    apply ba_ext
                    rw [HBO.out.1, p5, p3]
                    exact List.take_left' rfl
                  rw [← HTX.out, HB11.out] at k2
                  cases k2
              · by_cases hk0 : k = 0
                · subst hk0
                  go_wp2_with (with_reducible change wpList _ _ _ ({ dst := some 123, op := _, type := _, pos := _, after := _, guard := _ } :: _) _ _; refine Hid.out ?_)
                  show wpList _ _ _ _ _ _
                  refine wpList_load_row rfl 23 (.tmp 5) rfl g rfl 23 (rpc (n1 : Int) ty bo true).toArray (0, 0) _ HC.out.x Tryd.underlying23 rfl size23 ?_
                  go_wp2_with (with_reducible change wpList _ _ _ ({ dst := none, op := Op.store 23 _ _, type := _, pos := _, after := _, guard := _ } :: _) _ _; refine Hid.out ?_)
                  show wpList _ _ _ _ _ _
                  refine wpList_store_blk rfl 23 (.tmp 2) (.tmp 123) rfl b 0 23 _ (rpc (n1 : Int) ty bo true) rfl rfl HC.out.z (Nat.le_refl 4) size23 (rpc_one _ _ _ _) ?_
                  intro W9 hz hgr
                  have HZ : Hid (Blk W9 b 23 (rpc (n1 : Int) ty bo true) ∧ Below w.heap.size w W9) := ⟨hz.out, HC.out.out hgr.out⟩
                  clear hz hgr
                  go_wp2
                  refine rret23uu rfl rfl rfl rfl HZ.out.1 ⟨.inl ⟨n1, ty, bo, true, ?_, HK.out, by rw [← HTX.out]; exact HB11.out⟩, HZ.out.2⟩
                  rw [← HTX.out]
                  rfl
                · have e9 : (k != 0) = true := by simpa using hk0
                  have e8 : (k == 0) = false := by simpa using hk0
                  have HK0 : Hid (k ≠ 0) := hk0
                  clear hk0
                  go_wp2_with (with_reducible change wpList _ _ _ ({ dst := none, op := Op.store 23 _ _, type := _, pos := _, after := _, guard := _ } :: _) _ _; refine Hid.out ?_)
                  show wpList _ _ _ _ _ _
                  refine wpList_store_blk rfl 23 (.tmp 2) (.tmp 122) rfl b 0 23 _ (rpc 0 e0 e0 false) rfl rfl HC.out.z (by decide) size23 (rpc_one _ _ _ _) ?_
                  intro W9 hz hgr
                  have HZ : Hid (Blk W9 b 23 (rpc 0 e0 e0 false) ∧ Below w.heap.size w W9) := ⟨hz.out, HC.out.out hgr.out⟩
                  clear hz hgr
                  go_wp2
                  refine rret23uu rfl rfl rfl rfl HZ.out.1 ⟨.inr ⟨rfl, ?_⟩, HZ.out.2⟩
                  intro st' ty' bo' cl' k1
                  cases k2 : aftB s.data.toList (prL st' ty' bo' cl').1 with
                  | false => rfl
                  | true =>
                    exfalso
                    obtain ⟨p1, p2, p3, p4, r, p5⟩ := rp_pr k1 k2
                    unfold rpS at p1
                    unfold rpT at p2
                    unfold rpN at p3
                    unfold rpC at p4
                    unfold rpR at p5
                    rw [HR1.out] at p1 p2 p3 p4 p5
                    dsimp only at p1 p2 p3 p4 p5
                    rw [HR2.out] at p2 p3 p4 p5
                    dsimp only at p2 p3 p4 p5
                    rw [HR3.out] at p3 p4 p5
                    dsimp only at p3 p4 p5
                    rw [HR4.out] at p4 p5
                    dsimp only at p4 p5
                    subst p1
                    obtain rfl : ty = ty' := ba_ext p2
                    subst p4
                    obtain rfl : bo = bo' := by
                      apply ba_ext
                      rw [HBO.out.1, p5, p3]
                      exact List.take_left' rfl
                    exact HK0.out (HK.out.symm.trans k1)
        · have e13 : ((X : Int) == 13) = false := by simp; omega
          have n13 : ((X : Int) != 13) = true := by simp; omega
          have HG : Hid (t + 1 ≤ n ∧ (l.take (t + 1)).all ncr = true ∧ W2 = W2) := ⟨HTN.out, by rw [HNX.out, HCX.out]; simp [h13], rfl⟩
          clear h13 HEND
          go_wp2
          go_roundw
          case rel => exact ⟨t + 1, by simp, HG.out.1, HG.out.2.1, trivial⟩
          case measure =>
            have := HTN.out
            simp only [intOf]
            omega
#print axioms rread_is
end Go.Proofs.YtkpepfeiimphpaaDoor.Oct
