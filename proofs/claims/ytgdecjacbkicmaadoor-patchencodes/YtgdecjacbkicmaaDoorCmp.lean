/-
  Layer 12 (deps): bytes.Compare of two hashes; their order.
-/
import Derived.Test.YtgdecjacbkicmaaDoorSmall
import Derived.Lib.Bytealg
import Derived.Sort.Grow
namespace Go.Proofs.YtgdecjacbkicmaaDoor.Oct
open Go.RowKit Go.Shelf Go.Lib Go.Sort
set_option maxRecDepth 100000

theorem run_loadBytes (W : World) (g : Nat) : ∀ (l : Hs) (o : Nat) (acc : ByteArray), W.rangeAt g o (U l) → (Extern.Bytes.loadBytes ⟨g, o, none⟩ l.length acc).run Tryd.prog W = .ok ⟨(acc.data.toList ++ l).toArray⟩ W
  | [], o, acc, _ => by simp [Extern.Bytes.loadBytes]
  | c :: l, o, acc, h => by
    have h0 := h 0 (.int .u8 (c.toNat : Int)) rfl
    have ih := run_loadBytes W g l (o + 1) (acc.push c) (by
      intro j v hj
      have := h (j + 1) v (by simpa [U] using hj)
      rw [show o + (j + 1) = o + 1 + j by omega] at this
      exact this)
    have hl : (load ⟨g, o, none⟩).run Tryd.prog W = .ok (.int .u8 (c.toNat : Int)) W := by
      have := h0
      simp only [Nat.add_zero] at this
      go_simp
    simp only [List.length_cons, Extern.Bytes.loadBytes, Sem.run_bind, hl, Result.andThen_ok]
    have hc : (c.toNat : Int).toNat.toUInt8 = c := by simp
    rw [hc]
    rw [show (⟨g, o, none⟩ : Addr).add 1 = ⟨g, o + 1, none⟩ from rfl, ih]
    simp
theorem run_compare (W : World) (g o g2 o2 c c2 : Nat) (x y : Hs) (hx : W.rangeAt g o (U x)) (hy : W.rangeAt g2 o2 (U y)) :
    (Extern.BytealgCompare.compare #[.slice (some ⟨g, o, none⟩) x.length c, .slice (some ⟨g2, o2, none⟩) y.length c2]).run Tryd.prog W = .ok (.int .i64 (compareBytes x y)) W := by
  have h1 := run_loadBytes W g x o .empty hx
  have h2 := run_loadBytes W g2 y o2 .empty hy
  show (do pure (goInt (Extern.BytealgCompare.cmp (← Extern.Bytes.bytesOf (.slice (some ⟨g, o, none⟩) x.length c)) (← Extern.Bytes.bytesOf (.slice (some ⟨g2, o2, none⟩) y.length c2)))) : Sem Value).run Tryd.prog W = _
  simp only [Extern.Bytes.bytesOf, Sem.run_bind, h1, h2, Result.andThen_ok, cmp_eq]
  simp [goInt]

theorem cmp41 (w : World) (g o g2 o2 c c2 : Nat) (x y : Hs) (hx : w.rangeAt g o (U x)) (hy : w.rangeAt g2 o2 (U y)) (hxl : x.length = 32) (hyl : y.length = 32) :
    Calls Tryd.prog 36 #[.slice (some ⟨g, o, none⟩) 32 c, .slice (some ⟨g2, o2, none⟩) 32 c2] w fun e w' => e = .returned (.int .i64 (compareBytes x y)) ∧ w = w' := by
  have HR := run_compare w g o g2 o2 c c2 x y hx hy
  rw [hxl, hyl] at HR
  have H : Hid ((Extern.BytealgCompare.compare #[.slice (some ⟨g, o, none⟩) 32 c, .slice (some ⟨g2, o2, none⟩) 32 c2]).run Tryd.prog w = .ok (.int .i64 (compareBytes x y)) w) := HR
  clear HR hx hy
  generalize compareBytes x y = r at *
  go_enter Tryd.func36, Tryd.ntmps36
  go_wp2
  rw [run_callFunc_extern Tryd.func59 (by kernel_rfl) (by kernel_rfl) (by kernel_rfl) (e := Extern.BytealgCompare.compare) (by kernel_rfl), H.out]
  simp only [Result.andThen]
  rw [Oper.upon_value]
  go_wp2
  go_ret
  exact ⟨rfl, rfl⟩
end Go.Proofs.YtgdecjacbkicmaaDoor.Oct
