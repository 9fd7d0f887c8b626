/-
  Layer 3 (mac): a tag, as plain mathematics.
-/
import Derived.Test.YtjeahlfmapacfaaDoorSha
namespace Go.Proofs.YtjeahlfmapacfaaDoor.Sha

theorem sum_len (l : List UInt8) : (sum l).length = 32 := by simp [sum, digest]
def keyOf (key : List UInt8) : List UInt8 := if 64 < key.length then sum key else key
theorem keyOf_len (key : List UInt8) : (keyOf key).length ≤ 64 := by
  unfold keyOf
  split
  · rw [sum_len]; omega
  · omega
def blk (key : List UInt8) : List UInt8 := keyOf key ++ List.replicate (64 - (keyOf key).length) 0
theorem blk_len (key : List UInt8) : (blk key).length = 64 := by
  have := keyOf_len key
  simp [blk]; omega
def xored (l : List UInt8) (x : UInt8) : List UInt8 := l.map fun b => b ^^^ x
theorem xored_len (l : List UInt8) (x : UInt8) : (xored l x).length = l.length := by simp [xored]
def tagOf (key msg : List UInt8) : List UInt8 := sum (xored (blk key) 0x5c ++ sum (xored (blk key) 0x36 ++ msg))
theorem tagOf_len (key msg : List UInt8) : (tagOf key msg).length = 32 := sum_len _
theorem blk_long (key : List UInt8) (h : 64 < key.length) : blk (sum key) = blk key := by
  have e1 : keyOf key = sum key := by unfold keyOf; rw [if_pos h]
  have e2 : keyOf (sum key) = sum key := by unfold keyOf; rw [if_neg (by rw [sum_len]; omega)]
  unfold blk
  rw [e1, e2]
theorem blk_zeros (key : List UInt8) (n : Nat) (h : key.length + n ≤ 64) : blk (key ++ List.replicate n 0) = blk key := by
  have e1 : keyOf key = key := by unfold keyOf; rw [if_neg (by omega)]
  have e2 : keyOf (key ++ List.replicate n 0) = key ++ List.replicate n 0 := by unfold keyOf; rw [if_neg (by simp; omega)]
  unfold blk
  rw [e1, e2, List.append_assoc, List.replicate_append_replicate, List.length_append, List.length_replicate]
  congr 2
  omega
theorem tag_long (key msg : List UInt8) (h : 64 < key.length) : tagOf (sum key) msg = tagOf key msg := by unfold tagOf; rw [blk_long key h]
theorem tag_zeros (key msg : List UInt8) (n : Nat) (h : key.length + n ≤ 64) : tagOf (key ++ List.replicate n 0) msg = tagOf key msg := by unfold tagOf; rw [blk_zeros key n h]
def jefe : List UInt8 := [74, 101, 102, 101]
def whatDo : List UInt8 := [119, 104, 97, 116, 32, 100, 111, 32, 121, 97, 32, 119, 97, 110, 116, 32, 102, 111, 114, 32, 110, 111, 116, 104, 105, 110, 103, 63]
theorem tag_jefe : (tagOf jefe whatDo).take 2 = [0x5b, 0xdc] ∧ (tagOf jefe whatDo)[31]? = some 0x43 := by decide +kernel
#print axioms tag_jefe
end Go.Proofs.YtjeahlfmapacfaaDoor.Sha
