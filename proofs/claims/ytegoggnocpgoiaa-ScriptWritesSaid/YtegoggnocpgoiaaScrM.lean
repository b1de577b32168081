/- Keys, values, operations: plain facts. No Go text, no dump. -/
import Derived.Test.YtegoggnocpgoiaaBase
import Derived.Lib.Repeat
namespace Go.Proofs.Ytegoggnocpgoiaa
open Go.ChangeShapes Go.WideShapes Go.ChangeAt Go.RowKit

/-- The letters of the key with a number. -/
def keyL (n : Nat) : List UInt8 := UInt8.ofNat (97 + n / 16) :: UInt8.ofNat (97 + n % 16) :: List.replicate (n % 23) 120
def valL (n : Nat) : List UInt8 := List.replicate (n % 41) (UInt8.ofNat (97 + n % 26))
def keyB (x : Int) : ByteArray := ⟨(keyL x.toNat).toArray⟩
def valB (x : Int) : ByteArray := ⟨(valL x.toNat).toArray⟩
theorem keyL_length (n : Nat) : (keyL n).length = 2 + n % 23 := by simp [keyL]; omega
theorem valL_length (n : Nat) : (valL n).length = n % 41 := by simp [valL]
theorem keyB_size (x : Int) : (keyB x).size = 2 + x.toNat % 23 := by
  show (keyL x.toNat).toArray.size = _
  rw [List.size_toArray, keyL_length]
theorem valB_size (x : Int) : (valB x).size = x.toNat % 41 := by
  show (valL x.toNat).toArray.size = _
  rw [List.size_toArray, valL_length]
theorem ofNat_inj {a b : Nat} (ha : a < 256) (hb : b < 256) (h : UInt8.ofNat a = UInt8.ofNat b) : a = b := by
  have := congrArg UInt8.toNat h
  simp at this; omega
theorem keyL_inj {a b : Nat} (ha : a < 256) (hb : b < 256) (h : keyL a = keyL b) : a = b := by
  unfold keyL at h
  simp only [List.cons.injEq] at h
  have h1 := ofNat_inj (by omega) (by omega) h.1
  have h2 := ofNat_inj (by omega) (by omega) h.2.1
  omega
theorem keyB_inj {x y : Int} (hx : 0 ≤ x ∧ x ≤ 255) (hy : 0 ≤ y ∧ y ≤ 255) (h : keyB x = keyB y) : x = y := by
  have h' : keyL x.toNat = keyL y.toNat := by
    have := congrArg (fun b : ByteArray => b.data.toList) h
    simpa [keyB] using this
  have := keyL_inj (by omega) (by omega) h'
  omega
#print axioms keyB_inj
end Go.Proofs.Ytegoggnocpgoiaa
