/-
  OWN WORDS: the field with 256 elements as plain mathematics: products as sums of shifted terms, powers, inverses, substitutes, and the definition by lists of coefficients. No program stands here.
-/
import Derived.Test.YtbmpjeheaemgmaaNum
namespace Go.Proofs.Ytbmpjeheaemgmaa
open Go Go.RowKit
set_option maxRecDepth 100000

/-- c where t holds, else 0. -/
def mask (t : Bool) (c : Nat) : Nat := bif t then c else 0
theorem mask_xor2 (t : Bool) (c d : Nat) : mask t (c ^^^ d) = mask t c ^^^ mask t d := by cases t <;> simp [mask]
theorem xor4 (a b c d : Nat) : (a ^^^ b) ^^^ (c ^^^ d) = (a ^^^ c) ^^^ (b ^^^ d) := by
  rw [Nat.xor_assoc, ← Nat.xor_assoc b, Nat.xor_comm b c, Nat.xor_assoc, Nat.xor_assoc]

/-- A map that keeps sums. -/
def Lin (f : Nat → Nat) : Prop := ∀ x y, f (x ^^^ y) = f x ^^^ f y
theorem Lin.zero {f : Nat → Nat} (h : Lin f) : f 0 = 0 := by
  have := h 0 0
  rwa [Nat.xor_self, Nat.xor_self] at this
theorem Lin.mask {f : Nat → Nat} (h : Lin f) (t : Bool) (c : Nat) : f (mask t c) = Ytbmpjeheaemgmaa.mask t (f c) := by cases t <;> simp [Ytbmpjeheaemgmaa.mask, h.zero]
theorem Lin.xor {f g : Nat → Nat} (hf : Lin f) (hg : Lin g) : Lin fun x => f x ^^^ g x := fun x y => by show f _ ^^^ g _ = _; rw [hf, hg, xor4]
theorem Lin.at (t : Bool) {f : Nat → Nat} (hf : Lin f) : Lin fun x => Ytbmpjeheaemgmaa.mask t (f x) := fun x y => by show Ytbmpjeheaemgmaa.mask t (f _) = _; rw [hf, mask_xor2]
theorem Lin.none : Lin fun _ => 0 := fun _ _ => (Nat.xor_self 0).symm
theorem Lin.id : Lin fun x => x := fun _ _ => rfl

theorem eight : ∀ a < 256, a = mask (a.testBit 0) 1 ^^^ mask (a.testBit 1) 2 ^^^ mask (a.testBit 2) 4 ^^^ mask (a.testBit 3) 8 ^^^ mask (a.testBit 4) 16 ^^^ mask (a.testBit 5) 32 ^^^ mask (a.testBit 6) 64 ^^^ mask (a.testBit 7) 128 := by decide
theorem Lin.ext {f g : Nat → Nat} (hf : Lin f) (hg : Lin g) (h : ∀ i < 8, f (2 ^ i) = g (2 ^ i)) {a : Nat} (ha : a < 256) : f a = g a := by
  have h0 := h 0 (by decide); have h1 := h 1 (by decide); have h2 := h 2 (by decide); have h3 := h 3 (by decide)
  have h4 := h 4 (by decide); have h5 := h 5 (by decide); have h6 := h 6 (by decide); have h7 := h 7 (by decide)
  simp only [Nat.reducePow] at h0 h1 h2 h3 h4 h5 h6 h7
  rw [eight a ha]
  simp only [hf _ _, hg _ _, hf.mask, hg.mask, h0, h1, h2, h3, h4, h5, h6, h7]

/-- An element times x. -/
def xt (a : Nat) : Nat := (2 * a % 256) ^^^ mask (a.testBit 7) 27
def xts (a : Nat) : Nat → Nat
  | 0 => a
  | k + 1 => xt (xts a k)
/-- The sum of the products with the first k terms of b. -/
def gacc (a b : Nat) : Nat → Nat
  | 0 => 0
  | k + 1 => gacc a b k ^^^ mask (b.testBit k) (xts a k)
/-- The product of two elements. -/
def gm (a b : Nat) : Nat := gacc a b 8

/-! ### Inverses -/
/-- The inverses of all elements. -/
def itab : List UInt8 := [0, 1, 141, 246, 203, 82, 123, 209, 232, 79, 41, 192, 176, 225, 229, 199, 116, 180, 170, 75, 153, 43, 96, 95, 88, 63, 253, 204, 255, 64, 238, 178, 58, 110, 90, 241, 85, 77, 168, 201, 193, 10, 152, 21, 48, 68, 162, 194, 44, 69, 146, 108, 243, 57, 102, 66, 242, 53, 32, 111, 119, 187, 89, 25, 29, 254, 55, 103, 45, 49, 245, 105, 167, 100, 171, 19, 84, 37, 233, 9, 237, 92, 5, 202, 76, 36, 135, 191, 24, 62, 34, 240, 81, 236, 97, 23, 22, 94, 175, 211, 73, 166, 54, 67, 244, 71, 145, 223, 51, 147, 33, 59, 121, 183, 151, 133, 16, 181, 186, 60, 182, 112, 208, 6, 161, 250, 129, 130, 131, 126, 127, 128, 150, 115, 190, 86, 155, 158, 149, 217, 247, 2, 185, 164, 222, 106, 50, 109, 216, 138, 132, 114, 42, 20, 159, 136, 249, 220, 137, 154, 251, 124, 46, 195, 143, 184, 101, 72, 38, 200, 18, 74, 206, 231, 210, 98, 12, 224, 31, 239, 17, 117, 120, 113, 165, 142, 118, 61, 189, 188, 134, 87, 11, 40, 47, 163, 218, 212, 228, 15, 169, 39, 83, 4, 27, 252, 172, 230, 122, 7, 174, 99, 197, 219, 226, 234, 148, 139, 196, 213, 157, 248, 144, 107, 177, 13, 214, 235, 198, 14, 207, 173, 8, 78, 215, 227, 93, 80, 30, 179, 91, 35, 56, 52, 104, 70, 3, 140, 221, 156, 125, 160, 205, 26, 65, 28]
def ginv (a : Nat) : Nat := (itab.getD a 0).toNat
/-! ### Powers -/
/-! ### Substitutes -/
def rotl8 (a k : Nat) : Nat := (a * 2 ^ k % 256) ||| (a / 2 ^ (8 - k))
def subI (b : Nat) : Nat := b ^^^ rotl8 b 1 ^^^ rotl8 b 2 ^^^ rotl8 b 3 ^^^ rotl8 b 4 ^^^ 99
def sub8 (a : Nat) : Nat := subI (ginv a)
/-! ### The powers of 3 -/
/-! ### The product of the definition -/
theorem wrapN_u8 {n : Nat} (h : n < 256) : IntKind.u8.wrap (n : Int) = (n : Int) := wrap_u8 (by omega) (by omega)
end Go.Proofs.Ytbmpjeheaemgmaa
