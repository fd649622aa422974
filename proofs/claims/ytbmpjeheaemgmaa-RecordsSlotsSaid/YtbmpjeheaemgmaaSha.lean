/-
  OWN WORDS: numbers of 32 bits as facts, and SHA-256 as plain mathematics (FIPS 180-4). Nothing of one program stands here.
-/
import Derived.Test.YtbmpjeheaemgmaaOps3
import Derived.Test.YtbmpjeheaemgmaaNum
namespace Go.Proofs.Ytbmpjeheaemgmaa
open Go Go.RowKit

/-! ### Numbers of 32 bits -/
def u32V (x : UInt32) : Value := .int .u32 (x.toNat : Int)
/-- n places to the right. -/
def rotr32 (x : UInt32) (n : Nat) : UInt32 := UInt32.ofNat (rotB x.toNat (32 - n))
section
variable {P : Program} {B : Nat} {E : Env} {dst : Option Tmp} {ty : TypeId} {pos : String} {after : Array Edge} {guard : Option (Nat × Bool)} {t t' : TypeId} {x y : Operand} {a b : UInt32}
end

/-! ### SHA-256 -/
structure R8 where
  (a b c d e f g h : UInt32)
def R8.list (s : R8) : List UInt32 := [s.a, s.b, s.c, s.d, s.e, s.f, s.g, s.h]
def R8.add (s t : R8) : R8 := ⟨s.a + t.a, s.b + t.b, s.c + t.c, s.d + t.d, s.e + t.e, s.f + t.f, s.g + t.g, s.h + t.h⟩
theorem R8.size (s : R8) : (s.list.map u32V).length = 8 := rfl
def big0 (x : UInt32) : UInt32 := rotr32 x 2 ^^^ rotr32 x 13 ^^^ rotr32 x 22
def big1 (x : UInt32) : UInt32 := rotr32 x 6 ^^^ rotr32 x 11 ^^^ rotr32 x 25
def choice (e f g : UInt32) : UInt32 := (e &&& f) ^^^ (~~~e &&& g)
def most (a b c : UInt32) : UInt32 := (a &&& b) ^^^ (a &&& c) ^^^ (b &&& c)
def round8 (s : R8) (k w : UInt32) : R8 :=
  let t1 := s.h + big1 s.e + choice s.e s.f s.g + k + w
  ⟨t1 + (big0 s.a + most s.a s.b s.c), s.a, s.b, s.c, s.d + t1, s.e, s.f, s.g⟩
def rounds (s : R8) (ks ws : List UInt32) : Nat → R8
  | 0 => s
  | t + 1 => round8 (rounds s ks ws t) (ks.getD t 0) (ws.getD t 0)
/-- The words of the table so far, zeros behind. -/
def table (ws : List UInt32) (m : Nat) : List Value := (ws ++ List.replicate (m - ws.length) 0).map u32V
/-! ### The digest's bytes -/
theorem byt_vals (l : List UInt8) : byt l = lst ((l.map byteV).map .v) := by unfold byt; rw [List.map_map]; rfl
end Go.Proofs.Ytbmpjeheaemgmaa
