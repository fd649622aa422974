/-
  OWN TEXTS of this seat, put together, part 2: C01d, Law, Sha, Law2, Range, Eq, Flat, Vals, Fresh, Mark, Var, Write, Scope, Nest, Calls, More, Any, Hold, Nonce, C08a, Acts, Cut, Gf, Aes, SealE, Rec, Chain, Flow, C10a, C10b, Keep.
-/
import Derived.Test.YtfjpipkcfbmdeaaDoorM1
import Derived.OpenShut
import Derived.ChangeSlices
import Derived.RangeFuncOwn
import Derived.ChangeKeysEq
import Derived.Laws.StructEq
import Derived.Laws.IdiomStrings
import Derived.Scope
import Derived.Lib.SliceRun
namespace Go.Proofs.YtfjpipkcfbmdeaaDoor
open Go Go.RowKit
set_option linter.unusedVariables false
set_option maxRecDepth 20000

theorem Join_fnB (ps : List (List UInt8)) (hps : ps.length ≤ 1000000) (htot : ps.flatten.length ≤ 1000000) : FnB Tryd.prog 65 [lst (ps.map byt)] (fun B => fresh B 5 (ps.flatten.map byteV) ps.flatten.length) := by
 refine FnB.of Tryd.func65 rfl (by kernel_rfl) Tryd.ntmps65 (by simp) (fun w => [(0, old w.heap.size (lst (ps.map byt)))]) (fun w => (Start.old rfl Start.nil)) fun w₀ => ?_
 refine GS ?_
 refine TL ?_
 refine RA rfl ?_
 refine RN ?_
 refine GS ?_
 refine TL ?_
 refine RA rfl ?_
 refine RN ?_
 refine A.seq ?_
 refine GS ?_
 refine TL ?_
 refine RM rfl ?_
 refine RS (ok_len Tryd.underlying108 rfl LA) ?_; refine RZ (.int .i64 (ps.length : Int)) (by simp) ?_
 refine RM rfl ?_
 refine RN ?_
 refine A.block ?_
 refine A.loop (ι := Nat) (fun i => i ≤ ps.length) (fun i => [(0, old w₀.heap.size (lst (ps.map byt))), (3, .v (nI ((ps.take i).flatten.length))), (10, old w₀.heap.size (lst (ps.map byt))), (11, .v (.int .i64 (ps.length : Int))), (12, .v (.int .i64 (i : Int)))]) (fun i => ps.length - i) 0 ?_ ?_ ?_
 ·exact Nat.zero_le _
 ·exact (KC 0 rfl (KC 3 rfl (KC 10 rfl (KC 11 rfl (KC 12 rfl KN)))))
 intro i hi
 refine GS ?_
 refine TL ?_
 refine RB rfl rfl rfl ?_
 refine RN ?_
 refine A.seq ?_
 refine A.cond rfl (fun hc13 => ?_) (fun hc13 => ?_)
 ·have hlt : i < ps.length := by simpa using hc13
  have hget : ps[i]? = some ps[i] := List.getElem?_eq_getElem hlt
  have hT := flatten_take_le ps (i + 1)
  rw [flatten_take_succ hget, List.length_append] at hT
  refine A.skip ?_
  refine EN ?_
  refine A.seq ?_
  refine A.block ?_
  refine GS ?_
  refine TL ?_
  refine RS (ok_index (d := byt ps[i]) Tryd.underlying108 info91 rfl LA rfl (by omega) (by simp [hlt])) ?_
  refine RS (ok_load Tryd.underlying91 rfl rfl) ?_
  refine RA rfl ?_
  refine RN ?_
  refine GE ?_
  refine TL ?_
  refine RM rfl ?_
  refine RM rfl ?_
  refine RS (ok_lenB Tryd.underlying91 rfl LA) ?_
  refine RBS rfl rfl rfl (nI ((ps.take (i + 1)).flatten.length)) (by rw [wrap_i64 (by omega) (by omega), flatten_take_succ hget, List.length_append]; congr 1) ?_
  refine RA rfl ?_
  refine RN ?_
  refine End.normal_block ?_
  refine EN ?_
  refine GE ?_
  refine TL ?_
  refine RBS rfl rfl rfl (nI (i + 1)) (by rw [wrap_i64 (by omega) (by omega)]; congr 1) ?_
  refine RM rfl ?_
  refine RN ?_
  refine End.normal_then ?_
  refine End.again (i + 1) ?_ ?_ ?_
  ·show _ ≤ _; omega
  ·show _ - _ < _ - _; omega
  ·exact (KC 0 rfl (KC 3 rfl (KC 10 rfl (KC 11 rfl (KC 12 rfl KN)))))
 ·have hi2 : i = ps.length := by simp at hc13; omega
  refine A.exit ?_
  refine End.exit_then ?_
  refine End.exit_then ?_
  refine End.exit_here ?_
  refine EN ?_
  refine GS ?_
  refine TL ?_
  refine RM rfl ?_
  refine RS (ok_make ps.flatten.length Tryd.underlying91 info5 (by decide) rfl rfl rfl (by rw [hi2, List.take_length]) (by rw [hi2, List.take_length]) (by omega)) ?_
  refine RA rfl ?_
  refine RN ?_
  refine A.open (t := 6) (k := 1000000) rfl fun b hb => ?_
  refine GS ?_
  refine TL ?_
  refine RA rfl ?_
  refine RN ?_
  refine A.seq ?_
  refine GS ?_
  refine TL ?_
  refine RM rfl ?_
  refine RS (ok_len Tryd.underlying108 rfl LA) ?_; refine RZ (.int .i64 (ps.length : Int)) (by simp) ?_
  refine RM rfl ?_
  refine RN ?_
  refine A.block ?_
  refine A.loop (ι := Nat) (fun i => i ≤ ps.length) (fun i => [(6, .v (.slice (some ⟨b, 0, none⟩) ps.flatten.length ps.flatten.length)), (7, .v (nI ((ps.take i).flatten.length))), (23, old w₀.heap.size (lst (ps.map byt))), (24, .v (.int .i64 (ps.length : Int))), (25, .v (.int .i64 (i : Int))), (1000000, blk b 5 ((ps.take i).flatten.map byteV ++ List.replicate (ps.flatten.length - (ps.take i).flatten.length) (.int .u8 0)))]) (fun i => ps.length - i) 0 ?_ ?_ ?_
  ·exact Nat.zero_le _
  ·exact (KE 6 rfl (by simp) (KC 7 rfl (KC 23 rfl (KC 24 rfl (KC 25 rfl (KE 1000000 rfl (by simp) KN))))))
  intro i hi
  refine GS ?_
  refine TL ?_
  refine RB rfl rfl rfl ?_
  refine RN ?_
  refine A.seq ?_
  refine A.cond rfl (fun hc26 => ?_) (fun hc26 => ?_)
  ·have hlt : i < ps.length := by simpa using hc26
   have hget : ps[i]? = some ps[i] := List.getElem?_eq_getElem hlt
   have hT := flatten_take_le ps (i + 1)
   rw [flatten_take_succ hget, List.length_append] at hT
   refine A.skip ?_
   refine EN ?_
   refine A.seq ?_
   refine A.block ?_
   refine GS ?_
   refine TL ?_
   refine RS (ok_index (d := byt ps[i]) Tryd.underlying108 info91 rfl LA rfl (by omega) (by simp [hlt])) ?_
   refine RS (ok_load Tryd.underlying91 rfl rfl) ?_
   refine RA rfl ?_
   refine RN ?_
   refine GE ?_
   refine TF 5 ?_
   refine RM rfl ?_
   refine RM rfl ?_
   refine RM rfl ?_
   refine RS (ok_sliceV (ps.take i).flatten.length Tryd.underlying91 info5 rfl rfl (by omega) (Nat.le_refl _)) ?_
   refine RM rfl ?_
   refine RN ?_
   refine ⟨_, eff_copy (s := 1000000) (l := ps[i]) Tryd.underlying91 info5 rfl rfl (Le.refl _) (by omega) hb rfl (by simp only [List.length_append, List.length_map, List.length_replicate]; split <;> omega) (by decide) (Left.cons (t := 6) rfl (Stays.v _ _) (Left.cons (t := 23) rfl (Stays.old _ _) (Left.cons (t := 24) rfl (Stays.v _ _) (Left.cons (t := 25) rfl (Stays.v _ _) (Left.cons (t := 29) rfl (Stays.v _ _) Left.nil))))), ?_⟩
   refine TL ?_
   refine RBS rfl rfl rfl (nI ((ps.take (i + 1)).flatten.length)) (by rw [wrap_i64 (by omega) (by omega), flatten_take_succ hget, List.length_append]; congr 1) ?_
   refine RA rfl ?_
   refine RN ?_
   refine End.normal_block ?_
   refine EN ?_
   refine GE ?_
   refine TL ?_
   refine RBS rfl rfl rfl (nI (i + 1)) (by rw [wrap_i64 (by omega) (by omega)]; congr 1) ?_
   refine RM rfl ?_
   refine RN ?_
   refine End.normal_then ?_
   refine End.again (i + 1) ?_ ?_ ?_
   ·show _ ≤ _; omega
   ·show _ - _ < _ - _; omega
   ·exact (KC 6 rfl (KC 7 rfl (KC 23 rfl (KC 24 rfl (KC 25 rfl (KE 1000000 rfl (congrArg _ (copy_step hget (by omega) rfl)) KN))))))
  ·have hi2 : i = ps.length := by simp at hc26; omega
   refine A.exit ?_
   refine End.exit_then ?_
   refine End.exit_then ?_
   refine End.exit_here ?_
   refine EN ?_
   refine GS ?_
   refine TL ?_
   refine RM rfl ?_
   refine RA rfl ?_
   refine RN ?_
   refine A.ret ?_
   subst hi2
   exact End.fresh rfl hb rfl (by rw [List.length_map]) (k := 1000000) rfl (by rw [List.take_length, Nat.sub_self, List.replicate_zero, List.append_nil])
theorem Join_fn (ps : List (List UInt8)) (hps : ps.length ≤ 1000000) (htot : ps.flatten.length ≤ 1000000) : Fn Tryd.prog 65 [lst (ps.map byt)] (bytes ps.flatten ps.flatten.length) :=
 (Join_fnB ps hps htot).fn fun _ => fresh_bytes rfl (by simp only [maxLen]; omega)
end Go.Proofs.YtfjpipkcfbmdeaaDoor
namespace Go.Proofs.YtfjpipkcfbmdeaaDoor
open Go Go.RowKit

/-- A law that is known by facts returns true, and writes nothing that was there. -/
theorem Fn.law {P : Program} {f : FuncId} {ds : List D} (h : Fn P f ds (.v (.bool true))) (vs : List Value) (w : World) (hl : vs.length = ds.length) (hv : ∀ (j : Nat) (e : D) (u : Value), ds[j]? = some e → vs[j]? = some u → e.Of w u) :
    Calls P f vs.toArray w fun e w' => e = .returned (.bool true) ∧ Below w.heap.size w w' :=
  (h.calls vs w hl hv).mono fun e w' ⟨x, he, g, hx⟩ => ⟨by have hx : x = .bool true := hx; rw [he, hx], g⟩
theorem facts_nil {w : World} : ∀ (j : Nat) (e : D) (u : Value), ([] : List D)[j]? = some e → ([] : List Value)[j]? = some u → e.Of w u := fun j e u h => by simp at h
theorem facts_cons {w : World} {d : D} {v : Value} {ds : List D} {vs : List Value} (h : d.Of w v) (hr : ∀ (j : Nat) (e : D) (u : Value), ds[j]? = some e → vs[j]? = some u → e.Of w u) : ∀ (j : Nat) (e : D) (u : Value), (d :: ds)[j]? = some e → (v :: vs)[j]? = some u → e.Of w u := fun j e u he hu => by
  cases j with
  | zero => simp at he hu; subst he; subst hu; exact h
  | succ j => exact hr j e u (by simpa using he) (by simpa using hu)
theorem block_of_cell {w : World} {a : Addr} {v : Value} (h : w.cell? a = some v) : a.block < w.heap.size := by
  rcases Nat.lt_or_ge a.block w.heap.size with hlt | hge
  · exact hlt
  · simp [World.cell?, Array.getElem?_eq_none hge] at h
end Go.Proofs.YtfjpipkcfbmdeaaDoor
namespace Go.Proofs.YtfjpipkcfbmdeaaDoor
open Go Go.RowKit

/-! ### Numbers of 32 bits -/
def u32V (x : UInt32) : Value := .int .u32 (x.toNat : Int)
theorem u32_lt (x : UInt32) : x.toNat < 4294967296 := x.toNat_lt
theorem u32V_ofNat (n : Nat) : u32V (UInt32.ofNat n) = .int .u32 ((n % 4294967296 : Nat) : Int) := by simp [u32V]
theorem u32V_of {n : Nat} (h : n < 4294967296) : u32V (UInt32.ofNat n) = .int .u32 (n : Int) := by rw [u32V_ofNat, Nat.mod_eq_of_lt h]
theorem binV_add32 (x y : UInt32) : binV .add (u32V x) (u32V y) = some (u32V (x + y)) := by
  simp only [u32V, binV, if_true, Option.some.injEq, Value.int.injEq, true_and]
  rw [← Int.natCast_add, wrap_u32_nat, UInt32.toNat_add]
theorem bv32 (x : UInt32) : BitVec.ofInt 32 (x.toNat : Int) = x.toBitVec := by
  rw [BitVec.ofInt_natCast]; simp
theorem binV_xor32 (x y : UInt32) : binV .xor (u32V x) (u32V y) = some (u32V (x ^^^ y)) := by
  have key : (BitVec.ofInt 32 (x.toNat : Int) ^^^ BitVec.ofInt 32 (y.toNat : Int)).toNat = (x ^^^ y).toNat := by rw [bv32, bv32, ← UInt32.toBitVec_xor, UInt32.toNat_toBitVec]
  show some (Value.int .u32 (IntKind.u32.wrap ((BitVec.ofInt 32 (x.toNat : Int) ^^^ BitVec.ofInt 32 (y.toNat : Int)).toNat : Int))) = _
  rw [key, wrap_u32_nat, Nat.mod_eq_of_lt (u32_lt _)]; rfl
theorem binV_and32 (x y : UInt32) : binV .and (u32V x) (u32V y) = some (u32V (x &&& y)) := by
  have key : (BitVec.ofInt 32 (x.toNat : Int) &&& BitVec.ofInt 32 (y.toNat : Int)).toNat = (x &&& y).toNat := by rw [bv32, bv32, ← UInt32.toBitVec_and, UInt32.toNat_toBitVec]
  show some (Value.int .u32 (IntKind.u32.wrap ((BitVec.ofInt 32 (x.toNat : Int) &&& BitVec.ofInt 32 (y.toNat : Int)).toNat : Int))) = _
  rw [key, wrap_u32_nat, Nat.mod_eq_of_lt (u32_lt _)]; rfl
theorem binV_or32 (x y : UInt32) : binV .or (u32V x) (u32V y) = some (u32V (x ||| y)) := by
  have key : (BitVec.ofInt 32 (x.toNat : Int) ||| BitVec.ofInt 32 (y.toNat : Int)).toNat = (x ||| y).toNat := by rw [bv32, bv32, ← UInt32.toBitVec_or, UInt32.toNat_toBitVec]
  show some (Value.int .u32 (IntKind.u32.wrap ((BitVec.ofInt 32 (x.toNat : Int) ||| BitVec.ofInt 32 (y.toNat : Int)).toNat : Int))) = _
  rw [key, wrap_u32_nat, Nat.mod_eq_of_lt (u32_lt _)]; rfl
def shr32 (x : UInt32) (n : Nat) : UInt32 := UInt32.ofNat (x.toNat / 2 ^ n)
/-- n places to the right. -/
def rotr32 (x : UInt32) (n : Nat) : UInt32 := UInt32.ofNat (rotB x.toNat (32 - n))
theorem rotr32_toNat (x : UInt32) (n : Nat) : (rotr32 x n).toNat = rotB x.toNat (32 - n) := by
  rw [rotr32, UInt32.toNat_ofNat', Nat.mod_eq_of_lt (rotB_lt _ _)]
theorem rotr32_val (x : UInt32) (n : Nat) : u32V (rotr32 x n) = .int .u32 ((rotB x.toNat (32 - n) : Nat) : Int) := by rw [u32V, rotr32_toNat]

section
variable {P : Program} {B : Nat} {E : Env} {dst : Option Tmp} {ty : TypeId} {pos : String} {after : Array Edge} {guard : Option (Nat × Bool)} {t t' : TypeId} {x y : Operand} {a b : UInt32}
theorem ok_add32 (hx : E.at x = some (.v (u32V a))) (hy : E.at y = some (.v (u32V b))) : OpOk P B ⟨dst, .binOp .add t x y t', ty, pos, after, guard⟩ E (.v (u32V (a + b))) := ok_bin hx hy (binV_add32 a b)
theorem ok_xor32 (hx : E.at x = some (.v (u32V a))) (hy : E.at y = some (.v (u32V b))) : OpOk P B ⟨dst, .binOp .xor t x y t', ty, pos, after, guard⟩ E (.v (u32V (a ^^^ b))) := ok_bin hx hy (binV_xor32 a b)
theorem ok_and32 (hx : E.at x = some (.v (u32V a))) (hy : E.at y = some (.v (u32V b))) : OpOk P B ⟨dst, .binOp .and t x y t', ty, pos, after, guard⟩ E (.v (u32V (a &&& b))) := ok_bin hx hy (binV_and32 a b)
theorem ok_or32 (hx : E.at x = some (.v (u32V a))) (hy : E.at y = some (.v (u32V b))) : OpOk P B ⟨dst, .binOp .or t x y t', ty, pos, after, guard⟩ E (.v (u32V (a ||| b))) := ok_bin hx hy (binV_or32 a b)
theorem ok_not32 (hx : E.at x = some (.v (u32V a))) : OpOk P B ⟨dst, .unOp .xor t x, ty, pos, after, guard⟩ E (.v (u32V (~~~a))) := by
  refine ok_xorU (k := .u32) (a := (a.toNat : Int)) rfl hx ?_
  have h1 : BitVec.ofInt 32 (IntKind.max .u32) = BitVec.allOnes 32 := by decide
  have key : (BitVec.ofInt 32 (IntKind.max .u32) ^^^ BitVec.ofInt 32 (a.toNat : Int)).toNat = (~~~a).toNat := by rw [bv32, h1, BitVec.allOnes_xor, ← UInt32.toBitVec_not, UInt32.toNat_toBitVec]
  show _ = Value.int .u32 (IntKind.u32.wrap ((BitVec.ofInt 32 (IntKind.max .u32) ^^^ BitVec.ofInt 32 (a.toNat : Int)).toNat : Int))
  rw [key, wrap_u32_nat, Nat.mod_eq_of_lt (u32_lt _)]; rfl
theorem ok_shr32 {k' : IntKind} {c : Int} (n : Nat) (hx : E.at x = some (.v (u32V a))) (hy : E.at y = some (.v (.int k' c))) (hc : c = (n : Int)) (hn : n ≤ 32) : OpOk P B ⟨dst, .binOp .shr t x y t', ty, pos, after, guard⟩ E (.v (u32V (shr32 a n))) := by
  subst hc
  have := ok_shr (P := P) (B := B) (dst := dst) (ty := ty) (pos := pos) (after := after) (guard := guard) (t := t) (t' := t') hx hy (Int.natCast_nonneg n)
  rw [Int.toNat_natCast, show min n IntKind.u32.bits = n from Nat.min_eq_left hn, shr_nat] at this
  rwa [shr32, u32V_of (Nat.lt_of_le_of_lt (Nat.div_le_self _ _) (u32_lt a))]
end

/-! ### SHA-256 -/
structure R8 where
  (a b c d e f g h : UInt32)
def R8.list (s : R8) : List UInt32 := [s.a, s.b, s.c, s.d, s.e, s.f, s.g, s.h]
def R8.add (s t : R8) : R8 := ⟨s.a + t.a, s.b + t.b, s.c + t.c, s.d + t.d, s.e + t.e, s.f + t.f, s.g + t.g, s.h + t.h⟩
theorem R8.size (s : R8) : (s.list.map u32V).length = 8 := rfl
theorem R8.add_list (s t : R8) : (s.add t).list.map u32V = [u32V (s.a + t.a), u32V (s.b + t.b), u32V (s.c + t.c), u32V (s.d + t.d), u32V (s.e + t.e), u32V (s.f + t.f), u32V (s.g + t.g), u32V (s.h + t.h)] := rfl
theorem all_u32 (xs : List UInt32) : (xs.map u32V).all (·.oneCell') = true := by simp [u32V, Value.oneCell']
def sha0 (x : UInt32) : UInt32 := rotr32 x 7 ^^^ rotr32 x 18 ^^^ shr32 x 3
def sha1 (x : UInt32) : UInt32 := rotr32 x 17 ^^^ rotr32 x 19 ^^^ shr32 x 10
def big0 (x : UInt32) : UInt32 := rotr32 x 2 ^^^ rotr32 x 13 ^^^ rotr32 x 22
def big1 (x : UInt32) : UInt32 := rotr32 x 6 ^^^ rotr32 x 11 ^^^ rotr32 x 25
def choice (e f g : UInt32) : UInt32 := (e &&& f) ^^^ (~~~e &&& g)
def most (a b c : UInt32) : UInt32 := (a &&& b) ^^^ (a &&& c) ^^^ (b &&& c)
def round8 (s : R8) (k w : UInt32) : R8 :=
  let t1 := s.h + big1 s.e + choice s.e s.f s.g + k + w
  ⟨t1 + (big0 s.a + most s.a s.b s.c), s.a, s.b, s.c, s.d + t1, s.e, s.f, s.g⟩
/-- Number t of the words that a block consists of. -/
def word (l : List UInt8) (t : Nat) : UInt32 := UInt32.ofNat (num ((l.drop (4 * t)).take 4))
theorem word_lt (l : List UInt8) (t : Nat) : num ((l.drop (4 * t)).take 4) < 4294967296 :=
  Nat.lt_of_lt_of_le (num_lt _) (Nat.le_trans (Nat.pow_le_pow_right (by decide) (show ((l.drop (4 * t)).take 4).length ≤ 4 by simp; omega)) (by decide))
def nextW (l : List UInt8) (ws : List UInt32) (t : Nat) : UInt32 :=
  if t < 16 then word l t else ws.getD (t - 16) 0 + ws.getD (t - 7) 0 + sha0 (ws.getD (t - 15) 0) + sha1 (ws.getD (t - 2) 0)
def sched (l : List UInt8) : Nat → List UInt32
  | 0 => []
  | t + 1 => sched l t ++ [nextW l (sched l t) t]
theorem sched_length (l : List UInt8) : ∀ t, (sched l t).length = t
  | 0 => rfl
  | t + 1 => by simp [sched, sched_length l t]
def rounds (s : R8) (ks ws : List UInt32) : Nat → R8
  | 0 => s
  | t + 1 => round8 (rounds s ks ws t) (ks.getD t 0) (ws.getD t 0)
def K64 : List UInt32 := [
  0x428a2f98, 0x71374491, 0xb5c0fbcf, 0xe9b5dba5, 0x3956c25b, 0x59f111f1, 0x923f82a4, 0xab1c5ed5,
  0xd807aa98, 0x12835b01, 0x243185be, 0x550c7dc3, 0x72be5d74, 0x80deb1fe, 0x9bdc06a7, 0xc19bf174,
  0xe49b69c1, 0xefbe4786, 0x0fc19dc6, 0x240ca1cc, 0x2de92c6f, 0x4a7484aa, 0x5cb0a9dc, 0x76f988da,
  0x983e5152, 0xa831c66d, 0xb00327c8, 0xbf597fc7, 0xc6e00bf3, 0xd5a79147, 0x06ca6351, 0x14292967,
  0x27b70a85, 0x2e1b2138, 0x4d2c6dfc, 0x53380d13, 0x650a7354, 0x766a0abb, 0x81c2c92e, 0x92722c85,
  0xa2bfe8a1, 0xa81a664b, 0xc24b8b70, 0xc76c51a3, 0xd192e819, 0xd6990624, 0xf40e3585, 0x106aa070,
  0x19a4c116, 0x1e376c08, 0x2748774c, 0x34b0bcb5, 0x391c0cb3, 0x4ed8aa4a, 0x5b9cca4f, 0x682e6ff3,
  0x748f82ee, 0x78a5636f, 0x84c87814, 0x8cc70208, 0x90befffa, 0xa4506ceb, 0xbef9a3f7, 0xc67178f2]
def H8 : R8 := ⟨0x6a09e667, 0xbb67ae85, 0x3c6ef372, 0xa54ff53a, 0x510e527f, 0x9b05688c, 0x1f83d9ab, 0x5be0cd19⟩
def compress (s : R8) (l : List UInt8) : R8 := s.add (rounds s K64 (sched l 64) 64)
def chain (s : R8) (l : List UInt8) : Nat → R8
  | 0 => s
  | k + 1 => compress (chain s l k) ((l.drop (64 * k)).take 64)
def padded (l : List UInt8) : List UInt8 := l ++ 128 :: (List.replicate ((119 - l.length % 64) % 64) 0 ++ be 8 (8 * l.length))
def shaR (l : List UInt8) : R8 := chain H8 (padded l) ((padded l).length / 64)
def sha (l : List UInt8) : List UInt8 := (shaR l).list.flatMap fun x => be 4 x.toNat
/-- The words of the table so far, zeros behind. -/
def table (ws : List UInt32) (m : Nat) : List Value := (ws ++ List.replicate (m - ws.length) 0).map u32V
theorem table_length {ws : List UInt32} {m : Nat} (h : ws.length ≤ m) : (table ws m).length = m := by simp [table]; omega
theorem table_get {ws : List UInt32} {m j : Nat} (h : j < ws.length) : (table ws m)[j]? = some (u32V (ws.getD j 0)) := by
  rw [table, List.map_append, List.getElem?_append_left (by simpa using h)]
  simp [h]
theorem table_set {ws : List UInt32} {m t : Nat} {x : UInt32} (ht : ws.length = t) (h : t < m) : (table ws m).set t (u32V x) = table (ws ++ [x]) m := by
  subst ht
  have h1 : m - ws.length = (m - (ws.length + 1)) + 1 := by omega
  simp only [table, List.length_append, List.length_cons, List.length_nil, List.map_append]
  rw [h1, List.replicate_succ, List.map_cons, List.set_append_right _ _ (by simp)]
  simp
theorem table_full {ws : List UInt32} {m : Nat} (h : ws.length = m) : table ws m = ws.map u32V := by
  subst h; simp [table]
theorem map_get32 {ws : List UInt32} {j : Nat} (h : j < ws.length) : (ws.map u32V)[j]? = some (u32V (ws.getD j 0)) := by
  simp [h]
theorem most_or (a b c : UInt32) : (a &&& b) ||| (a &&& c) ||| (b &&& c) = most a b c := by
  unfold most
  apply UInt32.eq_of_toBitVec_eq
  apply BitVec.eq_of_getLsbD_eq
  intro i _
  simp only [UInt32.toBitVec_or, UInt32.toBitVec_and, UInt32.toBitVec_xor, BitVec.getLsbD_or, BitVec.getLsbD_and, BitVec.getLsbD_xor]
  cases a.toBitVec.getLsbD i <;> cases b.toBitVec.getLsbD i <;> cases c.toBitVec.getLsbD i <;> rfl
theorem choice_or (e f g : UInt32) : (e &&& f) ||| (~~~e &&& g) = choice e f g := by
  unfold choice
  apply UInt32.eq_of_toBitVec_eq
  apply BitVec.eq_of_getLsbD_eq
  intro i hi
  simp only [UInt32.toBitVec_or, UInt32.toBitVec_and, UInt32.toBitVec_xor, UInt32.toBitVec_not, BitVec.getLsbD_or, BitVec.getLsbD_and, BitVec.getLsbD_xor, BitVec.getLsbD_not, hi, decide_true, Bool.true_and]
  cases e.toBitVec.getLsbD i <;> cases f.toBitVec.getLsbD i <;> cases g.toBitVec.getLsbD i <;> rfl
/-! ### The digest's bytes -/
theorem padded_length (l : List UInt8) : (padded l).length = l.length + 1 + (119 - l.length % 64) % 64 + 8 := by
  simp [padded, be_length]; omega
theorem padded_mod (l : List UInt8) : (padded l).length % 64 = 0 := by
  rw [padded_length]; omega
theorem flatBe_length (xs : List UInt32) : (xs.flatMap fun x => be 4 x.toNat).length = 4 * xs.length := by
  induction xs with
  | nil => rfl
  | cons x xs ih => rw [List.flatMap_cons, List.length_append, ih, be_length, List.length_cons]; omega
theorem flatBe_get : ∀ (xs : List UInt32) (i k : Nat), i < xs.length → k < 4 → (xs.flatMap fun x => be 4 x.toNat)[4 * i + k]? = (be 4 (xs.getD i 0).toNat)[k]?
  | [], i, k, hi, _ => by simp at hi
  | x :: xs, 0, k, _, hk => by
    rw [List.flatMap_cons, List.getElem?_append_left (by rw [be_length]; omega)]
    simp
  | x :: xs, i + 1, k, hi, hk => by
    rw [List.flatMap_cons, List.getElem?_append_right (by rw [be_length]; omega), be_length, show 4 * (i + 1) + k - 4 = 4 * i + k from by omega, flatBe_get xs i k (by simpa using hi) hk]
    simp
theorem sha_length (l : List UInt8) : (sha l).length = 32 := by
  rw [sha, flatBe_length]; rfl
theorem sha_get (l : List UInt8) {i k : Nat} (hi : i < 8) (hk : k < 4) : (be 4 ((shaR l).list.getD i 0).toNat)[k]? = some ((sha l).getD (4 * i + k) 0) := by
  have h1 : (sha l)[4 * i + k]? = _ := flatBe_get (shaR l).list i k hi hk
  rw [← h1, List.getD_eq_getElem?_getD, List.getElem?_eq_getElem (by rw [sha_length]; omega)]
  rfl
def tableB (bs : List UInt8) (m : Nat) : List Value := (bs ++ List.replicate (m - bs.length) 0).map byteV
theorem tableB_length {bs : List UInt8} {m : Nat} (h : bs.length ≤ m) : (tableB bs m).length = m := by simp [tableB]; omega
theorem tableB_nil (m : Nat) : List.replicate m (.int .u8 0) = tableB [] m := by simp [tableB, byteV]
theorem tableB_full {bs : List UInt8} {m : Nat} (h : bs.length = m) : tableB bs m = bs.map byteV := by subst h; simp [tableB]
theorem tableB_step {bs : List UInt8} {m j : Nat} (hm : bs.length = m) (h : j < m) : (tableB (bs.take j) m).set j (byteV (bs.getD j 0)) = tableB (bs.take (j + 1)) m := by
  have hj : j < bs.length := by omega
  have h1 : m - (bs.take j).length = (m - (bs.take (j + 1)).length) + 1 := by simp; omega
  have h2 : bs.take (j + 1) = bs.take j ++ [bs.getD j 0] := by
    rw [List.take_add_one, List.getElem?_eq_getElem hj, List.getD_eq_getElem?_getD, List.getElem?_eq_getElem hj]; rfl
  rw [tableB, h1, List.replicate_succ, List.map_append, List.map_cons, List.set_append_right _ _ (by simp; omega)]
  rw [tableB, h2, List.map_append, List.map_append, List.append_assoc]
  congr 1
  rw [← h2]
  simp [Nat.min_eq_left (Nat.le_of_lt hj)]
theorem all_bytes (xs : List UInt8) : (xs.map byteV).all (·.oneCell') = true := by simp [byteV, Value.oneCell']
theorem byt_vals (l : List UInt8) : byt l = lst ((l.map byteV).map .v) := by unfold byt; rw [List.map_map]; rfl
end Go.Proofs.YtfjpipkcfbmdeaaDoor
namespace Go.Proofs.YtfjpipkcfbmdeaaDoor
open Go Go.RowKit Go.ChangeShapes Go.WideShapes

theorem FnM.law {P : Program} {f : FuncId} {M : Env} {ds : List D} (h : FnM P f M ds (.v (.bool true))) (vs : List Value) (w : World) (hM : ∀ p ∈ M, p.2.Of w undef) (hl : vs.length = ds.length) (hv : ∀ (j : Nat) (e : D) (u : Value), ds[j]? = some e → vs[j]? = some u → e.Of w u) :
    Calls P f vs.toArray w fun e w' => e = .returned (.bool true) ∧ Below w.heap.size w w' :=
  (h.calls vs w hM hl hv).mono fun e w' ⟨x, he, g, hx⟩ => ⟨by have hx : x = .bool true := hx; rw [he, hx], g⟩

section
variable {H : Type} {enc : TypeId × Value → H} {P : Program} {w : World} {base : Nat} {spare : Nat → Bool} {held : Bool}
/-- An array of numbers, read. -/
theorem trod_ints {T e : TypeId} {k : IntKind} {n fuel : Nat} {cs : List Value} {x : DataW H × List MemPlace} (ht : P.underlying T = some (.array n e)) (he : P.underlying e = some (.int k)) (hc : P.cellsOf e = 1) (hT : P.cellsOf T = n)
    (h : DataW.trod enc P w base spare held fuel T cs = some x) : ∃ ns : List Int, ns.length = n ∧ cs = ns.map (fun m => .int k m) ∧ x.1 = .agg (ns.map fun m => .lit (.int k m)) ∧ ∀ m ∈ ns, (Lit.int k m).wf = true := by
  obtain ⟨xs, m, _, rfl, hlen, hxl, hel⟩ := DataW.trod_array ht h
  have each : ∀ i, i < n → ∃ a : Int, cs[i]? = some (.int k a) ∧ xs[i]? = some (.lit (.int k a), []) ∧ (Lit.int k a).wf = true := fun i hi => by
    have hi' : i < cs.length := by omega
    have h1 := hel i hi
    rw [List.getElem?_eq_getElem (by omega), hc, Nat.mul_one] at h1
    obtain ⟨a, h2, h3, h4⟩ := DataW.trod_int he h1
    have h5 : (cs.drop i).take 1 = [cs[i]] := by
      rw [List.drop_eq_getElem_cons hi']; rfl
    rw [h5] at h2
    injection h2 with h2
    exact ⟨a, by rw [List.getElem?_eq_getElem hi', h2], by rw [List.getElem?_eq_getElem (by omega), h3], h4⟩
  refine ⟨xs.map numOf, by simp [hxl], ?_, ?_, fun a ha => ?_⟩
  · apply List.ext_getElem?
    intro i
    rcases Nat.lt_or_ge i n with hi | hi
    · obtain ⟨a, h1, h2, _⟩ := each i hi
      simp [h1, h2, numOf]
    · rw [List.getElem?_eq_none (by omega), List.getElem?_eq_none (by simp; omega)]
  · show DataW.agg _ = DataW.agg _
    congr 1
    apply List.ext_getElem?
    intro i
    rcases Nat.lt_or_ge i n with hi | hi
    · obtain ⟨a, h1, h2, _⟩ := each i hi
      simp [h2, numOf]
    · rw [List.getElem?_eq_none (by simp; omega), List.getElem?_eq_none (by simp; omega)]
  · obtain ⟨j, hj⟩ := List.mem_iff_getElem?.1 ha
    have hjn : j < n := by have := (List.getElem?_eq_some_iff.1 hj).1; simp at this; omega
    obtain ⟨b, _, h2, h3⟩ := each j hjn
    simp [h2, numOf] at hj
    exact hj ▸ h3
theorem okWide_arr' {r : Reach} {b0 n : Nat} {t e : TypeId} {v : Value} (ht : P.underlying t = some (.array n e)) (h : Value.okWide P w r b0 t v) : ∃ cs, v = .agg cs := by
  unfold Value.okWide at h
  rw [ht] at h
  obtain ⟨cs, h, _⟩ := h
  exact ⟨cs, h⟩
theorem wf_u8 {m : Int} (h : (Lit.int .u8 m).wf = true) : Value.int .u8 m = byteV (UInt8.ofNat m.toNat) := by
  simp [Lit.wf, IntKind.min, IntKind.max, IntKind.signed, IntKind.bits] at h
  unfold byteV
  congr 1
  simp
  omega
theorem arg_bytes {t e : TypeId} {n : Nat} {v : Value} {d : DataW H} {ps : List MemPlace} (ht : P.underlying t = some (.array n e)) (he : P.underlying e = some (.int .u8)) (hc : P.cellsOf e = 1) (hT : P.cellsOf t = n) {r : Reach} {b0 : Nat} (hk : Value.okWide P w r b0 t v)
    (h : DataW.Trod enc P w base (fun _ => true) held t v d ps) : ∃ l : List UInt8, l.length = n ∧ v = aggV (l.map byteV) := by
  obtain ⟨cs, rfl⟩ := okWide_arr' ht hk
  obtain ⟨fuel, hf⟩ := h
  obtain ⟨ns, h1, h2, _, h4⟩ := trod_ints ht he hc hT hf
  refine ⟨ns.map fun m => UInt8.ofNat m.toNat, by simp [h1], ?_⟩
  have h2 : cs.toList = _ := h2
  rw [aggV, List.map_map]
  congr 1
  apply Array.ext'
  rw [h2]
  exact List.map_congr_left fun m hm => wf_u8 (h4 m hm)
theorem arg_i64 {t : TypeId} {v : Value} (ht : P.underlying t = some (.int .i64)) {r : Reach} {b0 : Nat} (hk : Value.okWide P w r b0 t v) : ∃ n : Int, v = .int .i64 n := by
  obtain ⟨n, rfl⟩ := okWide_int ht hk
  exact ⟨n, rfl⟩
end

/-! ### Listed tables -/
theorem mem_row {g n : Nat} (h : 0 < n) : MemPlace.cell g 0 ∈ MemPlace.row ⟨g, 0, none⟩ n := by
  cases n with
  | zero => omega
  | succ n => simp [MemPlace.row, List.range_succ_eq_map]
theorem tab_of_laid {P : Program} {w : World} : ∀ {l : List (String × DataW Unit)} {ps : List MemPlace}, DataW.LaidVars P w l ps → (∀ b off, MemPlace.cell b off ∈ ps → ∃ c t, w.heap[b]? = some (.cells c t (0, 0))) →
    ∀ {nm : String} {d : DataW Unit}, (nm, d) ∈ l → ∀ {g : Nat} {T e : TypeId} {k : IntKind} {n : Nat} {ns : List Int}, P.globalNamed nm = some g → (P.globals[g]?).map (·.type) = some T → P.underlying T = some (.array n e) → P.underlying e = some (.int k) → P.cellsOf e = 1 → P.cellsOf T = n → 0 < n →
      d = .agg (ns.map fun m => .lit (.int k m)) → (tab g (ns.map fun m => .int k m)).Of w undef
  | [], _, _, _, _, _, hm, _, _, _, _, _, _, _, _, _, _, _, _, _, _ => by cases hm
  | (n', d') :: r, ps, hl, hr, nm, d, hm, g, T, e, k, n, ns, hg, hT, ht, he, hc, hcT, hpos, hd => by
    obtain ⟨g', t', cs, fuel, p, q, h1, h2, h3, h4, h5, rfl⟩ := hl
    rcases List.mem_cons.1 hm with hm | hm
    · injection hm with hn hdd
      subst hn; subst hdd
      obtain rfl := Option.some.inj (hg.symm.trans h1)
      obtain rfl := Option.some.inj (hT.symm.trans h2)
      obtain ⟨ns', g1, g2, g3, _⟩ := trod_ints ht he hc hcT h4
      have hns : ns' = ns := by
        simp only [hd, DataW.agg.injEq] at g3
        have hinj : ∀ a b : List Int, (a.map fun m => (DataW.lit (.int k m) : DataW Unit)) = b.map (fun m => .lit (.int k m)) → a = b := by
          intro a
          induction a with
          | nil => intro b h; cases b with
            | nil => rfl
            | cons _ _ => cases h
          | cons x a ih => intro b h; cases b with
            | nil => cases h
            | cons y b =>
              simp only [List.map_cons, List.cons.injEq, DataW.lit.injEq, Lit.int.injEq, true_and] at h
              rw [h.1, ih b h.2]
        exact (hinj _ _ g3).symm
      subst hns
      have hsz : cs.size = n := by
        have := congrArg List.length g2
        simp at this; omega
      obtain ⟨c, t, hh⟩ := hr g 0 (List.mem_append_left _ (List.mem_append_left _ (mem_row (by omega))))
      unfold World.var? at h3
      rw [h1, Option.bind_some, hh] at h3
      simp only [Option.some.injEq] at h3
      subst h3
      have hlt : g < w.heap.size := (Array.getElem?_eq_some_iff.1 hh).1
      refine ⟨hlt, t, ?_⟩
      rw [hh, ← g2]
    · exact tab_of_laid h5 (fun b off h => hr b off (List.mem_append_right _ h)) hm hg hT ht he hc hcT hpos hd
end Go.Proofs.YtfjpipkcfbmdeaaDoor
namespace Go.Proofs.YtfjpipkcfbmdeaaDoor
open Go Go.RowKit
variable {κ : Cx}

/-! ### Facts on memory -/
/-- Block b is the object o; there are at least m blocks. -/
def recD (b : Nat) (o : Obj) (m : Nat) : D := .p (fun B w _ => b < B ∧ m ≤ B ∧ w.heap[b]? = some o) (fun _ _ _ _ g ⟨h1, h2, h3⟩ => ⟨h1, h2, (g.block b h1).trans h3⟩) (fun _ _ _ _ g ⟨h1, h2, h3⟩ => ⟨Nat.lt_of_lt_of_le h1 g, Nat.le_trans h2 g, h3⟩)
theorem Surv.rec {B T g b m : Nat} {o : Obj} (h : o.isCells = false) : Surv B T g (recD b o m) := fun w _ _ k ⟨h1, h2, h3⟩ => by
  refine ⟨Nat.lt_of_lt_of_le h1 k.size, Nat.le_trans h2 k.size, (k.other b h1 fun hb => ?_).trans h3⟩
  subst hb
  obtain ⟨cs, fr, hx⟩ := k.cel _ h3
  subst hx; cases h
/-- A property of memory that stays while memory grows, as a fact. -/
def jD (J : World → Prop) : D := .p (fun B w _ => ∃ v : World, J v ∧ v.heap.size ≤ B ∧ Below v.heap.size v w) (fun _ _ _ _ g ⟨v, h1, h2, h3⟩ => ⟨v, h1, h2, h3.trans (g.mono h2)⟩) (fun _ _ _ _ g ⟨v, h1, h2, h3⟩ => ⟨v, h1, Nat.le_trans h2 g, h3⟩)
theorem jD_get {J : World → Prop} (hst : ∀ a b, J a → Grow a b → J b) {w : World} {x : Value} (h : (jD J).Of w x) : J w := by
  obtain ⟨v, h1, _, h3⟩ := h
  exact hst v w h1 h3
theorem jD_mk {J : World → Prop} {w : World} {x : Value} (h : J w) : (jD J).Of w x := ⟨w, h, Nat.le_refl _, Below.refl _ _⟩
theorem below_two {B : Nat} {w₀ w w' : World} (h : Below B w₀ w) (h' : Below B w₀ w') (hs : w.heap.size ≤ w'.heap.size) : Below B w w' :=
  ⟨h'.os.trans h.os.symm, h'.tape.trans h.tape.symm, h'.output.trans h.output.symm, hs, fun k hk => (h'.block k hk).trans (h.block k hk).symm⟩
/-- The fact survives a turn of block l, which is no cells before and after. -/
def Firm (l : Nat) (d : D) : Prop := ∀ (w : World) (o o' : Obj) (x : Value), w.heap[l]? = some o → o.isCells = false → d.Of w x → d.Of (w.putObj l o') x
theorem Firm.v (l : Nat) (x : Value) : Firm l (.v x) := fun _ _ _ _ _ _ h => h
theorem below_putObj {B l : Nat} (w : World) (o' : Obj) (h : B ≤ l) : Below B w (w.putObj l o') := ⟨rfl, rfl, rfl, by simp, fun _ hk => World.putObj_heap_other (by omega)⟩
theorem Firm.old {l B : Nat} {d : D} (h : B ≤ l) : Firm l (Go.Proofs.YtfjpipkcfbmdeaaDoor.old B d) := fun w _ o' _ _ _ ⟨h1, h2⟩ => ⟨by simpa using h1, D.OfB.keep h2 (below_putObj w o' h)⟩
theorem Firm.blk {l b : Nat} {e : TypeId} {xs : List Value} : Firm l (Go.Proofs.YtfjpipkcfbmdeaaDoor.blk b e xs) := fun w o o' _ hl ho ⟨h1, h2⟩ => ⟨by simpa using h1, (World.putObj_heap_other (fun hb => by
  subst hb; rw [h2] at hl; injection hl with hl; subst hl; cases ho)).trans h2⟩
theorem Firm.tab {l b : Nat} {xs : List Value} : Firm l (Go.Proofs.YtfjpipkcfbmdeaaDoor.tab b xs) := fun w o o' _ hl ho ⟨h1, e, h2⟩ => ⟨by simpa using h1, e, (World.putObj_heap_other (fun hb => by
  subst hb; rw [h2] at hl; injection hl with hl; subst hl; cases ho)).trans h2⟩
/-- Facts on memory that hold in w, which is above w₀. -/
def Holds (w₀ : World) (V : Env) (w : World) : Prop := Below w₀.heap.size w₀ w ∧ w₀.heap.size ≤ w.heap.size ∧ ∀ p ∈ V, p.2.Of w undef
theorem Holds.grow {w₀ w w' : World} {V : Env} (h : Holds w₀ V w) (g : Grow w w') : Holds w₀ V w' := ⟨h.1.trans (g.mono h.2.1), Nat.le_trans h.2.1 g.size, fun p hp => (h.2.2 p hp).grow g⟩
theorem Holds.putObj {w₀ w : World} {V : Env} {l : Nat} {o : Obj} (o' : Obj) (h : Holds w₀ V w) (hl : w.heap[l]? = some o) (ho : o.isCells = false) (hB : w₀.heap.size ≤ l) (hf : ∀ p ∈ V, Firm l p.2) : Holds w₀ V (w.putObj l o') :=
  ⟨h.1.trans (below_putObj w o' hB), by simpa using h.2.1, fun p hp => hf p hp w o o' _ hl ho (h.2.2 p hp)⟩

theorem vle {k : Nat} {d : D} (h : Nat.ble 1000000 k = true) : vbase ≤ (k, d).1 := Nat.le_of_ble_eq_true h
theorem vlt {k : Nat} {d : D} (h : Nat.blt k 1000000 = true) : (k, d).1 < vbase := Nat.le_of_ble_eq_true h

/-! ### The call of yield -/
section
variable {P : Program} {n : Nat} {w₀ : World} {ops : Array Oper} {E : Env} {ty : TypeId} {pos : String} {after : Array Edge}
/-- What yield does at each round: it goes on, and the property of memory moves on by one. -/
def Yields (P : Program) (N : Nat) (l : Nat) (arg : Nat → D) (J : Nat → World → Prop) : Prop :=
  ∀ (i : Nat) (W : World) (u : Value), i < N → J i W → (arg i).Of W u → YieldAt (FR none) 0 P l #[u] W fun e W' => e = .returned (.bool true) ∧ J (i + 1) W' ∧ W.heap.size ≤ W'.heap.size
structure Seqs (P : Program) (w₀ : World) (N : Nat) (l : Nat) (arg : Nat → D) (V : Nat → Env) (J : Nat → World → Prop) : Prop where
  grow : ∀ i a b, J i a → Grow a b → J i b
  holds : ∀ i W, J i W → Holds w₀ (V i) W
  yields : Yields P N l arg J
theorem Seqs.sub {N l : Nat} {arg : Nat → D} {V V' : Nat → Env} {J : Nat → World → Prop} (h : Seqs P w₀ N l arg V J) (hs : ∀ i, ∀ p ∈ V' i, p ∈ V i) : Seqs P w₀ N l arg V' J :=
  ⟨h.grow, fun i W hJ => ⟨(h.holds i W hJ).1, (h.holds i W hJ).2.1, fun p hp => (h.holds i W hJ).2.2 p (hs i p hp)⟩, h.yields⟩
theorem eff_yield {N l : Nat} {arg : Nat → D} {V : Nat → Env} {J : Nat → World → Prop} {d vJ : Nat} {fv x : Operand} {ex : D} {tys : Array TypeId} {E' : Env} (hq : Seqs P w₀ N l arg V J) (i : Nat) (hi : i < N)
    (hJ : E.look vJ = some (jD (J i))) (hf : E.at fv = some (.v (.func (.yield l) #[] #[]))) (hx : E.at x = some ex) (hle : Le ex (arg i)) (hd : d < n) (hV : ∀ p ∈ V (i + 1), vbase ≤ p.1) (hn : n ≤ vbase)
    (hl : Left w₀.heap.size E' E) :
    Eff P n w₀.heap.size ops ⟨some d, .call { callee := .value fv, args := #[x], argTypes := tys }, ty, pos, after, none⟩ E ((d, .v (.bool true)) :: (vJ, jD (J (i + 1))) :: (V (i + 1) ++ E')) := by
  intro κ a w K Q h hK
  have h1 : a.eval fv = _ := h.at_ fv _ hf
  have h2 := hle.of (h.at_ x _ hx)
  have hJw : J i w := jD_get (hq.grow i) (h.of vJ _ hJ)
  obtain ⟨fn, tmps, assign, body, hy, hr⟩ := hq.yields i w _ hi hJw h2
  rw [if_pos (by simp [Region.wanted])]
  refine ⟨fun _ _ => trivial, ?_⟩
  rw [Oper.semAt_eq _ _ _ (by nofun)]
  have hrun : (execOp a.eval ⟨some d, .call { callee := .value fv, args := #[x], argTypes := tys }, ty, pos, after, none⟩).run P w = .ok (.round l fn tmps assign body) w := by
    simp [execOp, resolve, Deferred.ofValue, h1, invoke, hy]
  rw [hrun, Oper.uponIn_round]
  refine ⟨fun e => absurd e (by simp [FR, Fence.wide]), RoundIn.mono (F := FR κ.rd) (n := 0) hr ?_⟩
  rintro e W' ⟨rfl, hJ', hs⟩
  obtain ⟨hb, hsz, hv⟩ := hq.holds _ _ hJ'
  have hb0 := (hq.holds _ _ hJw).1
  have hbel := below_two hb0 hb hs
  refine hK _ _ hbel (St.put ⟨hsz, h.defers, h.size, fun t e he => ?_⟩ hd rfl)
  have hund : ∀ t, vbase ≤ t → a.tmps.getD t undef = undef := fun t ht => by
    rw [Array.getD_eq_getD_getElem?, Array.getElem?_eq_none (by rw [h.size]; omega)]; rfl
  by_cases hts : vJ = t
  · subst hts
    rw [look_here] at he; injection he with he; subst he
    exact jD_mk hJ'
  · rw [look_past _ _ hts] at he
    rcases List.mem_append.1 (look_mem he) with hm | hm
    · have := hv _ hm
      rwa [hund t (hV _ hm)]
    · obtain ⟨h7, h8⟩ := hl _ hm
      exact h8 _ _ _ hbel h.base (h.of t e h7)
/-- A call that is walked at the caller's base. -/
theorem Calls.within {f : FuncId} {fn : Func} {c : Code} {vs : List Value} {w : World} {R : Ending → World → Prop} (hf : P.funcs[f]? = some fn) (hb : fn.body = some c) (hn : fn.ntmps = n) (hl : vs.length ≤ n) (hnv : n ≤ vbase) (hw : Below w₀.heap.size w₀ w) (hs : w₀.heap.size ≤ w.heap.size)
    (hE : ∀ p ∈ E, (vbase ≤ p.1 ∧ p.2.Of w undef) ∨ ∃ v, vs[p.1]? = some v ∧ p.2.Of w v) (h : A Cx.top P w₀ n c E (BP P fn R)) : Calls P f vs.toArray w R := by
  refine callsIn_FR.1 (callsIn_of_wp_marks (F := FR none) (n := 0) hf hb trivial (h _ w hw ⟨hs, rfl, ?_, fun t e he => ?_⟩))
  · simp [hn]; omega
  · show e.Of w ((vs.toArray ++ Array.replicate (fn.ntmps - vs.toArray.size) undef).getD t undef)
    rcases hE _ (look_mem he) with ⟨ht, hx⟩ | ⟨v, hv, hx⟩
    · rwa [Array.getD_eq_getD_getElem?, Array.getElem?_eq_none (by simp [hn]; simp only at ht; omega)]
    · have hlt : t < vs.length := (List.getElem?_eq_some_iff.1 hv).1
      rw [Array.getD_eq_getD_getElem?, Array.getElem?_append_left (by simpa using hlt)]
      simp only at hv
      simp [hv]; exact hx
/-- The end of a function that is ranged over. -/
theorem End.seq {fn : Func} {N l : Nat} {arg : Nat → D} {V : Nat → Env} {J : Nat → World → Prop} {vJ : Nat} (hq : Seqs P w₀ N l arg V J) (hr : fn.results = #[]) (hJ : E.look vJ = some (jD (J N))) :
    End Cx.top w₀ n E (BP P fn (fun e W => (∃ v, e = .returned v) ∧ J N W) .normal) := fun a w _ hs => by
  show LeavesInM (FR none) 0 P fn a.tmps _ a.defers .returning w
  rw [show a.defers = [] from hs.defers]
  exact ⟨_, by simp [results, hr]; rfl, ⟨_, rfl⟩, jD_get (hq.grow N) (hs.of vJ _ hJ)⟩

/-! ### The statement -/
/-- What the body of a round comes to: it goes on, and these facts hold. -/
def RoundQ (w₀ : World) (V : Env) : Exit → Act → World → Prop
  | .normal, _, w => Holds w₀ V w
  | _, _, _ => False
theorem End.round {V : Env} (hs : Sub V E) (hV : ∀ p ∈ V, vbase ≤ p.1) (hn : n ≤ vbase) : End κ w₀ n E (RoundQ w₀ V .normal) := fun a w g hst => ⟨g, hst.base, fun p hp => by
  have h1 := hst.of p.1 p.2 (hs p hp)
  have := hV p hp
  rwa [Array.getD_eq_getD_getElem?, Array.getElem?_eq_none (by rw [hst.size]; omega)] at h1⟩
/-- The loop's variable is set. -/
theorem assign_one {l id tp t : Nat} {ty pos after} {E : Env} {d : D} {a : Act} {w : World} (ht : t < n) (htp : tp < n) (hn : n ≤ vbase) (h : St ⟨some l, []⟩ n w₀.heap.size ((tp, d) :: E) a w) :
    (Code.region id #[⟨some t, .assign (.tmp tp), ty, pos, after, none⟩] false).wpIn (FR (some l)) 0 P (fun e a' w' => e = .normal ∧ Grow w w' ∧ St ⟨some l, []⟩ n w₀.heap.size ((t, d) :: (tp, d) :: E) a' w') a w := by
  have hr : Run P w₀.heap.size #[⟨some t, .assign (.tmp tp), ty, pos, after, none⟩] [⟨some t, .assign (.tmp tp), ty, pos, after, none⟩] ((tp, d) :: E) ((t, d) :: (tp, d) :: E) := .step rfl rfl (ok_assign (look_here _ _ _)) .nil
  have := wp_text (Q := fun e a' w' => e = .normal ∧ Grow w w' ∧ St ⟨some l, []⟩ n w₀.heap.size ((t, d) :: (tp, d) :: E) a' w') (rest := []) hn hr h (fun o ho => by
    simp only [List.mem_cons, List.not_mem_nil, or_false] at ho
    subst ho
    refine ⟨fun s hs => ?_, fun s hs => by simp only [Option.some.injEq] at hs; exact hs ▸ ht⟩
    simp [Oper.looksAt, Op.operands] at hs
    exact hs ▸ htp) fun a' w' g h' => wpListIn_nil ⟨rfl, g, h'⟩
  exact wpIn_region_list (by simpa using this)

theorem A.range {Q : Exit → Act → World → Prop} {g : Operand} {tp gf N vL vD : Nat} {assign body : Code} {lb : List Value} {S : Env} {V Eb : Nat → Env} {arg : Nat → D} (hg : E.at g = some (.v (.func (.func gf) #[] lb.toArray)))
    (hgf : ∃ fn, P.funcs[gf]? = some fn ∧ (fn.name == "runtime.NumGoroutine") = false ∧ fn.body.isNone = false) (htp : tp < n) (hn : n ≤ vbase) (h0 : Sub (V 0 ++ S) E)
    (hS : ∀ p ∈ S, p.1 < vbase ∧ ((∃ x, p.2 = .v x) ∨ ∃ d, p.2 = old w₀.heap.size d)) (hV : ∀ i, ∀ p ∈ V i, vbase ≤ p.1)
    (hfV : ∀ i l, w₀.heap.size ≤ l → ∀ p ∈ V i, Firm l p.2) (hfE : ∀ i l, w₀.heap.size ≤ l → ∀ p ∈ Eb i, Firm l p.2)
    (hseq : ∀ (J : Nat → World → Prop) (l : Nat) (w : World), Seqs P w₀ N l arg V J → J 0 w → Calls P gf (.func (.yield l) #[] #[] :: lb).toArray w fun e W => (∃ v, e = .returned v) ∧ J N W)
    (hassign : ∀ i l a w, i < N → St ⟨some l, []⟩ n w₀.heap.size ((tp, arg i) :: (V i ++ S)) a w → assign.wpIn (FR (some l)) 0 P (fun e a' w' => e = .normal ∧ Grow w w' ∧ St ⟨some l, []⟩ n w₀.heap.size (Eb i) a' w') a w)
    (hbody : ∀ i l D r m, i < N → A ⟨some l, []⟩ P w₀ n body ((vL, recD l (.loop r) m) :: (vD, recD D (.deferred (some [])) 0) :: Eb i) (RoundQ w₀ ((vL, recD l (.loop r) m) :: (vD, recD D (.deferred (some [])) 0) :: V (i + 1))))
    (hend : ∀ D, w₀.heap.size ≤ D → End ⟨none, [{ target := .collected D, args := #[] }]⟩ w₀ n ((vD, recD D (.deferred (some [])) 0) :: (V N ++ S)) (Q .normal)) :
    A ⟨none, []⟩ P w₀ n (.rangeFunc g #[tp] assign body) E Q := fun a w hb hst => by
  show (Code.rangeFunc g #[tp] assign body).wpIn (FR none) 0 P Q a w
  refine wpIn_rangeFunc fun fn _ => ?_
  obtain ⟨rec, hrec⟩ : ∃ rec : LoopState → Option Code → Loop, rec = fun st pe => { state := st, pending := pe, fn, tmps := a.tmps, params := #[tp], assign, body, defers := w.heap.size } := ⟨_, rfl⟩
  obtain ⟨W1, hW1⟩ : ∃ W1, (w.alloc (.deferred (some []))).alloc (.loop (rec .ready none)) = W1 := ⟨_, rfl⟩
  have hg' : a.eval g = .func (.func gf) #[] lb.toArray := hst.at_ g _ hg
  obtain ⟨gfn, hf1, hf2, hf3⟩ := hgf
  have eg : ∀ args w, (callFunc gf args).run P w = .ok (.enter gf args) w := fun args w => by
    have h2' : ¬ gfn.name = "runtime.NumGoroutine" := by simpa using hf2
    have h3' : ¬ gfn.body = none := by intro h; rw [h] at hf3; cases hf3
    simp [callFunc, hf1, h2', h3']
  have hgr : Grow w W1 := by
    rw [← hW1]; exact (Grow.alloc w _).trans (Grow.alloc _ _)
  have hL1 : W1.heap[w.heap.size + 1]? = some (.loop (rec .ready none)) := by
    rw [← hW1]; have := World.alloc_heap_new (w.alloc (.deferred (some []))) (.loop (rec .ready none)); rwa [World.size_alloc] at this
  have hK1 : W1.heap[w.heap.size]? = some (.deferred (some [])) := by
    rw [← hW1]; exact (Below.heap_alloc _ _ _ (by simp)).trans (World.alloc_heap_new w _)
  have hund : ∀ t, vbase ≤ t → a.tmps.getD t undef = undef := fun t ht => by
    rw [Array.getD_eq_getD_getElem?, Array.getElem?_eq_none (by rw [hst.size]; omega)]; rfl
  have hH0 : Holds w₀ (V 0) w := ⟨hb, hst.base, fun p hp => by
    have h1 := hst.of p.1 p.2 (h0 p (List.mem_append_left _ hp))
    rwa [hund _ (hV 0 p hp)] at h1⟩
  -- what holds between two rounds
  have hstS : ∀ (κ' : Cx) (i : Nat) (W : World) (a' : Act) (E' : Env), κ'.df = a'.defers → a'.tmps.size = n → Holds w₀ (V i) W → w.heap.size ≤ W.heap.size → (∀ t e, E'.look t = some e → e.Of W (a'.tmps.getD t undef) ∨ ((t, e) ∈ V i ++ S ∧ (t < vbase → a'.tmps.getD t undef = a.tmps.getD t undef))) → St κ' n w₀.heap.size E' a' W := by
    intro κ' i W a' E' hd hsz hH hs hE
    refine ⟨hH.2.1, hd.symm, hsz, fun t e he => ?_⟩
    rcases hE t e he with h | ⟨hm, hsame⟩
    · exact h
    · rcases List.mem_append.1 hm with hm | hm
      · have h1 := hH.2.2 _ hm
        have ht := hV i _ hm
        simp only at ht
        rwa [Array.getD_eq_getD_getElem?, Array.getElem?_eq_none (by rw [hsz]; omega)]
      · obtain ⟨ht, hk⟩ := hS _ hm
        rw [hsame ht]
        have h1 := hst.of t e (h0 _ (List.mem_append_right _ hm))
        rcases hk with ⟨x, hx⟩ | ⟨d, hd'⟩
        · simp only at hx; subst hx; exact h1
        · simp only at hd'; subst hd'
          exact ⟨hH.2.1, D.OfB.keep h1.2 (below_two hb hH.1 hs)⟩
  refine ⟨w.heap.size + 1, [{ target := .collected w.heap.size, args := #[] }], W1, { target := .fn (.func gf) lb.toArray, args := #[.func (.yield (w.heap.size + 1)) #[] #[]] }, W1, gf,
    #[.func (.yield (w.heap.size + 1)) #[] #[]] ++ lb.toArray, W1, ?_, ?_, fun _ _ => trivial, ?_, fun e => absurd e (by simp [FR, Fence.wide]), ?_⟩
  · rw [← hW1, hrec]; exact run_enterLoop_outer _ _ _ _ _
  · have hy : a.eval (.const (.func (.yield (w.heap.size + 1)) #[] #[])) = .func (.yield (w.heap.size + 1)) #[] #[] := rfl
    simp only [resolve, hg']
    simp [Deferred.ofValue, hy]
  · simp [invoke, eg]
  · have harr : (#[.func (.yield (w.heap.size + 1)) #[] #[]] ++ lb.toArray : Array Value) = (.func (.yield (w.heap.size + 1)) #[] #[] :: lb).toArray := by simp
    rw [harr]
    refine callsIn_FR.2 ((hseq (fun i W => Holds w₀ (V i) W ∧ W.heap[w.heap.size + 1]? = some (.loop (rec .ready none)) ∧ W.heap[w.heap.size]? = some (.deferred (some []))) (w.heap.size + 1) W1 ⟨?_, fun i W h => h.1, ?_⟩ ⟨hH0.grow hgr, hL1, hK1⟩).mono ?_)
    · rintro i x y ⟨h1, h2, h3⟩ k
      exact ⟨h1.grow k, (k.block _ (Array.getElem?_eq_some_iff.1 h2).1).trans h2, (k.block _ (Array.getElem?_eq_some_iff.1 h3).1).trans h3⟩
    · -- one round
      rintro i W u hi ⟨hH, hl, hk⟩ hu
      have hlt : w.heap.size + 1 < W.heap.size := (Array.getElem?_eq_some_iff.1 hl).1
      have hBl : w₀.heap.size ≤ w.heap.size + 1 := by have := hst.base; omega
      have hy := run_yield (P := P) (args := #[u]) hl (by rw [hrec]; rfl)
      rw [hrec] at hy
      refine ⟨fn, _, assign, body, hy, roundIn_of_wpIn (F := FR none) trivial ?_⟩
      have htm : (List.foldl (fun (tmps : Array Value) (x : Tmp × Value) => tmps.setIfInBounds x.1 x.2) a.tmps ((#[tp].zip #[u]).toList)) = a.tmps.setIfInBounds tp u := by simp
      have hsta : St ⟨some (w.heap.size + 1), []⟩ n w₀.heap.size ((tp, arg i) :: (V i ++ S)) { tmps := a.tmps.setIfInBounds tp u, defers := [] } W := by
        refine hstS _ i W _ _ rfl (by simp [hst.size]) hH (by omega) fun t e he => ?_
        by_cases hts : tp = t
        · subst hts
          rw [look_here] at he; injection he with he; subst he
          left
          have : tp < a.tmps.size := by rw [hst.size]; exact htp
          simpa [this] using hu
        · rw [look_past _ _ hts] at he
          exact .inr ⟨look_mem he, fun _ => by simp [Array.getElem?_setIfInBounds_ne hts]⟩
      have has := hassign i (w.heap.size + 1) _ W hi hsta
      have hrun0 : ({ tmps := Array.foldl (fun (tmps : Array Value) (x : Tmp × Value) => tmps.setIfInBounds x.1 x.2) a.tmps (#[tp].zip #[u]), defers := [] } : Act) = { tmps := a.tmps.setIfInBounds tp u, defers := [] } := by simp
      show assign.wpIn (FR (some (w.heap.size + 1))) 0 P _ _ W
      refine wpIn_mono (F := FR (some (w.heap.size + 1))) (n := 0) (by first | exact has | (rw [← hrun0] at has; exact has)) ?_
      rintro e a1 W2 ⟨rfl, hg2, hst2⟩
      have hl2 : W2.heap[w.heap.size + 1]? = some (.loop (rec .ready none)) := (hg2.block _ hlt).trans hl
      have hk2 : W2.heap[w.heap.size]? = some (.deferred (some [])) := (hg2.block _ (by omega)).trans hk
      have hH2 := hH.grow hg2
      have hlt2 : w.heap.size + 1 < W2.heap.size := (Array.getElem?_eq_some_iff.1 hl2).1
      refine ⟨_, run_beginRound hl2 (by rw [hrec]), ?_⟩
      have hl3 : (W2.putObj (w.heap.size + 1) (.loop { rec .ready none with state := .busy })).heap[w.heap.size + 1]? = some (.loop { rec .ready none with state := .busy }) := World.putObj_heap_same hlt2
      have hk3 : (W2.putObj (w.heap.size + 1) (.loop { rec .ready none with state := .busy })).heap[w.heap.size]? = some (.deferred (some [])) := (World.putObj_heap_other (by omega)).trans hk2
      have hH3 := hH2.putObj (.loop { rec .ready none with state := .busy }) hl2 rfl hBl (hfV i _ hBl)
      have hst3 : St ⟨some (w.heap.size + 1), []⟩ n w₀.heap.size ((vL, recD (w.heap.size + 1) (.loop { rec .ready none with state := .busy }) W.heap.size) :: (vD, recD w.heap.size (.deferred (some [])) 0) :: Eb i) a1 (W2.putObj (w.heap.size + 1) (.loop { rec .ready none with state := .busy })) := by
        refine ⟨hH3.2.1, hst2.defers, hst2.size, fun t e he => ?_⟩
        by_cases hts : vL = t
        · subst hts
          rw [look_here] at he; injection he with he; subst he
          exact ⟨by simpa using hlt2, by simpa using hg2.size, hl3⟩
        · rw [look_past _ _ hts] at he
          by_cases hts' : vD = t
          · subst hts'
            rw [look_here] at he; injection he with he; subst he
            exact ⟨by simp; omega, Nat.zero_le _, hk3⟩
          · rw [look_past _ _ hts'] at he
            exact hfE i _ hBl _ (look_mem he) W2 _ _ _ hl2 rfl (hst2.of t e he)
      refine wpIn_mono (F := FR (some (w.heap.size + 1))) (n := 0) (hbody i _ _ _ _ hi a1 _ hH3.1 hst3) ?_
      rintro e a3 W3 hp
      cases e with
      | normal =>
        obtain ⟨hb3, hs3, hv3⟩ := hp
        obtain ⟨hlt3, hm3, hl4⟩ := hv3 _ List.mem_cons_self
        obtain ⟨_, _, hk4⟩ := hv3 _ (List.mem_cons_of_mem _ List.mem_cons_self)
        have hH4 : Holds w₀ (V (i + 1)) W3 := ⟨hb3, hs3, fun p hp => hv3 p (List.mem_cons_of_mem _ (List.mem_cons_of_mem _ hp))⟩
        have hend := run_endRound (P := P) none hl4
        refine ⟨_, _, hend, rfl, ⟨hH4.putObj _ hl4 rfl hBl (hfV _ _ hBl), ?_, (World.putObj_heap_other (by omega)).trans hk4⟩, by simpa using hm3⟩
        have := World.putObj_heap_same (o := .loop { { rec .ready none with state := .busy } with state := .ready, pending := none }) hlt3
        rw [hrec] at this ⊢
        exact this
      | _ => exact hp.elim
    · -- behind it
      rintro e W2 ⟨⟨v, rfl⟩, hH, hl, hk⟩
      have hBl : w₀.heap.size ≤ w.heap.size + 1 := by have := hst.base; omega
      have hlt2 : w.heap.size + 1 < W2.heap.size := (Array.getElem?_eq_some_iff.1 hl).1
      have hel := run_endLoop (P := P) hl (by rw [hrec]; simp)
      refine ⟨none, _, by rw [hrec] at hel; exact hel, ?_⟩
      have hH3 := hH.putObj (.loop { state := .exhausted, pending := none, fn, tmps := a.tmps, params := #[tp], assign, body, defers := w.heap.size }) hl rfl hBl (hfV N _ hBl)
      refine hend w.heap.size hst.base _ _ hH3.1 (hstS _ N _ _ _ (by simp [hst.defers]) hst.size hH3 (by simp; omega) fun t e he => ?_)
      by_cases hts : vD = t
      · subst hts
        rw [look_here] at he; injection he with he; subst he
        exact .inl ⟨by simp; omega, Nat.zero_le _, (World.putObj_heap_other (by omega)).trans hk⟩
      · rw [look_past _ _ hts] at he
        exact .inr ⟨look_mem he, fun _ => rfl⟩

/-- A function value with captured pointers. -/
theorem ok_makeFunc2 {B : Nat} {dst : Option Tmp} {guard : Option (Nat × Bool)} {f : FuncId} {x y : Operand} {u v : Value} (hx : E.at x = some (.v u)) (hy : E.at y = some (.v v)) :
    OpOk P B ⟨dst, .makeFunc (.func f) #[] #[x, y], ty, pos, after, guard⟩ E (.v (.func (.func f) #[] #[u, v])) := fun ρ w _ _ hρ => by
  have h1 : ρ x = _ := hρ x (by simp [Op.operands]) _ hx
  have h2 : ρ y = _ := hρ y (by simp [Op.operands]) _ hy
  exact out_val (w' := w) (by simp [execOp, h1, h2, Instr.makeFunc]) ⟨Grow.refl w, rfl⟩
/-- A function value that holds two variables of its own, new ones. -/
def closD (base f : Nat) (e₁ e₂ : TypeId) (u₁ u₂ : Value) : D :=
  .p (fun B w x => ∃ p q, base ≤ p ∧ p < q ∧ q < B ∧ x = .func (.func f) #[] #[.pointer (some ⟨p, 0, none⟩), .pointer (some ⟨q, 0, none⟩)] ∧ w.heap[p]? = some (.cells #[u₁] e₁ (0, 0)) ∧ w.heap[q]? = some (.cells #[u₂] e₂ (0, 0)))
    (fun _ _ _ _ g ⟨p, q, h1, h2, h3, h4, h5, h6⟩ => ⟨p, q, h1, h2, h3, h4, (g.block p (by omega)).trans h5, (g.block q h3).trans h6⟩) (fun _ _ _ _ g ⟨p, q, h1, h2, h3, h4, h5, h6⟩ => ⟨p, q, h1, h2, by omega, h4, h5, h6⟩)
theorem closD_mono {f : Nat} {e₁ e₂ : TypeId} {u₁ u₂ : Value} (B B' : Nat) (h : B ≤ B') : Le (closD B' f e₁ e₂ u₁ u₂) (closD B f e₁ e₂ u₁ u₂) := fun _ _ _ ⟨p, q, h1, h2⟩ => ⟨p, q, by omega, h2⟩
theorem End.clos {fn : Func} {r k₁ k₂ p q f : Nat} {e₁ e₂ : TypeId} {u₁ u₂ : Value} (hr : fn.results = #[.tmp r]) (hp : w₀.heap.size ≤ p) (hpq : p < q) (ht : E.look r = some (.v (.func (.func f) #[] #[.pointer (some ⟨p, 0, none⟩), .pointer (some ⟨q, 0, none⟩)])))
    (h1 : E.look k₁ = some (blk p e₁ [u₁])) (h2 : E.look k₂ = some (blk q e₂ [u₂])) : End Cx.top w₀ n E (BP P fn (PostOf w₀ (closD w₀.heap.size f e₁ e₂ u₁ u₂)) .ret) := fun a w g hs => by
  obtain ⟨_, h4⟩ := hs.of k₁ _ h1
  obtain ⟨h5, h6⟩ := hs.of k₂ _ h2
  exact BP.ret hs.defers ⟨a.tmps.getD r undef, by simp [results, hr], _, rfl, g, p, q, hp, hpq, h5, hs.of r _ ht, h4, h6⟩
theorem A.openClos {c : Code} {Q : Exit → Act → World → Prop} {t k₁ k₂ f : Nat} {e₁ e₂ : TypeId} {u₁ u₂ : Value} {B : Nat} (ht : E.look t = some (closD B f e₁ e₂ u₁ u₂))
    (h : ∀ p q, B ≤ p → p < q → A κ P w₀ n c ((t, .v (.func (.func f) #[] #[.pointer (some ⟨p, 0, none⟩), .pointer (some ⟨q, 0, none⟩)])) :: (k₁, blk p e₁ [u₁]) :: (k₂, blk q e₂ [u₂]) :: E) Q) : A κ P w₀ n c E Q := fun a w g hs => by
  obtain ⟨p, q, h1, h2, h3, h4, h5, h6⟩ := hs.of t _ ht
  refine h p q h1 h2 a w g ⟨hs.base, hs.defers, hs.size, fun s d hd => ?_⟩
  by_cases hts : t = s
  · subst hts
    rw [look_here] at hd; injection hd with hd; subst hd; exact h4
  · rw [look_past _ _ hts] at hd
    by_cases hks : k₁ = s
    · subst hks
      rw [look_here] at hd; injection hd with hd; subst hd
      exact ⟨Nat.lt_trans h2 h3, h5⟩
    · rw [look_past _ _ hks] at hd
      by_cases hks' : k₂ = s
      · subst hks'
        rw [look_here] at hd; injection hd with hd; subst hd
        exact ⟨h3, h6⟩
      · rw [look_past _ _ hks'] at hd
        exact hs.of s d hd
/-- return of a variable's value, from a function in which a range over a function ended. -/
theorem End.cell1C {fn : Func} {D vD r s b : Nat} {T e : TypeId} {td : TypeDesc} {xs : List Value} {d : Go.Proofs.YtfjpipkcfbmdeaaDoor.D} {m : Nat} (hD : E.look vD = some (recD D (.deferred (some [])) m)) (hDB : w₀.heap.size ≤ D) (hr : fn.results = #[.cell r T]) (ht : P.underlying T = some td) (hp : (match td with | .struct _ | .array _ _ => true | _ => false) = true) (hsz : SizeIs P T xs.length)
    (h1 : E.look r = some (.v (.pointer (some ⟨b, 0, none⟩)))) (h2 : E.look s = some (blk b e xs)) (hl : ∀ w, d.Of w (aggV xs)) : End ⟨none, [{ target := .collected D, args := #[] }]⟩ w₀ n E (BP P fn (PostOf w₀ d) .ret) := fun a w g hs => by
  have h3 : a.tmps[r]?.getD undef = .pointer (some ⟨b, 0, none⟩) := by rw [← Array.getD_eq_getD_getElem?]; exact hs.of r _ h1
  obtain ⟨hlt, _, hk⟩ := hs.of vD _ hD
  obtain ⟨_, hh⟩ := hs.of s _ h2
  have hne : b ≠ D := fun h => by subst h; rw [hh] at hk; cases hk
  have hh' : (w.putObj D (.deferred none)).heap[b]? = some (.cells xs.toArray e (0, 0)) := (World.putObj_heap_other hne).trans hh
  have := run_loadVar_row (P := P) (w.putObj D (.deferred none)) b e T xs.toArray (0, 0) td hh' ht hp (by simpa [SizeIs] using hsz)
  show LeavesInM (FR none) 0 P fn a.tmps _ a.defers .returning w
  rw [show a.defers = [{ target := .collected D, args := #[] }] from hs.defers]
  refine ⟨by simp, .inl ⟨D, _, rfl, run_takeDeferred hk, ?_⟩⟩
  refine ⟨aggV xs, by simp [results, hr, h3, asAddr, this, aggV], _, rfl, ?_, hl _⟩
  exact Below.trans g (below_putObj w _ hDB)
end
end Go.Proofs.YtfjpipkcfbmdeaaDoor
namespace Go.Proofs.YtfjpipkcfbmdeaaDoor
open Go Go.RowKit
section
variable {P : Program} {B : Nat} {E : Env} {dst : Option Tmp} {ty : TypeId} {pos : String} {after : Array Edge} {guard : Option (Nat × Bool)}
/-! ### Two arrays of numbers of which nothing is known -/
theorem bytes_inj {a b : List UInt8} (h : a.map byteV = b.map byteV) : a = b := (List.map_inj_right fun x y hxy => by
  simp only [byteV, Value.int.injEq, true_and] at hxy
  exact UInt8.toNat_inj.1 (by omega)).1 h
end
end Go.Proofs.YtfjpipkcfbmdeaaDoor
namespace Go.Proofs.YtfjpipkcfbmdeaaDoor
open Go Go.RowKit Go.ChangeShapes Go.WideShapes

def flatFs (F : TypeId → Option (List IntKind)) : List Field → Nat → Option (List IntKind)
  | [], _ => some []
  | f :: r, o => match F f.type with
    | none => none
    | some ks => if f.offset = o ∧ f.name ≠ "_" then (flatFs F r (o + ks.length)).map (ks ++ ·) else none
/-- The kinds of a type's cells, where it is made of integers, arrays and structs alone. -/
def flat (P : Program) : Nat → TypeId → Option (List IntKind)
  | 0, _ => none
  | n + 1, t => if P.cellsOf t = 0 then none else match P.underlying t with
    | some (.int k) => if P.cellsOf t = 1 then some [k] else none
    | some (.array len e) => match flat P n e with
      | none => none
      | some ks => if P.cellsOf t = len * ks.length then some (List.replicate len ks).flatten else none
    | some (.struct fs) => match flatFs (flat P n) fs.toList 0 with
      | none => none
      | some ks => if P.cellsOf t = ks.length ∧ P.stoodInHeld t = false then some ks else none
    | _ => none
def isAggT (P : Program) (t : TypeId) : Bool := match P.underlying t with | some (.struct _) => true | some (.array _ _) => true | _ => false
def packT (P : Program) (t : TypeId) (xs : List Value) : Value := if isAggT P t then .agg xs.toArray else xs.headD undef
/-- Cells of these kinds, of whose numbers Q holds. -/
def Kin (Q : IntKind → Int → Prop) (ks : List IntKind) (xs : List Value) : Prop := xs.length = ks.length ∧ ∀ (i : Nat) (k : IntKind), ks[i]? = some k → ∃ n, xs[i]? = some (.int k n) ∧ Q k n
section
variable {Q : IntKind → Int → Prop}
theorem Kin.nil {xs : List Value} (h : Kin Q [] xs) : xs = [] := List.eq_nil_of_length_eq_zero h.1
theorem Kin.one {k : IntKind} {xs : List Value} (h : Kin Q [k] xs) : ∃ n, xs = [.int k n] ∧ Q k n := by
  obtain ⟨n, h1, h2⟩ := h.2 0 k rfl
  refine ⟨n, ?_, h2⟩
  have hl : xs.length = 1 := h.1
  match xs, hl, h1 with
  | [x], _, h1 => simp at h1; rw [h1]
theorem Kin.split {a b : List IntKind} {xs : List Value} (h : Kin Q (a ++ b) xs) : Kin Q a (xs.take a.length) ∧ Kin Q b (xs.drop a.length) := by
  have hl : xs.length = a.length + b.length := by simpa using h.1
  refine ⟨⟨by simp; omega, fun i k hk => ?_⟩, ⟨by simp; omega, fun i k hk => ?_⟩⟩
  · have hi : i < a.length := (List.getElem?_eq_some_iff.1 hk).1
    obtain ⟨n, h1, h2⟩ := h.2 i k (by rw [List.getElem?_append_left hi]; exact hk)
    exact ⟨n, by rw [List.getElem?_take, if_pos hi]; exact h1, h2⟩
  · obtain ⟨n, h1, h2⟩ := h.2 (a.length + i) k (by rw [List.getElem?_append_right (by omega), Nat.add_sub_cancel_left]; exact hk)
    exact ⟨n, by rw [List.getElem?_drop]; exact h1, h2⟩
theorem Kin.join {a b : List IntKind} {xs ys : List Value} (h : Kin Q a xs) (h' : Kin Q b ys) : Kin Q (a ++ b) (xs ++ ys) := by
  refine ⟨by simp [h.1, h'.1], fun i k hk => ?_⟩
  rcases Nat.lt_or_ge i a.length with hi | hi
  · rw [List.getElem?_append_left hi] at hk
    rw [List.getElem?_append_left (by rw [h.1]; exact hi)]
    exact h.2 i k hk
  · rw [List.getElem?_append_right hi] at hk
    rw [List.getElem?_append_right (by rw [h.1]; exact hi), h.1]
    exact h'.2 _ k hk
theorem Kin.append {a b : List IntKind} {xs : List Value} (h : Kin Q (a ++ b) xs) : ∃ x y, xs = x ++ y ∧ Kin Q a x ∧ Kin Q b y :=
  ⟨_, _, (List.take_append_drop a.length xs).symm, h.split.1, h.split.2⟩
theorem Kin.cons {k : IntKind} {b : List IntKind} {xs : List Value} (h : Kin Q (k :: b) xs) : ∃ n y, xs = .int k n :: y ∧ Q k n ∧ Kin Q b y := by
  obtain ⟨x, y, rfl, h1, h2⟩ := Kin.append (a := [k]) h
  obtain ⟨n, rfl, h3⟩ := h1.one
  exact ⟨n, y, rfl, h3, h2⟩
theorem Kin.mono {R : IntKind → Int → Prop} {ks : List IntKind} {xs : List Value} (h : Kin Q ks xs) (hq : ∀ k n, Q k n → R k n) : Kin R ks xs :=
  ⟨h.1, fun i k hk => by obtain ⟨n, h1, h2⟩ := h.2 i k hk; exact ⟨n, h1, hq _ _ h2⟩⟩
theorem Kin.rep {ks : List IntKind} : ∀ {n : Nat} {xs : List Value}, Kin Q (List.replicate n ks).flatten xs → ∀ i, i < n → Kin Q ks ((xs.drop (i * ks.length)).take ks.length)
  | 0, _, _, i, hi => by omega
  | n + 1, xs, h, 0, _ => by
    rw [List.replicate_succ, List.flatten_cons] at h
    simpa using h.split.1
  | n + 1, xs, h, i + 1, hi => by
    rw [List.replicate_succ, List.flatten_cons] at h
    have := Kin.rep h.split.2 i (by omega)
    rwa [List.drop_drop, show ks.length + i * ks.length = (i + 1) * ks.length from by rw [Nat.succ_mul]; omega] at this
end
theorem rep_length {ks : List IntKind} (n : Nat) : (List.replicate n ks).flatten.length = n * ks.length := by
  induction n with
  | zero => simp
  | succ n ih => rw [List.replicate_succ, List.flatten_cons, List.length_append, ih, Nat.succ_mul]; omega
section
variable {P : Program}
theorem flat_cells : ∀ {n : Nat} {t : TypeId} {ks : List IntKind}, flat P n t = some ks → P.cellsOf t = ks.length ∧ 0 < ks.length := by
  intro n t ks h
  cases n with
  | zero => cases h
  | succ n =>
    unfold flat at h
    split at h
    · cases h
    · rename_i h0
      have hk : P.cellsOf t = ks.length := by
        split at h
        · split at h
          · rename_i h1; injection h with h; subst h; exact h1
          · cases h
        · split at h
          · cases h
          · split at h
            · rename_i h1; injection h with h; subst h; rw [h1, rep_length]
            · cases h
        · split at h
          · cases h
          · split at h
            · rename_i h1; injection h with h; subst h; exact h1.1
            · cases h
        · cases h
      exact ⟨hk, by omega⟩
theorem info_of_cells {t : TypeId} (h : 0 < P.cellsOf t) : ∃ i, P.info? t = some i := by
  unfold Program.cellsOf at h
  cases hi : P.info? t with
  | none => rw [hi] at h; simp at h
  | some i => exact ⟨i, rfl⟩
theorem run_isAgg {t : TypeId} {td : TypeDesc} (h : P.underlying t = some td) (w : World) : (isAgg t).run P w = .ok (isAggT P t) w := by
  unfold isAgg isAggT
  rw [Sem.run_bind, run_underlying h w, h]
  cases td <;> simp
theorem flat_under {n : Nat} {t : TypeId} {ks : List IntKind} (h : flat P n t = some ks) : ∃ td, P.underlying t = some td := by
  cases n with
  | zero => cases h
  | succ n =>
    unfold flat at h
    split at h
    · cases h
    · cases hu : P.underlying t with
      | none => rw [hu] at h; cases h
      | some td => exact ⟨td, rfl⟩
/-- A part of an aggregate. -/
theorem flat_part {n : Nat} {t : TypeId} {ks : List IntKind} (h : flat P n t = some ks) (zs : List Value) (o : Nat) (ho : o + ks.length ≤ zs.length) (w : World) : (part t zs.toArray o).run P w = .ok (packT P t ((zs.drop o).take ks.length)) w := by
  obtain ⟨td, hu⟩ := flat_under h
  obtain ⟨hc, hp⟩ := flat_cells h
  obtain ⟨i, hi⟩ := info_of_cells (P := P) (t := t) (by omega)
  simp only [part, Sem.run_bind, run_isAgg hu, Result.andThen_ok]
  unfold packT
  cases hb : isAggT P t with
  | true =>
    simp only [if_true, Sem.run_bind, run_sizeOf w hi, Result.andThen_ok, hc]
    simp
  | false =>
    have hlt : o < zs.length := by omega
    have : ((zs.drop o).take ks.length).headD undef = zs[o] := by
      rw [List.drop_eq_getElem_cons hlt]
      obtain ⟨m, hm⟩ : ∃ m, ks.length = m + 1 := ⟨ks.length - 1, by omega⟩
      rw [hm]
      rfl
    rw [if_neg (by simp), if_neg (by simp), this]
    simp [hlt]
theorem two_parts {xs ys : List Value} {o a b : Nat} (hx : o + (a + b) ≤ xs.length) (hy : o + (a + b) ≤ ys.length) :
    (xs.drop o).take (a + b) = (ys.drop o).take (a + b) ↔ (xs.drop o).take a = (ys.drop o).take a ∧ (xs.drop (o + a)).take b = (ys.drop (o + a)).take b := by
  rw [List.take_add, List.take_add, List.drop_drop, List.drop_drop]
  constructor
  · intro h
    exact List.append_inj h (by simp; omega)
  · rintro ⟨h1, h2⟩
    rw [h1, h2]
/-- Equality of values of such a type. -/
theorem flat_eq : ∀ (n : Nat) {t : TypeId} {ks : List IntKind}, flat P n t = some ks → ∀ (d : Nat) (w : World) (xs ys : List Value), Kin (fun _ _ => True) ks xs → Kin (fun _ _ => True) ks ys →
    ∃ r : Bool, (Op.equalIn (d + n) t (packT P t xs) (packT P t ys)).run P w = .ok r w ∧ (r = true ↔ xs = ys) := by
  intro n
  induction n with
  | zero => intro t ks h; cases h
  | succ n ih =>
    intro t ks h d w xs ys hx hy
    have hks := flat_cells h
    unfold flat at h
    split at h
    · cases h
    · split at h
      · rename_i k hu
        split at h
        · injection h with h; subst h
          obtain ⟨a, rfl, _⟩ := hx.one
          obtain ⟨b, rfl, _⟩ := hy.one
          have hg : isAggT P t = false := by unfold isAggT; rw [hu]
          refine ⟨a == b, ?_, by simp⟩
          unfold packT
          rw [hg]
          exact run_equalIn_int w (d + n) t k k a b hu
        · cases h
      · rename_i len e hu
        split at h
        · cases h
        · rename_i ks' hf
          split at h
          · injection h with h; subst h
            have hg : isAggT P t = true := by unfold isAggT; rw [hu]
            obtain ⟨hc, hp⟩ := flat_cells hf
            obtain ⟨i, hi⟩ := info_of_cells (P := P) (t := e) (by omega)
            unfold packT
            rw [hg, if_pos rfl, if_pos rfl, ← Nat.add_assoc, run_equalIn_array (w := w) (d + n) xs.toArray ys.toArray hu hi, hc]
            have hxl : xs.length = len * ks'.length := by rw [hx.1, rep_length]
            have hyl : ys.length = len * ks'.length := by rw [hy.1, rep_length]
            have key : ∀ is : List Nat, (∀ i ∈ is, i < len) → ∃ r : Bool, (Op.eqItems (d + n) e ks'.length xs.toArray ys.toArray is).run P w = .ok r w ∧ (r = true ↔ ∀ i ∈ is, (xs.drop (i * ks'.length)).take ks'.length = (ys.drop (i * ks'.length)).take ks'.length) := by
              intro is
              induction is with
              | nil => intro _; exact ⟨true, by simp [Op.eqItems], by simp⟩
              | cons j is ihs =>
                intro hj
                have hjl := hj j List.mem_cons_self
                have hb : j * ks'.length + ks'.length ≤ len * ks'.length := by
                  rw [← Nat.succ_mul]; exact Nat.mul_le_mul_right _ hjl
                obtain ⟨r, hr, hri⟩ := ihs fun i hi => hj i (List.mem_cons_of_mem _ hi)
                obtain ⟨r', hr', hri'⟩ := ih hf d w _ _ (hx.rep j hjl) (hy.rep j hjl)
                simp only [Op.eqItems, Sem.run_bind, flat_part hf xs (j * ks'.length) (by omega) w, flat_part hf ys (j * ks'.length) (by omega) w, Result.andThen_ok, hr']
                cases r' with
                | true => exact ⟨r, by simpa using hr, by simp [hri, hri'.1 rfl]⟩
                | false => exact ⟨false, by simp, by simpa using fun h => absurd (hri'.2 h) (by simp)⟩
            obtain ⟨r, hr, hri⟩ := key (List.range len) fun i hi => List.mem_range.1 hi
            refine ⟨r, hr, hri.trans ⟨fun h => ?_, fun h => by subst h; exact fun _ _ => rfl⟩⟩
            apply List.ext_getElem?
            intro j
            rcases Nat.lt_or_ge j (len * ks'.length) with hj | hj
            · have h1 := h (j / ks'.length) (List.mem_range.2 ((Nat.div_lt_iff_lt_mul hp).2 hj))
              have h2 := congrArg (·[j % ks'.length]?) h1
              simp only [List.getElem?_take, if_pos (Nat.mod_lt _ hp), List.getElem?_drop] at h2
              rwa [Nat.mul_comm, Nat.div_add_mod] at h2
            · rw [List.getElem?_eq_none (by omega), List.getElem?_eq_none (by omega)]
          · cases h
      · rename_i fs hu
        split at h
        · cases h
        · rename_i ks' hf
          split at h
          · rename_i hst
            injection h with h; subst h
            have hg : isAggT P t = true := by unfold isAggT; rw [hu]
            have hfo : P.fieldsOf t = fs := by unfold Program.fieldsOf; rw [hu]
            unfold packT
            rw [hg, if_pos rfl, if_pos rfl, ← Nat.add_assoc, run_equalIn_struct w (d + n) t xs.toArray ys.toArray (by rw [hfo]; exact hu) hst.2, hfo]
            have key : ∀ (l : List Field) (o : Nat) (kz : List IntKind), flatFs (flat P n) l o = some kz → ∀ ka : List IntKind, Kin (fun _ _ => True) (ka ++ kz) xs → Kin (fun _ _ => True) (ka ++ kz) ys → ka.length = o →
                ∃ r : Bool, (Op.eqFields (d + n) xs.toArray ys.toArray l).run P w = .ok r w ∧ (r = true ↔ (xs.drop o).take kz.length = (ys.drop o).take kz.length) := by
              intro l
              induction l with
              | nil =>
                intro o kz hl ka _ _ _
                unfold flatFs at hl
                injection hl with hl; subst hl
                exact ⟨true, by simp [Op.eqFields], by simp⟩
              | cons f l ihl =>
                intro o kz hl ka hxa hya ho
                unfold flatFs at hl
                split at hl
                · cases hl
                · rename_i kf hff
                  split at hl
                  · rename_i hfn
                    obtain ⟨kr, hr, rfl⟩ := Option.map_eq_some_iff.1 hl
                    have lx : xs.length = o + (kf.length + kr.length) := by rw [hxa.1]; simp; omega
                    have ly : ys.length = o + (kf.length + kr.length) := by rw [hya.1]; simp; omega
                    obtain ⟨r, h1, h2⟩ := ihl (o + kf.length) kr hr (ka ++ kf) (by rw [List.append_assoc]; exact hxa) (by rw [List.append_assoc]; exact hya) (by simp; omega)
                    have kx := hxa.split.2.split.1
                    have ky := hya.split.2.split.1
                    rw [ho] at kx ky
                    obtain ⟨r', h3, h4⟩ := ih hff d w _ _ kx ky
                    simp only [Op.eqFields, if_pos hfn.2, Sem.run_bind, hfn.1, flat_part hff xs o (by omega) w, flat_part hff ys o (by omega) w, Result.andThen_ok, h3]
                    rw [List.length_append, two_parts (by omega) (by omega)]
                    cases r' with
                    | true => exact ⟨r, by simpa using h1, by simp [h2, h4.1 rfl]⟩
                    | false => exact ⟨false, by simp, by simpa using fun h => absurd (h4.2 h) (by simp)⟩
                  · cases hl
            obtain ⟨r, h1, h2⟩ := key fs.toList 0 ks' hf [] hx hy rfl
            refine ⟨r, h1, ?_⟩
            rwa [List.drop_zero, List.drop_zero, List.take_of_length_le (Nat.le_of_eq hx.1), List.take_of_length_le (Nat.le_of_eq hy.1)] at h2
          · cases h
      · cases h
variable {B : Nat} {E : Env} {dst : Option Tmp} {ty : TypeId} {pos : String} {after : Array Edge} {guard : Option (Nat × Bool)}
theorem equal_flat {t : TypeId} {ks : List IntKind} (n : Nat) (hf : flat P n t = some ks) (hn : n ≤ 10000) (hg : isAggT P t = true) {xs ys : List Value} (hx : Kin (fun _ _ => True) ks xs) (hy : Kin (fun _ _ => True) ks ys) (b : Bool) (hb : b = true ↔ xs = ys) (w : World) :
    (Op.equalIn 10000 t (.agg xs.toArray) (.agg ys.toArray)).run P w = .ok b w := by
  obtain ⟨r, hr, hri⟩ := flat_eq (P := P) n hf (10000 - n) w xs ys hx hy
  unfold packT at hr
  rw [hg, if_pos rfl, if_pos rfl, Nat.sub_add_cancel hn] at hr
  have : r = b := by
    rw [← hb] at hri
    cases r <;> cases b <;> simp_all
  rw [← this]; exact hr
/-- Two values of such a type that have several cells: whether they are equal. -/
theorem ok_eqlT {t t' : TypeId} {ks : List IntKind} {x y : Operand} {xs ys : List Value} (n : Nat) (b : Bool) (hf : flat P n t = some ks) (hn : n ≤ 10000) (hg : isAggT P t = true) (hm : P.eqGuardType P.depth t = false) (hx : E.at x = some (.v (aggV xs))) (hy : E.at y = some (.v (aggV ys)))
    (hkx : Kin (fun _ _ => True) ks xs) (hky : Kin (fun _ _ => True) ks ys) (hb : b = true ↔ xs = ys) : OpOk P B ⟨dst, .binOp .eql t x y t', ty, pos, after, guard⟩ E (.v (.bool b)) := fun ρ w _ _ hρ => by
  have h1 : ρ x = .agg xs.toArray := hρ x (by simp [Op.operands]) _ hx
  have h2 : ρ y = .agg ys.toArray := hρ y (by simp [Op.operands]) _ hy
  have := equal_flat (P := P) n hf hn hg hkx hky b hb w
  exact out_val (w' := w) (by simp [execOp, h1, h2, Sem.run_bind, run_eqGuard_agg, hm, run_eql_struct, this]) ⟨Grow.refl w, rfl⟩
theorem ok_neqT {t t' : TypeId} {ks : List IntKind} {x y : Operand} {xs ys : List Value} (n : Nat) (b : Bool) (hf : flat P n t = some ks) (hn : n ≤ 10000) (hg : isAggT P t = true) (hm : P.eqGuardType P.depth t = false) (hx : E.at x = some (.v (aggV xs))) (hy : E.at y = some (.v (aggV ys)))
    (hkx : Kin (fun _ _ => True) ks xs) (hky : Kin (fun _ _ => True) ks ys) (hb : b = true ↔ xs = ys) : OpOk P B ⟨dst, .binOp .neq t x y t', ty, pos, after, guard⟩ E (.v (.bool (!b))) := fun ρ w _ _ hρ => by
  have h1 : ρ x = .agg xs.toArray := hρ x (by simp [Op.operands]) _ hx
  have h2 : ρ y = .agg ys.toArray := hρ y (by simp [Op.operands]) _ hy
  have := equal_flat (P := P) n hf hn hg hkx hky b hb w
  exact out_val (w' := w) (by simp [execOp, h1, h2, Sem.run_bind, run_eqGuard_agg, hm, run_neq_struct, this]) ⟨Grow.refl w, rfl⟩
end
theorem kin_nil : Kin (fun _ _ => True) [] [] := ⟨rfl, fun i k h => by simp at h⟩
theorem kin_cons {k : IntKind} {n : Int} {ks : List IntKind} {xs : List Value} (h : Kin (fun _ _ => True) ks xs) : Kin (fun _ _ => True) (k :: ks) (.int k n :: xs) :=
  Kin.join (a := [k]) (xs := [.int k n]) ⟨rfl, fun i k' h' => by
    match i, h' with
    | 0, h' => simp at h'; subst h'; exact ⟨n, rfl, trivial⟩
    | i + 1, h' => simp at h'⟩ h

/-! ### Parameters -/
section
variable {H : Type} {enc : TypeId × Value → H} {P : Program} {w : World} {base : Nat} {spare : Nat → Bool} {held : Bool}
theorem trod_flat : ∀ (n : Nat) {t : TypeId} {ks : List IntKind}, flat P n t = some ks → ∀ {fuel : Nat} {cs : List Value} {x : DataW H × List MemPlace}, DataW.trod enc P w base spare held fuel t cs = some x → Kin (fun k m => (Lit.int k m).wf = true) ks cs := by
  intro n
  induction n with
  | zero => intro t ks h; cases h
  | succ n ih =>
    intro t ks h fuel cs x ht
    have hks := flat_cells h
    unfold flat at h
    split at h
    · cases h
    · split at h
      · rename_i k hu
        split at h
        · injection h with h; subst h
          obtain ⟨a, rfl, _, h3⟩ := DataW.trod_int hu ht
          exact ⟨rfl, fun i k' hk => by
            match i, hk with
            | 0, hk => simp at hk; subst hk; exact ⟨a, rfl, h3⟩
            | i + 1, hk => simp at hk⟩
        · cases h
      · rename_i len e hu
        split at h
        · cases h
        · rename_i ks' hf
          split at h
          · injection h with h; subst h
            obtain ⟨xs, m, _, _, hlen, hxl, hel⟩ := DataW.trod_array hu ht
            obtain ⟨hc, hp⟩ := flat_cells hf
            have hl : cs.length = len * ks'.length := by rw [hlen, hks.1, rep_length]
            refine ⟨by rw [hl, rep_length], fun i k hk => ?_⟩
            have hi : i < len * ks'.length := by rw [← rep_length]; exact (List.getElem?_eq_some_iff.1 hk).1
            have hj : i / ks'.length < len := (Nat.div_lt_iff_lt_mul hp).2 hi
            have h1 := hel (i / ks'.length) hj
            rw [List.getElem?_eq_getElem (by omega), hc] at h1
            have h2 := ih hf h1
            have hr : ∀ (m j : Nat), j < m * ks'.length → (List.replicate m ks').flatten[j]? = ks'[j % ks'.length]? := by
              intro m
              induction m with
              | zero => intro j hj; simp at hj
              | succ m ihm =>
                intro j hj
                rw [List.replicate_succ, List.flatten_cons]
                rcases Nat.lt_or_ge j ks'.length with h | h
                · rw [List.getElem?_append_left h, Nat.mod_eq_of_lt h]
                · rw [List.getElem?_append_right h, ihm _ (by rw [Nat.succ_mul] at hj; omega), Nat.mod_eq_sub_mod h]
            rw [hr len i hi] at hk
            obtain ⟨a, h3, h4⟩ := h2.2 _ k hk
            refine ⟨a, ?_, h4⟩
            rw [List.getElem?_take, if_pos (Nat.mod_lt _ hp), List.getElem?_drop, Nat.mul_comm, Nat.div_add_mod] at h3
            exact h3
          · cases h
      · rename_i fs hu
        split at h
        · cases h
        · rename_i ks' hf
          split at h
          · injection h with h; subst h
            obtain ⟨xs, m, _, _, hlen, hxl, hel⟩ := DataW.trod_struct hu ht
            have key : ∀ (l : List Field) (o j : Nat) (kz : List IntKind), flatFs (flat P n) l o = some kz → fs.toList.drop j = l → o + kz.length = cs.length → Kin (fun k m => (Lit.int k m).wf = true) kz (cs.drop o) := by
              intro l
              induction l with
              | nil =>
                intro o j kz hl _ ho
                unfold flatFs at hl
                injection hl with hl; subst hl
                simp only [List.length_nil, Nat.add_zero] at ho
                exact ⟨by simp [ho], fun i k h => by simp at h⟩
              | cons f l ihl =>
                intro o j kz hl hd ho
                unfold flatFs at hl
                split at hl
                · cases hl
                · rename_i kf hff
                  split at hl
                  · rename_i hfn
                    obtain ⟨kr, hr, rfl⟩ := Option.map_eq_some_iff.1 hl
                    simp only [List.length_append] at ho
                    have hj : j < fs.size := by
                      rcases Nat.lt_or_ge j fs.size with h | h
                      · exact h
                      · rw [List.drop_eq_nil_of_le (by simpa using h)] at hd; cases hd
                    have hfj : fs[j]? = some f := by
                      have := congrArg (·[0]?) hd
                      simp only [List.getElem?_drop, Nat.add_zero, List.getElem?_cons_zero] at this
                      simpa using this
                    have h1 := hel j f hfj
                    rw [List.getElem?_eq_getElem (by omega), (flat_cells hff).1, hfn.1] at h1
                    have h2 := ih hff h1
                    have h3 := ihl (o + kf.length) (j + 1) kr hr (by
                      rw [← List.drop_drop, hd]; rfl) (by omega)
                    have : cs.drop o = (cs.drop o).take kf.length ++ cs.drop (o + kf.length) := by
                      rw [← List.drop_drop, List.take_append_drop]
                    rw [this]
                    exact h2.join h3
                  · cases hl
            have := key fs.toList 0 0 ks' hf rfl (by omega)
            simpa using this
          · cases h
      · cases h
theorem okWide_agg {t : TypeId} {v : Value} {r : Reach} {b0 : Nat} (hg : isAggT P t = true) (hk : Value.okWide P w r b0 t v) : ∃ cs, v = .agg cs := by
  unfold isAggT at hg
  split at hg
  · rename_i fs hu
    obtain ⟨cs, rfl, _⟩ := okWide_struct hu hk
    exact ⟨cs, rfl⟩
  · rename_i hu
    exact okWide_arr' hu hk
  · cases hg
/-- A parameter of several cells. -/
theorem arg_flat {t : TypeId} {ks : List IntKind} {v : Value} {d : DataW H} {ps : List MemPlace} (n : Nat) (hf : flat P n t = some ks) (hg : isAggT P t = true) {r : Reach} {b0 : Nat} (hk : Value.okWide P w r b0 t v)
    (h : DataW.Trod enc P w base spare held t v d ps) : ∃ xs, v = aggV xs ∧ Kin (fun k m => (Lit.int k m).wf = true) ks xs := by
  obtain ⟨cs, rfl⟩ := okWide_agg hg hk
  obtain ⟨fuel, hf'⟩ := h
  exact ⟨cs.toList, by simp [aggV], trod_flat n hf hf'⟩
theorem nat_u16 {n : Int} (h : (Lit.int .u16 n).wf = true) : ∃ a : Nat, n = (a : Int) ∧ a < 65536 := ⟨n.toNat, by have := bounds_u16 h; omega, by have := bounds_u16 h; omega⟩
theorem nat_u64 {n : Int} (h : (Lit.int .u64 n).wf = true) : ∃ a : Nat, n = (a : Int) ∧ a < 18446744073709551616 := ⟨n.toNat, by have := bounds_u64 h; omega, by have := bounds_u64 h; omega⟩
/-- Cells that are bytes. -/
theorem Kin.bytes : ∀ {m : Nat} {xs : List Value}, Kin (fun k n => (Lit.int k n).wf = true) (List.replicate m .u8) xs → ∃ l : List UInt8, l.length = m ∧ xs = l.map byteV
  | 0, xs, h => ⟨[], rfl, h.nil⟩
  | m + 1, xs, h => by
    rw [List.replicate_succ] at h
    obtain ⟨n, y, rfl, h1, h2⟩ := h.cons
    obtain ⟨l, h3, rfl⟩ := Kin.bytes h2
    exact ⟨UInt8.ofNat n.toNat :: l, by simp [h3], by rw [List.map_cons, ← wf_u8 h1]⟩
end
end Go.Proofs.YtfjpipkcfbmdeaaDoor
namespace Go.Proofs.YtfjpipkcfbmdeaaDoor
open Go Go.RowKit
variable {κ : Cx}

/-- The value v is an own row. -/
def ownM (base : Nat) (v : Value) (e : TypeId) (n : Nat) (xs : List Value) : D :=
  .p (fun B w _ => (own base e n xs).OfB B w v) (fun _ _ _ _ g h => D.OfB.keep h g) (fun _ _ _ _ g h => D.OfB.up h g)
def Disj (v u : Value) : Prop := ∀ g, v.ownBlock = some g → u.ownBlock ≠ some g
theorem Disj.symm {v u : Value} (h : Disj v u) : Disj u v := fun g hu hv => h g hv hu
theorem Disj.nil (u : Value) : Disj (.slice none 0 0) u := fun g h => by simp [Value.ownBlock] at h
theorem Surv.ownM {B T g base n : Nat} {e : TypeId} {u : Value} {xs : List Value} (h : u.ownBlock ≠ some g) : Surv B T g (Go.Proofs.YtfjpipkcfbmdeaaDoor.ownM base u e n xs) := fun w w' _ k ⟨h1, h2⟩ => by
  obtain ⟨h3, h4⟩ := h1
  refine ⟨⟨h3, h4.imp id ?_⟩, fun j hj => Nat.lt_of_lt_of_le (h2 j hj) k.size⟩
  rintro ⟨j, cap, cur, rfl, hj, hh, hr⟩
  have hne : j ≠ g := fun hb => h (by subst hb; rfl)
  exact ⟨j, cap, cur, rfl, hj, (k.other j (h2 j (by simp [Value.ownBlock])) hne).trans hh, hr⟩
section
variable {P : Program} {w₀ : World} {n : Nat} {c : Code} {E : Env} {Q : Exit → Act → World → Prop}
end
/-- An operation's fact in an environment that knows more. -/
theorem OpOk.subL {P : Program} {B : Nat} {o : Oper} {E₁ E : Env} {d : D} (hs : SubL E₁ E) (h : OpOk P B o E₁ d) : OpOk P B o E d := fun ρ w hB hv hρ => by
  have look : ∀ t e, E₁.look t = some e → ∃ e', E.look t = some e' ∧ Le e' e := fun t e he => hs (t, e) (look_mem he)
  refine h ρ w hB (fun t e ht he => ?_) fun x hx e he => ?_
  · obtain ⟨e', h1, h2⟩ := look t e he
    exact h2.of (hv t e' ht h1)
  · cases x with
    | tmp s =>
      obtain ⟨e', h1, h2⟩ := look s e he
      exact h2.of (hρ (.tmp s) hx e' h1)
    | const c => exact hρ _ hx e he
    | global g => exact hρ _ hx e he
    | func f => exact hρ _ hx e he
/-- A new block's number: above the base, and no named block's or row's. -/
def NewV (B : Nat) (E : Env) (g : Nat) : Prop := B ≤ g ∧ (∀ s b' e xs, E.look s = some (blk b' e xs) → b' < g) ∧ ∀ s B' v e n xs, E.look s = some (ownM B' v e n xs) → v.ownBlock ≠ some g
/-- What an append makes of a row's value. -/
def Step (B : Nat) (E : Env) (v v' : Value) : Prop := v'.ownBlock = v.ownBlock ∨ ∃ g, v'.ownBlock = some g ∧ NewV B E g
theorem Disj.step {B : Nat} {E : Env} {v v' u : Value} {s B' n : Nat} {e : TypeId} {xs : List Value} (hs : Step B E v v') (hd : Disj v u) (hu : E.look s = some (ownM B' u e n xs)) : Disj v' u := fun g hg => by
  rcases hs with h | ⟨g', h, hn⟩
  · exact hd g (h ▸ hg)
  · rw [h] at hg; injection hg with hg; subst hg
    exact hn.2.2 s _ _ _ _ _ hu
theorem eff_appendV {P : Program} {n B : Nat} {ops : Array Oper} {E E' : Env} {ty : TypeId} {pos : String} {after : Array Edge} {t e : TypeId} {z : Value} {nb : Nat} {r x : Operand} {k m dst : Nat} {v : Value} {xs : List Value} {f : D} {vs : List Value} (ht : P.underlying t = some (.slice e)) (hinfo : InfoIs P e z nb) (hnb : nb ≤ 64) (hz1 : z.cells.size = 1)
    (hr : E.at r = some (.v v)) (hk : E.look k = some (ownM B v e m xs)) (hx : E.at x = some f) (hf : Le f (lst (vs.map .v))) (h1 : ∀ u ∈ vs, u.oneCell' = true) (hbd : m + vs.length ≤ 1099511627776) (hdst : dst < n) (hl : ∀ g, B ≤ g → (v.ownBlock = some g ∨ NewV B E g) → LeftS B e g E' E) :
    EffG P n B ops ⟨some dst, .call { callee := .builtin .append, args := #[r, x], argTypes := #[t, t] }, ty, pos, after, none⟩ E (Step B E v) (fun v' => (dst, .v v') :: (k, ownM B v' e (m + vs.length) (xs ++ vs)) :: E') := by
  obtain ⟨i, hi, hz, hs, hby⟩ := hinfo.get
  intro κ a w K Q h hK
  have hre : a.eval r = v := h.at_ r _ hr
  obtain ⟨hown, hob⟩ : (own B e m xs).OfB w.heap.size w v := h.of k _ hk
  obtain ⟨c, A, us, hxe, hle, hcm, hul, hrow, hus⟩ := hf.of (h.at_ x _ hx)
  have huv : us = vs := by
    apply List.ext_getElem?
    intro j
    simp only [List.length_map] at hul
    rcases Nat.lt_or_ge j vs.length with hj | hj
    · have hu : us[j]? = some us[j] := List.getElem?_eq_getElem (by omega)
      have h2 : us[j] = vs[j] := hus j (.v vs[j]) us[j] (by simp [hj]) hu
      rw [hu, h2, List.getElem?_eq_getElem hj]
    · rw [List.getElem?_eq_none (by omega), List.getElem?_eq_none hj]
  subst huv
  simp only [List.length_map] at hxe hle hul
  have hrun : ∃ v' w', (Builtin.append_ #[t, t] ty #[v, .slice A us.length c]).run P w = .ok v' w' ∧ w'.ownsRow B e 1 v' (m + us.length) (xs ++ us) ∧ w.grownBy w' v.ownBlock ∧ (v'.ownBlock = v.ownBlock ∨ v'.ownBlock = some w.heap.size) := by
    have hbb : (m + us.length) * i.bytes ≤ (m + us.length) * 64 := Nat.mul_le_mul_left _ (by omega)
    have hnil : us = [] → ∀ c', (Builtin.append_ #[t, t] ty #[v, .slice none 0 c']).run P w = .ok v w := by
      intro _ c'
      rcases hown.2 with ⟨hv, hn0⟩ | ⟨g, cap, cur, hv, _, _, hnc, _⟩
      · rw [hv]; simp [Builtin.append_, run_underlying ht, sizeOf, typeInfo, hi, Builtin.lenOf, Builtin.firstCells]
      · rw [hv]; simp [Builtin.append_, run_underlying ht, sizeOf, typeInfo, hi, Builtin.lenOf, Builtin.firstCells, hnc, storeCells]
    cases A with
    | none =>
      have hz : us = [] := by
        cases us with
        | nil => rfl
        | cons b l => obtain ⟨ad, h, _⟩ := hrow 0 b rfl; cases h
      subst hz
      exact ⟨v, w, hnil rfl c, by simpa using hown, World.grownBy.refl w _, .inl rfl⟩
    | some ad =>
      obtain ⟨v', w', h2, h3, h4, _, h6⟩ := run_append_own_at (P := P) w B t ty e i z 1 i.bytes ht hi hz hs rfl hz1 (by omega) v m xs hown ad us.length c us (by simp) hrow.cell h1 (by simp only [maxLen]; omega) (by omega) h.base
      exact ⟨v', w', h2, h3, h4, h6⟩
  obtain ⟨v', w', hrun, h3, h4, h5⟩ := hrun
  have hexec : (execOp a.eval ⟨some dst, .call { callee := .builtin .append, args := #[r, x], argTypes := #[t, t] }, ty, pos, after, none⟩).run P w = .ok (.value v') w' := by
    simp [execOp, resolve, invoke, builtin, hre, hxe, hrun]
  rw [if_pos (by simp [Region.wanted])]
  refine opR (by nofun) ?_
  unfold Oper.wp
  rw [hexec, Oper.upon_value]
  have hnew : NewV B E w.heap.size := ⟨h.base, fun s b' e' ys hs => (h.of s _ hs).1, fun s B' u e' n' ys hs hu => by
    have := (h.of s _ hs).2 _ hu
    omega⟩
  have hbase : ∀ g, v.ownBlock = some g → B ≤ g := fun g hg => by
    rcases hown.2 with ⟨hv, _⟩ | ⟨g', cap, cur, hv, hb, _⟩
    · rw [hv] at hg; simp [Value.ownBlock] at hg
    · rw [hv] at hg; simp [Value.ownBlock] at hg; omega
  have hbel : Below B w w' := (Below.refl B w).grown h4 h.base hbase
  have hlt : ∀ g, v'.ownBlock = some g → g < w'.heap.size := fun g hg => by
    rcases h3.2 with ⟨hv, _⟩ | ⟨g', cap, cur, hv, _, hh, _⟩
    · rw [hv] at hg; simp [Value.ownBlock] at hg
    · rw [hv] at hg; simp [Value.ownBlock] at hg; subst hg
      rcases Nat.lt_or_ge g' w'.heap.size with h | h
      · exact h
      · rw [Array.getElem?_eq_none h] at hh; cases hh
  have hwr : ∃ g, (v.ownBlock = some g ∨ NewV B E g) ∧ Wrote B e g w w' := by
    rcases hown.2 with ⟨hv, _⟩ | ⟨g', cap, cur, hv, hb, hh, _⟩
    · refine ⟨w.heap.size, .inr hnew, h.base, h4.os, h4.tape, h4.output, h4.size, fun o hx => ?_, fun k hk _ => h4.block k hk (by rw [hv]; simp [Value.ownBlock])⟩
      rw [Array.getElem?_eq_none (Nat.le_refl _)] at hx; cases hx
    · refine ⟨g', .inl (by rw [hv]; rfl), hb, h4.os, h4.tape, h4.output, h4.size, fun o hx => ?_, fun k hk hne => h4.block k hk (by rw [hv]; simp [Value.ownBlock]; omega)⟩
      rw [hh] at hx; injection hx with hx; exact ⟨_, _, hx.symm⟩
  obtain ⟨g, hg, hwr⟩ := hwr
  have hst : St κ n B E' a w' := (hl g hwr.base hg).st h hwr
  have hst2 : St κ n B ((k, ownM B v' e (m + us.length) (xs ++ us)) :: E') a w' := ⟨hst.base, hst.defers, hst.size, fun s d hd => by
    by_cases hks : k = s
    · subst hks
      rw [look_here] at hd; injection hd with hd; subst hd
      exact ⟨h3, hlt⟩
    · rw [look_past _ _ hks] at hd
      exact hst.of s d hd⟩
  exact hK v' _ _ (h5.imp id fun h6 => ⟨_, h6, hnew⟩) hbel (hst2.put hdst rfl)
/-- The same, where the row needs no name any more. -/
theorem eff_appendVO {P : Program} {n B : Nat} {ops : Array Oper} {E E' : Env} {ty : TypeId} {pos : String} {after : Array Edge} {t e : TypeId} {z : Value} {nb : Nat} {r x : Operand} {k m dst : Nat} {v : Value} {xs : List Value} {f : D} {vs : List Value} (ht : P.underlying t = some (.slice e)) (hinfo : InfoIs P e z nb) (hnb : nb ≤ 64) (hz1 : z.cells.size = 1)
    (hr : E.at r = some (.v v)) (hk : E.look k = some (ownM B v e m xs)) (hx : E.at x = some f) (hf : Le f (lst (vs.map .v))) (h1 : ∀ u ∈ vs, u.oneCell' = true) (hbd : m + vs.length ≤ 1099511627776) (hdst : dst < n) (hkd : k ≠ dst) (hkE : E'.look k = none) (hl : ∀ g, B ≤ g → (v.ownBlock = some g ∨ NewV B E g) → LeftS B e g E' E) :
    Eff P n B ops ⟨some dst, .call { callee := .builtin .append, args := #[r, x], argTypes := #[t, t] }, ty, pos, after, none⟩ E ((dst, own B e (m + vs.length) (xs ++ vs)) :: E') := fun κ a w K Q h hK =>
  eff_appendV ht hinfo hnb hz1 hr hk hx hf h1 hbd hdst hl κ a w K Q h fun v' a' w' _ hbel hst => hK a' w' hbel ⟨hst.base, hst.defers, hst.size, fun s d hd => by
    by_cases hs : dst = s
    · subst hs
      rw [look_here] at hd; injection hd with hd; subst hd
      have h2 : a'.tmps.getD dst undef = v' := hst.of dst _ (look_here _ _ _)
      have h3 := hst.of k _ (by rw [look_past _ _ (Ne.symm hkd), look_here])
      rw [h2]; exact h3
    · rw [look_past _ _ hs] at hd
      by_cases hks : k = s
      · subst hks
        rw [hkE] at hd; cases hd
      · exact hst.of s d (by rw [look_past _ _ hs, look_past _ _ hks]; exact hd)⟩
end Go.Proofs.YtfjpipkcfbmdeaaDoor
namespace Go.Proofs.YtfjpipkcfbmdeaaDoor
open Go Go.RowKit
section
variable {P : Program} {n B : Nat} {ops : Array Oper} {E : Env} {ty : TypeId} {pos : String} {after : Array Edge}
/-- Blocks that the environment knows whole. -/
def Named (E : Env) (L : List Nat) : Prop := ∀ b ∈ L, ∃ s e xs, vbase ≤ s ∧ E.look s = some (blk b e xs)
theorem Named.nil : Named E [] := fun _ h => by cases h
theorem Named.cons {b s : Nat} {e : TypeId} {xs : List Value} {L : List Nat} (hs : vbase ≤ s) (h : E.look s = some (blk b e xs)) (hr : Named E L) : Named E (b :: L) := fun b' hb => by
  rcases List.mem_cons.1 hb with rfl | hb
  · exact ⟨s, e, xs, hs, h⟩
  · exact hr b' hb
end
end Go.Proofs.YtfjpipkcfbmdeaaDoor
namespace Go.Proofs.YtfjpipkcfbmdeaaDoor
open Go Go.RowKit

/-- Memory grows, and blocks from m on may be marked. -/
structure Marks (m : Nat) (w w' : World) : Prop where
  os : w'.os = w.os
  tape : w'.tape = w.tape
  output : w'.output = w.output
  size : w.heap.size ≤ w'.heap.size
  block : ∀ k o, w.heap[k]? = some o → w'.heap[k]? = some o ∨ (m ≤ k ∧ ∃ cs e fr fr', o = .cells cs e fr ∧ w'.heap[k]? = some (.cells cs e fr'))
theorem Marks.of {m : Nat} {w w' : World} (h : Grow w w') : Marks m w w' := ⟨h.os, h.tape, h.output, h.size, fun k _ hk => .inl ((h.block k (Array.getElem?_eq_some_iff.1 hk).1).trans hk)⟩
theorem Marks.below {m : Nat} {w w' : World} (h : Marks m w w') (hm : m ≤ w.heap.size) : Below m w w' := ⟨h.os, h.tape, h.output, h.size, fun k hk => by
  have hlt : k < w.heap.size := by omega
  rcases h.block k _ (Array.getElem?_eq_getElem hlt) with h1 | ⟨h1, _⟩
  · rw [h1, Array.getElem?_eq_getElem hlt]
  · omega⟩
theorem Marks.cell {m : Nat} {w w' : World} (h : Marks m w w') {a : Addr} {v : Value} (hc : w.cell? a = some v) : w'.cell? a = some v := by
  unfold World.cell? at hc ⊢
  cases hb : w.heap[a.block]? with
  | none => rw [hb] at hc; cases hc
  | some o =>
    rw [hb] at hc
    rcases h.block _ _ hb with h1 | ⟨_, cs, e, fr, fr', rfl, h1⟩
    · rw [h1]; exact hc
    · rw [h1]; exact hc

/-- The fact is left alone by marks. -/
class StbM (d : D) : Prop where
  st : ∀ m w w' B x, Marks m w w' → d.OfB B w x → d.OfB B w' x
instance (x : Value) : StbM (.v x) := ⟨fun _ _ _ _ _ _ h => h⟩
class StbL (ds : List D) : Prop where
  st : ∀ (j : Nat) (d : D), ds[j]? = some d → StbM d
instance : StbL [] := ⟨fun _ _ h => by simp at h⟩
instance (d : D) (ds : List D) [hd : StbM d] [hl : StbL ds] : StbL (d :: ds) := ⟨fun j e h => by
  cases j with
  | zero => simp at h; subst h; exact hd
  | succ j => exact hl.st j e (by simpa using h)⟩
instance (l : List UInt8) : StbL (l.map byteD) := ⟨fun j d h => by
  simp only [List.getElem?_map, Option.map_eq_some_iff] at h
  obtain ⟨b, _, rfl⟩ := h
  exact inferInstanceAs (StbM (.v _))⟩
instance (b : UInt8) : StbM (byteD b) := inferInstanceAs (StbM (.v _))
theorem ListF.mark {ds : List D} [hl : StbL ds] {c B m : Nat} {w w' : World} {x : Value} (k : Marks m w w') : ListF ds c B w x → ListF ds c B w' x :=
  fun ⟨A, vs, h1, h2, h3, h4, h5, h6⟩ => ⟨A, vs, h1, h2, h3, h4, fun j u hu => by
    obtain ⟨ad, g1, g2, g3⟩ := h5 j u hu
    exact ⟨ad, g1, g2, k.cell g3⟩, fun j d u hd hu => (hl.st j d hd).st m w w' B u k (h6 j d u hd hu)⟩
instance (ds : List D) (c : Nat) [StbL ds] : StbM (list ds c) := ⟨fun _ _ _ _ _ k h => ListF.mark k h⟩
instance (ds : List D) [StbL ds] : StbM (lst ds) := ⟨fun _ _ _ _ _ k ⟨c, h⟩ => ⟨c, ListF.mark k h⟩⟩
instance (l : List UInt8) (c : Nat) : StbM (bytes l c) := inferInstanceAs (StbM (list _ c))
instance (l : List UInt8) : StbM (byt l) := inferInstanceAs (StbM (lst _))
/-- A slice over a block from m on. -/
def newL (m : Nat) (ds : List D) (c : Nat) : D := .p (fun B w x => (∃ (a : Addr) (len : Nat), x = .slice (some a) len c ∧ m ≤ a.block ∧ a.block < B) ∧ ListF ds c B w x) (fun _ _ _ _ g ⟨h1, h2⟩ => ⟨h1, h2.keep g⟩) (fun _ _ _ _ g ⟨⟨a, l, h0, h1, h2⟩, h3⟩ => ⟨⟨a, l, h0, h1, by omega⟩, h3.up g⟩)
instance (m : Nat) (ds : List D) (c : Nat) [StbL ds] : StbM (newL m ds c) := ⟨fun _ _ _ _ _ k ⟨h1, h2⟩ => ⟨h1, ListF.mark k h2⟩⟩
/-! ### Operations -/
def OpOkM (P : Program) (m B : Nat) (o : Oper) (E : Env) (d : D) : Prop :=
  ∀ (ρ : Operand → Value) (w : World), B ≤ w.heap.size → m ≤ w.heap.size → (∀ t e, vbase ≤ t → E.look t = some e → e.Of w undef) → (∀ x, x ∈ o.op.operands → ∀ e, E.at x = some e → e.Of w (ρ x)) → Out P o ρ w fun x w' => Marks m w w' ∧ d.Of w' x
theorem OpOk.m {P : Program} {m B : Nat} {o : Oper} {E : Env} {d : D} (h : OpOk P B o E d) : OpOkM P m B o E d := fun ρ w hB _ hv hρ => (h ρ w hB hv hρ).mono fun _ _ hx => ⟨Marks.of hx.1, hx.2⟩
section
variable {P : Program} {m B : Nat} {E : Env} {dst : Option Tmp} {ty : TypeId} {pos : String} {after : Array Edge} {guard : Option (Nat × Bool)}
end

/-! ### Regions -/
def GoodM (P : Program) (m B : Nat) (ops : Array Oper) (o : Oper) (E : Env) (d : D) : Prop :=
  (GuardIs ops E o true ∧ OpOkM P m B o E d) ∨ (GuardIs ops E o false ∧ d = .v undef)
inductive TraceM (P : Program) (m B : Nat) (ops : Array Oper) : List Oper → Env → List D → Env → Prop
  | nil {E : Env} : TraceM P m B ops [] E [] E
  | cons {o : Oper} {rest : List Oper} {E E' : Env} {t : Nat} {d : D} {ds : List D} (ht : o.dst = some t) (hg : GoodM P m B ops o E d) (hs : StbM d) (hr : TraceM P m B ops rest ((t, d) :: E) ds E') : TraceM P m B ops (o :: rest) E (d :: ds) E'
/-- The region's text from here on, and what is to be shown in the environment at its end. -/
def RunM (P : Program) (m B : Nat) (ops : Array Oper) (rest : List Oper) (E : Env) (C : Env → Prop) : Prop := ∃ ds E', TraceM P m B ops rest E ds E' ∧ C E'
section
variable {P : Program} {m B : Nat} {ops : Array Oper} {o : Oper} {rest : List Oper} {E : Env} {C : Env → Prop} {t : Nat} {d : D}
theorem RunM.nil (h : C E) : RunM P m B ops [] E C := ⟨[], E, .nil, h⟩
theorem RunM.mk [hs : StbM d] (ht : o.dst = some t) (hg : GoodM P m B ops o E d) (hr : RunM P m B ops rest ((t, d) :: E) C) : RunM P m B ops (o :: rest) E C := by
  obtain ⟨ds, E', h1, h2⟩ := hr; exact ⟨_, _, .cons ht hg hs h1, h2⟩
theorem RunM.stepM [StbM d] (ht : o.dst = some t) (hg : o.guard = none) (h : OpOkM P m B o E d) (hr : RunM P m B ops rest ((t, d) :: E) C) : RunM P m B ops (o :: rest) E C :=
  .mk ht (.inl ⟨by simp [GuardIs, hg], h⟩) hr
theorem RunM.step [StbM d] (ht : o.dst = some t) (hg : o.guard = none) (h : OpOk P B o E d) (hr : RunM P m B ops rest ((t, d) :: E) C) : RunM P m B ops (o :: rest) E C := .stepM ht hg h.m hr
theorem RunM.guardedM [StbM d] {j : Nat} {want : Bool} {s : Nat} (ht : o.dst = some t) (hg : o.guard = some (j, want)) (hj : ((ops[j]?).bind (·.dst)) = some s) (hE : E.look s = some (.v (.bool want))) (h : OpOkM P m B o E d) (hr : RunM P m B ops rest ((t, d) :: E) C) : RunM P m B ops (o :: rest) E C :=
  .mk ht (.inl ⟨by simp only [GuardIs, hg]; exact ⟨s, hj, .inl ⟨want, hE, by cases want <;> rfl⟩⟩, h⟩) hr
theorem RunM.guarded [StbM d] {j : Nat} {want : Bool} {s : Nat} (ht : o.dst = some t) (hg : o.guard = some (j, want)) (hj : ((ops[j]?).bind (·.dst)) = some s) (hE : E.look s = some (.v (.bool want))) (h : OpOk P B o E d) (hr : RunM P m B ops rest ((t, d) :: E) C) : RunM P m B ops (o :: rest) E C := .guardedM ht hg hj hE h.m hr
theorem RunM.skipped {j : Nat} {want c : Bool} {s : Nat} (ht : o.dst = some t) (hg : o.guard = some (j, want)) (hj : ((ops[j]?).bind (·.dst)) = some s) (hE : E.look s = some (.v (.bool c))) (hc : (c == want) = false) (hr : RunM P m B ops rest ((t, .v undef) :: E) C) : RunM P m B ops (o :: rest) E C :=
  .mk ht (.inr ⟨by simp only [GuardIs, hg]; exact ⟨s, hj, .inl ⟨c, hE, hc.symm⟩⟩, rfl⟩) hr
theorem RunM.as (x : Value) {y : Value} (h : y = x) (hr : RunM P m B ops rest ((t, .v x) :: E) C) : RunM P m B ops rest ((t, .v y) :: E) C := h ▸ hr
end
theorem TraceM.nth {P : Program} {m B : Nat} {ops : Array Oper} {rest : List Oper} {E E' : Env} {ds : List D} (h : TraceM P m B ops rest E ds E') : ∀ {i : Nat} {o : Oper}, rest[i]? = some o →
    ∃ t d Ei, o.dst = some t ∧ ds[i]? = some d ∧ GoodM P m B ops o Ei d ∧ ∀ s e, Ei.look s = some e →
      (∃ j o', j < i ∧ rest[j]? = some o' ∧ o'.dst = some s ∧ ds[j]? = some e) ∨ ((∀ j o', j < i → rest[j]? = some o' → o'.dst ≠ some s) ∧ E.look s = some e) := by
  induction h with
  | nil => intro i o hi; simp at hi
  | @cons o0 rest E E' t0 d0 ds ht hg hs hr ih =>
    intro i o hi
    cases i with
    | zero =>
      simp at hi; subst hi
      exact ⟨t0, d0, E, ht, rfl, hg, fun s e he => .inr ⟨fun j _ hj => by omega, he⟩⟩
    | succ i =>
      obtain ⟨t, d, Ei, h1, h2, h3, h4⟩ := ih (i := i) (by simpa using hi)
      refine ⟨t, d, Ei, h1, by simpa using h2, h3, fun s e he => ?_⟩
      rcases h4 s e he with ⟨j, o', hj, ho', hd, hds⟩ | ⟨hno, hl⟩
      · exact .inl ⟨j + 1, o', by omega, by simpa using ho', hd, by simpa using hds⟩
      · by_cases hs : t0 = s
        · subst hs
          rw [look_here] at hl
          exact .inl ⟨0, o0, by omega, rfl, ht, by simpa using hl⟩
        · rw [look_past _ _ hs] at hl
          refine .inr ⟨fun j o' hj ho' => ?_, hl⟩
          cases j with
          | zero => simp at ho'; subst ho'; rw [ht]; intro h; injection h with h; exact hs h
          | succ j => exact hno j o' (by omega) (by simpa using ho')
theorem TraceM.last {P : Program} {m B : Nat} {ops : Array Oper} {rest : List Oper} {E E' : Env} {ds : List D} (h : TraceM P m B ops rest E ds E') : ∀ s e, E'.look s = some e →
      (∃ (j : Nat) (o' : Oper), rest[j]? = some o' ∧ o'.dst = some s ∧ ds[j]? = some e) ∨ ((∀ (j : Nat) (o' : Oper), rest[j]? = some o' → o'.dst ≠ some s) ∧ E.look s = some e) := by
  induction h with
  | nil => intro s e he; exact .inr ⟨fun j _ hj => by simp at hj, he⟩
  | @cons o0 rest E E' t0 d0 ds ht hg hs hr ih =>
    intro s e he
    rcases ih s e he with ⟨j, o', ho', hd, hds⟩ | ⟨hno, hl⟩
    · exact .inl ⟨j + 1, o', by simpa using ho', hd, by simpa using hds⟩
    · by_cases hs : t0 = s
      · subst hs
        rw [look_here] at hl
        exact .inl ⟨0, o0, rfl, ht, by simpa using hl⟩
      · rw [look_past _ _ hs] at hl
        refine .inr ⟨fun j o' ho' => ?_, hl⟩
        cases j with
        | zero => simp at ho'; subst ho'; rw [ht]; intro h; injection h with h; exact hs h
        | succ j => exact hno j o' (by simpa using ho')
section
variable {P : Program} {B : Nat} {ops : Array Oper} {Q : Exit → Act → World → Prop} {κ : Cx}
end
/-! ### Constants in a region whose order is the text's: the conversion is an effect -/
/-- A slice of constant bytes over a block of the call's own. -/
def newT (B : Nat) (e : TypeId) (l : List UInt8) (c : Nat) : D := .p (fun B' w x => (∃ (a : Addr) (len : Nat) (cs : Array Value) (fr : Nat × Nat), x = .slice (some a) len c ∧ B ≤ a.block ∧ a.block < B' ∧ w.heap[a.block]? = some (.cells cs e fr)) ∧ ListF (l.map byteD) c B' w x)
  (fun _ _ _ _ g ⟨⟨a, len, cs, fr, h0, h1, h2, h3⟩, h4⟩ => ⟨⟨a, len, cs, fr, h0, h1, h2, (g.block _ h2).trans h3⟩, h4.keep g⟩)
  (fun _ _ _ _ g ⟨⟨a, len, cs, fr, h0, h1, h2, h3⟩, h4⟩ => ⟨⟨a, len, cs, fr, h0, h1, by omega, h3⟩, h4.up g⟩)
instance (B : Nat) (e : TypeId) (l : List UInt8) (c : Nat) : StbM (newT B e l c) := ⟨fun m w w' B' x k ⟨⟨a, len, cs, fr, h0, h1, h2, h3⟩, h4⟩ => ⟨by
  rcases k.block _ _ h3 with h | ⟨_, cs', e', fr', fr'', h5, h⟩
  · exact ⟨a, len, cs, fr, h0, h1, h2, h⟩
  · injection h5 with h6 h7 h8
    subst h6; subst h7
    exact ⟨a, len, _, _, h0, h1, h2, h⟩, ListF.mark k h4⟩⟩
theorem Surv.newT {B T g base : Nat} {e : TypeId} {l : List UInt8} {c : Nat} (h : e ≠ T) : Surv B T g (Go.Proofs.YtfjpipkcfbmdeaaDoor.newT base e l c) := fun w w' x k ⟨⟨a, len, cs, fr, h0, h1, h2, h3⟩, A, vs, g1, g2, g3, g4, g5, g6⟩ => by
  have hne : a.block ≠ g := fun hb => h (by subst hb; exact k.row _ _ _ h3)
  have hsame : w'.heap[a.block]? = w.heap[a.block]? := k.other _ h2 hne
  refine ⟨⟨a, len, cs, fr, h0, h1, Nat.lt_of_lt_of_le h2 k.size, hsame.trans h3⟩, A, vs, g1, g2, g3, g4, fun j u hu => ?_, fun j d u hd hu => ?_⟩
  · obtain ⟨ad, e1, e2, e3⟩ := g5 j u hu
    refine ⟨ad, e1, Nat.lt_of_lt_of_le e2 k.size, ?_⟩
    have hab : ad = a := by
      subst e1; rw [h0] at g1; injection g1 with g1; injection g1 with g1; exact g1.symm
    subst hab
    unfold World.cell? at e3 ⊢
    have hbl : (ad.add j).block = ad.block := by unfold Addr.add; try split <;> rfl
    rw [hbl] at e3 ⊢
    rw [hsame]; exact e3
  · have h9 := g6 j d u hd hu
    simp only [List.getElem?_map, Option.map_eq_some_iff] at hd
    obtain ⟨b, _, rfl⟩ := hd
    exact h9
def SurvM (B T g : Nat) (d : D) : Prop := ∀ w w' x, Wrote B T g w w' → Marks B w w' → d.Of w x → d.Of w' x
theorem SurvM.of {B T g : Nat} {d : D} (h : Surv B T g d) : SurvM B T g d := fun w w' x k _ hx => h w w' x k hx
def LeftM (B T g : Nat) (E' E : Env) : Prop := ∀ p ∈ E', E.look p.1 = some p.2 ∧ SurvM B T g p.2
theorem LeftM.nil {B T g : Nat} {E : Env} : LeftM B T g [] E := fun _ h => by cases h
theorem LeftM.cons {B T g : Nat} {E E' : Env} {t : Nat} {d : D} (h : E.look t = some d) (hs : SurvM B T g d) (hr : LeftM B T g E' E) : LeftM B T g ((t, d) :: E') E := fun p hp => by
  rcases List.mem_cons.1 hp with rfl | hp
  · exact ⟨h, hs⟩
  · exact hr p hp
end Go.Proofs.YtfjpipkcfbmdeaaDoor
namespace Go.Proofs.YtfjpipkcfbmdeaaDoor
open Go Go.RowKit
variable {κ : Cx}

theorem St.push {n B : Nat} {E : Env} {a : Act} {w : World} {t : Nat} {d : D} (h : St κ n B E a w) (hd : d.Of w (a.tmps.getD t undef)) : St κ n B ((t, d) :: E) a w :=
  ⟨h.base, h.defers, h.size, fun s e he => by
    by_cases hts : t = s
    · subst hts
      rw [look_here] at he; injection he with he; subst he; exact hd
    · rw [look_past _ _ hts] at he
      exact h.of s e he⟩

/-! ### A variable that holds something of which d is known -/
def varD (b : Nat) (T : TypeId) (d : D) : D :=
  .p (fun B w _ => b < B ∧ ∃ u : Value, w.heap[b]? = some (.cells #[u] T (0, 0)) ∧ d.OfB B w u)
    (fun _ _ _ _ g ⟨h1, u, h2, h3⟩ => ⟨h1, u, (g.block b h1).trans h2, h3.keep g⟩) (fun _ _ _ _ g ⟨h1, u, h2, h3⟩ => ⟨by omega, u, h2, h3.up g⟩)
theorem varD_eq {b : Nat} {T : TypeId} {d d' : D} (h : d = d') : varD b T d = varD b T d' := by rw [h]
theorem Surv.varD {B T g b : Nat} {e : TypeId} {d : D} (h : b ≠ g) (hd : Surv B T g d) : Surv B T g (Go.Proofs.YtfjpipkcfbmdeaaDoor.varD b e d) := fun w w' _ k ⟨h1, u, h2, h3⟩ =>
  ⟨Nat.lt_of_lt_of_le h1 k.size, u, (k.other b h1 h).trans h2, hd w w' u k h3⟩
theorem Firm.varD {l b : Nat} {e : TypeId} {d : D} (hd : Firm l d) : Firm l (Go.Proofs.YtfjpipkcfbmdeaaDoor.varD b e d) := fun w o o' _ hl ho ⟨h1, u, h2, h3⟩ => by
  have hne : b ≠ l := fun hb => by subst hb; rw [h2] at hl; injection hl with hl; subst hl; cases ho
  exact ⟨by simpa using h1, u, (World.putObj_heap_other hne).trans h2, hd w o o' u hl ho h3⟩
theorem Firm.own {l base n : Nat} {e : TypeId} {xs : List Value} : Firm l (Go.Proofs.YtfjpipkcfbmdeaaDoor.own base e n xs) := fun w o o' x hl ho ⟨h1, h2⟩ => by
  obtain ⟨h3, h4⟩ := h1
  refine ⟨⟨h3, h4.imp id ?_⟩, fun j hj => by simpa using h2 j hj⟩
  rintro ⟨j, cap, cur, rfl, hj, hh, hr⟩
  have hne : j ≠ l := fun hb => by subst hb; rw [hh] at hl; injection hl with hl; subst hl; cases ho
  exact ⟨j, cap, cur, rfl, hj, (World.putObj_heap_other hne).trans hh, hr⟩
theorem Firm.ownM {l base n : Nat} {v : Value} {e : TypeId} {xs : List Value} : Firm l (Go.Proofs.YtfjpipkcfbmdeaaDoor.ownM base v e n xs) := fun w o o' _ hl ho h => Firm.own w o o' v hl ho h
theorem Firm.list {l c : Nat} {ds : List D} (hd : ∀ d ∈ ds, Firm l d) : Firm l (Go.Proofs.YtfjpipkcfbmdeaaDoor.list ds c) := fun w o o' x hl ho ⟨A, vs, h1, h2, h3, h4, h5, h6⟩ =>
  ⟨A, vs, h1, h2, h3, h4, fun j u hu => by
    obtain ⟨ad, g1, g2, g3⟩ := h5 j u hu
    refine ⟨ad, g1, by simpa using g2, ?_⟩
    have hne : (ad.add j).block ≠ l := fun hb => by
      unfold World.cell? at g3
      rw [hb, hl] at g3
      cases o <;> simp_all [Obj.isCells]
    unfold World.cell? at g3 ⊢
    rw [World.putObj_heap_other hne]; exact g3, fun j d u hd' hu => hd d (List.mem_of_getElem? hd') w o o' u hl ho (h6 j d u hd' hu)⟩
theorem Firm.bytes {l c : Nat} {xs : List UInt8} : Firm l (Go.Proofs.YtfjpipkcfbmdeaaDoor.bytes xs c) := Firm.list fun d hd => by
  obtain ⟨b, _, rfl⟩ := List.mem_map.1 hd
  exact Firm.v l _

section
variable {P : Program} {n B : Nat} {ops : Array Oper} {E : Env} {dst : Option Tmp} {ty : TypeId} {pos : String} {after : Array Edge} {guard : Option (Nat × Bool)}
/-- A store into a variable of one cell: what is known of the value is known of the variable. -/
theorem eff_storeD {t : TypeId} {z : Value} {nb : Nat} {p x : Operand} {b s : Nat} {e : TypeId} {z₀ : Value} {d : D} {E' : Env} (hinfo : InfoIs P t z nb) (hp : E.at p = some (.v (.pointer (some ⟨b, 0, none⟩)))) (hx : E.at x = some d) (hu : ∀ w u, d.Of w u → u.oneCell' = true)
    (hb : B ≤ b) (hblk : E.look s = some (blk b e [z₀])) (hd : Surv B e b d) (hl : LeftS B e b E' E) :
    Eff P n B ops ⟨none, .store t p x, ty, pos, after, none⟩ E ((s, varD b e d) :: E') := by
  obtain ⟨i, hi, _, hs, _⟩ := hinfo.get
  intro κ a w K Q h hK
  have hp' : a.eval p = _ := h.at_ p _ hp
  have hx' : d.Of w (a.eval x) := h.at_ x _ hx
  obtain ⟨u, hu'⟩ : ∃ u, a.eval x = u := ⟨_, rfl⟩
  rw [hu'] at hx'
  have hu := hu w u hx'
  obtain ⟨hlt, hh⟩ := h.of s _ hblk
  have hcell : w.cell? ⟨b, 0, none⟩ = some z₀ := by simp [World.cell?, hh]
  have hfr : w.frozen? ⟨b, 0, none⟩ = false := by simp [World.frozen?, hh]
  have hcu : u.cells = #[u] := by cases u <;> simp_all [Value.oneCell', Value.cells]
  have hadd : (⟨b, 0, none⟩ : Addr).add 0 = ⟨b, 0, none⟩ := rfl
  have hset := setCell_eq_setRow w b 0 [z₀].toArray e (0, 0) u hh
  have hrun : (execOp a.eval ⟨none, .store t p x, ty, pos, after, none⟩).run P w = .ok .skip (w.setRow b ([z₀].toArray.setIfInBounds 0 u)) := by
    rw [← hset]
    simp [execOp, hp', hu', Instr.storeAt, Instr.sureAddr, storeVar, hcu, sizeOf, typeInfo, hi, hs, storeCells, hadd, run_store P w ⟨b, 0, none⟩ u .plain hu, hcell, hfr]
  rw [if_pos (by simp [Region.wanted])]
  refine opR (by nofun) ?_
  unfold Oper.wp
  rw [hrun, Oper.upon_skip]
  have hwr := Wrote.setRow hb hh ([z₀].toArray.setIfInBounds 0 u)
  have hst := hl.st h hwr
  refine hK _ _ (hwr.below h.base) (hst.push ?_)
  exact ⟨by simpa using hlt, u, by rw [setRow_heap w b _ _ e _ hh]; simp, hd _ _ _ hwr hx'⟩
/-- What a variable holds. -/
theorem ok_loadD {t : TypeId} {td : TypeDesc} {x : Operand} {b s : Nat} {e : TypeId} {d : D} (hsl : vbase ≤ s) (ht : P.underlying t = some td) (hp : plainTD td = true) (hx : E.at x = some (.v (.pointer (some ⟨b, 0, none⟩)))) (hblk : E.look s = some (varD b e d)) :
    OpOk P B ⟨dst, .load t x, ty, pos, after, guard⟩ E d := fun ρ w _ hv hρ => by
  have h1 : ρ x = _ := hρ x (by simp [Op.operands]) _ hx
  obtain ⟨hlt, u, hh, hd⟩ := hv s _ hsl hblk
  have hc : w.cell? ⟨b, 0, none⟩ = some u := by simp [World.cell?, hh]
  exact out_val (w' := w) (by simp [execOp, h1, run_load_plain ht hp hc]) ⟨Grow.refl w, hd⟩
end

/-! ### Functions that hold variables -/
def VArgs (E : Env) : List Value → List Operand → Prop
  | [], [] => True
  | u :: us, x :: xs => E.at x = some (.v u) ∧ VArgs E us xs
  | _, _ => False
theorem VArgs.map {E : Env} {ρ : Operand → Value} : ∀ {us : List Value} {xs : List Operand}, VArgs E us xs → (∀ x ∈ xs, ∀ v, E.at x = some (.v v) → ρ x = v) → xs.map ρ = us
  | [], [], _, _ => rfl
  | [], _ :: _, h, _ => h.elim
  | _ :: _, [], h, _ => h.elim
  | u :: us, x :: xs, ⟨h1, h2⟩, hρ => by rw [List.map_cons, hρ x List.mem_cons_self u h1, VArgs.map h2 fun y hy v hv => hρ y (List.mem_cons_of_mem _ hy) v hv]
section
variable {P : Program} {n B : Nat} {w₀ : World} {ops : Array Oper} {E : Env} {dst : Option Tmp} {ty : TypeId} {pos : String} {after : Array Edge} {guard : Option (Nat × Bool)}
theorem ok_makeFuncN {f : FuncId} {xs : Array Operand} (us : List Value) (h : VArgs E us xs.toList) : OpOk P B ⟨dst, .makeFunc (.func f) #[] xs, ty, pos, after, guard⟩ E (.v (.func (.func f) #[] us.toArray)) := fun ρ w _ _ hρ => by
  have hmem : ∀ x ∈ xs.toList, x ∈ (Op.makeFunc (.func f) #[] xs).operands := fun x hx => by
    have hx' : x ∈ xs := by simpa using hx
    simp [Op.operands, hx']
  have h1 := h.map (ρ := ρ) fun x hx v hv => hρ x (hmem x hx) _ hv
  have h2 : xs.map ρ = us.toArray := by
    apply Array.ext'
    rw [Array.toList_map]; exact h1
  exact out_val (w' := w) (by simp [execOp, h2, Instr.makeFunc]) ⟨Grow.refl w, rfl⟩
abbrev ptr (b : Nat) : Value := .pointer (some ⟨b, 0, none⟩)
variable {f : Nat} {T₁ T₂ T₃ : TypeId} {d₁ d₂ d₃ : D}
/-- The row that a variable holds gets its value's name, and back. -/
theorem A.openVar {c : Code} {Q : Exit → Act → World → Prop} {k k' b B' m : Nat} {T e : TypeId} {xs : List Value} (hk : E.look k = some (varD b T (own B' e m xs))) (h : ∀ v, A κ P w₀ n c ((k, blk b T [v]) :: (k', ownM B' v e m xs) :: E) Q) : A κ P w₀ n c E Q := fun a w g hs => by
  obtain ⟨h1, u, h2, h3⟩ := hs.of k _ hk
  exact h u a w g ((hs.push (t := k') (d := ownM B' u e m xs) h3).push (d := blk b T [u]) ⟨h1, h2⟩)
end

/-! ### A region with a base of its own, where tables stay tables -/
def OldH (B : Nat) (E' E : Env) : Prop := ∀ p ∈ E', ∃ d, E.look p.1 = some d ∧ (p.2 = d ∨ p.2 = old B d)
theorem OldH.nil {B : Nat} {E : Env} : OldH B [] E := fun _ h => by cases h
theorem OldH.same {B : Nat} {E E' : Env} {t : Nat} {d : D} (h : E.look t = some d) (hr : OldH B E' E) : OldH B ((t, d) :: E') E := fun p hp => by
  rcases List.mem_cons.1 hp with rfl | hp
  · exact ⟨_, h, .inl rfl⟩
  · exact hr p hp
theorem OldH.p {B : Nat} {E E' : Env} {t : Nat} {d : D} (h : E.look t = some d) (hr : OldH B E' E) : OldH B ((t, old B d) :: E') E := fun p hp => by
  rcases List.mem_cons.1 hp with rfl | hp
  · exact ⟨d, h, .inr rfl⟩
  · exact hr p hp
end Go.Proofs.YtfjpipkcfbmdeaaDoor
namespace Go.Proofs.YtfjpipkcfbmdeaaDoor
open Go Go.RowKit
variable {κ : Cx}

/-- Since the world w₁ nothing that was there has changed but block g. -/
def wroteD (T : TypeId) (g : Nat) (w₁ : World) : D :=
  .p (fun B w _ => w₁.heap.size ≤ B ∧ Wrote g T g w₁ w) (fun _ _ _ _ h ⟨h1, h2⟩ => ⟨h1, ⟨h2.base, h.os.trans h2.os, h.tape.trans h2.tape, h.output.trans h2.output, Nat.le_trans h2.size h.size, h2.cel, fun k hk hne => (h.block k (Nat.lt_of_lt_of_le hk h1)).trans (h2.other k hk hne)⟩⟩)
    (fun _ _ _ _ h ⟨h1, h2⟩ => ⟨Nat.le_trans h1 h, h2⟩)
theorem Surv.wrote {B T g : Nat} {w₁ : World} : Surv B T g (wroteD T g w₁) := fun _ _ _ k ⟨h1, h2⟩ =>
  ⟨Nat.le_trans h1 k.size, ⟨h2.base, k.os.trans h2.os, k.tape.trans h2.tape, k.output.trans h2.output, Nat.le_trans h2.size k.size, h2.cel, fun j hj hne => (k.other j (Nat.lt_of_lt_of_le hj h1) hne).trans (h2.other j hj hne)⟩⟩
/-- The world with its first g blocks alone. -/
def cutW (w : World) (g : Nat) : World := { w with heap := w.heap.extract 0 g }
theorem cutW_size {w : World} {g : Nat} (h : g ≤ w.heap.size) : (cutW w g).heap.size = g := by simp [cutW]; omega
theorem cutW_below {w : World} {g : Nat} (h : g ≤ w.heap.size) : Below (cutW w g).heap.size (cutW w g) w :=
  ⟨rfl, rfl, rfl, by rw [cutW_size h]; exact h, fun k hk => by
    rw [cutW_size h] at hk
    simp only [cutW, Array.getElem?_extract]
    rw [if_pos (by omega), Nat.zero_add]⟩

/-- A contract: block g, whose cells are xs, is left with the cells ys; the tables M lie below it. -/
structure FnW (P : Program) (f : FuncId) (M : Env) (T g : Nat) (xs ys : List Value) (ds : List D) : Prop where
  body : ∃ fn, P.funcs[f]? = some fn ∧ (fn.name == "runtime.NumGoroutine") = false ∧ fn.body.isNone = false
  calls : ∀ (vs : List Value) (w : World), vs.length = ds.length → (∀ (j : Nat) (e : D) (u : Value), ds[j]? = some e → vs[j]? = some u → e.Of w u) → (∀ p ∈ M, p.2.OfB g w undef) → g < w.heap.size → w.heap[g]? = some (.cells xs.toArray T (0, 0)) →
    Calls P f vs.toArray w fun e w' => e = .returned (.tuple #[]) ∧ Wrote g T g w w' ∧ w'.heap[g]? = some (.cells ys.toArray T (0, 0))
section
variable {P : Program} {n B : Nat} {ops : Array Oper} {E : Env} {ty : TypeId} {pos : String} {after : Array Edge}
/-- The contract out of a walk at the base of the block that is written. -/
theorem FnW.of {f : FuncId} {fn : Func} {c : Code} {M : Env} {T g kb kw : Nat} {xs ys us : List Value} (hf : P.funcs[f]? = some fn) (hb : fn.body = some c) (hname : (fn.name == "runtime.NumGoroutine") = false) (hn : fn.ntmps = n) (hds : us.length ≤ n) (hnv : n ≤ vbase)
    (hMb : ∀ p ∈ M, vbase ≤ p.1) (hkb : vbase ≤ kb) (hkw : vbase ≤ kw) (args : Env) (hargs : ∀ p ∈ args, ∃ v, p.2 = .v v ∧ us[p.1]? = some v)
    (h : ∀ w₀ w₁ : World, w₀.heap.size = g → (∀ p ∈ M, p.2.OfB w₀.heap.size w₁ undef) → A Cx.top P w₀ n c (args ++ ((kb, blk g T xs) :: (kw, wroteD T g w₁) :: M)) (BP P fn fun e w' => e = .returned (.tuple #[]) ∧ Wrote g T g w₁ w' ∧ w'.heap[g]? = some (.cells ys.toArray T (0, 0)))) :
    FnW P f M T g xs ys (us.map D.v) := by
  refine ⟨⟨fn, hf, hname, by rw [hb]; rfl⟩, fun vs w hl hv hM hlt hh => ?_⟩
  have hvs : vs = us := by
    apply List.ext_getElem?
    intro j
    simp only [List.length_map] at hl
    rcases Nat.lt_or_ge j us.length with hj | hj
    · have h1 := hv j (.v us[j]) vs[j] (by simp [hj]) (List.getElem?_eq_getElem (by omega))
      rw [List.getElem?_eq_getElem hj, List.getElem?_eq_getElem (by omega)]
      exact congrArg some h1
    · rw [List.getElem?_eq_none hj, List.getElem?_eq_none (by omega)]
  subst hvs
  have hsz := cutW_size (w := w) (g := g) (Nat.le_of_lt hlt)
  refine callsIn_FR.1 (callsIn_of_wp_marks (F := FR none) (n := 0) hf hb trivial (h (cutW w g) w hsz (by rw [hsz]; exact hM) _ w (cutW_below (Nat.le_of_lt hlt)) ⟨by rw [hsz]; omega, rfl, ?_, fun t e he => ?_⟩))
  · simp [hn]; omega
  · show e.Of w ((vs.toArray ++ Array.replicate (fn.ntmps - vs.toArray.size) undef).getD t undef)
    have hund : vbase ≤ t → (vs.toArray ++ Array.replicate (fn.ntmps - vs.toArray.size) undef).getD t undef = undef := fun ht => by
      rw [Array.getD_eq_getD_getElem?, Array.getElem?_eq_none (by simp [hn]; omega)]; rfl
    rcases List.mem_append.1 (look_mem he) with hm | hm
    · obtain ⟨v, h1, h2⟩ := hargs _ hm
      simp only at h1 h2
      have hj : t < vs.length := (List.getElem?_eq_some_iff.1 h2).1
      rw [Array.getD_eq_getD_getElem?, Array.getElem?_append_left (by simpa using hj)]
      subst h1
      simp [h2]; rfl
    · rcases List.mem_cons.1 hm with h1 | hm
      · injection h1 with h1 h2; subst h1; subst h2
        exact ⟨hlt, hh⟩
      · rcases List.mem_cons.1 hm with h1 | hm
        · injection h1 with h1 h2; subst h1; subst h2
          exact ⟨Nat.le_refl _, Nat.le_refl _, rfl, rfl, rfl, Nat.le_refl _, fun o ho => by rw [hh] at ho; injection ho with ho; exact ⟨_, _, ho.symm⟩, fun _ _ _ => rfl⟩
        · have h1 := hMb _ hm
          rw [hund h1]
          exact D.OfB.up (hM _ hm) (Nat.le_of_lt hlt)
theorem End.wrote {w₀ w₁ : World} {fn : Func} {T g kb kw : Nat} {xs ys : List Value} (hr : fn.results = #[]) (hb : E.look kb = some (blk g T xs)) (hx : xs = ys) (hw : E.look kw = some (wroteD T g w₁)) :
    End Cx.top w₀ n E (BP P fn (fun e w' => e = .returned (.tuple #[]) ∧ Wrote g T g w₁ w' ∧ w'.heap[g]? = some (.cells ys.toArray T (0, 0))) .normal) := fun a w _ hs => by
  subst hx
  show LeavesInM (FR none) 0 P fn a.tmps _ a.defers .returning w
  rw [show a.defers = [] from hs.defers]
  exact ⟨.tuple #[], by simp [results, hr], rfl, (hs.of kw _ hw).2, (hs.of kb _ hb).2⟩
end
end Go.Proofs.YtfjpipkcfbmdeaaDoor
namespace Go.Proofs.YtfjpipkcfbmdeaaDoor
open Go Go.RowKit
variable {κ : Cx}

section
variable {P : Program} {b : Frame} {a : Act} {k : List Item} {cs : List Frame} {w : World} {Q : Exit → Act → World → Prop} {F : Fence} {n : Nat}
theorem stepR_scope {c : Code} : step P (lone (b.atR a (.code (.scope c) :: k)) cs w) = .next (lone (b.atR a (.code c :: .inScope c :: k)) cs w) :=
  step_lone_go (by simp [stepG, stepG.exec, Frame.atR])
theorem stepR_inScope {c : Code} : step P (lone (b.atR a (.inScope c :: k)) cs w) = .next (lone (b.atR a k) cs w) :=
  step_lone_go (by simp [stepG, stepG.exec, Frame.atR])
theorem wpIn_scope {c : Code} (h : c.wpIn F n P (Exit.noGoto Q) a w) : (Code.scope c).wpIn F n P Q a w := by
  intro b k cs hro hb hr
  have h0 : (lone (b.atR a (.code (.scope c) :: k)) cs w).fenced P F := fenced_calm hb hr rfl
  obtain ⟨e, a₁, w₁, hq, harr⟩ := h b (.inScope c :: k) cs hro hb hr
  have hx : ∀ id, exitTo id (.inScope c :: k) = exitTo id k := fun id => by simp [exitTo]
  cases e with
  | normal => exact ⟨.normal, a₁, w₁, hq, .head h0 stepR_scope (StepsIn.trans harr (.one (fenced_calm hb hr rfl) stepR_inScope))⟩
  | exit id => exact ⟨.exit id, a₁, w₁, hq, fun k' hk => .head h0 stepR_scope (harr.1 k' (by rw [hx]; exact hk)),
      fun hr' hk => let ⟨k₁, h1, h2⟩ := harr.2 hr' (by rw [hx]; exact hk); ⟨k₁, h1, .head h0 stepR_scope h2⟩⟩
  | goto l => exact hq.elim
  | ret => exact ⟨_, a₁, w₁, hq, .of_steps (.one h0 stepR_scope) ⟨fun hr => let ⟨todo, hs⟩ := harr.1 hr; ⟨todo, hs⟩, fun hr => let ⟨k₁, hs⟩ := harr.2 hr; ⟨k₁, hs⟩⟩⟩
  | panic ch => exact ⟨_, a₁, w₁, hq, .of_steps (.one h0 stepR_scope) harr⟩
  | outgrown => exact ⟨_, a₁, w₁, hq, .of_steps (.one h0 stepR_scope) harr⟩
end
section
variable {P : Program} {w₀ : World} {n : Nat} {c : Code} {E : Env} {Q : Exit → Act → World → Prop}
theorem A.scope (h : A κ P w₀ n c E (Exit.noGoto Q)) : A κ P w₀ n (.scope c) E Q := fun a w g hs => wpIn_scope (h a w g hs)
theorem A.label {l : Nat} (h : End κ w₀ n E (Q .normal)) : A κ P w₀ n (.label l) E Q := fun a w g hs => wpIn_label (h a w g hs)
end

section
variable {P : Program} {n B : Nat} {ops : Array Oper} {E : Env} {dst : Option Tmp} {ty : TypeId} {pos : String} {after : Array Edge} {guard : Option (Nat × Bool)}
end

/-! ### Own rows that lie apart from a named block -/
section
variable {P : Program} {w₀ : World} {n : Nat} {c : Code} {E : Env} {Q : Exit → Act → World → Prop}
end
end Go.Proofs.YtfjpipkcfbmdeaaDoor
namespace Go.Proofs.YtfjpipkcfbmdeaaDoor
open Go Go.RowKit
variable {κ : Cx}

theorem SizeIs.get {P : Program} {T : TypeId} {m : Nat} (h : SizeIs P T m) : ∃ i, P.info? T = some i ∧ i.size = m := by
  unfold SizeIs at h
  cases hi : P.info? T with
  | none => rw [hi] at h; cases h
  | some i => rw [hi] at h; exact ⟨i, rfl, by simpa using h⟩
section
variable {P : Program} {n B : Nat} {ops : Array Oper} {E : Env} {dst : Option Tmp} {ty : TypeId} {pos : String} {after : Array Edge} {guard : Option (Nat × Bool)}
/-- The address of an element of several cells, in an array behind a pointer. -/
theorem ok_indexN {t e : TypeId} {len sz : Nat} {x i : Operand} {b o : Nat} {k : IntKind} {j : Int} (m : Nat) (ht : P.underlying t = some (.array len e)) (hs : SizeIs P e sz) (hx : E.at x = some (.v (.pointer (some ⟨b, o, none⟩)))) (hi : E.at i = some (.v (.int k j)))
    (h0 : j = (m : Int)) (hn : m < len) : OpOk P B ⟨dst, .indexAddr t x i, ty, pos, after, guard⟩ E (.v (.pointer (some ⟨b, o + m * sz, none⟩))) := fun ρ w _ _ hρ => by
  have h1 : ρ x = _ := hρ x (by simp [Op.operands]) _ hx
  have hi' : ρ i = .int k j := hρ i (by simp [Op.operands]) _ hi
  obtain ⟨info, hinfo, hsize⟩ := hs.get
  refine out_val (w' := w) ?_ ⟨Grow.refl w, rfl⟩
  subst h0
  have hadd : (⟨b, o, none⟩ : Addr).add (m * sz) = ⟨b, o + m * sz, none⟩ := add_lit0 _ _ _
  simp [execOp, h1, hi', Instr.indexAt, Instr.sureAddr, asIntOf, run_underlying ht, sizeOf, typeInfo, hinfo, hsize, hadd]
  intro hle
  omega
/-- Called without arguments, the function value u takes block g's cells from xs to ys. -/
def Does (P : Program) (T g : Nat) (u : Value) (xs ys : List Value) : Prop := ∃ (f : FuncId) (vs : List Value), u = .func (.func f) vs.toArray #[] ∧ FnW P f [] T g xs ys (vs.map D.v)
theorem FnW.does {f : FuncId} {T g : Nat} {xs ys vs : List Value} (h : FnW P f [] T g xs ys (vs.map D.v)) : Does P T g (.func (.func f) vs.toArray #[]) xs ys := ⟨f, vs, rfl, h⟩
/-- A call of a function value that holds what us lists, and reads memory. -/
theorem ok_callVM {f : FuncId} {M : Env} {x : Operand} {us : List Value} {args : Array Operand} {argTypes : Array TypeId} {ds : List D} {d : D} (hf : FnM P f M (ds ++ us.map D.v) d) (hM : Sub M E) (hMb : ∀ p ∈ M, vbase ≤ p.1)
    (hx : E.at x = some (.v (.func (.func f) #[] us.toArray))) (ha : Args E ds args.toList) :
    OpOk P B ⟨dst, .call { callee := .value x, args := args, argTypes := argTypes }, ty, pos, after, guard⟩ E d := fun ρ w _ hv hρ => by
  obtain ⟨fn, h1, h2, h3⟩ := hf.body
  have hfun : ρ x = .func (.func f) #[] us.toArray := hρ x (by simp [Op.operands, Call.operands]) _ hx
  have hrun : (execOp ρ ⟨dst, .call { callee := .value x, args := args, argTypes := argTypes }, ty, pos, after, guard⟩).run P w = .ok (.enter f (args.map ρ ++ us.toArray)) w := by
    have h2' : ¬ fn.name = "runtime.NumGoroutine" := by simpa using h2
    have h3' : ¬ fn.body = none := by intro h; rw [h] at h3; cases h3
    simp [execOp, resolve, Deferred.ofValue, hfun, invoke, callFunc, h1, h2', h3']
  unfold Out
  rw [hrun]
  have := hf.calls (args.toList.map ρ ++ us) w (fun p hp => hv p.1 p.2 (hMb p hp) (hM p hp)) (by rw [List.length_append, List.length_append, List.length_map, List.length_map, ha.length]) fun j e u he hu => by
    rcases Nat.lt_or_ge j ds.length with hj | hj
    · rw [List.getElem?_append_left hj] at he
      rw [List.getElem?_append_left (by rw [List.length_map, ← ha.length]; exact hj), List.getElem?_map] at hu
      cases hx : args.toList[j]? with
      | none => rw [hx] at hu; cases hu
      | some x =>
        rw [hx] at hu; injection hu with hu; subst hu
        obtain ⟨e', h4, h5⟩ := ha.nth he hx
        exact h5.of (hρ x (by simp [Op.operands, Call.operands]; exact .inr (by simpa using List.mem_of_getElem? hx)) _ h4)
    · rw [List.getElem?_append_right hj, List.getElem?_map] at he
      rw [List.getElem?_append_right (by rw [List.length_map, ← ha.length]; exact hj), List.length_map, ← ha.length] at hu
      rw [hu] at he
      injection he with he; subst he; rfl
  have harr : (args.toList.map ρ ++ us).toArray = args.map ρ ++ us.toArray := by apply Array.ext'; simp
  rw [harr] at this
  exact this.mono fun e w' ⟨x, he, g, hx⟩ => ⟨x, he, g, hx⟩
end
section
variable {P : Program} {w₀ : World} {n : Nat} {c : Code} {E : Env} {Q : Exit → Act → World → Prop}
end

/-! ### Variables of a function that writes one block -/
/-! ### Equality of arrays of arrays -/
section
variable {P : Program} {B : Nat} {E : Env} {dst : Option Tmp} {ty : TypeId} {pos : String} {after : Array Edge} {guard : Option (Nat × Bool)}
end
end Go.Proofs.YtfjpipkcfbmdeaaDoor
namespace Go.Proofs.YtfjpipkcfbmdeaaDoor
open Go Go.RowKit
variable {κ : Cx}

/-- A contract: block g, whose cells are xs, is left with the cells ys, and u is returned; M tells of other memory. -/
structure FnWR (P : Program) (f : FuncId) (M : Env) (T g : Nat) (xs ys : List Value) (ds : List D) (u : Value) : Prop where
  body : ∃ fn, P.funcs[f]? = some fn ∧ (fn.name == "runtime.NumGoroutine") = false ∧ fn.body.isNone = false
  calls : ∀ (vs : List Value) (w : World), vs.length = ds.length → (∀ (j : Nat) (e : D) (u : Value), ds[j]? = some e → vs[j]? = some u → e.Of w u) → (∀ p ∈ M, p.2.Of w undef) → g < w.heap.size → w.heap[g]? = some (.cells xs.toArray T (0, 0)) →
    Calls P f vs.toArray w fun e w' => e = .returned u ∧ Wrote g T g w w' ∧ w'.heap[g]? = some (.cells ys.toArray T (0, 0))
section
variable {P : Program} {n B : Nat} {ops : Array Oper} {E : Env} {ty : TypeId} {pos : String} {after : Array Edge}
theorem FnWR.of {f : FuncId} {fn : Func} {c : Code} {M : Env} {T g kb kw : Nat} {xs ys us : List Value} {u : Value} (hf : P.funcs[f]? = some fn) (hb : fn.body = some c) (hname : (fn.name == "runtime.NumGoroutine") = false) (hn : fn.ntmps = n) (hds : us.length ≤ n) (hnv : n ≤ vbase)
    (hMb : ∀ p ∈ M, vbase ≤ p.1) (hkb : vbase ≤ kb) (hkw : vbase ≤ kw) (args : Env) (hargs : ∀ p ∈ args, ∃ v, p.2 = .v v ∧ us[p.1]? = some v)
    (h : ∀ w₀ w₁ : World, w₀.heap.size = g → A Cx.top P w₀ n c (args ++ ((kb, blk g T xs) :: (kw, wroteD T g w₁) :: M)) (BP P fn fun e w' => e = .returned u ∧ Wrote g T g w₁ w' ∧ w'.heap[g]? = some (.cells ys.toArray T (0, 0)))) :
    FnWR P f M T g xs ys (us.map D.v) u := by
  refine ⟨⟨fn, hf, hname, by rw [hb]; rfl⟩, fun vs w hl hv hM hlt hh => ?_⟩
  have hvs : vs = us := by
    apply List.ext_getElem?
    intro j
    simp only [List.length_map] at hl
    rcases Nat.lt_or_ge j us.length with hj | hj
    · have h1 := hv j (.v us[j]) vs[j] (by simp [hj]) (List.getElem?_eq_getElem (by omega))
      rw [List.getElem?_eq_getElem hj, List.getElem?_eq_getElem (by omega)]
      exact congrArg some h1
    · rw [List.getElem?_eq_none hj, List.getElem?_eq_none (by omega)]
  subst hvs
  have hsz := cutW_size (w := w) (g := g) (Nat.le_of_lt hlt)
  refine callsIn_FR.1 (callsIn_of_wp_marks (F := FR none) (n := 0) hf hb trivial (h (cutW w g) w hsz _ w (cutW_below (Nat.le_of_lt hlt)) ⟨by rw [hsz]; omega, rfl, ?_, fun t e he => ?_⟩))
  · simp [hn]; omega
  · show e.Of w ((vs.toArray ++ Array.replicate (fn.ntmps - vs.toArray.size) undef).getD t undef)
    have hund : vbase ≤ t → (vs.toArray ++ Array.replicate (fn.ntmps - vs.toArray.size) undef).getD t undef = undef := fun ht => by
      rw [Array.getD_eq_getD_getElem?, Array.getElem?_eq_none (by simp [hn]; omega)]; rfl
    rcases List.mem_append.1 (look_mem he) with hm | hm
    · obtain ⟨v, h1, h2⟩ := hargs _ hm
      simp only at h1 h2
      have hj : t < vs.length := (List.getElem?_eq_some_iff.1 h2).1
      rw [Array.getD_eq_getD_getElem?, Array.getElem?_append_left (by simpa using hj)]
      subst h1
      simp [h2]; rfl
    · rcases List.mem_cons.1 hm with h1 | hm
      · injection h1 with h1 h2; subst h1; subst h2
        exact ⟨hlt, hh⟩
      · rcases List.mem_cons.1 hm with h1 | hm
        · injection h1 with h1 h2; subst h1; subst h2
          exact ⟨Nat.le_refl _, Nat.le_refl _, rfl, rfl, rfl, Nat.le_refl _, fun o ho => by rw [hh] at ho; injection ho with ho; exact ⟨_, _, ho.symm⟩, fun _ _ _ => rfl⟩
        · have h1 := hMb _ hm
          rw [hund h1]
          exact hM _ hm
end

/-! ### Function values that hold two variables of several cells -/
section
variable {P : Program} {n : Nat} {w₀ : World} {E : Env}
/-- A slice that came in gets a name: of its value something is known in memory. -/
def valM (v : Value) (d : D) : D := .p (fun B w _ => d.OfB B w v) (fun _ _ _ _ g h => h.keep g) (fun _ _ _ _ g h => h.up g)
end
section
variable {P : Program} {B : Nat} {E : Env} {dst : Option Tmp} {ty : TypeId} {pos : String} {after : Array Edge} {guard : Option (Nat × Bool)}
/-- What a value means in memory that is known. -/
theorem OpOk.fact {o : Oper} {v : Value} {d : D} {s b : Nat} {e : TypeId} {xs : List Value} (h : OpOk P B o E (.v v)) (hs : vbase ≤ s) (hk : E.look s = some (blk b e xs)) (hd : ∀ B w, b < B → w.heap[b]? = some (.cells xs.toArray e (0, 0)) → d.OfB B w v) : OpOk P B o E d := fun ρ w hB hv hρ => by
  refine (h ρ w hB hv hρ).mono fun x w' hx => ⟨hx.1, ?_⟩
  obtain ⟨h1, h2⟩ := (hv s _ hs hk : (blk b e xs).Of w undef)
  have h3 : (blk b e xs).Of w' undef := D.Of.grow (d := blk b e xs) ⟨h1, h2⟩ hx.1
  obtain ⟨h4, h5⟩ := h3
  rw [show x = v from hx.2]
  exact hd _ _ h4 h5
theorem slice_byt {b o n c : Nat} {e : TypeId} {xs : List Value} (l : List UInt8) (hn : n = l.length) (hc : n ≤ c) (hm : c ≤ maxLen) (hl : (xs.drop o).take n = l.map byteV) (B : Nat) (w : World) (hb : b < B) (hh : w.heap[b]? = some (.cells xs.toArray e (0, 0))) : (byt l).OfB B w (.slice (some ⟨b, o, none⟩) n c) := by
  subst hn
  refine ⟨c, bytes_mk hc hm fun j u hu => ?_⟩
  rw [← hl, List.getElem?_take] at hu
  split at hu
  · rw [List.getElem?_drop] at hu
    refine ⟨_, rfl, hb, ?_⟩
    rw [add_lit0]
    simp [World.cell?, hh, hu]
  · cases hu
/-- append to a slice of bytes that has no room: a new row of the call's own. -/
theorem ok_appendFull {t e : TypeId} {z : Value} {nb : Nat} {r x : Operand} {f g : D} {l m : List UInt8} (ht : P.underlying t = some (.slice e)) (hinfo : InfoIs P e z nb) (hnb : nb ≤ 64) (hz1 : z.cells.size = 1)
    (hr : E.at r = some g) (hg : Le g (bytes l l.length)) (hx : E.at x = some f) (hf : Le f (byt m)) (hl : 0 < l.length) (hpos : 0 < m.length) (hk : l.length + m.length ≤ 1099511627776) :
    OpOk P B ⟨dst, .call { callee := .builtin .append, args := #[r, x], argTypes := #[t, t] }, ty, pos, after, guard⟩ E (own B e (l.length + m.length) ((l ++ m).map byteV)) := fun ρ w hB hv hρ => by
  obtain ⟨i, hi, hz, hs, hby⟩ := hinfo.get
  obtain ⟨A1, hre, _, hlm, hrow1⟩ := bytes_open (l := l) (hg.of (hρ r (by simp [Op.operands, Call.operands]) _ hr))
  obtain ⟨c, hb⟩ := hf.of (hρ x (by simp [Op.operands, Call.operands]) _ hx)
  obtain ⟨A2, hxe, hle, hcm, hrow⟩ := bytes_open (l := m) hb
  have h1 : ∃ a1, A1 = some a1 := by
    cases l with
    | nil => simp at hl
    | cons b l => obtain ⟨ad, h, _⟩ := hrow1 0 (byteV b) rfl; exact ⟨ad, h⟩
  have h2 : ∃ a2, A2 = some a2 := by
    cases m with
    | nil => simp at hpos
    | cons b l => obtain ⟨ad, h, _⟩ := hrow 0 (byteV b) rfl; exact ⟨ad, h⟩
  obtain ⟨a1, rfl⟩ := h1
  obtain ⟨a2, rfl⟩ := h2
  have hbb : (l.length + m.length) * i.bytes ≤ (l.length + m.length) * 64 := Nat.mul_le_mul_left _ (by omega)
  obtain ⟨v', w', h2, h3, h4⟩ := run_append_arg_grows (P := P) w t ty e i z 1 i.bytes ht hi hz hs rfl hz1 (by omega) a1 l.length l.length (l.map byteV) (by simp) hrow1.cell a2 m.length c (m.map byteV) (by simp) hrow.cell (by omega) (by simp only [maxLen]; omega) (by omega)
  refine out_val (x := v') (w' := w') (by simp [execOp, resolve, invoke, builtin, hre, hxe, h2]) ⟨(Below.refl w.heap.size w).grown h4 (Nat.le_refl _) (fun g hg => by cases hg), ?_⟩
  rw [List.map_append]
  refine ⟨⟨h3.1, h3.2.imp id ?_⟩, fun g hg => ?_⟩
  · rintro ⟨g, cap, cur, h5, h6, h7⟩; exact ⟨g, cap, cur, h5, by omega, h7⟩
  · rcases h3.2 with ⟨hv', _⟩ | ⟨g', cap, cur, hv', _, hh', _⟩
    · rw [hv'] at hg; simp [Value.ownBlock] at hg
    · rw [hv'] at hg; simp [Value.ownBlock] at hg; subst hg
      rcases Nat.lt_or_ge g' w'.heap.size with h | h
      · exact h
      · rw [Array.getElem?_eq_none h] at hh'; cases hh'
end
end Go.Proofs.YtfjpipkcfbmdeaaDoor
namespace Go.Proofs.YtfjpipkcfbmdeaaDoor
open Go Go.RowKit
section
variable {P : Program} {B : Nat} {E : Env} {dst : Option Tmp} {ty : TypeId} {pos : String} {after : Array Edge} {guard : Option (Nat × Bool)}
end
end Go.Proofs.YtfjpipkcfbmdeaaDoor
namespace Go.Proofs.YtfjpipkcfbmdeaaDoor
open Go Go.RowKit
section
variable {P : Program} {n B : Nat} {ops : Array Oper} {C : Env → Prop} {κ : Cx} {Q : Exit → Act → World → Prop}
/-- What is to be shown from here on, in every order. -/
def AnyT (P : Program) (n B : Nat) (ops : Array Oper) (C : Env → Prop) : Nat → Array Bool → Env → Prop
  | 0, listed, E => Region.ready .any ops listed = [] ∧ C E
  | fuel + 1, listed, E => (Region.ready .any ops listed = [] ∧ C E) ∨ (Region.ready .any ops listed ≠ [] ∧ ∀ i ∈ Region.ready .any ops listed, ∃ o, ops[i]? = some o ∧ ∃ (ι : Type) (G : ι → Prop) (E₂ : ι → Env), EffG P n B ops o E G E₂ ∧ ∀ j, G j → AnyT P n B ops C fuel (listed.setIfInBounds i true) (E₂ j))
/-- One operation after the other. -/
def NextT (P : Program) (n B : Nat) (ops : Array Oper) (C : Env → Prop) (fuel : Nat) (listed : Array Bool) (E : Env) : List Nat → Prop
  | [] => True
  | i :: r => (∃ o, ops[i]? = some o ∧ ∃ (ι : Type) (G : ι → Prop) (E₂ : ι → Env), EffG P n B ops o E G E₂ ∧ ∀ j, G j → AnyT P n B ops C fuel (listed.setIfInBounds i true) (E₂ j)) ∧ NextT P n B ops C fuel listed E r
theorem NextT.all {fuel : Nat} {listed : Array Bool} {E : Env} : ∀ {is : List Nat}, NextT P n B ops C fuel listed E is → ∀ i ∈ is, ∃ o, ops[i]? = some o ∧ ∃ (ι : Type) (G : ι → Prop) (E₂ : ι → Env), EffG P n B ops o E G E₂ ∧ ∀ j, G j → AnyT P n B ops C fuel (listed.setIfInBounds i true) (E₂ j)
  | [], _, i, hi => by cases hi
  | k :: r, h, i, hi => by
    rcases List.mem_cons.1 hi with rfl | hi
    · exact h.1
    · exact NextT.all h.2 i hi
theorem AnyT.last {fuel : Nat} {listed : Array Bool} {E : Env} (hr : Region.ready .any ops listed = []) (hC : C E) : AnyT P n B ops C fuel listed E := by
  cases fuel with
  | zero => exact ⟨hr, hC⟩
  | succ fuel => exact .inl ⟨hr, hC⟩
theorem AnyT.step {fuel : Nat} {listed : Array Bool} {E : Env} (i : Nat) (is : List Nat) (hr : Region.ready .any ops listed = i :: is) (h : NextT P n B ops C fuel listed E (i :: is)) : AnyT P n B ops C (fuel + 1) listed E :=
  .inr ⟨by rw [hr]; simp, by rw [hr]; exact h.all⟩
theorem OpOk.asV {o : Oper} {E : Env} (x : Value) {y : Value} (h : y = x) (hok : OpOk P B o E (.v y)) : OpOk P B o E (.v x) := h ▸ hok
/-- An operation that changes nothing. -/
theorem NextT.pure {fuel : Nat} {listed : Array Bool} {E : Env} {i t : Nat} {d : D} {o : Oper} {r : List Nat} (hf : fits n ops = true) (ho : ops[i]? = some o) (ht : o.dst = some t) (hg : o.guard = none) (hok : OpOk P B o E d) (h : AnyT P n B ops C fuel (listed.setIfInBounds i true) ((t, d) :: E)) (hr : NextT P n B ops C fuel listed E r) :
    NextT P n B ops C fuel listed E (i :: r) := by
  refine ⟨⟨o, ho, Unit, fun _ => True, fun _ => (t, d) :: E, fun κ a w K Q hs hK => ?_, fun _ _ => h⟩, hr⟩
  have hfo := fits_mem hf (o := o) (by simpa using Array.mem_of_getElem? ho)
  exact good_wp hs.base (hs.virt (fits_base hf)) ht (.inl ⟨by simp [GuardIs, hg], hok⟩) (fun s e _ he => hs.of s e he) (fun s hs' => by rw [hs.size]; exact hfo.1 s hs') fun x w' g hx => hK () _ _ trivial (Below.mono g hs.base) ((hs.grow g).put (hfo.2 t ht) hx)
/-- An operation that changes memory. -/
theorem NextT.eff {fuel : Nat} {listed : Array Bool} {E E' : Env} {i : Nat} {o : Oper} {r : List Nat} (ho : ops[i]? = some o) (he : Eff P n B ops o E E') (h : AnyT P n B ops C fuel (listed.setIfInBounds i true) E') (hr : NextT P n B ops C fuel listed E r) :
    NextT P n B ops C fuel listed E (i :: r) := ⟨⟨o, ho, Unit, fun _ => True, fun _ => E', he.g, fun _ _ => h⟩, hr⟩
theorem wp_anyE : ∀ {fuel : Nat} {listed : Array Bool} {E : Env} {a : Act} {w : World}, AnyT P n B ops C fuel listed E → St κ n B E a w → (∀ E' a' w', C E' → Below B w w' → St κ n B E' a' w' → Q .normal a' w') → wpAnyIn (FR κ.rd) 0 P .any ops Q fuel listed a w
  | 0, _, _, _, w, ⟨hr, hC⟩, hs, hQ => ⟨hr, hQ _ _ _ hC (Below.refl B w) hs⟩
  | fuel + 1, _, _, _, w, .inl ⟨hr, hC⟩, hs, hQ => ⟨fun _ => hQ _ _ _ hC (Below.refl B w) hs, fun i hi => by rw [hr] at hi; cases hi⟩
  | fuel + 1, _, _, _, w, .inr ⟨hne, h⟩, hs, hQ => ⟨fun hr => absurd hr hne, fun i hi => by
    obtain ⟨o, ho, ι, G, E₂, he, hn⟩ := h i hi
    exact wpOpR_step ho fun K hK => he κ _ _ K Q hs fun j a' w' hj g' h' => hK _ _ (wp_anyE (hn j hj) h' fun E' a3 w3 hC g3 h3 => hQ E' a3 w3 hC (g'.trans g3) h3)⟩
end
end Go.Proofs.YtfjpipkcfbmdeaaDoor
namespace Go.Proofs.YtfjpipkcfbmdeaaDoor
open Go Go.RowKit
variable {κ : Cx}

/-! ### Slices of values that are known -/
def vlist (us : List Value) (c : Nat) : D := list (us.map D.v) c
def vlst (us : List Value) : D := lst (us.map D.v)
theorem le_vlst (us : List Value) (c : Nat) : Le (vlist us c) (vlst us) := le_lst _ c
theorem vlist_mk {us : List Value} {c B : Nat} {w : World} {A : Option Addr} (h1 : us.length ≤ c) (h2 : c ≤ maxLen) (h : RowIn B w A us) : (vlist us c).OfB B w (.slice A us.length c) :=
  ⟨A, us, by simp, by simpa using h1, h2, by simp, h, fun j d u hd hu => by
    simp only [List.getElem?_map, hu, Option.map_some, Option.some.injEq] at hd
    subst hd; rfl⟩
/-! ### Structs whose first field is told by a fact -/
def hdD (f : D) (rest : List Value) : D :=
  .p (fun B w x => ∃ v : Value, v.oneCell' = true ∧ x = aggV (v :: rest) ∧ f.OfB B w v) (fun _ _ _ _ g ⟨v, h1, h2, h3⟩ => ⟨v, h1, h2, h3.keep g⟩) (fun _ _ _ _ g ⟨v, h1, h2, h3⟩ => ⟨v, h1, h2, h3.up g⟩)
section
variable {P : Program} {w₀ : World} {n : Nat} {c : Code} {E : Env} {Q : Exit → Act → World → Prop}
end
section
variable {P : Program} {B : Nat} {E : Env} {o : Oper}
variable {dst : Option Tmp} {ty : TypeId} {pos : String} {after : Array Edge} {guard : Option (Nat × Bool)}
theorem ok_extractV {x : Operand} {i : Nat} {xs : List Value} {u : Value} (hx : E.at x = some (.v (.tuple xs.toArray))) (hi : xs[i]? = some u) : OpOk P B ⟨dst, .extract x i, ty, pos, after, guard⟩ E (.v u) := fun ρ w _ _ hρ => by
  have h1 : ρ x = .tuple xs.toArray := hρ x (by simp [Op.operands]) _ hx
  exact out_val (x := u) (w' := w) (by simp [execOp, h1, Instr.extract, hi]) ⟨Grow.refl w, rfl⟩
end

/-! ### New blocks, named where they are made -/
def newD (base : Nat) (e : TypeId) (val : Nat → Value) (xs : List Value) : D :=
  .p (fun B w x => ∃ b, x = val b ∧ base ≤ b ∧ b < B ∧ w.heap[b]? = some (.cells xs.toArray e (0, 0)))
    (fun _ _ _ _ g ⟨b, h1, h2, h3, h4⟩ => ⟨b, h1, h2, h3, (g.block b h3).trans h4⟩) (fun _ _ _ _ g ⟨b, h1, h2, h3, h4⟩ => ⟨b, h1, h2, by omega, h4⟩)
theorem newD_mono {e : TypeId} {val : Nat → Value} {xs : List Value} (B B' : Nat) (h : B ≤ B') : Le (newD B' e val xs) (newD B e val xs) := fun _ _ _ ⟨b, h1, h2, h3, h4⟩ => ⟨b, h1, by omega, h3, h4⟩
theorem fresh_newD {B : Nat} {e : TypeId} {xs : List Value} {n : Nat} : Le (fresh B e xs n) (newD B e (fun b => .slice (some ⟨b, 0, none⟩) n xs.length) xs) := fun _ _ _ ⟨b, h1, h2, h3, h4⟩ => ⟨b, h1, h2, h3, h4⟩
theorem eff_name {P : Program} {n B : Nat} {ops : Array Oper} {E : Env} {o : Oper} {d k : Nat} {e : TypeId} {val : Nat → Value} {xs : List Value} (ht : o.dst = some d) (hg : o.guard = none) (hok : ∀ B', OpOk P B' o E (newD B' e val xs)) (hdn : d < n) (hnv : n ≤ vbase) :
    EffG P n B ops o E (NewB B E) (fun b => (d, .v (val b)) :: (k, blk b e xs) :: E) := by
  intro κ a w K Q h hK
  rw [if_pos (by simp [Region.wanted, hg])]
  refine wp_of_out ht ((hok w.heap.size a.eval w (Nat.le_refl _) (h.virt hnv) fun x _ u hu => h.at_ x _ hu).mono ?_)
  rintro x w' ⟨hgr, b, rfl, hb, hlt, hh⟩
  refine hK b _ _ ⟨Nat.le_trans h.base hb, fun s b' e ys hs => Nat.lt_of_lt_of_le (h.of s _ hs).1 hb⟩ (Below.mono hgr h.base) (St.put ?_ hdn rfl)
  exact (h.grow hgr).push (t := k) (d := blk b e xs) ⟨hlt, hh⟩
theorem eff_nameF {P : Program} {n B : Nat} {ops : Array Oper} {E : Env} {o : Oper} {d k m : Nat} {e : TypeId} {xs : List Value} {c : Nat} (hc : xs.length = c) (ht : o.dst = some d) (hg : o.guard = none) (hok : ∀ B', OpOk P B' o E (fresh B' e xs m)) (hdn : d < n) (hnv : n ≤ vbase) :
    EffG P n B ops o E (NewB B E) (fun b => (d, .v (.slice (some ⟨b, 0, none⟩) m c)) :: (k, blk b e xs) :: E) := hc ▸ eff_name ht hg (fun B' => (hok B').le fresh_newD) hdn hnv

/-! ### Ends -/
section
variable {P : Program} {n : Nat} {w₀ : World} {E : Env}
theorem load_cell {w : World} {b : Nat} {e T : TypeId} {td : TypeDesc} {xs : List Value} (ht : P.underlying T = some td) (hp : (match td with | .struct _ | .array _ _ => true | _ => false) = true) (hsz : SizeIs P T xs.length) (hh : w.heap[b]? = some (.cells xs.toArray e (0, 0))) :
    (loadVar T ⟨b, 0, none⟩).run P w = .ok (aggV xs) w := by
  have := run_loadVar_row (P := P) w b e T xs.toArray (0, 0) td hh ht hp (by simpa [SizeIs] using hsz)
  simpa [aggV] using this
theorem End.new1 {fn : Func} {r s b g kg : Nat} {T e' e : TypeId} {td : TypeDesc} {ys zs xs : List Value} {val : Nat → Value} (hr : fn.results = #[.cell r T]) (ht : P.underlying T = some td) (hp : (match td with | .struct _ | .array _ _ => true | _ => false) = true) (hsz : SizeIs P T ys.length)
    (h1 : E.look r = some (.v (.pointer (some ⟨b, 0, none⟩)))) (h2 : E.look s = some (blk b e' ys)) (h4 : E.look kg = some (blk g e zs)) (hg : w₀.heap.size ≤ g) (hv : val g = aggV ys) (hz : zs = xs) :
    End Cx.top w₀ n E (BP P fn (PostOf w₀ (newD w₀.heap.size e val xs)) .ret) := fun a w gr hs => by
  subst hz
  have h3 : a.tmps[r]?.getD undef = .pointer (some ⟨b, 0, none⟩) := by rw [← Array.getD_eq_getD_getElem?]; exact hs.of r _ h1
  obtain ⟨_, hh⟩ := hs.of s _ h2
  obtain ⟨hl', hh'⟩ := hs.of kg _ h4
  exact BP.ret hs.defers ⟨aggV ys, by simp [results, hr, h3, asAddr, load_cell ht hp hsz hh], _, rfl, gr, g, hv.symm, hg, hl', hh'⟩
theorem End.newT {fn : Func} {r s b g kg r' : Nat} {T e' e : TypeId} {td : TypeDesc} {ys zs xs : List Value} {v' : Value} {val : Nat → Value} (hr : fn.results = #[.cell r T, .tmp r']) (ht : P.underlying T = some td) (hp : (match td with | .struct _ | .array _ _ => true | _ => false) = true) (hsz : SizeIs P T ys.length)
    (h1 : E.look r = some (.v (.pointer (some ⟨b, 0, none⟩)))) (h2 : E.look s = some (blk b e' ys)) (h5 : E.look r' = some (.v v')) (h4 : E.look kg = some (blk g e zs)) (hg : w₀.heap.size ≤ g) (hv : val g = .tuple #[aggV ys, v']) (hz : zs = xs) :
    End Cx.top w₀ n E (BP P fn (PostOf w₀ (newD w₀.heap.size e val xs)) .ret) := fun a w gr hs => by
  subst hz
  have h3 : a.tmps[r]?.getD undef = .pointer (some ⟨b, 0, none⟩) := by rw [← Array.getD_eq_getD_getElem?]; exact hs.of r _ h1
  have h6 : a.tmps[r']?.getD undef = v' := by rw [← Array.getD_eq_getD_getElem?]; exact hs.of r' _ h5
  obtain ⟨_, hh⟩ := hs.of s _ h2
  obtain ⟨hl', hh'⟩ := hs.of kg _ h4
  exact BP.ret hs.defers ⟨.tuple #[aggV ys, v'], by simp [results, hr, h3, h6, asAddr, load_cell ht hp hsz hh], _, rfl, gr, g, hv.symm, hg, hl', hh'⟩
theorem End.cellV {fn : Func} {r s b r' : Nat} {T e' : TypeId} {td : TypeDesc} {ys : List Value} {v' : Value} (hr : fn.results = #[.cell r T, .tmp r']) (ht : P.underlying T = some td) (hp : (match td with | .struct _ | .array _ _ => true | _ => false) = true) (hsz : SizeIs P T ys.length)
    (h1 : E.look r = some (.v (.pointer (some ⟨b, 0, none⟩)))) (h2 : E.look s = some (blk b e' ys)) (h5 : E.look r' = some (.v v')) : End Cx.top w₀ n E (BP P fn (PostOf w₀ (.v (.tuple #[aggV ys, v']))) .ret) := fun a w gr hs => by
  have h3 : a.tmps[r]?.getD undef = .pointer (some ⟨b, 0, none⟩) := by rw [← Array.getD_eq_getD_getElem?]; exact hs.of r _ h1
  have h6 : a.tmps[r']?.getD undef = v' := by rw [← Array.getD_eq_getD_getElem?]; exact hs.of r' _ h5
  obtain ⟨_, hh⟩ := hs.of s _ h2
  exact BP.ret hs.defers ⟨.tuple #[aggV ys, v'], by simp [results, hr, h3, h6, asAddr, load_cell ht hp hsz hh], _, rfl, gr, rfl⟩
/-- A function value that holds one variable of several cells. -/
theorem End.newF {fn : Func} {r g kg : Nat} {e : TypeId} {zs xs : List Value} {v : Value} {val : Nat → Value} (hr : fn.results = #[.tmp r]) (h1 : E.look r = some (.v v)) (h4 : E.look kg = some (blk g e zs)) (hg : w₀.heap.size ≤ g) (hv : val g = v) (hz : zs = xs) :
    End Cx.top w₀ n E (BP P fn (PostOf w₀ (newD w₀.heap.size e val xs)) .ret) := fun a w gr hs => by
  subst hz
  obtain ⟨hl', hh'⟩ := hs.of kg _ h4
  exact BP.ret hs.defers ⟨a.tmps.getD r undef, by simp [results, hr], _, rfl, gr, g, by rw [hv]; exact hs.of r _ h1, hg, hl', hh'⟩
/-- Two values, both known. -/
theorem End.ret2V {fn : Func} {r s : Nat} {u v : Value} (hr : fn.results = #[.tmp r, .tmp s]) (h1 : E.look r = some (.v u)) (h2 : E.look s = some (.v v)) : End Cx.top w₀ n E (BP P fn (PostOf w₀ (.v (.tuple #[u, v]))) .ret) := fun a w gr hs => by
  have h3 : a.tmps[r]?.getD undef = u := by rw [← Array.getD_eq_getD_getElem?]; exact hs.of r _ h1
  have h4 : a.tmps[s]?.getD undef = v := by rw [← Array.getD_eq_getD_getElem?]; exact hs.of s _ h2
  exact BP.ret hs.defers ⟨.tuple #[u, v], by simp [results, hr, h3, h4], _, rfl, gr, rfl⟩
end

/-! ### copy, clear -/
section
variable {P : Program} {n B : Nat} {ops : Array Oper} {E : Env} {ty : TypeId} {pos : String} {after : Array Edge}
end
end Go.Proofs.YtfjpipkcfbmdeaaDoor
namespace Go.Proofs.YtfjpipkcfbmdeaaDoor
open Go Go.RowKit
variable {κ : Cx}
/-- The greatest of them. -/
def mx (cs : List Nat) : Nat := cs.foldl max 0
def nonceL (s c : Nat) : List UInt8 := be 4 s ++ be 8 c
theorem nonceL_length (s c : Nat) : (nonceL s c).length = 12 := by simp [nonceL, be_length]
section
variable {P : Program} {B : Nat} {E : Env} {dst : Option Tmp} {ty : TypeId} {pos : String} {after : Array Edge} {guard : Option (Nat × Bool)}
theorem ok_lenU {t e : TypeId} {x : Operand} {f : D} {us : List Value} (m : Nat) (ht : P.underlying t = some (.slice e)) (hx : E.at x = some f) (hf : Le f (vlst us)) (hm : us.length = m) :
    OpOk P B ⟨dst, .call { callee := .builtin .len, args := #[x], argTypes := #[t] }, ty, pos, after, guard⟩ E (.v (.int .i64 (m : Int))) := by
  have := ok_len (P := P) (B := B) (dst := dst) (ty := ty) (pos := pos) (after := after) (guard := guard) ht hx hf
  rwa [List.length_map, hm] at this
theorem ok_capU {t e : TypeId} {x : Operand} {f : D} {us : List Value} {c : Nat} (ht : P.underlying t = some (.slice e)) (hx : E.at x = some f) (hf : Le f (vlist us c)) :
    OpOk P B ⟨dst, .call { callee := .builtin .cap, args := #[x], argTypes := #[t] }, ty, pos, after, guard⟩ E (.v (.int .i64 (c : Int))) := ok_cap ht hx hf
theorem ok_indexU {t e : TypeId} {z : Value} {nb : Nat} {x i : Operand} {f : D} {us : List Value} {k : IntKind} {u : Value} (m : Nat) (ht : P.underlying t = some (.slice e)) (hs : InfoIs P e z nb) (hx : E.at x = some f) (hf : Le f (vlst us)) (hi : E.at i = some (.v (.int k (m : Int))))
    (hu : us[m]? = some u) : OpOk P B ⟨dst, .indexAddr t x i, ty, pos, after, guard⟩ E (elem (.v u)) :=
  ok_index ht hs hx hf hi (Int.natCast_nonneg _) (by rw [Int.toNat_natCast, List.getElem?_map, hu]; rfl)
/-- A literal of some fields. -/
def LitS (E : Env) : List (Nat × Value) → List (Nat × Operand) → Prop
  | [], [] => True
  | (i, u) :: us, (j, x) :: ps => i = j ∧ E.at x = some (.v u) ∧ LitS E us ps
  | _, _ => False
theorem LitS.map {ρ : Operand → Value} : ∀ {us : List (Nat × Value)} {ps : List (Nat × Operand)}, LitS E us ps → (∀ x, x ∈ ps.map (·.2) → ∀ v, E.at x = some (.v v) → ρ x = v) → ps.map (fun p => (p.1, ρ p.2)) = us
  | [], [], _, _ => rfl
  | [], _ :: _, h, _ => h.elim
  | _ :: _, [], h, _ => h.elim
  | (i, u) :: us, (j, x) :: ps, ⟨h1, h2, h3⟩, hρ => by
    subst h1
    simp only [List.map_cons, hρ x (by simp) u h2]
    rw [LitS.map h3 fun y hy v hv => hρ y (by simp only [List.map_cons, List.mem_cons]; exact .inr hy) v hv]
theorem ok_litS {t : TypeId} {ps : Array (Nat × Operand)} (us : List (Nat × Value)) (ys : List Value) (hl : LitS E us ps.toList) (hb : P.built t us = some ys.toArray) : OpOk P B ⟨dst, .build t ps, ty, pos, after, guard⟩ E (.v (aggV ys)) :=
  ok_lit us ys (fun _ hρ => hl.map hρ) hb
end
section
variable {P : Program} {n B : Nat} {ops : Array Oper} {E : Env} {ty : TypeId} {pos : String} {after : Array Edge}
end
end Go.Proofs.YtfjpipkcfbmdeaaDoor
namespace Go.Proofs.YtfjpipkcfbmdeaaDoor
open Go Go.RowKit
set_option linter.unusedVariables false
set_option maxRecDepth 20000

theorem info68 : InfoIs Tryd.prog 68 (.int .u32 0) 4 := by unfold InfoIs; kernel_rfl
theorem info28 : InfoIs Tryd.prog 28 (.int .u64 0) 8 := by unfold InfoIs; kernel_rfl
theorem info31 : InfoIs Tryd.prog 31 (.int .i64 0) 8 := by unfold InfoIs; kernel_rfl
theorem size70 : SizeIs Tryd.prog 70 2 := by unfold SizeIs; kernel_rfl
theorem field70_0 : FieldIs Tryd.prog 70 0 0 1 := by unfold FieldIs; kernel_rfl
theorem field70_1 : FieldIs Tryd.prog 70 1 1 1 := by unfold FieldIs; kernel_rfl

theorem ref8Put_fn (s c : Nat) (hs : s < 4294967296) (hc : c < 18446744073709551616) : Fn Tryd.prog 75 [.v (aggV ([nW s, nQ c]))] (byt (nonceL s c)) := by
 refine Fn.of Tryd.func75 rfl (by kernel_rfl) Tryd.ntmps75 (by simp) (fun w => [(0, .v (aggV ([nW s, nQ c])))]) (fun w => (Start.v rfl Start.nil)) fun w₀ => ?_
 refine GS ?_
 refine TN 0 ?_
 refine RN ?_
 refine ⟨_, _, eff_box (n := 10) (d := 1) (k := 1000001) rfl (by decide), fun b1 hb1 => ?_⟩
 have hBb1 := hb1.1
 refine TL ?_
 refine RA rfl ?_
 refine RN ?_
 refine GD ?_
 refine TL ?_
 refine RS (ok_field field70_0 (by decide) rfl) ?_
 refine RS (ok_loadV (s := 1000001) (by decide) Tryd.underlying68 rfl rfl rfl (rfl)) ?_
 refine RS (ok_call ((refPut32_fn ((s : Nat) : Int) (by omega) (by omega)).le (d' := bytes (be 4 s) 4) (Le.refl _)) (A1 rfl)) ?_
 refine RS (ok_field field70_1 (by decide) rfl) ?_
 refine RS (ok_loadV (s := 1000001) (by decide) Tryd.underlying28 rfl rfl rfl (rfl)) ?_
 refine RS (ok_call ((refPut64_fn ((c : Nat) : Int) (by omega) (by omega)).le (d' := bytes (be 8 c) 8) (Le.refl _)) (A1 rfl)) ?_
 refine RS (ok_appendFull (l := be 4 s) (m := be 8 c) Tryd.underlying91 info5 (by decide) rfl rfl (Le.eq (by rw [be_length])) rfl (le_byt _ _) (by rw [be_length]; decide) (by rw [be_length]; decide) (by rw [be_length, be_length]; decide)) ?_
 refine RA rfl ?_
 refine RN ?_
 refine A.ret ?_
 exact End.ret1 rfl rfl (own_byt (B := w₀.heap.size) (e := 5) (n := (be 4 s).length + (be 8 c).length) (l := nonceL s c) (by rw [nonceL_length, be_length, be_length]))
theorem Put_fn (s c : Nat) (hs : s < 4294967296) (hc : c < 18446744073709551616) : Fn Tryd.prog 66 [.v (aggV ([nW s, nQ c]))] (bytes (nonceL s c) 12) := by
 refine Fn.of Tryd.func66 rfl (by kernel_rfl) Tryd.ntmps66 (by simp) (fun w => [(0, .v (aggV ([nW s, nQ c])))]) (fun w => (Start.v rfl Start.nil)) fun w₀ => ?_
 refine GS ?_
 refine TN 0 ?_
 refine RN ?_
 refine ⟨_, _, eff_box (n := 11) (d := 1) (k := 1000001) rfl (by decide), fun b1 hb1 => ?_⟩
 have hBb1 := hb1.1
 refine TL ?_
 refine RA rfl ?_
 refine RN ?_
 refine GD ?_
 refine TL ?_
 refine RS (ok_field field70_0 (by decide) rfl) ?_
 refine RS (ok_loadV (s := 1000001) (by decide) Tryd.underlying68 rfl rfl rfl (rfl)) ?_
 refine RS (ok_call ((Put32_fn ((s : Nat) : Int) (by omega) (by omega)).le (d' := bytes (be 4 s) 4) (Le.refl _)) (A1 rfl)) ?_
 refine RS (ok_field field70_1 (by decide) rfl) ?_
 refine RS (ok_loadV (s := 1000001) (by decide) Tryd.underlying28 rfl rfl rfl (rfl)) ?_
 refine RS (ok_call ((Put64_fn ((c : Nat) : Int) (by omega) (by omega)).le (d' := bytes (be 8 c) 8) (Le.refl _)) (A1 rfl)) ?_
 refine RS (ok_build [bytes (be 4 s) 4, bytes (be 8 c) 8] Tryd.underlying108 info91 rfl (by decide) (by decide) rfl ⟨rfl, rfl, rfl, rfl, trivial⟩ (fun d hd w x h => by simp only [List.mem_cons, List.not_mem_nil, or_false] at hd; rcases hd with rfl | rfl <;> exact list_one h)) ?_
 refine RS ((ok_call (Join_fn [be 4 s, be 8 c] (by simp) (by simp [be_length])) (Args.cons rfl (list_lst2 (le_byt _ 4) (le_byt _ 8)) Args.nil)).le (d' := bytes (nonceL s c) 12) (Le.eq (by simp [be_length]; rfl))) ?_
 refine RA rfl ?_
 refine RN ?_
 refine A.ret ?_
 exact End.ret1 rfl rfl (by first | exact Le.refl _ | exact Le.old _ _)
end Go.Proofs.YtfjpipkcfbmdeaaDoor
namespace Go.Proofs.YtfjpipkcfbmdeaaDoor
open Go Go.RowKit
variable {κ : Cx}

theorem vL {k : Nat} (h : Nat.ble vbase k = true) : vbase ≤ k := Nat.le_of_ble_eq_true h
/-! ### Several blocks are written -/
/-- At most the blocks that gs names (each with its cells' type) have changed of what was there. -/
structure WroteL (gs : List (TypeId × Nat)) (w w' : World) : Prop where
  os : w'.os = w.os
  tape : w'.tape = w.tape
  output : w'.output = w.output
  size : w.heap.size ≤ w'.heap.size
  lt : ∀ p ∈ gs, p.2 < w.heap.size
  cel : ∀ p ∈ gs, ∀ o, w.heap[p.2]? = some o → ∃ cs fr, o = .cells cs p.1 fr
  other : ∀ k, k < w.heap.size → (∀ p ∈ gs, k ≠ p.2) → w'.heap[k]? = w.heap[k]?
theorem WroteL.refl {gs : List (TypeId × Nat)} {w : World} (h : ∀ p ∈ gs, p.2 < w.heap.size) (hc : ∀ p ∈ gs, ∀ o, w.heap[p.2]? = some o → ∃ cs fr, o = .cells cs p.1 fr) : WroteL gs w w :=
  ⟨rfl, rfl, rfl, Nat.le_refl _, h, hc, fun _ _ _ => rfl⟩
/-- A fact that survives a write of each of them survives that of all. -/
theorem WroteL.keep {B : Nat} {d : D} : ∀ {gs : List (TypeId × Nat)}, (∀ p ∈ gs, B ≤ p.2) → (∀ p ∈ gs, Surv B p.1 p.2 d) → ∀ {w w' : World} {x : Value}, WroteL gs w w' → d.Of w x → d.Of w' x
  | [], _, _, w, w', x, h, hx => D.Of.grow hx ⟨h.os, h.tape, h.output, h.size, fun k hk => h.other k hk (fun _ hp => by cases hp)⟩
  | p :: gs, hB, hs, w, w', x, h, hx => by
    have hlt := h.lt p List.mem_cons_self
    have hlt' : p.2 < w'.heap.size := Nat.lt_of_lt_of_le hlt h.size
    obtain ⟨wm, e1, e2, e3, e4, hat⟩ : ∃ wm : World, wm.os = w'.os ∧ wm.tape = w'.tape ∧ wm.output = w'.output ∧ wm.heap.size = w'.heap.size ∧ ∀ k, wm.heap[k]? = if k = p.2 then w.heap[k]? else w'.heap[k]? :=
      ⟨{ w' with heap := w'.heap.setIfInBounds p.2 w.heap[p.2] }, rfl, rfl, rfl, by simp, fun k => by
        show (w'.heap.setIfInBounds p.2 w.heap[p.2])[k]? = _
        split
        · rename_i hk; subst hk; simp [hlt', hlt]
        · rename_i hk; exact Array.getElem?_setIfInBounds_ne (fun e => hk e.symm)⟩
    have h1 : WroteL gs w wm := ⟨e1.trans h.os, e2.trans h.tape, e3.trans h.output, by rw [e4]; exact h.size, fun q hq => h.lt q (List.mem_cons_of_mem _ hq), fun q hq => h.cel q (List.mem_cons_of_mem _ hq), fun k hk hne => by
      rw [hat]
      split
      · rfl
      · rename_i hkp
        exact h.other k hk fun q hq => by
          rcases List.mem_cons.1 hq with rfl | hq
          · exact hkp
          · exact hne q hq⟩
    have h2 := WroteL.keep (fun q hq => hB q (List.mem_cons_of_mem _ hq)) (fun q hq => hs q (List.mem_cons_of_mem _ hq)) h1 hx
    refine hs p List.mem_cons_self wm w' x ⟨hB p List.mem_cons_self, e1.symm, e2.symm, e3.symm, Nat.le_of_eq e4, fun o ho => ?_, fun k hk hne => ?_⟩ h2
    · rw [hat, if_pos rfl] at ho
      exact h.cel p List.mem_cons_self o ho
    · rw [hat, if_neg hne]
theorem WroteL.below {gs : List (TypeId × Nat)} {B : Nat} {w w' : World} (h : WroteL gs w w') (hB : ∀ p ∈ gs, B ≤ p.2) (hw : B ≤ w.heap.size) : Below B w w' :=
  ⟨h.os, h.tape, h.output, h.size, fun k hk => h.other k (by omega) fun p hp => by have := hB p hp; omega⟩
theorem WroteL.trans {gs : List (TypeId × Nat)} {a b c : World} (h : WroteL gs a b) (k : WroteL gs b c) : WroteL gs a c :=
  ⟨k.os.trans h.os, k.tape.trans h.tape, k.output.trans h.output, Nat.le_trans h.size k.size, h.lt, h.cel, fun j hj hne => (k.other j (Nat.lt_of_lt_of_le hj h.size) hne).trans (h.other j hj hne)⟩
/-- Since the world w₁ nothing that was there has changed but the blocks that gs names. -/
def wroteL (gs : List (TypeId × Nat)) (w₁ : World) : D :=
  .p (fun B w _ => w₁.heap.size ≤ B ∧ WroteL gs w₁ w) (fun _ _ _ _ h ⟨h1, h2⟩ => ⟨h1, ⟨h.os.trans h2.os, h.tape.trans h2.tape, h.output.trans h2.output, Nat.le_trans h2.size h.size, h2.lt, h2.cel, fun k hk hne => (h.block k (Nat.lt_of_lt_of_le hk h1)).trans (h2.other k hk hne)⟩⟩)
    (fun _ _ _ _ h ⟨h1, h2⟩ => ⟨Nat.le_trans h1 h, h2⟩)
theorem Surv.wroteL {B T g : Nat} {gs : List (TypeId × Nat)} {w₁ : World} (hg : ∃ p ∈ gs, p.2 = g) : Surv B T g (wroteL gs w₁) := fun _ _ _ k ⟨h1, h2⟩ => by
  obtain ⟨p, hp, rfl⟩ := hg
  exact ⟨Nat.le_trans h1 k.size, ⟨k.os.trans h2.os, k.tape.trans h2.tape, k.output.trans h2.output, Nat.le_trans h2.size k.size, h2.lt, h2.cel, fun j hj hne => (k.other j (Nat.lt_of_lt_of_le hj h1) (hne p hp)).trans (h2.other j hj hne)⟩⟩
theorem Surv.wroteLN {B T b : Nat} {gs : List (TypeId × Nat)} {w₁ : World} (h : w₁.heap.size ≤ b) : Surv B T b (Go.Proofs.YtfjpipkcfbmdeaaDoor.wroteL gs w₁) := fun _ _ _ k ⟨h1, h2⟩ =>
  ⟨Nat.le_trans h1 k.size, ⟨k.os.trans h2.os, k.tape.trans h2.tape, k.output.trans h2.output, Nat.le_trans h2.size k.size, h2.lt, h2.cel, fun j hj hne => (k.other j (Nat.lt_of_lt_of_le hj h1) (by omega)).trans (h2.other j hj hne)⟩⟩
/-- What is left of the environment behind it. -/
def LeftL (B : Nat) (gs : List (TypeId × Nat)) (E' E : Env) : Prop := ∀ q ∈ E', E.look q.1 = some q.2 ∧ ∀ p ∈ gs, Surv B p.1 p.2 q.2
theorem LeftL.one {B T g : Nat} {E' E : Env} (h : LeftS B T g E' E) : LeftL B [(T, g)] E' E := fun q hq => ⟨(h q hq).1, fun p hp => by
  rcases List.mem_cons.1 hp with rfl | hp
  · exact (h q hq).2
  · cases hp⟩
theorem LeftL.cons {B T g : Nat} {gs : List (TypeId × Nat)} {E' E : Env} (h : LeftS B T g E' E) (hr : LeftL B gs E' E) : LeftL B ((T, g) :: gs) E' E := fun q hq => ⟨(h q hq).1, fun p hp => by
  rcases List.mem_cons.1 hp with rfl | hp
  · exact (h q hq).2
  · exact (hr q hq).2 p hp⟩
theorem LeftL.st {n B : Nat} {gs : List (TypeId × Nat)} {E E' : Env} {a : Act} {w w' : World} (hl : LeftL B gs E' E) (hB : ∀ p ∈ gs, B ≤ p.2) (h : St κ n B E a w) (k : WroteL gs w w') : St κ n B E' a w' :=
  ⟨Nat.le_trans h.base k.size, h.defers, h.size, fun t d hd => by
    obtain ⟨h1, h2⟩ := hl _ (look_mem hd)
    exact k.keep hB h2 (h.of t d h1)⟩

theorem look_append {E₁ E₂ : Env} {t : Nat} {d : D} (h : (E₁ ++ E₂).look t = some d) : E₁.look t = some d ∨ E₂.look t = some d := by
  induction E₁ with
  | nil => exact .inr h
  | cons p r ih =>
    obtain ⟨s, e⟩ := p
    by_cases hs : s = t
    · subst hs
      rw [List.cons_append, look_here] at h
      exact .inl (by rw [look_here]; exact h)
    · rw [List.cons_append, look_past _ _ hs] at h
      rw [look_past _ _ hs]
      exact ih h

/-- They are there, with cells of the types named. -/
def selfL (gs : List (TypeId × Nat)) : D :=
  .p (fun B w _ => ∀ p ∈ gs, p.2 < B ∧ ∃ cs fr, w.heap[p.2]? = some (.cells cs p.1 fr)) (fun _ _ _ _ g h p hp => ⟨(h p hp).1, by rw [g.block _ (h p hp).1]; exact (h p hp).2⟩) (fun _ _ _ _ g h p hp => ⟨Nat.lt_of_lt_of_le (h p hp).1 g, (h p hp).2⟩)
/-! ### Functions that do so -/
/-- A contract at base B: called with the values us where the memory's facts M hold, it returns u i, leaves the facts M' i, and changes of what was there at most what gs names; of i it is told G (over how much there was). -/
structure FnL (P : Program) (f : FuncId) (B : Nat) (gs : List (TypeId × Nat)) (us : List Value) (M : Env) (G : Nat → Nat → Prop) (u : Nat → Value) (M' : Nat → Env) : Prop where
  body : ∃ fn, P.funcs[f]? = some fn ∧ (fn.name == "runtime.NumGoroutine") = false ∧ fn.body.isNone = false
  calls : ∀ w : World, B ≤ w.heap.size → (∀ p ∈ M, p.2.Of w undef) → WroteL gs w w →
    Calls P f us.toArray w fun e w' => ∃ i, G w.heap.size i ∧ e = .returned (u i) ∧ WroteL gs w w' ∧ ∀ p ∈ M' i, p.2.Of w' undef
def PL (gs : List (TypeId × Nat)) (w₁ : World) (G : Nat → Nat → Prop) (u : Nat → Value) (M' : Nat → Env) : Ending → World → Prop :=
  fun e w' => ∃ i, G w₁.heap.size i ∧ e = .returned (u i) ∧ WroteL gs w₁ w' ∧ ∀ p ∈ M' i, p.2.Of w' undef
theorem FnL.of {P : Program} {n : Nat} {f : FuncId} {fn : Func} {c : Code} {B : Nat} {gs : List (TypeId × Nat)} {us : List Value} {M : Env} {G : Nat → Nat → Prop} {u : Nat → Value} {M' : Nat → Env} {kw ks : Nat}
    (hf : P.funcs[f]? = some fn) (hb : fn.body = some c) (hname : (fn.name == "runtime.NumGoroutine") = false) (hn : fn.ntmps = n) (hds : us.length ≤ n) (hnv : n ≤ vbase) (hMb : ∀ p ∈ M, vbase ≤ p.1) (hkw : vbase ≤ kw) (hks : vbase ≤ ks) (args : Env) (hargs : ∀ p ∈ args, ∃ v, p.2 = .v v ∧ us[p.1]? = some v)
    (h : ∀ w₀ w₁ : World, w₀.heap.size = B → B ≤ w₁.heap.size → A Cx.top P w₀ n c (args ++ ((kw, wroteL gs w₁) :: (ks, selfL gs) :: M)) (BP P fn (PL gs w₁ G u M'))) : FnL P f B gs us M G u M' := by
  refine ⟨⟨fn, hf, hname, by rw [hb]; rfl⟩, fun w hB hM hgs => ?_⟩
  have hsz := cutW_size (w := w) (g := B) hB
  refine callsIn_FR.1 (callsIn_of_wp_marks (F := FR none) (n := 0) hf hb trivial (h (cutW w B) w hsz hB _ w (cutW_below hB) ⟨by rw [hsz]; exact hB, rfl, ?_, fun t e he => ?_⟩))
  · simp [hn]; omega
  · show e.Of w ((us.toArray ++ Array.replicate (fn.ntmps - us.toArray.size) undef).getD t undef)
    have hund : vbase ≤ t → (us.toArray ++ Array.replicate (fn.ntmps - us.toArray.size) undef).getD t undef = undef := fun ht => by
      rw [Array.getD_eq_getD_getElem?, Array.getElem?_eq_none (by simp [hn]; omega)]; rfl
    rcases List.mem_append.1 (look_mem he) with hm | hm
    · obtain ⟨v, h1, h2⟩ := hargs _ hm
      simp only at h1 h2
      have hj : t < us.length := (List.getElem?_eq_some_iff.1 h2).1
      rw [Array.getD_eq_getD_getElem?, Array.getElem?_append_left (by simpa using hj)]
      subst h1
      simp [h2]; rfl
    · rcases List.mem_cons.1 hm with h1 | hm
      · injection h1 with h1 h2; subst h1; subst h2
        exact ⟨Nat.le_refl _, hgs⟩
      · rcases List.mem_cons.1 hm with h1 | hm
        · injection h1 with h1 h2; subst h1; subst h2
          exact fun p hp => ⟨hgs.lt p hp, by
            have h3 := Array.getElem?_eq_getElem (hgs.lt p hp)
            obtain ⟨cs, fr, h4⟩ := hgs.cel p hp _ h3
            exact ⟨cs, fr, by rw [h3, h4]⟩⟩
        · have h1 := hMb _ hm
          rw [hund h1]
          exact hM _ hm
section
variable {P : Program} {n B : Nat} {ops : Array Oper} {E : Env} {ty : TypeId} {pos : String} {after : Array Edge}
/-- The number of a new block in such a function. -/
def NewL (B : Nat) (E : Env) (b : Nat) : Prop := B ≤ b ∧ (∀ s b' e xs, E.look s = some (blk b' e xs) → b' < b) ∧ ∀ s gs w₁, E.look s = some (wroteL gs w₁) → w₁.heap.size ≤ b
theorem eff_nameL {o : Oper} {d k : Nat} {e : TypeId} {val : Nat → Value} {xs : List Value} (ht : o.dst = some d) (hg : o.guard = none) (hok : ∀ B', OpOk P B' o E (newD B' e val xs)) (hdn : d < n) (hnv : n ≤ vbase) :
    EffG P n B ops o E (NewL B E) (fun b => (d, .v (val b)) :: (k, blk b e xs) :: E) := by
  intro κ a w K Q h hK
  rw [if_pos (by simp [Region.wanted, hg])]
  refine wp_of_out ht ((hok w.heap.size a.eval w (Nat.le_refl _) (h.virt hnv) fun x _ u hu => h.at_ x _ hu).mono ?_)
  rintro x w' ⟨hgr, b, rfl, hb, hlt, hh⟩
  refine hK b _ _ ⟨Nat.le_trans h.base hb, fun s b' e ys hs => Nat.lt_of_lt_of_le (h.of s _ hs).1 hb, fun s gs w₁ hs => Nat.le_trans (h.of s _ hs).2.size hb⟩ (Below.mono hgr h.base) (St.put ?_ hdn rfl)
  exact (h.grow hgr).push (t := k) (d := blk b e xs) ⟨hlt, hh⟩
theorem subL_M {M : Env} (h : Sub M E) (hb : ∀ p ∈ M, vbase ≤ p.1) : ∀ p ∈ M, ∃ k, vbase ≤ k ∧ E.look k = some p.2 := fun p hp => ⟨p.1, hb p hp, h p hp⟩
theorem vbL_nil : ∀ p ∈ ([] : Env), vbase ≤ p.1 := fun _ h => by cases h
theorem vbL_cons {M : Env} {t : Nat} {d : D} (h : vbase ≤ t) (hr : ∀ p ∈ M, vbase ≤ p.1) : ∀ p ∈ (t, d) :: M, vbase ≤ p.1 := fun p hp => by
  rcases List.mem_cons.1 hp with rfl | hp
  · exact h
  · exact hr p hp
/-- The blocks are known by name. -/
def GsL (B : Nat) (gs : List (TypeId × Nat)) (E : Env) : Prop := ∀ p ∈ gs, B ≤ p.2 ∧ ∃ k xs, E.look k = some (blk p.2 p.1 xs)
theorem gsL_nil : GsL B [] E := fun _ h => by cases h
theorem gsL_cons {gs : List (TypeId × Nat)} {T : TypeId} {g k : Nat} {xs : List Value} (hB : B ≤ g) (hk : E.look k = some (blk g T xs)) (hr : GsL B gs E) : GsL B ((T, g) :: gs) E := fun p hp => by
  rcases List.mem_cons.1 hp with rfl | hp
  · exact ⟨hB, k, xs, hk⟩
  · exact hr p hp
theorem GsL.self {gs : List (TypeId × Nat)} (h : GsL B gs E) {a : Act} {w : World} (hs : St κ n B E a w) : WroteL gs w w :=
  WroteL.refl (fun p hp => by obtain ⟨_, k, xs, h4⟩ := h p hp; exact (hs.of k _ h4).1) fun p hp o ho => by
    obtain ⟨_, k, xs, h4⟩ := h p hp
    have h5 := (hs.of k _ h4).2
    rw [h5] at ho; injection ho with ho; exact ⟨_, _, ho.symm⟩
/-- A call of a function value that holds what us lists; it is called with vs. -/
theorem eff_callL {f : FuncId} {gs : List (TypeId × Nat)} {us vs : List Value} {M : Env} {G : Nat → Nat → Prop} {u : Nat → Value} {M' : Nat → Env} {dst : Nat} {x : Operand} {args : Array Operand} {argTypes : Array TypeId} {E' : Env}
    (hf : FnL P f B gs (vs ++ us) M G u M') (hx : E.at x = some (.v (.func (.func f) #[] us.toArray))) (ha : Args E (vs.map D.v) args.toList) (hM : ∀ p ∈ M, ∃ k, vbase ≤ k ∧ E.look k = some p.2) (hMb : ∀ i, ∀ p ∈ M' i, vbase ≤ p.1)
    (hgB : ∀ p ∈ gs, B ≤ p.2) (hgs : ∀ (κ : Cx) (a : Act) (w : World), St κ n B E a w → WroteL gs w w) (hn : n ≤ vbase) (hdst : dst < n) (hl : LeftL B gs E' E) :
    EffG P n B ops ⟨some dst, .call { callee := .value x, args := args, argTypes := argTypes }, ty, pos, after, none⟩ E (fun i => ∃ m, B ≤ m ∧ (∀ s b' e xs, E.look s = some (blk b' e xs) → b' < m) ∧ (∀ s gs w₁, E.look s = some (wroteL gs w₁) → w₁.heap.size ≤ m) ∧ G m i) (fun i => (dst, .v (u i)) :: (M' i ++ E')) := by
  intro κ a w K Q h hK
  obtain ⟨fn, h1, h2, h3⟩ := hf.body
  have hfun : a.eval x = .func (.func f) #[] us.toArray := h.at_ x _ hx
  have hrun : (execOp a.eval ⟨some dst, .call { callee := .value x, args := args, argTypes := argTypes }, ty, pos, after, none⟩).run P w = .ok (.enter f (args.map a.eval ++ us.toArray)) w := by
    have h2' : ¬ fn.name = "runtime.NumGoroutine" := by simpa using h2
    have h3' : ¬ fn.body = none := by intro h; rw [h] at h3; cases h3
    simp [execOp, resolve, Deferred.ofValue, hfun, invoke, callFunc, h1, h2', h3']
  have hund : ∀ k, vbase ≤ k → a.tmps.getD k undef = undef := fun k hk => by
    rw [Array.getD_eq_getD_getElem?, Array.getElem?_eq_none (by rw [h.size]; omega)]; rfl
  have hargs : args.toList.map a.eval = vs := by
    apply List.ext_getElem?
    intro j
    have hlen : args.toList.length = vs.length := by have := ha.length; simpa using this.symm
    rcases Nat.lt_or_ge j vs.length with hj | hj
    · have hxj : args.toList[j]? = some (args.toList[j]'(by omega)) := List.getElem?_eq_getElem (by omega)
      have he : (vs.map D.v)[j]? = some (.v vs[j]) := by simp [hj]
      obtain ⟨e', h4, h5⟩ := ha.nth he hxj
      have h6 : a.eval (args.toList[j]'(by omega)) = vs[j] := h5.of (h.at_ _ _ h4)
      rw [List.getElem?_map, hxj, Option.map_some, h6, List.getElem?_eq_getElem hj]
    · rw [List.getElem?_eq_none (by rw [List.length_map]; omega), List.getElem?_eq_none hj]
  have hcall := hf.calls w h.base (fun p hp => by
    obtain ⟨k, h4, h5⟩ := hM p hp
    have h6 := h.of k _ h5
    rwa [hund k h4] at h6) (hgs κ a w h)
  have harr : (vs ++ us).toArray = args.map a.eval ++ us.toArray := by
    apply Array.ext'
    rw [← hargs]; simp
  rw [harr] at hcall
  rw [if_pos (by simp [Region.wanted])]
  refine opR (by nofun) ?_
  unfold Oper.wp
  rw [hrun, Oper.upon_enter]
  refine Calls.mono hcall ?_
  rintro e w' ⟨i, hG, rfl, hw, hM'⟩
  have hst := hl.st hgB h hw
  refine hK i _ _ ⟨w.heap.size, h.base, fun s b' e ys hs => (h.of s _ hs).1, fun s gs w₁ hs => (h.of s _ hs).2.size, hG⟩ (hw.below hgB h.base) (St.put ⟨hst.base, hst.defers, hst.size, fun t d hd => ?_⟩ hdst rfl)
  rcases look_append hd with h4 | h4
  · have h5 := hM' _ (look_mem h4)
    have h6 : vbase ≤ t := hMb i _ (look_mem h4)
    rw [hund t h6]; exact h5
  · exact hst.of t d h4
/-- The same where nothing new is told: an effect. -/
theorem eff_callL1 {f : FuncId} {gs : List (TypeId × Nat)} {us vs : List Value} {M : Env} {G : Nat → Nat → Prop} {u : Value} {M' : Env} {dst : Nat} {x : Operand} {args : Array Operand} {argTypes : Array TypeId} {E' : Env}
    (hf : FnL P f B gs (vs ++ us) M G (fun _ => u) (fun _ => M')) (hx : E.at x = some (.v (.func (.func f) #[] us.toArray))) (ha : Args E (vs.map D.v) args.toList) (hM : ∀ p ∈ M, ∃ k, vbase ≤ k ∧ E.look k = some p.2) (hMb : ∀ p ∈ M', vbase ≤ p.1)
    (hgs : GsL B gs E) (hn : n ≤ vbase) (hdst : dst < n) (hl : LeftL B gs E' E) :
    Eff P n B ops ⟨some dst, .call { callee := .value x, args := args, argTypes := argTypes }, ty, pos, after, none⟩ E ((dst, .v u) :: (M' ++ E')) := fun κ a w K Q h hK =>
  eff_callL hf hx ha hM (fun _ => hMb) (fun p hp => (hgs p hp).1) (fun _ _ _ h => hgs.self h) hn hdst hl κ a w K Q h fun _ a' w' _ hw hst => hK a' w' hw hst
theorem lookL_nil : ∀ p ∈ ([] : Env), ∃ k, vbase ≤ k ∧ E.look k = some p.2 := fun _ h => by cases h
theorem lookL_cons {M : Env} {t k : Nat} {d : D} (hk : vbase ≤ k) (h : E.look k = some d) (hr : ∀ p ∈ M, ∃ k, vbase ≤ k ∧ E.look k = some p.2) : ∀ p ∈ (t, d) :: M, ∃ k, vbase ≤ k ∧ E.look k = some p.2 := fun p hp => by
  rcases List.mem_cons.1 hp with rfl | hp
  · exact ⟨k, hk, h⟩
  · exact hr p hp
/-- The end of such a function. -/
theorem End.wroteL {w₀ w₁ : World} {fn : Func} {gs : List (TypeId × Nat)} {G : Nat → Nat → Prop} {u : Nat → Value} {M' : Nat → Env} {kw : Nat} {x : Exit} (hex : x = .ret ∨ x = .normal) (hw : E.look kw = some (Go.Proofs.YtfjpipkcfbmdeaaDoor.wroteL gs w₁)) (i : Nat) (hG : G w₁.heap.size i) (hn : n ≤ vbase)
    (hr : ∀ (a : Act) (w : World), St Cx.top n w₀.heap.size E a w → (results fn a.tmps).run P w = .ok (u i) w) (hM : ∀ p ∈ M' i, ∃ k, vbase ≤ k ∧ E.look k = some p.2) : End Cx.top w₀ n E (BP P fn (PL gs w₁ G u M') x) := fun a w _ hs => by
  have key : LeavesInM (FR none) 0 P fn a.tmps (PL gs w₁ G u M') a.defers .returning w := by
    rw [show a.defers = [] from hs.defers]
    refine ⟨u i, hr a w hs, i, hG, rfl, (hs.of kw _ hw).2, fun p hp => ?_⟩
    obtain ⟨k, h2, h3⟩ := hM p hp
    have h4 := hs.of k _ h3
    rwa [show a.tmps.getD k undef = undef from by
      rw [Array.getD_eq_getD_getElem?, Array.getElem?_eq_none (by rw [hs.size]; omega)]; rfl] at h4
  rcases hex with rfl | rfl
  · exact key
  · exact key
/-- It returns nothing. -/
theorem End.wroteL0 {w₀ w₁ : World} {fn : Func} {gs : List (TypeId × Nat)} {G : Nat → Nat → Prop} {M' : Nat → Env} {kw : Nat} {x : Exit} (hex : x = .ret ∨ x = .normal) (hr : fn.results = #[]) (hw : E.look kw = some (Go.Proofs.YtfjpipkcfbmdeaaDoor.wroteL gs w₁)) (i : Nat) (hG : G w₁.heap.size i) (hn : n ≤ vbase)
    (hM : ∀ p ∈ M' i, ∃ k, vbase ≤ k ∧ E.look k = some p.2) : End Cx.top w₀ n E (BP P fn (PL gs w₁ G (fun _ => .tuple #[]) M') x) :=
  End.wroteL hex hw i hG hn (fun a w _ => by simp [results, hr]) hM
end

/-! ### More ends -/
section
variable {P : Program} {n : Nat} {w₀ : World} {E : Env}
/-- A slice over a new block, and another value. -/
theorem End.newTT {fn : Func} {r s g kg : Nat} {e : TypeId} {zs xs : List Value} {u v : Value} {val : Nat → Value} (hr : fn.results = #[.tmp r, .tmp s]) (h1 : E.look r = some (.v u)) (h2 : E.look s = some (.v v)) (h4 : E.look kg = some (blk g e zs)) (hg : w₀.heap.size ≤ g) (hv : val g = .tuple #[u, v]) (hz : zs = xs) :
    End Cx.top w₀ n E (BP P fn (PostOf w₀ (newD w₀.heap.size e val xs)) .ret) := fun a w gr hs => by
  subst hz
  have h3 : a.tmps[r]?.getD undef = u := by rw [← Array.getD_eq_getD_getElem?]; exact hs.of r _ h1
  have h6 : a.tmps[s]?.getD undef = v := by rw [← Array.getD_eq_getD_getElem?]; exact hs.of s _ h2
  obtain ⟨hl', hh'⟩ := hs.of kg _ h4
  exact BP.ret hs.defers ⟨.tuple #[u, v], by simp [results, hr, h3, h6], _, rfl, gr, g, hv.symm, hg, hl', hh'⟩
end

theorem slice_bytes {b o n c : Nat} {e : TypeId} {xs : List Value} (l : List UInt8) (hn : n = l.length) (hc : n ≤ c) (hm : c ≤ maxLen) (hl : (xs.drop o).take n = l.map byteV) (B : Nat) (w : World) (hb : b < B) (hh : w.heap[b]? = some (.cells xs.toArray e (0, 0))) : (bytes l c).OfB B w (.slice (some ⟨b, o, none⟩) n c) := by
  subst hn
  refine bytes_mk hc hm fun j u hu => ?_
  rw [← hl, List.getElem?_take] at hu
  split at hu
  · rw [List.getElem?_drop] at hu
    refine ⟨_, rfl, hb, ?_⟩
    rw [add_lit0]
    simp [World.cell?, hh, hu]
  · cases hu
/-! ### Slices of bytes as arrays -/
section
variable {P : Program} {B : Nat} {E : Env} {dst : Option Tmp} {ty : TypeId} {pos : String} {after : Array Edge} {guard : Option (Nat × Bool)}
end
end Go.Proofs.YtfjpipkcfbmdeaaDoor
namespace Go.Proofs.YtfjpipkcfbmdeaaDoor
open Go Go.RowKit
variable {κ : Cx}
/-- Where the rest of a slice of room c lies, k elements behind its head. -/
def cutA (c k : Nat) (A : Option Addr) : Option Addr := if c = k then A else A.map (·.add k)
section
variable {P : Program} {B : Nat} {E : Env} {dst : Option Tmp} {ty : TypeId} {pos : String} {after : Array Edge} {guard : Option (Nat × Bool)}
end
section
variable {P : Program} {n B : Nat} {ops : Array Oper} {E : Env} {ty : TypeId} {pos : String} {after : Array Edge}
end
section
variable {P : Program} {n : Nat} {w₀ : World} {E : Env}
theorem RowIn.take {B : Nat} {w : World} {A : Option Addr} {vs : List Value} (h : RowIn B w A vs) (k : Nat) : RowIn B w A (vs.take k) := fun j u hu => by
  rw [List.getElem?_take] at hu
  split at hu
  · exact h j u hu
  · cases hu
theorem RowIn.drop {B : Nat} {w : World} {A : Option Addr} {vs : List Value} (h : RowIn B w A vs) (k : Nat) : RowIn B w (A.map (·.add k)) (vs.drop k) := fun j u hu => by
  rw [List.getElem?_drop] at hu
  obtain ⟨ad, h1, h2, h3⟩ := h _ u hu
  exact ⟨ad.add k, by rw [h1]; rfl, by rw [block_of_add]; exact h2, by rw [add_of_add]; exact h3⟩
/-- What the two parts of such a slice read as. -/
theorem A.cut {c : Code} {Q : Exit → Act → World → Prop} {k₀ k₁ k₂ B' m len i : Nat} {A₀ : Option Addr} {l : List UInt8} (hk : E.look k₀ = some (old B' (valM (.slice A₀ len m) (byt l)))) (hi : i ≤ len)
    (h : A κ P w₀ n c ((k₁, old B' (valM (.slice A₀ i m) (byt (l.take i)))) :: (k₂, old B' (valM (.slice (cutA m i A₀) (len - i) (m - i)) (byt (l.drop i)))) :: E) Q) : A κ P w₀ n c E Q := fun a w g hs => by
  obtain ⟨hB, m', hb⟩ := hs.of k₀ _ hk
  obtain ⟨A₁, h1, h2, h3, h4⟩ := bytes_open (l := l) hb
  injection h1 with h5 h6 h7
  subst h5; subst h6; subst h7
  have e1 : (bytes (l.take i) m).OfB B' w (.slice A₀ i m) := by
    have := bytes_mk (l := l.take i) (c := m) (A := A₀) (B := B') (w := w) (by simp; omega) h3 (by rw [List.map_take]; exact h4.take i)
    rwa [List.length_take, Nat.min_eq_left hi] at this
  have e2 : (bytes (l.drop i) (m - i)).OfB B' w (.slice (cutA m i A₀) (l.length - i) (m - i)) := by
    have := bytes_mk (l := l.drop i) (c := m - i) (A := cutA m i A₀) (B := B') (w := w) (by simp; omega) (by omega) (by
      rw [List.map_drop, cutA]
      split
      · rw [List.drop_eq_nil_of_le (by simp; omega)]; exact RowIn.nil
      · exact h4.drop i)
    rwa [List.length_drop] at this
  exact h a w g ((hs.push (t := k₂) (d := old B' (valM (.slice (cutA m i A₀) (l.length - i) (m - i)) (byt (l.drop i)))) ⟨hB, _, e2⟩).push (t := k₁) (d := old B' (valM (.slice A₀ i m) (byt (l.take i)))) ⟨hB, _, e1⟩)
end
end Go.Proofs.YtfjpipkcfbmdeaaDoor
namespace Go.Proofs.YtfjpipkcfbmdeaaDoor
open Go Go.RowKit
set_option maxRecDepth 100000

/-- c where t holds, else 0. -/
def mask (t : Bool) (c : Nat) : Nat := bif t then c else 0
theorem mask_xor2 (t : Bool) (c d : Nat) : mask t (c ^^^ d) = mask t c ^^^ mask t d := by cases t <;> simp [mask]
theorem xor4 (a b c d : Nat) : (a ^^^ b) ^^^ (c ^^^ d) = (a ^^^ c) ^^^ (b ^^^ d) := by
  rw [Nat.xor_assoc, ← Nat.xor_assoc b, Nat.xor_comm b c, Nat.xor_assoc, Nat.xor_assoc]

/-- A map that keeps sums. -/
def Lin (f : Nat → Nat) : Prop := ∀ x y, f (x ^^^ y) = f x ^^^ f y
theorem Lin.zero {f : Nat → Nat} (h : Lin f) : f 0 = 0 := by
  have := h 0 0
  rwa [Nat.xor_self, Nat.xor_self] at this
theorem Lin.mask {f : Nat → Nat} (h : Lin f) (t : Bool) (c : Nat) : f (mask t c) = YtfjpipkcfbmdeaaDoor.mask t (f c) := by cases t <;> simp [YtfjpipkcfbmdeaaDoor.mask, h.zero]
theorem Lin.xor {f g : Nat → Nat} (hf : Lin f) (hg : Lin g) : Lin fun x => f x ^^^ g x := fun x y => by show f _ ^^^ g _ = _; rw [hf, hg, xor4]
theorem Lin.at (t : Bool) {f : Nat → Nat} (hf : Lin f) : Lin fun x => YtfjpipkcfbmdeaaDoor.mask t (f x) := fun x y => by show YtfjpipkcfbmdeaaDoor.mask t (f _) = _; rw [hf, mask_xor2]
theorem Lin.none : Lin fun _ => 0 := fun _ _ => (Nat.xor_self 0).symm
theorem Lin.id : Lin fun x => x := fun _ _ => rfl

theorem eight : ∀ a < 256, a = mask (a.testBit 0) 1 ^^^ mask (a.testBit 1) 2 ^^^ mask (a.testBit 2) 4 ^^^ mask (a.testBit 3) 8 ^^^ mask (a.testBit 4) 16 ^^^ mask (a.testBit 5) 32 ^^^ mask (a.testBit 6) 64 ^^^ mask (a.testBit 7) 128 := by decide
theorem Lin.ext {f g : Nat → Nat} (hf : Lin f) (hg : Lin g) (h : ∀ i < 8, f (2 ^ i) = g (2 ^ i)) {a : Nat} (ha : a < 256) : f a = g a := by
  have h0 := h 0 (by decide); have h1 := h 1 (by decide); have h2 := h 2 (by decide); have h3 := h 3 (by decide)
  have h4 := h 4 (by decide); have h5 := h 5 (by decide); have h6 := h 6 (by decide); have h7 := h 7 (by decide)
  simp only [Nat.reducePow] at h0 h1 h2 h3 h4 h5 h6 h7
  rw [eight a ha]
  simp only [hf _ _, hg _ _, hf.mask, hg.mask, h0, h1, h2, h3, h4, h5, h6, h7]

/-- An element times x. -/
def xt (a : Nat) : Nat := (2 * a % 256) ^^^ mask (a.testBit 7) 27
def xts (a : Nat) : Nat → Nat
  | 0 => a
  | k + 1 => xt (xts a k)
/-- The sum of the products with the first k terms of b. -/
def gacc (a b : Nat) : Nat → Nat
  | 0 => 0
  | k + 1 => gacc a b k ^^^ mask (b.testBit k) (xts a k)
/-- The product of two elements. -/
def gm (a b : Nat) : Nat := gacc a b 8

/-! ### Inverses -/
/-- The inverses of all elements. -/
def itab : List UInt8 := [0, 1, 141, 246, 203, 82, 123, 209, 232, 79, 41, 192, 176, 225, 229, 199, 116, 180, 170, 75, 153, 43, 96, 95, 88, 63, 253, 204, 255, 64, 238, 178, 58, 110, 90, 241, 85, 77, 168, 201, 193, 10, 152, 21, 48, 68, 162, 194, 44, 69, 146, 108, 243, 57, 102, 66, 242, 53, 32, 111, 119, 187, 89, 25, 29, 254, 55, 103, 45, 49, 245, 105, 167, 100, 171, 19, 84, 37, 233, 9, 237, 92, 5, 202, 76, 36, 135, 191, 24, 62, 34, 240, 81, 236, 97, 23, 22, 94, 175, 211, 73, 166, 54, 67, 244, 71, 145, 223, 51, 147, 33, 59, 121, 183, 151, 133, 16, 181, 186, 60, 182, 112, 208, 6, 161, 250, 129, 130, 131, 126, 127, 128, 150, 115, 190, 86, 155, 158, 149, 217, 247, 2, 185, 164, 222, 106, 50, 109, 216, 138, 132, 114, 42, 20, 159, 136, 249, 220, 137, 154, 251, 124, 46, 195, 143, 184, 101, 72, 38, 200, 18, 74, 206, 231, 210, 98, 12, 224, 31, 239, 17, 117, 120, 113, 165, 142, 118, 61, 189, 188, 134, 87, 11, 40, 47, 163, 218, 212, 228, 15, 169, 39, 83, 4, 27, 252, 172, 230, 122, 7, 174, 99, 197, 219, 226, 234, 148, 139, 196, 213, 157, 248, 144, 107, 177, 13, 214, 235, 198, 14, 207, 173, 8, 78, 215, 227, 93, 80, 30, 179, 91, 35, 56, 52, 104, 70, 3, 140, 221, 156, 125, 160, 205, 26, 65, 28]
def ginv (a : Nat) : Nat := (itab.getD a 0).toNat
/-! ### Powers -/
/-! ### Substitutes -/
def rotl8 (a k : Nat) : Nat := (a * 2 ^ k % 256) ||| (a / 2 ^ (8 - k))
def subI (b : Nat) : Nat := b ^^^ rotl8 b 1 ^^^ rotl8 b 2 ^^^ rotl8 b 3 ^^^ rotl8 b 4 ^^^ 99
def sub8 (a : Nat) : Nat := subI (ginv a)
/-! ### The powers of 3 -/
/-! ### The product of the definition -/
end Go.Proofs.YtfjpipkcfbmdeaaDoor
namespace Go.Proofs.YtfjpipkcfbmdeaaDoor
open Go Go.RowKit
set_option maxRecDepth 100000
set_option linter.unusedVariables false

/-! ### Rows of bytes -/
/-! ### The transformations -/
abbrev Sta := Nat → Nat
/-- Bytes, at all places. -/
def By (f : Sta) : Prop := ∀ i, f i < 256
/-- The same 16 bytes. -/
def Eq16 (f g : Sta) : Prop := ∀ i < 16, f i = g i
theorem Eq16.refl (f : Sta) : Eq16 f f := fun _ _ => rfl
theorem Eq16.symm {f g : Sta} (h : Eq16 f g) : Eq16 g f := fun i hi => (h i hi).symm
theorem Eq16.trans {f g h : Sta} (a : Eq16 f g) (b : Eq16 g h) : Eq16 f h := fun i hi => (a i hi).trans (b i hi)
def addS (f k : Sta) : Sta := fun i => f i ^^^ k i
def subS (f : Sta) : Sta := fun i => sub8 (f i)
def rotS (f : Sta) : Sta := fun i => f (4 * ((i / 4 + i % 4) % 4) + i % 4)
/-- A byte of a column, behind. -/
def col (a : Nat → Nat) (r : Nat) : Nat := gm 2 (a (r % 4) ^^^ a ((r + 1) % 4)) ^^^ a ((r + 1) % 4) ^^^ a ((r + 2) % 4) ^^^ a ((r + 3) % 4)
def mixS (f : Sta) : Sta := fun i => col (fun r => f (4 * (i / 4) + r)) (i % 4)
/-! ### The cipher -/
/-- A round key of a schedule, whose bytes stand side by side. -/
def keyS (s : Nat → Nat) (k : Nat) : Sta := fun i => s (16 * k + i)
def encR (s : Nat → Nat) (f : Sta) : Nat → Sta
  | 0 => addS f (keyS s 0)
  | r + 1 => addS (mixS (rotS (subS (encR s f r)))) (keyS s (r + 1))
def enc (s : Nat → Nat) (f : Sta) : Sta := addS (rotS (subS (encR s f 9))) (keyS s 10)
section
variable {s : Nat → Nat} {f g : Sta} (hs : ∀ i, s i < 256)
include hs
end
/-! ### The round keys -/
/-! ### The definition's rows and words -/
/-! ### The program's rows on their way -/
/-! ### Examples: the kernel goes through them round by round -/
end Go.Proofs.YtfjpipkcfbmdeaaDoor
namespace Go.Proofs.YtfjpipkcfbmdeaaDoor
open Go Go.RowKit
theorem kinB {n : Nat} {l : List UInt8} (h : l.length = n) : Kin (fun _ _ => True) (List.replicate n .u8) (l.map byteV) := by
  refine ⟨by simp [h], fun i k hk => ?_⟩
  rw [List.getElem?_replicate] at hk
  split at hk
  · rename_i hi
    injection hk with hk; subst hk
    exact ⟨_, by rw [List.getElem?_map, List.getElem?_eq_getElem (by omega)]; rfl, trivial⟩
  · cases hk
end Go.Proofs.YtfjpipkcfbmdeaaDoor
namespace Go.Proofs.YtfjpipkcfbmdeaaDoor
open Go Go.RowKit
set_option linter.unusedVariables false
def zD : List UInt8 := List.replicate 32 0
def recV (x : UInt8) (s c : Nat) (t : List UInt8) : List Value := byteV x :: .int .u32 ((s : Nat) : Int) :: .int .u64 ((c : Nat) : Int) :: t.map byteV
def entV (x : UInt8) (t : List UInt8) : List Value := byteV x :: t.map byteV
def celV (t : List UInt8) (e m : Nat) : List Value := t.map byteV ++ [.int .u64 ((e : Nat) : Int), .int .u64 ((m : Nat) : Int)]
def recL (x : UInt8) (s c : Nat) (t : List UInt8) : List UInt8 := x :: (nonceL s c ++ t)
def entL (x : UInt8) (t : List UInt8) : List UInt8 := x :: t
def BadR (x : UInt8) (s c : Nat) (t : List UInt8) : Prop := 2 < x.toNat ∨ (x.toNat = 0 ∧ ¬ (s = 0 ∧ c = 0 ∧ t = zD))
def BadE (x : UInt8) (t : List UInt8) : Prop := 2 < x.toNat ∨ (x.toNat = 0 ∧ ¬ t = zD)
instance {x : UInt8} {s c : Nat} {t : List UInt8} : Decidable (BadR x s c t) := by unfold BadR; infer_instance
instance {x : UInt8} {t : List UInt8} : Decidable (BadE x t) := by unfold BadE; infer_instance
def ckS (n : Nat) (z : Bool) : Int := if 2 < n ∨ (n = 0 ∧ z = false) then 1 else 0
def ckR (x : UInt8) (s c : Nat) (t : List UInt8) : Int := if BadR x s c t then 1 else 0
def ckE (x : UInt8) (t : List UInt8) : Int := if BadE x t then 1 else 0
theorem ckS_rec (x : UInt8) (s c : Nat) (t : List UInt8) : ckS x.toNat (decide (x.toNat = 0 ∧ s = 0 ∧ c = 0 ∧ t = zD)) = ckR x s c t := by
  unfold ckS ckR BadR
  by_cases h : x.toNat = 0 <;> by_cases h2 : s = 0 ∧ c = 0 ∧ t = zD <;> simp [h, h2]
theorem ckS_ent (x : UInt8) (t : List UInt8) : ckS x.toNat (decide (x.toNat = 0 ∧ t = zD)) = ckE x t := by
  unfold ckS ckE BadE
  by_cases h : x.toNat = 0 <;> by_cases h2 : t = zD <;> simp [h, h2]
theorem ckR_ok {x : UInt8} {s c : Nat} {t : List UInt8} (h : ¬ BadR x s c t) : ckR x s c t = 0 := if_neg h
theorem ckE_ok {x : UInt8} {t : List UInt8} (h : ¬ BadE x t) : ckE x t = 0 := if_neg h
theorem byteV_inj {a b : UInt8} (h : byteV a = byteV b) : a = b := by
  have := bytes_inj (a := [a]) (b := [b]) (by rw [List.map_cons, List.map_cons, h])
  simpa using this
theorem byteV_zero {x : UInt8} : byteV x = byteV 0 ↔ x.toNat = 0 := by
  refine ⟨fun h => by rw [byteV_inj h]; rfl, fun h => ?_⟩
  rw [show x = 0 from UInt8.toNat_inj.1 h]
theorem dec_rec (x : UInt8) (s c : Nat) (t : List UInt8) : decide (x.toNat = 0 ∧ s = 0 ∧ c = 0 ∧ t = zD) = true ↔ recV x s c t = recV 0 0 0 zD := by
  rw [decide_eq_true_iff]
  refine ⟨fun ⟨h1, h2, h3, h4⟩ => by rw [h2, h3, h4, recV, recV, byteV_zero.2 h1], fun h => ?_⟩
  unfold recV at h
  injection h with h1 h
  injection h with h2 h
  injection h with h3 h
  injection h2 with _ h2
  injection h3 with _ h3
  exact ⟨byteV_zero.1 h1, by omega, by omega, bytes_inj h⟩
theorem dec_ent (x : UInt8) (t : List UInt8) : decide (x.toNat = 0 ∧ t = zD) = true ↔ entV x t = entV 0 zD := by
  rw [decide_eq_true_iff]
  refine ⟨fun ⟨h1, h4⟩ => by rw [h4, entV, entV, byteV_zero.2 h1], fun h => ?_⟩
  unfold entV at h
  injection h with h1 h
  exact ⟨byteV_zero.1 h1, bytes_inj h⟩
theorem kinRec (x : UInt8) (s c : Nat) {t : List UInt8} (h : t.length = 32) : Kin (fun _ _ => True) (.u8 :: .u32 :: .u64 :: List.replicate 32 .u8) (recV x s c t) := kin_cons (kin_cons (kin_cons (kinB h)))
theorem kinEnt (x : UInt8) {t : List UInt8} (h : t.length = 32) : Kin (fun _ _ => True) (.u8 :: List.replicate 32 .u8) (entV x t) := kin_cons (kinB h)
theorem kinCel {t : List UInt8} (h : t.length = 32) (e m : Nat) : Kin (fun _ _ => True) (List.replicate 32 .u8 ++ [.u64, .u64]) (celV t e m) := Kin.join (kinB h) (kin_cons (kin_cons kin_nil))
theorem rec_len (x : UInt8) (s c : Nat) {t : List UInt8} (h : t.length = 32) : (recV x s c t).length = 35 := by simp [recV, h]
theorem ent_len (x : UInt8) {t : List UInt8} (h : t.length = 32) : (entV x t).length = 33 := by simp [entV, h]
theorem cel_len {t : List UInt8} (h : t.length = 32) (e m : Nat) : (celV t e m).length = 34 := by simp [celV, h]
theorem recL_len (x : UInt8) (s c : Nat) {t : List UInt8} (h : t.length = 32) : (recL x s c t).length = 45 := by simp [recL, h, nonceL_length]
theorem entL_len (x : UInt8) {t : List UInt8} (h : t.length = 32) : (entL x t).length = 33 := by simp [entL, h]
theorem all_byte (l : List UInt8) : (l.map byteV).all (·.oneCell') = true := by simp [List.all_eq_true, byteV, Value.oneCell']
theorem rec_one (x : UInt8) (s c : Nat) (t : List UInt8) : (recV x s c t).all (·.oneCell') = true := by simp only [recV, List.all_cons, all_byte]; rfl
theorem ent_one (x : UInt8) (t : List UInt8) : (entV x t).all (·.oneCell') = true := by simp only [entV, List.all_cons, all_byte]; rfl
theorem cel_one (t : List UInt8) (e m : Nat) : (celV t e m).all (·.oneCell') = true := by simp only [celV, List.all_append, all_byte]; rfl
theorem rec_tag {x : UInt8} {s c : Nat} {t : List UInt8} (h : t.length = 32) : ((recV x s c t).drop 3).take 32 = t.map byteV := List.take_of_length_le (by rw [List.length_drop, rec_len x s c h]; decide)
theorem ent_tag {x : UInt8} {t : List UInt8} (h : t.length = 32) : ((entV x t).drop 1).take 32 = t.map byteV := List.take_of_length_le (by rw [List.length_drop, ent_len x h]; decide)
theorem cel_root {t : List UInt8} (h : t.length = 32) (e m : Nat) : ((celV t e m).drop 0).take 32 = t.map byteV := List.take_left' (by simp [h])
theorem cel_e {t : List UInt8} (h : t.length = 32) (e m : Nat) : (celV t e m)[32]? = some (.int .u64 ((e : Nat) : Int)) := by
  rw [celV, List.getElem?_append_right (by simp [h])]; simp [h]
theorem cel_m {t : List UInt8} (h : t.length = 32) (e m : Nat) : (celV t e m)[33]? = some (.int .u64 ((m : Nat) : Int)) := by
  rw [celV, List.getElem?_append_right (by simp [h])]; simp [h]
theorem cel_set0 {t t' : List UInt8} (e m : Nat) (h : t.length = 32) (h' : t'.length = 32) : (celV t' e m).take 0 ++ t.map byteV ++ (celV t' e m).drop (0 + (t.map byteV).length) = celV t e m := by
  rw [List.length_map, h, List.take_zero, List.nil_append, Nat.zero_add, celV, List.drop_left' (by simp [h'])]; rfl
theorem cel_set32 {t : List UInt8} (e e' m : Nat) (h : t.length = 32) : (celV t e m).set 32 (.int .u64 ((e' : Nat) : Int)) = celV t e' m := by
  rw [celV, List.set_append_right _ _ (by simp [h])]; simp [h, celV]
theorem cel_set33 {t : List UInt8} (e m m' : Nat) (h : t.length = 32) : (celV t e m).set 33 (.int .u64 ((m' : Nat) : Int)) = celV t e m' := by
  rw [celV, List.set_append_right _ _ (by simp [h])]; simp [h, celV]
/-! ### The first byte, and all others together -/
def pX (l : List UInt8) : UInt8 := l.getD 0 0
def sumL (l : List UInt8) : Nat := (l.map UInt8.toNat).sum
def rest (l : List UInt8) : Nat := sumL (l.drop 1)
end Go.Proofs.YtfjpipkcfbmdeaaDoor
namespace Go.Proofs.YtfjpipkcfbmdeaaDoor
open Go Go.RowKit
variable {κ : Cx}

def RelX (eff : Bool) (B : Nat) (w w' : World) : Prop := if eff then Below B w w' else Grow w w'
theorem RelX.below {eff : Bool} {B : Nat} {w w' : World} (h : RelX eff B w w') (hB : B ≤ w.heap.size) : Below B w w' := by
  cases eff with
  | true => exact h
  | false => exact Below.mono (show Grow w w' from h) hB
def OpOkX (eff : Bool) (P : Program) (B : Nat) (o : Oper) (E : Env) (d : D) : Prop :=
  ∀ (ρ : Operand → Value) (w : World), B ≤ w.heap.size → (∀ t e, vbase ≤ t → E.look t = some e → e.Of w undef) → (∀ x, x ∈ o.op.operands → ∀ e, E.at x = some e → e.Of w (ρ x)) → Out P o ρ w fun x w' => RelX eff B w w' ∧ d.Of w' x
def GoodX (eff : Bool) (P : Program) (B : Nat) (ops : Array Oper) (o : Oper) (E : Env) (d : D) : Prop :=
  (GuardIs ops E o true ∧ OpOkX eff P B o E d) ∨ (GuardIs ops E o false ∧ d = .v undef)
/-- Of an operation: does it change memory, does what is told of its value stay true whatever happens above the base, and which operation makes it untrue. -/
structure Mk where
  eff : Bool
  stab : Bool
  kill : Option Nat
section
variable {P : Program} {B : Nat} {ops : Array Oper} {Q : Exit → Act → World → Prop}
inductive TraceX (P : Program) (B : Nat) (ops : Array Oper) : List Oper → Env → List Mk → List D → Env → Prop
  | nil {E : Env} : TraceX P B ops [] E [] [] E
  | cons {o : Oper} {rest : List Oper} {E E' : Env} {t : Nat} {d : D} {ds : List D} {m : Mk} {ms : List Mk} (ht : o.dst = some t) (hg : GoodX m.eff P B ops o E d) (hs : m.stab = true → Stays B d) (hr : TraceX P B ops rest ((t, d) :: E) ms ds E') : TraceX P B ops (o :: rest) E (m :: ms) (d :: ds) E'
theorem TraceX.nth {rest : List Oper} {E E' : Env} {ms : List Mk} {ds : List D} (h : TraceX P B ops rest E ms ds E') : ∀ {i : Nat} {o : Oper}, rest[i]? = some o →
    ∃ t d Ei m, o.dst = some t ∧ ds[i]? = some d ∧ ms[i]? = some m ∧ GoodX m.eff P B ops o Ei d ∧ (m.stab = true → Stays B d) ∧ ∀ s e, Ei.look s = some e →
      (∃ j o', j < i ∧ rest[j]? = some o' ∧ o'.dst = some s ∧ ds[j]? = some e) ∨ ((∀ j o', j < i → rest[j]? = some o' → o'.dst ≠ some s) ∧ E.look s = some e) := by
  induction h with
  | nil => intro i o hi; simp at hi
  | @cons o0 rest E E' t0 d0 ds m0 ms ht hg hs hr ih =>
    intro i o hi
    cases i with
    | zero =>
      simp at hi; subst hi
      exact ⟨t0, d0, E, m0, ht, rfl, rfl, hg, hs, fun s e he => .inr ⟨fun j _ hj => by omega, he⟩⟩
    | succ i =>
      obtain ⟨t, d, Ei, m, h1, h2, h2', h3, h3', h4⟩ := ih (i := i) (by simpa using hi)
      refine ⟨t, d, Ei, m, h1, by simpa using h2, by simpa using h2', h3, h3', fun s e he => ?_⟩
      rcases h4 s e he with ⟨j, o', hj, ho', hd, hds⟩ | ⟨hno, hl⟩
      · exact .inl ⟨j + 1, o', by omega, by simpa using ho', hd, by simpa using hds⟩
      · by_cases hs : t0 = s
        · subst hs
          rw [look_here] at hl
          exact .inl ⟨0, o0, by omega, rfl, ht, by simpa using hl⟩
        · rw [look_past _ _ hs] at hl
          refine .inr ⟨fun j o' hj ho' => ?_, hl⟩
          cases j with
          | zero => simp at ho'; subst ho'; rw [ht]; intro h; injection h with h; exact hs h
          | succ j => exact hno j o' (by omega) (by simpa using ho')
theorem TraceX.last {rest : List Oper} {E E' : Env} {ms : List Mk} {ds : List D} (h : TraceX P B ops rest E ms ds E') : ∀ s e, E'.look s = some e →
      (∃ (j : Nat) (o' : Oper), rest[j]? = some o' ∧ o'.dst = some s ∧ ds[j]? = some e) ∨ ((∀ (j : Nat) (o' : Oper), rest[j]? = some o' → o'.dst ≠ some s) ∧ E.look s = some e) := by
  induction h with
  | nil => intro s e he; exact .inr ⟨fun j _ hj => by simp at hj, he⟩
  | @cons o0 rest E E' t0 d0 ds m0 ms ht hg hs hr ih =>
    intro s e he
    rcases ih s e he with ⟨j, o', ho', hd, hds⟩ | ⟨hno, hl⟩
    · exact .inl ⟨j + 1, o', by simpa using ho', hd, by simpa using hds⟩
    · by_cases hs : t0 = s
      · subst hs
        rw [look_here] at hl
        exact .inl ⟨0, o0, rfl, ht, by simpa using hl⟩
      · rw [look_past _ _ hs] at hl
        refine .inr ⟨fun j o' ho' => ?_, hl⟩
        cases j with
        | zero => simp at ho'; subst ho'; rw [ht]; intro h; injection h with h; exact hs h
        | succ j => exact hno j o' (by simpa using ho')
/-- The region gone through in the order of the text. -/
def RunX (P : Program) (B : Nat) (ops : Array Oper) (rest : List Oper) (E : Env) (ms : List Mk) (C : Env → Prop) : Prop := ∃ ds E', TraceX P B ops rest E ms ds E' ∧ C E'
variable {E : Env} {C : Env → Prop} {o : Oper} {rest : List Oper} {t : Nat} {d : D} {ms : List Mk}
theorem RunX.nil (h : C E) : RunX P B ops [] E [] C := ⟨[], E, .nil, h⟩
theorem OpOk.x (h : OpOk P B o E d) : OpOkX false P B o E d := fun ρ w hB hv hρ => (h ρ w hB hv hρ).mono fun _ _ hx => ⟨hx.1, hx.2⟩
theorem RunX.step {st : Bool} {kl : Option Nat} (ht : o.dst = some t) (hg : o.guard = none) (h : OpOk P B o E d) (hs : st = true → Stays B d) (hr : RunX P B ops rest ((t, d) :: E) ms C) : RunX P B ops (o :: rest) E (⟨false, st, kl⟩ :: ms) C := by
  obtain ⟨ds, E', h1, h2⟩ := hr
  exact ⟨_, E', .cons ht (.inl ⟨by simp [GuardIs, hg], h.x⟩) hs h1, h2⟩
theorem RunX.eff {st : Bool} {kl : Option Nat} (ht : o.dst = some t) (hg : o.guard = none) (h : OpOkX true P B o E d) (hs : st = true → Stays B d) (hr : RunX P B ops rest ((t, d) :: E) ms C) : RunX P B ops (o :: rest) E (⟨true, st, kl⟩ :: ms) C := by
  obtain ⟨ds, E', h1, h2⟩ := hr
  exact ⟨_, E', .cons ht (.inl ⟨by simp [GuardIs, hg], h⟩) hs h1, h2⟩
theorem RunX.as (x : Value) {y : Value} (h : y = x) (hr : RunX P B ops rest ((t, .v x) :: E) ms C) : RunX P B ops rest ((t, .v y) :: E) ms C := h ▸ hr
theorem RunX.last {E'' : Env} {C : Env → Prop} {dead : List Nat} (hs : Sub E'' E) (hd : (E''.map (·.1)).all (fun k => !dead.contains k) = true) (h : C E'') : RunX P B ops [] E [] (fun E' => ∃ E'', Sub E'' E' ∧ (∀ p ∈ E'', p.1 ∉ dead) ∧ C E'') :=
  RunX.nil ⟨E'', hs, fun p hp hm => by
    have := List.all_eq_true.1 hd p.1 (List.mem_map_of_mem hp)
    simp [hm] at this, h⟩
def StaysL (B : Nat) (E : Env) : Prop := ∀ p ∈ E, Stays B p.2
theorem StaysL.nil : StaysL B [] := fun _ h => by cases h
theorem StaysL.cons {k : Nat} {d : D} {E : Env} (h : Stays B d) (hr : StaysL B E) : StaysL B ((k, d) :: E) := fun p hp => by
  rcases List.mem_cons.1 hp with rfl | hp
  · exact h
  · exact hr p hp
end
section
variable {P : Program} {B : Nat} {E : Env} {dst : Option Tmp} {ty : TypeId} {pos : String} {after : Array Edge} {guard : Option (Nat × Bool)}
end
end Go.Proofs.YtfjpipkcfbmdeaaDoor
namespace Go.Proofs.YtfjpipkcfbmdeaaDoor
open Go Go.RowKit
variable {κ : Cx}
theorem Wrote.new {B T : Nat} {w w' : World} (hB : B ≤ w.heap.size) (g : Grow w w') : Wrote B T w.heap.size w w' :=
  ⟨hB, g.os, g.tape, g.output, g.size, fun o h => (by rw [Array.getElem?_eq_none (Nat.le_refl _)] at h; cases h), fun k hk _ => g.block k hk⟩
/-- It survives a change of any row of the type from the base on. -/
def StayT (B T : Nat) (d : D) : Prop := ∀ g, B ≤ g → Surv B T g d
theorem StayT.v {B T : Nat} (x : Value) : StayT B T (.v x) := fun _ _ => Surv.v _
theorem StayT.old {B T B' : Nat} {d : D} (h : B' ≤ B) : StayT B T (old B' d) := fun _ hg => Surv.old (Nat.le_trans h hg)
theorem StayT.blk {B T b : Nat} {e : TypeId} {xs : List Value} (h : e ≠ T) : StayT B T (blk b e xs) := fun _ _ => Surv.blkT h
theorem StayT.own {B T base n : Nat} {e : TypeId} {xs : List Value} (h : e ≠ T) : StayT B T (own base e n xs) := fun _ _ => Surv.own h
/-- Changes of such rows, one after another. -/
inductive FlowT (B T : Nat) : World → World → Prop
  | refl {w : World} : FlowT B T w w
  | step {w w' w'' : World} {g : Nat} (h : FlowT B T w w') (k : Wrote B T g w' w'') : FlowT B T w w''
theorem FlowT.keep {B T : Nat} {w w' : World} (h : FlowT B T w w') {d : D} {x : Value} (hd : StayT B T d) (hx : d.Of w x) : d.Of w' x := by
  induction h with
  | refl => exact hx
  | step _ k ih => exact hd _ k.base _ _ _ k ih
theorem FlowT.under {B T : Nat} {w w' : World} (h : FlowT B T w w') (hB : B ≤ w.heap.size) : Below B w w' := by
  induction h with
  | refl => exact Below.refl _ _
  | step _ k ih => exact ih.trans (k.below (Nat.le_trans hB ih.size))
def RelZ (eff : Bool) (B : Nat) (T : TypeId) (w w' : World) : Prop := if eff then ∃ g, Wrote B T g w w' else Grow w w'
theorem RelZ.wrote {eff : Bool} {B : Nat} {T : TypeId} {w w' : World} (h : RelZ eff B T w w') (hB : B ≤ w.heap.size) : ∃ g, Wrote B T g w w' := by
  cases eff with
  | true => exact h
  | false => exact ⟨_, Wrote.new hB h⟩
def OpOkZ (eff : Bool) (P : Program) (B : Nat) (T : TypeId) (o : Oper) (E : Env) (d : D) : Prop :=
  ∀ (ρ : Operand → Value) (w : World), B ≤ w.heap.size → (∀ t e, vbase ≤ t → E.look t = some e → e.Of w undef) → (∀ x, x ∈ o.op.operands → ∀ e, E.at x = some e → e.Of w (ρ x)) → Out P o ρ w fun x w' => RelZ eff B T w w' ∧ d.Of w' x
def GoodZ (eff : Bool) (P : Program) (B : Nat) (T : TypeId) (ops : Array Oper) (o : Oper) (E : Env) (d : D) : Prop :=
  (GuardIs ops E o true ∧ OpOkZ eff P B T o E d) ∨ (GuardIs ops E o false ∧ d = .v undef)
section
variable {P : Program} {B : Nat} {T : TypeId} {ops : Array Oper} {Q : Exit → Act → World → Prop}
inductive TraceZ (P : Program) (B : Nat) (T : TypeId) (ops : Array Oper) : List Oper → Env → List Mk → List D → Env → Prop
  | nil {E : Env} : TraceZ P B T ops [] E [] [] E
  | cons {o : Oper} {rest : List Oper} {E E' : Env} {t : Nat} {d : D} {ds : List D} {m : Mk} {ms : List Mk} (ht : o.dst = some t) (hg : GoodZ m.eff P B T ops o E d) (hs : m.stab = true → StayT B T d) (hr : TraceZ P B T ops rest ((t, d) :: E) ms ds E') : TraceZ P B T ops (o :: rest) E (m :: ms) (d :: ds) E'
theorem TraceZ.nth {rest : List Oper} {E E' : Env} {ms : List Mk} {ds : List D} (h : TraceZ P B T ops rest E ms ds E') : ∀ {i : Nat} {o : Oper}, rest[i]? = some o →
    ∃ t d Ei m, o.dst = some t ∧ ds[i]? = some d ∧ ms[i]? = some m ∧ GoodZ m.eff P B T ops o Ei d ∧ (m.stab = true → StayT B T d) ∧ ∀ s e, Ei.look s = some e →
      (∃ j o', j < i ∧ rest[j]? = some o' ∧ o'.dst = some s ∧ ds[j]? = some e) ∨ ((∀ j o', j < i → rest[j]? = some o' → o'.dst ≠ some s) ∧ E.look s = some e) := by
  induction h with
  | nil => intro i o hi; simp at hi
  | @cons o0 rest E E' t0 d0 ds m0 ms ht hg hs hr ih =>
    intro i o hi
    cases i with
    | zero =>
      simp at hi; subst hi
      exact ⟨t0, d0, E, m0, ht, rfl, rfl, hg, hs, fun s e he => .inr ⟨fun j _ hj => by omega, he⟩⟩
    | succ i =>
      obtain ⟨t, d, Ei, m, h1, h2, h2', h3, h3', h4⟩ := ih (i := i) (by simpa using hi)
      refine ⟨t, d, Ei, m, h1, by simpa using h2, by simpa using h2', h3, h3', fun s e he => ?_⟩
      rcases h4 s e he with ⟨j, o', hj, ho', hd, hds⟩ | ⟨hno, hl⟩
      · exact .inl ⟨j + 1, o', by omega, by simpa using ho', hd, by simpa using hds⟩
      · by_cases hs : t0 = s
        · subst hs
          rw [look_here] at hl
          exact .inl ⟨0, o0, by omega, rfl, ht, by simpa using hl⟩
        · rw [look_past _ _ hs] at hl
          refine .inr ⟨fun j o' hj ho' => ?_, hl⟩
          cases j with
          | zero => simp at ho'; subst ho'; rw [ht]; intro h; injection h with h; exact hs h
          | succ j => exact hno j o' (by omega) (by simpa using ho')
theorem TraceZ.last {rest : List Oper} {E E' : Env} {ms : List Mk} {ds : List D} (h : TraceZ P B T ops rest E ms ds E') : ∀ s e, E'.look s = some e →
      (∃ (j : Nat) (o' : Oper), rest[j]? = some o' ∧ o'.dst = some s ∧ ds[j]? = some e) ∨ ((∀ (j : Nat) (o' : Oper), rest[j]? = some o' → o'.dst ≠ some s) ∧ E.look s = some e) := by
  induction h with
  | nil => intro s e he; exact .inr ⟨fun j _ hj => by simp at hj, he⟩
  | @cons o0 rest E E' t0 d0 ds m0 ms ht hg hs hr ih =>
    intro s e he
    rcases ih s e he with ⟨j, o', ho', hd, hds⟩ | ⟨hno, hl⟩
    · exact .inl ⟨j + 1, o', by simpa using ho', hd, by simpa using hds⟩
    · by_cases hs : t0 = s
      · subst hs
        rw [look_here] at hl
        exact .inl ⟨0, o0, rfl, ht, by simpa using hl⟩
      · rw [look_past _ _ hs] at hl
        refine .inr ⟨fun j o' ho' => ?_, hl⟩
        cases j with
        | zero => simp at ho'; subst ho'; rw [ht]; intro h; injection h with h; exact hs h
        | succ j => exact hno j o' (by simpa using ho')
/-- The region gone through in the order of the text. -/
def RunZ (P : Program) (B : Nat) (T : TypeId) (ops : Array Oper) (rest : List Oper) (E : Env) (ms : List Mk) (C : Env → Prop) : Prop := ∃ ds E', TraceZ P B T ops rest E ms ds E' ∧ C E'
variable {E : Env} {C : Env → Prop} {o : Oper} {rest : List Oper} {t : Nat} {d : D} {ms : List Mk}
theorem RunZ.nil (h : C E) : RunZ P B T ops [] E [] C := ⟨[], E, .nil, h⟩
theorem OpOk.z (h : OpOk P B o E d) : OpOkZ false P B T o E d := fun ρ w hB hv hρ => (h ρ w hB hv hρ).mono fun _ _ hx => ⟨hx.1, hx.2⟩
theorem RunZ.step {st : Bool} {kl : Option Nat} (ht : o.dst = some t) (hg : o.guard = none) (h : OpOk P B o E d) (hs : st = true → StayT B T d) (hr : RunZ P B T ops rest ((t, d) :: E) ms C) : RunZ P B T ops (o :: rest) E (⟨false, st, kl⟩ :: ms) C := by
  obtain ⟨ds, E', h1, h2⟩ := hr
  exact ⟨_, E', .cons ht (.inl ⟨by simp [GuardIs, hg], h.x⟩) hs h1, h2⟩
theorem RunZ.eff {st : Bool} {kl : Option Nat} (ht : o.dst = some t) (hg : o.guard = none) (h : OpOkZ true P B T o E d) (hs : st = true → StayT B T d) (hr : RunZ P B T ops rest ((t, d) :: E) ms C) : RunZ P B T ops (o :: rest) E (⟨true, st, kl⟩ :: ms) C := by
  obtain ⟨ds, E', h1, h2⟩ := hr
  exact ⟨_, E', .cons ht (.inl ⟨by simp [GuardIs, hg], h⟩) hs h1, h2⟩
theorem RunZ.as (x : Value) {y : Value} (h : y = x) (hr : RunZ P B T ops rest ((t, .v x) :: E) ms C) : RunZ P B T ops rest ((t, .v y) :: E) ms C := h ▸ hr

def StayL (B T : Nat) (ks : List (Nat × Nat)) (E : Env) : Prop := ∀ p ∈ E, StayT B T p.2 ∨ (p.1 < vbase ∧ ∃ k, (p.1, k) ∈ ks)
theorem StayL.nil {ks : List (Nat × Nat)} : StayL B T ks [] := fun _ h => by cases h
theorem StayL.cons {ks : List (Nat × Nat)} {k : Nat} {d : D} {E : Env} (h : StayT B T d) (hr : StayL B T ks E) : StayL B T ks ((k, d) :: E) := fun p hp => by
  rcases List.mem_cons.1 hp with rfl | hp
  · exact .inl h
  · exact hr p hp
/-- What stands behind the region: it survives, or the region has made it. -/
def MadeL (B T : Nat) (ops : Array Oper) (E : Env) : Prop := ∀ p ∈ E, StayT B T p.2 ∨ (∃ o ∈ ops, o.dst = some p.1)
theorem MadeL.nil : MadeL B T ops [] := fun _ h => by cases h
theorem MadeL.stays {k : Nat} {d : D} {E : Env} (h : StayT B T d) (hr : MadeL B T ops E) : MadeL B T ops ((k, d) :: E) := fun p hp => by
  rcases List.mem_cons.1 hp with rfl | hp
  · exact .inl h
  · exact hr p hp
theorem MadeL.made {k : Nat} {d : D} {E : Env} (i : Nat) (h : ((ops[i]?).bind (·.dst)) = some k) (hr : MadeL B T ops E) : MadeL B T ops ((k, d) :: E) := fun p hp => by
  rcases List.mem_cons.1 hp with rfl | hp
  · right
    cases ho : ops[i]? with
    | none => rw [ho] at h; cases h
    | some o => rw [ho] at h; exact ⟨o, Array.mem_of_getElem? ho, h⟩
  · exact hr p hp
end
section
variable {P : Program} {B : Nat} {E : Env} {dst : Option Tmp} {ty : TypeId} {pos : String} {after : Array Edge} {guard : Option (Nat × Bool)}
end
end Go.Proofs.YtfjpipkcfbmdeaaDoor
namespace Go.Proofs.YtfjpipkcfbmdeaaDoor
open Go Go.RowKit
set_option linter.unusedVariables false
set_option maxRecDepth 20000

theorem zero72 : ZeroIs Tryd.prog 72 ([.int .u8 0] ++ [.int .u32 0] ++ [.int .u64 0] ++ List.replicate 32 (.int .u8 0)) := by unfold ZeroIs; kernel_rfl
theorem size72 : SizeIs Tryd.prog 72 35 := by unfold SizeIs; kernel_rfl
theorem field72_0 : FieldIs Tryd.prog 72 0 0 1 := by unfold FieldIs; kernel_rfl
theorem field72_1 : FieldIs Tryd.prog 72 1 1 2 := by unfold FieldIs; kernel_rfl
theorem field72_2 : FieldIs Tryd.prog 72 2 3 32 := by unfold FieldIs; kernel_rfl
theorem zero75 : ZeroIs Tryd.prog 75 ([.int .u8 0] ++ List.replicate 32 (.int .u8 0)) := by unfold ZeroIs; kernel_rfl
theorem size75 : SizeIs Tryd.prog 75 33 := by unfold SizeIs; kernel_rfl
theorem field75_0 : FieldIs Tryd.prog 75 0 0 1 := by unfold FieldIs; kernel_rfl
theorem field75_1 : FieldIs Tryd.prog 75 1 1 32 := by unfold FieldIs; kernel_rfl
theorem zero30 : ZeroIs Tryd.prog 30 (List.replicate 32 (.int .u8 0) ++ [.int .u64 0] ++ [.int .u64 0]) := by unfold ZeroIs; kernel_rfl
theorem size30 : SizeIs Tryd.prog 30 34 := by unfold SizeIs; kernel_rfl
theorem field30_0 : FieldIs Tryd.prog 30 0 0 32 := by unfold FieldIs; kernel_rfl
theorem field30_1 : FieldIs Tryd.prog 30 1 32 1 := by unfold FieldIs; kernel_rfl
theorem field30_2 : FieldIs Tryd.prog 30 2 33 1 := by unfold FieldIs; kernel_rfl
theorem zero27 : ZeroIs Tryd.prog 27 (List.replicate 32 (.int .u8 0)) := by unfold ZeroIs; kernel_rfl
theorem size27 : SizeIs Tryd.prog 27 32 := by unfold SizeIs; kernel_rfl
theorem flat72 : flat Tryd.prog 4 72 = some (.u8 :: .u32 :: .u64 :: List.replicate 32 .u8) := by kernel_rfl
theorem flat75 : flat Tryd.prog 4 75 = some (.u8 :: List.replicate 32 .u8) := by kernel_rfl
theorem flat30 : flat Tryd.prog 4 30 = some (List.replicate 32 .u8 ++ [.u64, .u64]) := by kernel_rfl
theorem flat27r : flat Tryd.prog 4 27 = some (List.replicate 32 .u8) := by kernel_rfl
def pD (l : List UInt8) : List UInt8 := (l.drop 1).take 32
set_option maxHeartbeats 1000000 in
theorem refRecord_fn (x : UInt8) (s c : Nat) (t : List UInt8) (ht : t.length = 32) (hs : s < 4294967296) (hc : c < 18446744073709551616)  : Fn Tryd.prog 58 [.v (aggV (recV x s c t))] (byt (recL x s c t)) := by
 refine Fn.of Tryd.func58 rfl (by kernel_rfl) Tryd.ntmps58 (by simp) (fun w => [(0, .v (aggV (recV x s c t)))]) (fun w => (Start.v rfl Start.nil)) fun w₀ => ?_
 refine GS ?_
 refine TN 0 ?_
 refine RN ?_
 refine ⟨_, _, eff_box (n := 13) (d := 1) (k := 1000001) rfl (by decide), fun b1 hb1 => ?_⟩
 have hBb1 := hb1.1
 refine TL ?_
 refine RA rfl ?_
 refine RN ?_
 refine GD ?_
 refine TD 9 ?_
 refine RS (ok_field field72_0 (by decide) rfl) ?_
 refine RS (ok_loadV (s := 1000001) (by decide) Tryd.underlying5 rfl rfl rfl (rfl)) ?_
 refine RS (ok_build [.v (byteV x)] Tryd.underlying91 info5 rfl (by decide) (by decide) rfl ⟨rfl, rfl, trivial⟩ (fun d hd w x h => by simp only [List.mem_cons, List.not_mem_nil, or_false] at hd; rcases hd with rfl; exact v_one rfl h)) ?_
 refine RS (ok_field field72_1 (by decide) rfl) ?_
 refine RS (ok_loadP (s := 1000001) (by decide) Tryd.underlying70 rfl size70 rfl rfl (by simp [recV]) (rfl)) ?_
 refine RS (ok_call (ref8Put_fn s c hs hc) (A1 rfl)) ?_
 refine RS (ok_appendFull (l := [x]) (m := nonceL s c) Tryd.underlying91 info5 (by decide) rfl rfl (Le.eq (by rfl)) rfl (Le.refl _) (Nat.succ_pos _) (by rw [nonceL_length]; decide) (by simp only [nonceL_length, List.length_cons, List.length_nil]; omega)) ?_
 refine RS (ok_field field72_2 (by decide) rfl) ?_
 refine RS (OpOk.fact (ok_sliceX (l := 0) (h := 32) (m := 32) Tryd.underlying27 info5 rfl (.inr ⟨rfl, rfl⟩) (.inr ⟨rfl, rfl, rfl⟩) (.inr ⟨rfl, rfl⟩) (by decide) (by decide) (by decide) (.inl (by decide))) (d := byt t) (s := 1000001) (by decide) rfl (slice_byt t ht.symm (by decide) (by decide) (rec_tag ht))) ?_
 refine RN ?_
 refine ⟨_, eff_appendS (vs := t.map byteV) Tryd.underlying91 info5 (by decide) rfl rfl rfl (Le.eq (byt_vals _)) (by simp [byteV, Value.oneCell']) (by simp only [List.length_map, nonceL_length, ht, List.length_cons, List.length_nil]; omega) (by decide) (fun g hg => (LT 1000001 rfl LN)), ?_⟩
 refine TL ?_
 refine RA rfl ?_
 refine RN ?_
 refine A.sub (KE 2 rfl (show own w₀.heap.size 5 _ _ = own w₀.heap.size 5 (1 + 12 + 32) (([x] ++ nonceL s c).map byteV ++ t.map byteV) from by rw [nonceL_length, List.length_map, ht]; rfl) (KC 1000001 rfl KN)) ?_
 refine A.ret ?_
 exact End.ret1 rfl rfl ((Le.eq (by rw [← List.map_append]; rfl)).trans (own_byt (B := w₀.heap.size) (e := 5) (n := 1 + 12 + 32) (l := recL x s c t) (recL_len x s c ht).symm))
theorem refEntry_fn (x : UInt8) (t : List UInt8) (ht : t.length = 32)  : Fn Tryd.prog 59 [.v (aggV (entV x t))] (byt (entL x t)) := by
 refine Fn.of Tryd.func59 rfl (by kernel_rfl) Tryd.ntmps59 (by simp) (fun w => [(0, .v (aggV (entV x t)))]) (fun w => (Start.v rfl Start.nil)) fun w₀ => ?_
 refine GS ?_
 refine TN 0 ?_
 refine RN ?_
 refine ⟨_, _, eff_box (n := 9) (d := 1) (k := 1000001) rfl (by decide), fun b1 hb1 => ?_⟩
 have hBb1 := hb1.1
 refine TL ?_
 refine RA rfl ?_
 refine RN ?_
 refine GD ?_
 refine TL ?_
 refine RS (ok_field field75_0 (by decide) rfl) ?_
 refine RS (ok_loadV (s := 1000001) (by decide) Tryd.underlying5 rfl rfl rfl (rfl)) ?_
 refine RS (ok_build [.v (byteV x)] Tryd.underlying91 info5 rfl (by decide) (by decide) rfl ⟨rfl, rfl, trivial⟩ (fun d hd w x h => by simp only [List.mem_cons, List.not_mem_nil, or_false] at hd; rcases hd with rfl; exact v_one rfl h)) ?_
 refine RS (ok_field field75_1 (by decide) rfl) ?_
 refine RS (OpOk.fact (ok_sliceX (l := 0) (h := 32) (m := 32) Tryd.underlying27 info5 rfl (.inr ⟨rfl, rfl⟩) (.inr ⟨rfl, rfl, rfl⟩) (.inr ⟨rfl, rfl⟩) (by decide) (by decide) (by decide) (.inl (by decide))) (d := byt t) (s := 1000001) (by decide) rfl (slice_byt t ht.symm (by decide) (by decide) (ent_tag ht))) ?_
 refine RS (ok_appendFull (l := [x]) (m := t) Tryd.underlying91 info5 (by decide) rfl rfl (Le.eq (by rfl)) rfl (Le.refl _) (Nat.succ_pos _) (by omega) (by simp only [ht, List.length_cons, List.length_nil]; omega)) ?_
 refine RA rfl ?_
 refine RN ?_
 refine A.ret ?_
 exact End.ret1 rfl rfl (own_byt (B := w₀.heap.size) (e := 5) (n := [x].length + t.length) (l := entL x t) (by rw [entL_len x ht, ht]; rfl))
end Go.Proofs.YtfjpipkcfbmdeaaDoor
namespace Go.Proofs.YtfjpipkcfbmdeaaDoor
open Go Go.RowKit
set_option linter.unusedVariables false
set_option maxRecDepth 20000
theorem cks_A (x : UInt8) (z : Bool) (h : 2 < x.toNat) : Fn Tryd.prog 77 [.v (byteV x), .v (.bool z)] (.v (.int .i64 1)) := by
 refine Fn.of Tryd.func77 rfl (by kernel_rfl) Tryd.ntmps77 (by simp) (fun w => [(0, .v (byteV x)), (1, .v (.bool z))]) (fun w => (Start.v rfl (Start.v rfl Start.nil))) fun w₀ => ?_
 refine GS ?_
 refine TL ?_
 refine RA rfl ?_
 refine RN ?_
 refine A.seq ?_
 refine GS ?_
 refine TL ?_
 refine RM rfl ?_
 refine RBS rfl rfl rfl (.bool true) (by simp; omega) ?_
 refine RM rfl ?_
 refine RK ?_
 refine RK ?_
 refine RK ?_
 refine RunK.skippedU rfl rfl rfl rfl ?_
 refine RunK.skippedU rfl rfl rfl rfl ?_
 refine RK ?_
 refine RP rfl rfl ?_
 refine RN ?_
 refine A.yes rfl ?_
 refine GS ?_
 refine TL ?_
 refine RA rfl ?_
 refine RN ?_
 refine A.ret ?_
 refine End.ret_then ?_
 exact End.ret1 rfl rfl (by first | exact Le.refl _ | exact Le.old _ _)
theorem cks_B (x : UInt8) (h : x.toNat = 0) : Fn Tryd.prog 77 [.v (byteV x), .v (.bool true)] (.v (.int .i64 0)) := by
 refine Fn.of Tryd.func77 rfl (by kernel_rfl) Tryd.ntmps77 (by simp) (fun w => [(0, .v (byteV x)), (1, .v (.bool true))]) (fun w => (Start.v rfl (Start.v rfl Start.nil))) fun w₀ => ?_
 refine GS ?_
 refine TL ?_
 refine RA rfl ?_
 refine RN ?_
 refine A.seq ?_
 refine GS ?_
 refine TL ?_
 refine RM rfl ?_
 refine RBS rfl rfl rfl (.bool false) (by simp; omega) ?_
 refine RM rfl ?_
 refine RQ (ok_move rfl) ?_
 refine RQ (ok_bin rfl rfl rfl) ?_; refine RZ (.bool true) (by simp [h]) ?_
 refine RQ (ok_move rfl) ?_
 refine RQ (ok_move rfl) ?_
 refine RQ (ok_not rfl) ?_; refine RZ (.bool false) (by rfl) ?_
 refine RQ (ok_pick rfl rfl) ?_
 refine RP rfl rfl ?_
 refine RN ?_
 refine A.no rfl ?_
 refine A.skip ?_
 refine EN ?_
 refine GS ?_
 refine TL ?_
 refine RA rfl ?_
 refine RN ?_
 refine A.ret ?_
 exact End.ret1 rfl rfl (by first | exact Le.refl _ | exact Le.old _ _)
theorem cks_C (x : UInt8) (h : x.toNat = 0) : Fn Tryd.prog 77 [.v (byteV x), .v (.bool false)] (.v (.int .i64 1)) := by
 refine Fn.of Tryd.func77 rfl (by kernel_rfl) Tryd.ntmps77 (by simp) (fun w => [(0, .v (byteV x)), (1, .v (.bool false))]) (fun w => (Start.v rfl (Start.v rfl Start.nil))) fun w₀ => ?_
 refine GS ?_
 refine TL ?_
 refine RA rfl ?_
 refine RN ?_
 refine A.seq ?_
 refine GS ?_
 refine TL ?_
 refine RM rfl ?_
 refine RBS rfl rfl rfl (.bool false) (by simp; omega) ?_
 refine RM rfl ?_
 refine RQ (ok_move rfl) ?_
 refine RQ (ok_bin rfl rfl rfl) ?_; refine RZ (.bool true) (by simp [h]) ?_
 refine RQ (ok_move rfl) ?_
 refine RQ (ok_move rfl) ?_
 refine RQ (ok_not rfl) ?_; refine RZ (.bool true) (by rfl) ?_
 refine RQ (ok_pick rfl rfl) ?_
 refine RP rfl rfl ?_
 refine RN ?_
 refine A.yes rfl ?_
 refine GS ?_
 refine TL ?_
 refine RA rfl ?_
 refine RN ?_
 refine A.ret ?_
 refine End.ret_then ?_
 exact End.ret1 rfl rfl (by first | exact Le.refl _ | exact Le.old _ _)
theorem cks_D (x : UInt8) (z : Bool) (h : 1 ≤ x.toNat) (h2 : x.toNat ≤ 2) : Fn Tryd.prog 77 [.v (byteV x), .v (.bool z)] (.v (.int .i64 0)) := by
 refine Fn.of Tryd.func77 rfl (by kernel_rfl) Tryd.ntmps77 (by simp) (fun w => [(0, .v (byteV x)), (1, .v (.bool z))]) (fun w => (Start.v rfl (Start.v rfl Start.nil))) fun w₀ => ?_
 refine GS ?_
 refine TL ?_
 refine RA rfl ?_
 refine RN ?_
 refine A.seq ?_
 refine GS ?_
 refine TL ?_
 refine RM rfl ?_
 refine RBS rfl rfl rfl (.bool false) (by simp; omega) ?_
 refine RM rfl ?_
 refine RQ (ok_move rfl) ?_
 refine RQ (ok_bin rfl rfl rfl) ?_; refine RZ (.bool false) (by simp; omega) ?_
 refine RQ (ok_move rfl) ?_
 refine RK ?_
 refine RK ?_
 refine RQ (ok_pick rfl rfl) ?_
 refine RP rfl rfl ?_
 refine RN ?_
 refine A.no rfl ?_
 refine A.skip ?_
 refine EN ?_
 refine GS ?_
 refine TL ?_
 refine RA rfl ?_
 refine RN ?_
 refine A.ret ?_
 exact End.ret1 rfl rfl (by first | exact Le.refl _ | exact Le.old _ _)
theorem checkState_fn (x : UInt8) (z : Bool) : Fn Tryd.prog 77 [.v (byteV x), .v (.bool z)] (.v (.int .i64 (ckS x.toNat z))) := by
 unfold ckS
 by_cases h : 2 < x.toNat
 ·rw [if_pos (.inl h)]; exact cks_A x z h
 by_cases h0 : x.toNat = 0
 ·cases z with
  | true => rw [if_neg (by simp; omega)]; exact cks_B x h0
  | false => rw [if_pos (.inr ⟨h0, rfl⟩)]; exact cks_C x h0
 ·rw [if_neg (by omega)]; exact cks_D x z (by omega) (by omega)
theorem CheckR_fn (x : UInt8) (s c : Nat) (t : List UInt8) (ht : t.length = 32)  : Fn Tryd.prog 61 [.v (aggV (recV x s c t))] (.v (.int .i64 (ckR x s c t))) := by
 refine Fn.of Tryd.func61 rfl (by kernel_rfl) Tryd.ntmps61 (by simp) (fun w => [(0, .v (aggV (recV x s c t)))]) (fun w => (Start.v rfl Start.nil)) fun w₀ => ?_
 refine GS ?_
 refine TN 0 ?_
 refine RN ?_
 refine ⟨_, _, eff_box (n := 9) (d := 1) (k := 1000001) rfl (by decide), fun b1 hb1 => ?_⟩
 have hBb1 := hb1.1
 refine TL ?_
 refine RA rfl ?_
 refine RN ?_
 refine GD ?_
 refine TL ?_
 refine RS (ok_field field72_0 (by decide) rfl) ?_
 refine RS (ok_loadV (s := 1000001) (by decide) Tryd.underlying5 rfl rfl rfl (rfl)) ?_
 refine RS (ok_loadA (s := 1000001) (by decide) Tryd.underlying72 rfl (size72.of (rec_len x s c ht)) rfl rfl) ?_
 refine RS (ok_lit [] ([.int .u8 0] ++ [.int .u32 0] ++ [.int .u64 0] ++ List.replicate 32 (.int .u8 0)) (fun _ _ => rfl) (by kernel_rfl)) ?_
 refine RS (ok_eqlT (n := 4) (decide (x.toNat = 0 ∧ s = 0 ∧ c = 0 ∧ t = zD)) flat72 (by decide) (by kernel_rfl) (by kernel_rfl) rfl rfl (kinRec x s c ht) (kinRec 0 0 0 (t := zD) rfl) (dec_rec x s c t)) ?_
 refine RS (ok_call (checkState_fn x _) (A2 rfl rfl)) ?_; refine RZ (.int .i64 (ckR x s c t)) (congrArg (Value.int .i64) (ckS_rec x s c t)) ?_
 refine RA rfl ?_
 refine RN ?_
 refine A.ret ?_
 exact End.ret1 rfl rfl (by first | exact Le.refl _ | exact Le.old _ _)
theorem CheckE_fn (x : UInt8) (t : List UInt8) (ht : t.length = 32)  : Fn Tryd.prog 63 [.v (aggV (entV x t))] (.v (.int .i64 (ckE x t))) := by
 refine Fn.of Tryd.func63 rfl (by kernel_rfl) Tryd.ntmps63 (by simp) (fun w => [(0, .v (aggV (entV x t)))]) (fun w => (Start.v rfl Start.nil)) fun w₀ => ?_
 refine GS ?_
 refine TN 0 ?_
 refine RN ?_
 refine ⟨_, _, eff_box (n := 9) (d := 1) (k := 1000001) rfl (by decide), fun b1 hb1 => ?_⟩
 have hBb1 := hb1.1
 refine TL ?_
 refine RA rfl ?_
 refine RN ?_
 refine GD ?_
 refine TL ?_
 refine RS (ok_field field75_0 (by decide) rfl) ?_
 refine RS (ok_loadV (s := 1000001) (by decide) Tryd.underlying5 rfl rfl rfl (rfl)) ?_
 refine RS (ok_loadA (s := 1000001) (by decide) Tryd.underlying75 rfl (size75.of (ent_len x ht)) rfl rfl) ?_
 refine RS (ok_lit [] ([.int .u8 0] ++ List.replicate 32 (.int .u8 0)) (fun _ _ => rfl) (by kernel_rfl)) ?_
 refine RS (ok_eqlT (n := 4) (decide (x.toNat = 0 ∧ t = zD)) flat75 (by decide) (by kernel_rfl) (by kernel_rfl) rfl rfl (kinEnt x ht) (kinEnt 0 (t := zD) rfl) (dec_ent x t)) ?_
 refine RS (ok_call (checkState_fn x _) (A2 rfl rfl)) ?_; refine RZ (.int .i64 (ckE x t)) (congrArg (Value.int .i64) (ckS_ent x t)) ?_
 refine RA rfl ?_
 refine RN ?_
 refine A.ret ?_
 exact End.ret1 rfl rfl (by first | exact Le.refl _ | exact Le.old _ _)
theorem newD_tup {B e n : Nat} {l : List UInt8} (h : l.length = n) (hm : n ≤ maxLen := by decide) : Le (newD B e (fun b => .tuple #[.slice (some ⟨b, 0, none⟩) n n, .int .i64 0]) (l.map byteV)) (tup [bytes l n, .v (.int .i64 0)]) := fun B' w x ⟨b, h1, h2, h3, h4⟩ => by
 subst h1
 refine ⟨[.slice (some ⟨b, 0, none⟩) n n, .int .i64 0], rfl, rfl, fun j d u hd hu => ?_⟩
 match j with
 | 0 =>
  injection hd with hd; injection hu with hu; subst hd; subst hu
  exact slice_bytes l h.symm (Nat.le_refl _) hm (by rw [List.drop_zero, List.take_of_length_le (by simp [h])]) B' w h3 h4
 | 1 => injection hd with hd; injection hu with hu; subst hd; subst hu; rfl
 | j + 2 => cases hd
set_option maxHeartbeats 1000000 in
theorem PutRecord_okB (x : UInt8) (s c : Nat) (t : List UInt8) (ht : t.length = 32) (hs : s < 4294967296) (hc : c < 18446744073709551616) (hb : ¬ BadR x s c t)  : FnB Tryd.prog 48 [.v (aggV (recV x s c t))] (fun B => newD B 5 (fun b => .tuple #[.slice (some ⟨b, 0, none⟩) 45 45, .int .i64 0]) ((recL x s c t).map byteV)) := by
 refine FnB.of Tryd.func48 rfl (by kernel_rfl) Tryd.ntmps48 (by simp) (fun w => [(0, .v (aggV (recV x s c t)))]) (fun w => (Start.v rfl Start.nil)) fun w₀ => ?_
 refine GS ?_
 refine TN 0 ?_
 refine RN ?_
 refine ⟨_, _, eff_box (n := 20) (d := 1) (k := 1000001) rfl (by decide), fun b1 hb1 => ?_⟩
 have hBb1 := hb1.1
 refine TL ?_
 refine RA rfl ?_
 refine RA rfl ?_
 refine RN ?_
 refine A.seq ?_
 refine GS ?_
 refine TL ?_
 refine RS (ok_loadA (s := 1000001) (by decide) Tryd.underlying72 rfl (size72.of (rec_len x s c ht)) rfl rfl) ?_
 refine RS (ok_call (CheckR_fn x s c t ht) (A1 rfl)) ?_; refine RZ (.int .i64 0) (congrArg (Value.int .i64) (ckR_ok hb)) ?_
 refine RA rfl ?_
 refine RN ?_
 refine GS ?_
 refine TL ?_
 refine RM rfl ?_
 refine RBS rfl rfl rfl (.bool false) (by rfl) ?_
 refine RN ?_
 refine A.no rfl ?_
 refine A.skip ?_
 refine EN ?_
 refine GD ?_
 refine RunTK.new 9 (by decide) rfl (.inr (by kernel_rfl)) ?_
 refine RS (ok_field field72_0 (by decide) rfl) ?_
 refine RS (ok_loadV (s := 1000001) (by decide) Tryd.underlying5 rfl rfl rfl (rfl)) ?_
 refine RS (ok_build [.v (byteV x)] Tryd.underlying91 info5 rfl (by decide) (by decide) rfl ⟨rfl, rfl, trivial⟩ (fun d hd w x h => by simp only [List.mem_cons, List.not_mem_nil, or_false] at hd; rcases hd with rfl; exact v_one rfl h)) ?_
 refine RS (ok_field field72_1 (by decide) rfl) ?_
 refine RS (ok_loadP (s := 1000001) (by decide) Tryd.underlying70 rfl size70 rfl rfl (by simp [recV]) (rfl)) ?_
 refine RS (ok_call (Put_fn s c hs hc) (A1 rfl)) ?_
 refine RS (ok_field field72_2 (by decide) rfl) ?_
 refine RS (OpOk.fact (ok_sliceX (l := 0) (h := 32) (m := 32) Tryd.underlying27 info5 rfl (.inr ⟨rfl, rfl⟩) (.inr ⟨rfl, rfl, rfl⟩) (.inr ⟨rfl, rfl⟩) (by decide) (by decide) (by decide) (.inl (by decide))) (d := byt t) (s := 1000001) (by decide) rfl (slice_byt t ht.symm (by decide) (by decide) (rec_tag ht))) ?_
 refine RS (ok_build [bytes [x] 1, bytes (nonceL s c) 12, byt t] Tryd.underlying108 info91 rfl (by decide) (by decide) rfl ⟨rfl, rfl, rfl, rfl, rfl, rfl, trivial⟩ (fun d hd w x h => by simp only [List.mem_cons, List.not_mem_nil, or_false] at hd; rcases hd with rfl | rfl | rfl <;> first | exact list_one h | exact lst_one h)) ?_
 refine RN ?_
 refine ⟨_, _, eff_nameF (c := 45) (by simp [recL, nonceL_length, ht]) (n := 20) (d := 19) (k := 1000019) rfl rfl (fun B' => (ok_callB (Join_fnB [[x], nonceL s c, t] (by simp) (by simp [nonceL_length, ht])) (fun _ _ => fresh_mono _ _) (Args.cons rfl (list_lst3 (le_byt _ 1) (le_byt _ 12) (Le.refl _)) Args.nil)).le (d' := fresh _ 5 ((recL x s c t).map byteV) 45) (Le.eq (by simp [recL, nonceL_length, ht]))) (by decide) (by decide), fun b19 hb19 => ?_⟩
 have hBb19 := hb19.1
 have hlt_b1_b19 : b1 < b19 := hb19.2 1000001 _ _ _ rfl
 refine TL ?_
 refine RA rfl ?_
 refine RA rfl ?_
 refine RN ?_
 refine A.ret ?_
 first | exact End.newTT (kg := 1000019) rfl rfl rfl rfl hBb19 rfl rfl | exact End.ret2V rfl rfl rfl
theorem PutEntry_okB (x : UInt8) (t : List UInt8) (ht : t.length = 32) (hb : ¬ BadE x t)  : FnB Tryd.prog 50 [.v (aggV (entV x t))] (fun B => newD B 5 (fun b => .tuple #[.slice (some ⟨b, 0, none⟩) 33 33, .int .i64 0]) ((entL x t).map byteV)) := by
 refine FnB.of Tryd.func50 rfl (by kernel_rfl) Tryd.ntmps50 (by simp) (fun w => [(0, .v (aggV (entV x t)))]) (fun w => (Start.v rfl Start.nil)) fun w₀ => ?_
 refine GS ?_
 refine TN 0 ?_
 refine RN ?_
 refine ⟨_, _, eff_box (n := 17) (d := 1) (k := 1000001) rfl (by decide), fun b1 hb1 => ?_⟩
 have hBb1 := hb1.1
 refine TL ?_
 refine RA rfl ?_
 refine RA rfl ?_
 refine RN ?_
 refine A.seq ?_
 refine GS ?_
 refine TL ?_
 refine RS (ok_loadA (s := 1000001) (by decide) Tryd.underlying75 rfl (size75.of (ent_len x ht)) rfl rfl) ?_
 refine RS (ok_call (CheckE_fn x t ht) (A1 rfl)) ?_; refine RZ (.int .i64 0) (congrArg (Value.int .i64) (ckE_ok hb)) ?_
 refine RA rfl ?_
 refine RN ?_
 refine GS ?_
 refine TL ?_
 refine RM rfl ?_
 refine RBS rfl rfl rfl (.bool false) (by rfl) ?_
 refine RN ?_
 refine A.no rfl ?_
 refine A.skip ?_
 refine EN ?_
 refine GD ?_
 refine RunTK.new 6 (by decide) rfl (.inr (by kernel_rfl)) ?_
 refine RS (ok_field field75_0 (by decide) rfl) ?_
 refine RS (ok_loadV (s := 1000001) (by decide) Tryd.underlying5 rfl rfl rfl (rfl)) ?_
 refine RS (ok_build [.v (byteV x)] Tryd.underlying91 info5 rfl (by decide) (by decide) rfl ⟨rfl, rfl, trivial⟩ (fun d hd w x h => by simp only [List.mem_cons, List.not_mem_nil, or_false] at hd; rcases hd with rfl; exact v_one rfl h)) ?_
 refine RS (ok_field field75_1 (by decide) rfl) ?_
 refine RS (OpOk.fact (ok_sliceX (l := 0) (h := 32) (m := 32) Tryd.underlying27 info5 rfl (.inr ⟨rfl, rfl⟩) (.inr ⟨rfl, rfl, rfl⟩) (.inr ⟨rfl, rfl⟩) (by decide) (by decide) (by decide) (.inl (by decide))) (d := byt t) (s := 1000001) (by decide) rfl (slice_byt t ht.symm (by decide) (by decide) (ent_tag ht))) ?_
 refine RS (ok_build [bytes [x] 1, byt t] Tryd.underlying108 info91 rfl (by decide) (by decide) rfl ⟨rfl, rfl, rfl, rfl, trivial⟩ (fun d hd w x h => by simp only [List.mem_cons, List.not_mem_nil, or_false] at hd; rcases hd with rfl | rfl <;> first | exact list_one h | exact lst_one h)) ?_
 refine RN ?_
 refine ⟨_, _, eff_nameF (c := 33) (by simp [entL, ht]) (n := 17) (d := 16) (k := 1000016) rfl rfl (fun B' => (ok_callB (Join_fnB [[x], t] (by simp) (by simp [ht])) (fun _ _ => fresh_mono _ _) (Args.cons rfl (list_lst2 (le_byt _ 1) (Le.refl _)) Args.nil)).le (d' := fresh _ 5 ((entL x t).map byteV) 33) (Le.eq (by simp [entL, ht]))) (by decide) (by decide), fun b16 hb16 => ?_⟩
 have hBb16 := hb16.1
 have hlt_b1_b16 : b1 < b16 := hb16.2 1000001 _ _ _ rfl
 refine TL ?_
 refine RA rfl ?_
 refine RA rfl ?_
 refine RN ?_
 refine A.ret ?_
 first | exact End.newTT (kg := 1000016) rfl rfl rfl rfl hBb16 rfl rfl | exact End.ret2V rfl rfl rfl
theorem Eff.upM {P : Program} {n B : Nat} {ops : Array Oper} {o : Oper} {E E' : Env} {t k B' : Nat} {v : Value} {d : D} (ht : E'.look t = some (.v v)) (hk : E'.look k = some (old B' (valM v d))) (h : Eff P n B ops o E E') : Eff P n B ops o E ((t, old B' d) :: E') :=
 fun κ a w K Q hs hK => h κ a w K Q hs fun a' w' hb hs' => hK a' w' hb (hs'.push (d := old B' d) (by
  have h1 := hs'.of t _ ht
  have h2 := hs'.of k _ hk
  rw [show a'.tmps.getD t undef = v from h1]
  exact h2))
end Go.Proofs.YtfjpipkcfbmdeaaDoor
namespace Go.Proofs.YtfjpipkcfbmdeaaDoor
open Go Go.RowKit
variable {κ : Cx}
theorem own_vlst {B n : Nat} {e : TypeId} {xs : List Value} (hn : n = xs.length) : Le (own B e n xs) (vlst xs) := own_le hn
section
variable {P : Program} {B : Nat} {E : Env} {o : Oper}
end
section
variable {P : Program} {n : Nat} {w₀ : World} {E : Env}
end
/-! ### A row with room behind it, named where it is made -/
/-! ### Variables -/
theorem Surv.hd {B T g : Nat} {f : D} {rest : List Value} (h : Surv B T g f) : Surv B T g (hdD f rest) := fun w w' _ k ⟨v, h1, h2, h3⟩ => ⟨v, h1, h2, h w w' v k h3⟩
theorem Surv.valM {B T g : Nat} {f : D} {v : Value} (h : Surv B T g f) : Surv B T g (Go.Proofs.YtfjpipkcfbmdeaaDoor.valM v f) := fun w w' _ k hx => h w w' v k hx
section
variable {P : Program} {n B : Nat} {ops : Array Oper} {E : Env} {ty : TypeId} {pos : String} {after : Array Edge}
end
/-- Some value. -/
def anyD : D := .p (fun _ _ _ => True) (fun _ _ _ _ _ _ => trivial) (fun _ _ _ _ _ _ => trivial)
theorem Surv.any {B T g : Nat} : Surv B T g anyD := fun _ _ _ _ _ => trivial
end Go.Proofs.YtfjpipkcfbmdeaaDoor
