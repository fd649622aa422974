/-
  OWN WORDS: an array of numbers compared with the same array. Nothing of one program stands here.
-/
import Derived.Test.YtlnnhlgfomklcaaDoorRange
import Derived.Test.YtlnnhlgfomklcaaDoorSha
import Derived.ChangeKeysEq
import Derived.Laws.StructEq
namespace Go.Proofs.YtlnnhlgfomklcaaDoor
open Go Go.RowKit
section
variable {P : Program} {B : Nat} {E : Env} {dst : Option Tmp} {ty : TypeId} {pos : String} {after : Array Edge} {guard : Option (Nat × Bool)}
theorem eqItems_same {e : TypeId} {k : IntKind} (d : Nat) (w : World) (he : P.underlying e = some (.int k)) (xs : List Value) (hx : ∀ u ∈ xs, ∃ n, u = .int k n) : ∀ is : List Nat, (∀ i ∈ is, i < xs.length) → (Op.eqItems (d + 1) e 1 xs.toArray xs.toArray is).run P w = .ok true w := by
  have hagg : (isAgg e).run P w = .ok false w := by
    unfold isAgg
    rw [Sem.run_bind, run_underlying he w]
    simp
  intro is
  induction is with
  | nil => intro _; simp [Op.eqItems]
  | cons i is ih =>
    intro h
    have hi := h i List.mem_cons_self
    obtain ⟨n, hn⟩ := hx xs[i] (List.getElem_mem hi)
    have hp : (part e xs.toArray (i * 1)).run P w = .ok (.int k n) w := by
      simp [part, Sem.run_bind, hagg, hi, hn]
    have heq : (Op.equalIn (d + 1) e (.int k n) (.int k n)).run P w = .ok true w := by
      simp [Op.equalIn, Sem.run_bind, run_underlying he]
    simp only [Op.eqItems, Sem.run_bind, hp, Result.andThen_ok, heq]
    simpa using ih fun j hj => h j (List.mem_cons_of_mem _ hj)
theorem equal_same {t e : TypeId} {k : IntKind} {len : Nat} {z : Value} {nb : Nat} {xs : List Value} (w : World) (ht : P.underlying t = some (.array len e)) (he : P.underlying e = some (.int k)) (hs : InfoIs P e z nb) (hl : xs.length = len) (hx : ∀ u ∈ xs, ∃ n, u = .int k n) :
    (Op.equalIn 10000 t (.agg xs.toArray) (.agg xs.toArray)).run P w = .ok true w := by
  obtain ⟨info, hinfo, _, hsize, _⟩ := hs.get
  have hc : P.cellsOf e = 1 := by simp [Program.cellsOf, hinfo, hsize]
  rw [show (10000 : Nat) = 9999 + 1 from rfl, run_equalIn_array (w := w) 9999 xs.toArray xs.toArray ht hinfo, hc]
  exact eqItems_same 9998 w he xs hx _ fun i hi => by rw [hl]; exact List.mem_range.1 hi
theorem ok_eqlA {t e t' : TypeId} {k : IntKind} {len : Nat} {z : Value} {nb : Nat} {x y : Operand} {xs ys : List Value} (ht : P.underlying t = some (.array len e)) (he : P.underlying e = some (.int k)) (hs : InfoIs P e z nb) (hm : P.eqGuardType P.depth t = false)
    (hx : E.at x = some (.v (aggV xs))) (hy : E.at y = some (.v (aggV ys))) (hxy : ys = xs) (hl : xs.length = len) (hxs : ∀ u ∈ xs, ∃ n, u = .int k n) : OpOk P B ⟨dst, .binOp .eql t x y t', ty, pos, after, guard⟩ E (.v (.bool true)) := fun ρ w _ _ hρ => by
  subst hxy
  have h1 : ρ x = .agg ys.toArray := hρ x (by simp [Op.operands]) _ hx
  have h2 : ρ y = .agg ys.toArray := hρ y (by simp [Op.operands]) _ hy
  have := equal_same (P := P) w ht he hs hl hxs
  exact out_val (w' := w) (by simp [execOp, h1, h2, Sem.run_bind, run_eqGuard_agg, hm, run_eql_struct, this]) ⟨Grow.refl w, rfl⟩
theorem ok_neqA {t e t' : TypeId} {k : IntKind} {len : Nat} {z : Value} {nb : Nat} {x y : Operand} {xs ys : List Value} (ht : P.underlying t = some (.array len e)) (he : P.underlying e = some (.int k)) (hs : InfoIs P e z nb) (hm : P.eqGuardType P.depth t = false)
    (hx : E.at x = some (.v (aggV xs))) (hy : E.at y = some (.v (aggV ys))) (hxy : ys = xs) (hl : xs.length = len) (hxs : ∀ u ∈ xs, ∃ n, u = .int k n) : OpOk P B ⟨dst, .binOp .neq t x y t', ty, pos, after, guard⟩ E (.v (.bool false)) := fun ρ w _ _ hρ => by
  subst hxy
  have h1 : ρ x = .agg ys.toArray := hρ x (by simp [Op.operands]) _ hx
  have h2 : ρ y = .agg ys.toArray := hρ y (by simp [Op.operands]) _ hy
  have := equal_same (P := P) w ht he hs hl hxs
  exact out_val (w' := w) (by simp [execOp, h1, h2, Sem.run_bind, run_eqGuard_agg, hm, run_neq_struct, this]) ⟨Grow.refl w, rfl⟩
theorem ints_u32 (xs : List UInt32) : ∀ u ∈ xs.map u32V, ∃ n, u = .int .u32 n := fun u hu => by
  simp only [List.mem_map] at hu; obtain ⟨x, _, rfl⟩ := hu; exact ⟨_, rfl⟩
theorem ints_u8 (xs : List UInt8) : ∀ u ∈ xs.map byteV, ∃ n, u = .int .u8 n := fun u hu => by
  simp only [List.mem_map] at hu; obtain ⟨x, _, rfl⟩ := hu; exact ⟨_, rfl⟩
end
end Go.Proofs.YtlnnhlgfomklcaaDoor
