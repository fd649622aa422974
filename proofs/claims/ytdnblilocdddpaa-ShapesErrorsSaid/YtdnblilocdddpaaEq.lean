/-
  OWN WORDS: an array of numbers compared with the same array. Nothing of one program stands here.
-/
import Derived.Test.YtdnblilocdddpaaRange
import Derived.Test.YtdnblilocdddpaaSha
import Derived.ChangeKeysEq
import Derived.Laws.StructEq
namespace Go.Proofs.Ytdnblilocdddpaa
open Go Go.RowKit
section
variable {P : Program} {B : Nat} {E : Env} {dst : Option Tmp} {ty : TypeId} {pos : String} {after : Array Edge} {guard : Option (Nat × Bool)}
theorem eqItems_same {e : TypeId} {k : IntKind} (d : Nat) (w : World) (he : P.underlying e = some (.int k)) (xs : List Value) (hx : ∀ u ∈ xs, ∃ n, u = .int k n) : ∀ is : List Nat, (∀ i ∈ is, i < xs.length) → (Op.eqItems (d + 1) e 1 xs.toArray xs.toArray is).run P w = .ok true w := by
  have hagg : (isAgg e).run P w = .ok false w := by
    unfold isAgg
    rw [Sem.run_bind, run_underlying he w]
    simp
  intro is
  induction is with
  | nil => intro _; simp [Op.eqItems]
  | cons i is ih =>
    intro h
    have hi := h i List.mem_cons_self
    obtain ⟨n, hn⟩ := hx xs[i] (List.getElem_mem hi)
    have hp : (part e xs.toArray (i * 1)).run P w = .ok (.int k n) w := by
      simp [part, Sem.run_bind, hagg, hi, hn]
    have heq : (Op.equalIn (d + 1) e (.int k n) (.int k n)).run P w = .ok true w := by
      simp [Op.equalIn, Sem.run_bind, run_underlying he]
    simp only [Op.eqItems, Sem.run_bind, hp, Result.andThen_ok, heq]
    simpa using ih fun j hj => h j (List.mem_cons_of_mem _ hj)
theorem equal_same {t e : TypeId} {k : IntKind} {len : Nat} {z : Value} {nb : Nat} {xs : List Value} (w : World) (ht : P.underlying t = some (.array len e)) (he : P.underlying e = some (.int k)) (hs : InfoIs P e z nb) (hl : xs.length = len) (hx : ∀ u ∈ xs, ∃ n, u = .int k n) :
    (Op.equalIn 10000 t (.agg xs.toArray) (.agg xs.toArray)).run P w = .ok true w := by
  obtain ⟨info, hinfo, _, hsize, _⟩ := hs.get
  have hc : P.cellsOf e = 1 := by simp [Program.cellsOf, hinfo, hsize]
  rw [show (10000 : Nat) = 9999 + 1 from rfl, run_equalIn_array (w := w) 9999 xs.toArray xs.toArray ht hinfo, hc]
  exact eqItems_same 9998 w he xs hx _ fun i hi => by rw [hl]; exact List.mem_range.1 hi
theorem ok_eqlA {t e t' : TypeId} {k : IntKind} {len : Nat} {z : Value} {nb : Nat} {x y : Operand} {xs ys : List Value} (ht : P.underlying t = some (.array len e)) (he : P.underlying e = some (.int k)) (hs : InfoIs P e z nb) (hm : P.eqGuardType P.depth t = false)
    (hx : E.at x = some (.v (aggV xs))) (hy : E.at y = some (.v (aggV ys))) (hxy : ys = xs) (hl : xs.length = len) (hxs : ∀ u ∈ xs, ∃ n, u = .int k n) : OpOk P B ⟨dst, .binOp .eql t x y t', ty, pos, after, guard⟩ E (.v (.bool true)) := fun ρ w _ _ hρ => by
  subst hxy
  have h1 : ρ x = .agg ys.toArray := hρ x (by simp [Op.operands]) _ hx
  have h2 : ρ y = .agg ys.toArray := hρ y (by simp [Op.operands]) _ hy
  have := equal_same (P := P) w ht he hs hl hxs
  exact out_val (w' := w) (by simp [execOp, h1, h2, Sem.run_bind, run_eqGuard_agg, hm, run_eql_struct, this]) ⟨Grow.refl w, rfl⟩
theorem ok_neqA {t e t' : TypeId} {k : IntKind} {len : Nat} {z : Value} {nb : Nat} {x y : Operand} {xs ys : List Value} (ht : P.underlying t = some (.array len e)) (he : P.underlying e = some (.int k)) (hs : InfoIs P e z nb) (hm : P.eqGuardType P.depth t = false)
    (hx : E.at x = some (.v (aggV xs))) (hy : E.at y = some (.v (aggV ys))) (hxy : ys = xs) (hl : xs.length = len) (hxs : ∀ u ∈ xs, ∃ n, u = .int k n) : OpOk P B ⟨dst, .binOp .neq t x y t', ty, pos, after, guard⟩ E (.v (.bool false)) := fun ρ w _ _ hρ => by
  subst hxy
  have h1 : ρ x = .agg ys.toArray := hρ x (by simp [Op.operands]) _ hx
  have h2 : ρ y = .agg ys.toArray := hρ y (by simp [Op.operands]) _ hy
  have := equal_same (P := P) w ht he hs hl hxs
  exact out_val (w' := w) (by simp [execOp, h1, h2, Sem.run_bind, run_eqGuard_agg, hm, run_neq_struct, this]) ⟨Grow.refl w, rfl⟩
theorem ints_u32 (xs : List UInt32) : ∀ u ∈ xs.map u32V, ∃ n, u = .int .u32 n := fun u hu => by
  simp only [List.mem_map] at hu; obtain ⟨x, _, rfl⟩ := hu; exact ⟨_, rfl⟩
theorem ints_u8 (xs : List UInt8) : ∀ u ∈ xs.map byteV, ∃ n, u = .int .u8 n := fun u hu => by
  simp only [List.mem_map] at hu; obtain ⟨x, _, rfl⟩ := hu; exact ⟨_, rfl⟩
/-! ### Two arrays of numbers of which nothing is known -/
theorem eqItems_dec {e : TypeId} {k : IntKind} (d : Nat) (w : World) (he : P.underlying e = some (.int k)) (xs ys : List Value) (hx : ∀ u ∈ xs, ∃ n, u = .int k n) (hy : ∀ u ∈ ys, ∃ n, u = .int k n) : ∀ is : List Nat, (∀ i ∈ is, i < xs.length ∧ i < ys.length) →
    ∃ r : Bool, (Op.eqItems (d + 1) e 1 xs.toArray ys.toArray is).run P w = .ok r w ∧ (r = true ↔ ∀ i ∈ is, xs[i]? = ys[i]?) := by
  have hagg : (isAgg e).run P w = .ok false w := by
    unfold isAgg
    rw [Sem.run_bind, run_underlying he w]
    simp
  intro is
  induction is with
  | nil => intro _; exact ⟨true, by simp [Op.eqItems], by simp⟩
  | cons i is ih =>
    intro h
    obtain ⟨hi, hj⟩ := h i List.mem_cons_self
    obtain ⟨n, hn⟩ := hx xs[i] (List.getElem_mem hi)
    obtain ⟨m, hm⟩ := hy ys[i] (List.getElem_mem hj)
    have hp : (part e xs.toArray (i * 1)).run P w = .ok (.int k n) w := by
      simp [part, Sem.run_bind, hagg, hi, hn]
    have hq : (part e ys.toArray (i * 1)).run P w = .ok (.int k m) w := by
      simp [part, Sem.run_bind, hagg, hj, hm]
    have heq : (Op.equalIn (d + 1) e (.int k n) (.int k m)).run P w = .ok (n == m) w := by
      simp [Op.equalIn, Sem.run_bind, run_underlying he]
    obtain ⟨r, hr, hri⟩ := ih fun j hj => h j (List.mem_cons_of_mem _ hj)
    have hxi : xs[i]? = some (.int k n) := by rw [List.getElem?_eq_getElem hi, hn]
    have hyi : ys[i]? = some (.int k m) := by rw [List.getElem?_eq_getElem hj, hm]
    simp only [Op.eqItems, Sem.run_bind, hp, hq, Result.andThen_ok, heq]
    by_cases hnm : n = m
    · subst hnm
      refine ⟨r, by simpa using hr, ?_⟩
      simp [hri, hxi, hyi]
    · refine ⟨false, by simp [hnm], ?_⟩
      simp [hxi, hyi, hnm]
theorem equal_dec {t e : TypeId} {k : IntKind} {len : Nat} {z : Value} {nb : Nat} {xs ys : List Value} (w : World) (ht : P.underlying t = some (.array len e)) (he : P.underlying e = some (.int k)) (hs : InfoIs P e z nb) (hl : xs.length = len) (hl' : ys.length = len) (hx : ∀ u ∈ xs, ∃ n, u = .int k n) (hy : ∀ u ∈ ys, ∃ n, u = .int k n) :
    ∃ r : Bool, (Op.equalIn 10000 t (.agg xs.toArray) (.agg ys.toArray)).run P w = .ok r w ∧ (r = true ↔ xs = ys) := by
  obtain ⟨info, hinfo, _, hsize, _⟩ := hs.get
  have hc : P.cellsOf e = 1 := by simp [Program.cellsOf, hinfo, hsize]
  obtain ⟨r, hr, hri⟩ := eqItems_dec (P := P) 9998 w he xs ys hx hy (List.range len) fun i hi => by
    have := List.mem_range.1 hi
    omega
  refine ⟨r, ?_, hri.trans ⟨fun h => ?_, fun h => by subst h; exact fun _ _ => rfl⟩⟩
  · rw [show (10000 : Nat) = 9999 + 1 from rfl, run_equalIn_array (w := w) 9999 xs.toArray ys.toArray ht hinfo, hc]; exact hr
  · apply List.ext_getElem?
    intro i
    rcases Nat.lt_or_ge i len with hi | hi
    · exact h i (List.mem_range.2 hi)
    · rw [List.getElem?_eq_none (by omega), List.getElem?_eq_none (by omega)]
theorem bytes_inj {a b : List UInt8} (h : a.map byteV = b.map byteV) : a = b := (List.map_inj_right fun x y hxy => by
  simp only [byteV, Value.int.injEq, true_and] at hxy
  exact UInt8.toNat_inj.1 (by omega)).1 h
/-- Two strings of bytes as arrays: whether they are equal. -/
theorem ok_eqlB {t e t' : TypeId} {len : Nat} {z : Value} {nb : Nat} {x y : Operand} (a b : List UInt8) (ht : P.underlying t = some (.array len e)) (he : P.underlying e = some (.int .u8)) (hs : InfoIs P e z nb) (hm : P.eqGuardType P.depth t = false)
    (hx : E.at x = some (.v (aggV (a.map byteV)))) (hy : E.at y = some (.v (aggV (b.map byteV)))) (hl : a.length = len) (hl' : b.length = len) : OpOk P B ⟨dst, .binOp .eql t x y t', ty, pos, after, guard⟩ E (.v (.bool (decide (a = b)))) := fun ρ w _ _ hρ => by
  have h1 : ρ x = .agg (a.map byteV).toArray := hρ x (by simp [Op.operands]) _ hx
  have h2 : ρ y = .agg (b.map byteV).toArray := hρ y (by simp [Op.operands]) _ hy
  obtain ⟨r, hr, hri⟩ := equal_dec (P := P) (xs := a.map byteV) (ys := b.map byteV) w ht he hs (by simpa using hl) (by simpa using hl') (ints_u8 _) (ints_u8 _)
  have hrd : r = decide (a = b) := by
    have hinj : a.map byteV = b.map byteV ↔ a = b := ⟨fun h => bytes_inj h, fun h => by rw [h]⟩
    rw [hinj] at hri
    by_cases hab : a = b
    · rw [hri.2 hab]; simp [hab]
    · cases r with
      | true => exact absurd (hri.1 rfl) hab
      | false => simp [hab]
  subst hrd
  exact out_val (w' := w) (by simp [execOp, h1, h2, Sem.run_bind, run_eqGuard_agg, hm, run_eql_struct, hr]) ⟨Grow.refl w, rfl⟩
end
end Go.Proofs.Ytdnblilocdddpaa
