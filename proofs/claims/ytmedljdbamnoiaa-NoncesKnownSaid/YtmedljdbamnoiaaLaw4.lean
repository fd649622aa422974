/-
  From contracts by facts to the walks that given statements ask for: parameters that are structs of numbers and of arrays of bytes, numbers with their bounds, pairs of slices of bytes.
-/
import Derived.Test.YtmedljdbamnoiaaFlat
import Derived.Test.YtmedljdbamnoiaaAes
import Derived.Test.YtmedljdbamnoiaaCalls
namespace Go.Proofs.Ytmedljdbamnoiaa
open Go Go.RowKit Go.ChangeShapes Go.WideShapes
section
variable {H : Type} {enc : TypeId × Value → H} {P : Program} {w : World} {base : Nat} {held : Bool}
theorem arg_N {t : TypeId} {v : Value} {d : DataW H} {ps : List MemPlace} (hf : flat P 3 t = some [.u32, .u64]) (hg : isAggT P t = true) {r : Reach} {b0 : Nat} (hk : Value.okWide P w r b0 t v)
    (h : DataW.Trod enc P w base (fun _ => true) held t v d ps) : ∃ (s c : Nat), s < 4294967296 ∧ c < 18446744073709551616 ∧ v = aggV [.int .u32 ((s : Nat) : Int), .int .u64 ((c : Nat) : Int)] := by
  obtain ⟨xs, rfl, hx⟩ := arg_flat 3 hf hg hk h
  obtain ⟨n, y, rfl, h3, h4⟩ := hx.cons
  obtain ⟨m, rfl, h5⟩ := h4.one
  obtain ⟨s, rfl, hs⟩ := nat_u32 h3
  obtain ⟨c, rfl, hc⟩ := nat_u64 h5
  exact ⟨s, c, hs, hc, rfl⟩
theorem arg_i64n {t : TypeId} {v : Value} {d : DataW H} {ps : List MemPlace} (ht : P.underlying t = some (.int .i64)) {r : Reach} {b0 : Nat} (hk : Value.okWide P w r b0 t v)
    (h : DataW.Trod enc P w base (fun _ => true) held t v d ps) : ∃ n : Int, -9223372036854775808 ≤ n ∧ n ≤ 9223372036854775807 ∧ v = .int .i64 n := by
  obtain ⟨n, rfl, hw⟩ := arg_num ht hk h
  exact ⟨n, (bounds_i64 hw).1, (bounds_i64 hw).2, rfl⟩
end
end Go.Proofs.Ytmedljdbamnoiaa
