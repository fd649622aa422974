/-
  From contracts by facts to the walks that given statements ask for: parameters that are structs of one small number, small numbers, arrays of four numbers. Nothing of one program stands here.
-/
import Derived.Test.YtdnblilocdddpaaFlat
namespace Go.Proofs.Ytdnblilocdddpaa
open Go Go.RowKit Go.ChangeShapes Go.WideShapes
section
variable {H : Type} {enc : TypeId × Value → H} {P : Program} {w : World} {base : Nat} {held : Bool}
theorem arg_N12 {t : TypeId} {v : Value} {d : DataW H} {ps : List MemPlace} (hf : flat P 3 t = some [.u16]) (hg : isAggT P t = true) {r : Reach} {b0 : Nat} (hk : Value.okWide P w r b0 t v)
    (h : DataW.Trod enc P w base (fun _ => true) held t v d ps) : ∃ n : Nat, n < 65536 ∧ v = aggV [.int .u16 ((n : Nat) : Int)] := by
  obtain ⟨xs, rfl, hx⟩ := arg_flat 3 hf hg hk h
  obtain ⟨n, rfl, h1⟩ := hx.one
  obtain ⟨a, rfl, ha⟩ := nat_u16 h1
  exact ⟨a, ha, rfl⟩
theorem arg_nB {t : TypeId} {v : Value} {d : DataW H} {ps : List MemPlace} (ht : P.underlying t = some (.int .u8)) {r : Reach} {b0 : Nat} (hk : Value.okWide P w r b0 t v)
    (h : DataW.Trod enc P w base (fun _ => true) held t v d ps) : ∃ n : Nat, n < 256 ∧ v = .int .u8 ((n : Nat) : Int) := by
  obtain ⟨n, rfl, hw⟩ := arg_num ht hk h
  obtain ⟨a, rfl, ha⟩ := nat_u8 hw
  exact ⟨a, ha, rfl⟩
theorem arg_nW {t : TypeId} {v : Value} {d : DataW H} {ps : List MemPlace} (ht : P.underlying t = some (.int .u16)) {r : Reach} {b0 : Nat} (hk : Value.okWide P w r b0 t v)
    (h : DataW.Trod enc P w base (fun _ => true) held t v d ps) : ∃ n : Nat, n < 65536 ∧ v = .int .u16 ((n : Nat) : Int) := by
  obtain ⟨n, rfl, hw⟩ := arg_num ht hk h
  obtain ⟨a, rfl, ha⟩ := nat_u16 hw
  exact ⟨a, ha, rfl⟩
theorem arg_z4 {t : TypeId} {v : Value} {d : DataW H} {ps : List MemPlace} (hf : flat P 3 t = some [.i64, .i64, .i64, .i64]) (hg : isAggT P t = true) {r : Reach} {b0 : Nat} (hk : Value.okWide P w r b0 t v)
    (h : DataW.Trod enc P w base (fun _ => true) held t v d ps) : ∃ a b c e : Int, v = aggV [.int .i64 a, .int .i64 b, .int .i64 c, .int .i64 e] := by
  obtain ⟨xs, rfl, hx⟩ := arg_flat 3 hf hg hk h
  obtain ⟨a, y, rfl, _, h2⟩ := hx.cons
  obtain ⟨b, y, rfl, _, h4⟩ := h2.cons
  obtain ⟨c, y, rfl, _, h6⟩ := h4.cons
  obtain ⟨e, rfl, _⟩ := h6.one
  exact ⟨a, b, c, e, rfl⟩
end
end Go.Proofs.Ytdnblilocdddpaa
