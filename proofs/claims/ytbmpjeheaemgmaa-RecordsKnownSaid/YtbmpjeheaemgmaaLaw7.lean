/-
  From contracts by facts to the walks that given statements ask for: parameters that are records, entries, cells. Nothing of one program stands here.
-/
import Derived.Test.YtbmpjeheaemgmaaLaw4
import Derived.Test.YtbmpjeheaemgmaaRec
namespace Go.Proofs.Ytbmpjeheaemgmaa
open Go Go.RowKit Go.ChangeShapes Go.WideShapes
section
variable {H : Type} {enc : TypeId × Value → H} {P : Program} {w : World} {base : Nat} {held : Bool}
theorem arg_rec10 {t : TypeId} {v : Value} {d : DataW H} {ps : List MemPlace} (hf : flat P 4 t = some (.u8 :: .u32 :: .u64 :: List.replicate 32 .u8)) (hg : isAggT P t = true) {r : Reach} {b0 : Nat} (hk : Value.okWide P w r b0 t v)
    (h : DataW.Trod enc P w base (fun _ => true) held t v d ps) : ∃ (x : UInt8) (s c : Nat) (tg : List UInt8), s < 4294967296 ∧ c < 18446744073709551616 ∧ tg.length = 32 ∧ v = aggV (recV x s c tg) := by
  obtain ⟨xs, rfl, hx⟩ := arg_flat 4 hf hg hk h
  obtain ⟨n, y, rfl, h1, h2⟩ := hx.cons
  obtain ⟨m, y, rfl, h3, h4⟩ := h2.cons
  obtain ⟨q, y, rfl, h5, h6⟩ := h4.cons
  obtain ⟨l, hl, rfl⟩ := h6.bytes
  obtain ⟨a, rfl, ha⟩ := nat_u8 h1
  obtain ⟨s, rfl, hs⟩ := nat_u32 h3
  obtain ⟨c, rfl, hc⟩ := nat_u64 h5
  exact ⟨UInt8.ofNat a, s, c, l, hs, hc, hl, by rw [recV, byteV_nat a ha]⟩
theorem arg_ent10 {t : TypeId} {v : Value} {d : DataW H} {ps : List MemPlace} (hf : flat P 4 t = some (.u8 :: List.replicate 32 .u8)) (hg : isAggT P t = true) {r : Reach} {b0 : Nat} (hk : Value.okWide P w r b0 t v)
    (h : DataW.Trod enc P w base (fun _ => true) held t v d ps) : ∃ (x : UInt8) (tg : List UInt8), tg.length = 32 ∧ v = aggV (entV x tg) := by
  obtain ⟨xs, rfl, hx⟩ := arg_flat 4 hf hg hk h
  obtain ⟨n, y, rfl, h1, h2⟩ := hx.cons
  obtain ⟨l, hl, rfl⟩ := h2.bytes
  obtain ⟨a, rfl, ha⟩ := nat_u8 h1
  exact ⟨UInt8.ofNat a, l, hl, by rw [entV, byteV_nat a ha]⟩
theorem arg_cel10 {t : TypeId} {v : Value} {d : DataW H} {ps : List MemPlace} (hf : flat P 4 t = some (List.replicate 32 .u8 ++ [.u64, .u64])) (hg : isAggT P t = true) {r : Reach} {b0 : Nat} (hk : Value.okWide P w r b0 t v)
    (h : DataW.Trod enc P w base (fun _ => true) held t v d ps) : ∃ (tg : List UInt8) (e m : Nat), tg.length = 32 ∧ e < 18446744073709551616 ∧ m < 18446744073709551616 ∧ v = aggV (celV tg e m) := by
  obtain ⟨xs, rfl, hx⟩ := arg_flat 4 hf hg hk h
  obtain ⟨x, y, rfl, h1, h2⟩ := hx.append
  obtain ⟨l, hl, rfl⟩ := h1.bytes
  obtain ⟨n, y, rfl, h3, h4⟩ := h2.cons
  obtain ⟨m, rfl, h5⟩ := h4.one
  obtain ⟨e, rfl, he⟩ := nat_u64 h3
  obtain ⟨m, rfl, hm⟩ := nat_u64 h5
  exact ⟨l, e, m, hl, he, hm, rfl⟩
end
end Go.Proofs.Ytbmpjeheaemgmaa
