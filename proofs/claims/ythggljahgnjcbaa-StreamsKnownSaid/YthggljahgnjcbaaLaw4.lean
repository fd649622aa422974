/-
  From contracts by facts to the walks that given statements ask for: parameters that are structs of numbers and of arrays of bytes, numbers with their bounds, pairs of slices of bytes.
-/
import Derived.Test.YthggljahgnjcbaaFlat
import Derived.Test.YthggljahgnjcbaaAes
import Derived.Test.YthggljahgnjcbaaCalls
namespace Go.Proofs.Ythggljahgnjcbaa
open Go Go.RowKit Go.ChangeShapes Go.WideShapes
section
variable {H : Type} {enc : TypeId × Value → H} {P : Program} {w : World} {base : Nat} {held : Bool}
/-- A key with a nonce. -/
theorem arg_K {t : TypeId} {v : Value} {d : DataW H} {ps : List MemPlace} (hf : flat P 3 t = some (List.replicate 16 .u8 ++ [.u32, .u64])) (hg : isAggT P t = true) {r : Reach} {b0 : Nat} (hk : Value.okWide P w r b0 t v)
    (h : DataW.Trod enc P w base (fun _ => true) held t v d ps) : ∃ (f : Nat → Nat) (s c : Nat), (∀ i, f i < 256) ∧ s < 4294967296 ∧ c < 18446744073709551616 ∧ v = aggV (rowV 16 f ++ [.int .u32 ((s : Nat) : Int), .int .u64 ((c : Nat) : Int)]) := by
  obtain ⟨xs, rfl, hx⟩ := arg_flat 3 hf hg hk h
  obtain ⟨x, y, rfl, h1, h2⟩ := hx.append
  obtain ⟨l, hl, rfl⟩ := h1.bytes
  obtain ⟨n, y, rfl, h3, h4⟩ := h2.cons
  obtain ⟨m, rfl, h5⟩ := h4.one
  obtain ⟨s, rfl, hs⟩ := nat_u32 h3
  obtain ⟨c, rfl, hc⟩ := nat_u64 h5
  exact ⟨byL l, s, c, byL_lt l, hs, hc, by rw [rowV_byL hl]⟩
theorem arg_N {t : TypeId} {v : Value} {d : DataW H} {ps : List MemPlace} (hf : flat P 3 t = some [.u32, .u64]) (hg : isAggT P t = true) {r : Reach} {b0 : Nat} (hk : Value.okWide P w r b0 t v)
    (h : DataW.Trod enc P w base (fun _ => true) held t v d ps) : ∃ (s c : Nat), s < 4294967296 ∧ c < 18446744073709551616 ∧ v = aggV [.int .u32 ((s : Nat) : Int), .int .u64 ((c : Nat) : Int)] := by
  obtain ⟨xs, rfl, hx⟩ := arg_flat 3 hf hg hk h
  obtain ⟨n, y, rfl, h3, h4⟩ := hx.cons
  obtain ⟨m, rfl, h5⟩ := h4.one
  obtain ⟨s, rfl, hs⟩ := nat_u32 h3
  obtain ⟨c, rfl, hc⟩ := nat_u64 h5
  exact ⟨s, c, hs, hc, rfl⟩
theorem arg_R {t : TypeId} {v : Value} {d : DataW H} {ps : List MemPlace} (hf : flat P 3 t = some [.u32, .u64, .u32, .u32]) (hg : isAggT P t = true) {r : Reach} {b0 : Nat} (hk : Value.okWide P w r b0 t v)
    (h : DataW.Trod enc P w base (fun _ => true) held t v d ps) : ∃ (s c f l : Nat), s < 4294967296 ∧ c < 18446744073709551616 ∧ f < 4294967296 ∧ l < 4294967296 ∧ v = aggV [.int .u32 ((s : Nat) : Int), .int .u64 ((c : Nat) : Int), .int .u32 ((f : Nat) : Int), .int .u32 ((l : Nat) : Int)] := by
  obtain ⟨xs, rfl, hx⟩ := arg_flat 3 hf hg hk h
  obtain ⟨n, y, rfl, h3, h4⟩ := hx.cons
  obtain ⟨m, y, rfl, h5, h6⟩ := h4.cons
  obtain ⟨p, y, rfl, h7, h8⟩ := h6.cons
  obtain ⟨q, rfl, h9⟩ := h8.one
  obtain ⟨s, rfl, hs⟩ := nat_u32 h3
  obtain ⟨c, rfl, hc⟩ := nat_u64 h5
  obtain ⟨f, rfl, hf⟩ := nat_u32 h7
  obtain ⟨l, rfl, hl⟩ := nat_u32 h9
  exact ⟨s, c, f, l, hs, hc, hf, hl, rfl⟩
theorem arg_u32n {t : TypeId} {v : Value} {d : DataW H} {ps : List MemPlace} (ht : P.underlying t = some (.int .u32)) {r : Reach} {b0 : Nat} (hk : Value.okWide P w r b0 t v)
    (h : DataW.Trod enc P w base (fun _ => true) held t v d ps) : ∃ n : Nat, n < 4294967296 ∧ v = .int .u32 ((n : Nat) : Int) := by
  obtain ⟨n, rfl, hw⟩ := arg_num ht hk h
  obtain ⟨a, rfl, ha⟩ := nat_u32 hw
  exact ⟨a, ha, rfl⟩
theorem arg_u16n {t : TypeId} {v : Value} {d : DataW H} {ps : List MemPlace} (ht : P.underlying t = some (.int .u16)) {r : Reach} {b0 : Nat} (hk : Value.okWide P w r b0 t v)
    (h : DataW.Trod enc P w base (fun _ => true) held t v d ps) : ∃ n : Nat, n < 65536 ∧ v = .int .u16 ((n : Nat) : Int) := by
  obtain ⟨n, rfl, hw⟩ := arg_num ht hk h
  obtain ⟨a, rfl, ha⟩ := nat_u16 hw
  exact ⟨a, ha, rfl⟩
theorem arg_u64n {t : TypeId} {v : Value} {d : DataW H} {ps : List MemPlace} (ht : P.underlying t = some (.int .u64)) {r : Reach} {b0 : Nat} (hk : Value.okWide P w r b0 t v)
    (h : DataW.Trod enc P w base (fun _ => true) held t v d ps) : ∃ n : Nat, n < 18446744073709551616 ∧ v = .int .u64 ((n : Nat) : Int) := by
  obtain ⟨n, rfl, hw⟩ := arg_num ht hk h
  obtain ⟨a, rfl, ha⟩ := nat_u64 hw
  exact ⟨a, ha, rfl⟩
theorem arg_i64n {t : TypeId} {v : Value} {d : DataW H} {ps : List MemPlace} (ht : P.underlying t = some (.int .i64)) {r : Reach} {b0 : Nat} (hk : Value.okWide P w r b0 t v)
    (h : DataW.Trod enc P w base (fun _ => true) held t v d ps) : ∃ n : Int, -9223372036854775808 ≤ n ∧ n ≤ 9223372036854775807 ∧ v = .int .i64 n := by
  obtain ⟨n, rfl, hw⟩ := arg_num ht hk h
  exact ⟨n, (bounds_i64 hw).1, (bounds_i64 hw).2, rfl⟩
/-- Two slices of bytes, in an array. -/
theorem arg_pair {t e b : TypeId} {v : Value} {d : DataW H} {ps : List MemPlace} (ht : P.underlying t = some (.array 2 e)) (he : P.underlying e = some (.slice b)) (hb : P.underlying b = some (.int .u8)) (hc : P.cellsOf b = 1) (hce : P.cellsOf e = 1) (hct : P.cellsOf t = 2) {r : Reach} {b0 : Nat} (hk : Value.okWide P w r b0 t v)
    (h : DataW.Trod enc P w base (fun _ => true) held t v d ps) : ∃ l m : List UInt8, (pairD (byt l) (byt m)).Of w v := by
  obtain ⟨cs, rfl⟩ := okWide_arr' ht hk
  obtain ⟨fuel, hf⟩ := h
  obtain ⟨xs, q, _, _, hlen, hxl, hel⟩ := DataW.trod_array ht hf
  have hlen' : cs.toList.length = 2 := by rw [← hct]; exact hlen
  have e0 := hel 0 (by decide)
  have e1 := hel 1 (by decide)
  rw [List.getElem?_eq_getElem (by omega), hce] at e0 e1
  obtain ⟨v0, l, h0, k0⟩ := trod_byt he hb hc (fun _ => rfl) e0
  obtain ⟨v1, m, h1, k1⟩ := trod_byt he hb hc (fun _ => rfl) e1
  refine ⟨l, m, v0, v1, ?_, k0, k1⟩
  have h0' : (cs.toList.drop (0 * 1)).take 1 = [v0] := h0
  have h1' : (cs.toList.drop (1 * 1)).take 1 = [v1] := h1
  unfold aggV
  congr 1
  apply Array.ext'
  show cs.toList = [v0, v1]
  match hcs : cs.toList, hlen' with
  | [x, y], _ =>
    rw [hcs] at h0' h1'
    simp at h0' h1'
    rw [h0', h1']
end
end Go.Proofs.Ythggljahgnjcbaa
