/-
  From contracts by facts to the walks that given statements ask for: parameters that are arrays of arrays of bytes.
-/
import Derived.Test.YtliolhdkbneleaaLaw2
import Derived.Test.YtliolhdkbneleaaAes
namespace Go.Proofs.Ytliolhdkbneleaa
open Go Go.RowKit Go.ChangeShapes Go.WideShapes
section
variable {H : Type} {enc : TypeId × Value → H} {P : Program} {w : World} {base : Nat} {held : Bool}
theorem arg_row {t e : TypeId} {n : Nat} {v : Value} {d : DataW H} {ps : List MemPlace} (ht : P.underlying t = some (.array n e)) (he : P.underlying e = some (.int .u8)) (hc : P.cellsOf e = 1) (hT : P.cellsOf t = n) {r : Reach} {b0 : Nat} (hk : Value.okWide P w r b0 t v)
    (h : DataW.Trod enc P w base (fun _ => true) held t v d ps) : ∃ f : Nat → Nat, (∀ i, f i < 256) ∧ v = aggV (rowV n f) := by
  obtain ⟨l, hl, rfl⟩ := arg_bytes ht he hc hT hk h
  exact ⟨byL l, byL_lt l, by rw [rowV_byL hl]⟩
theorem arg_grid {t u e : TypeId} {m n : Nat} {v : Value} {d : DataW H} {ps : List MemPlace} (ht : P.underlying t = some (.array m u)) (hu : P.underlying u = some (.array n e)) (he : P.underlying e = some (.int .u8)) (hc : P.cellsOf e = 1) (hU : P.cellsOf u = n) (hT : P.cellsOf t = m * n) (hn : 0 < n) {r : Reach} {b0 : Nat} (hk : Value.okWide P w r b0 t v)
    (h : DataW.Trod enc P w base (fun _ => true) held t v d ps) : ∃ f : Nat → Nat, (∀ i, f i < 256) ∧ v = aggV (rowV (m * n) f) := by
  obtain ⟨cs, rfl⟩ := okWide_arr' ht hk
  obtain ⟨fuel, hf⟩ := h
  obtain ⟨xs, q, _, _, hlen, hxl, hel⟩ := DataW.trod_array ht hf
  have hlen' : cs.toList.length = m * n := by rw [← hT]; exact hlen
  have each : ∀ j, ∃ a : Nat, a < 256 ∧ (j < m * n → cs.toList[j]? = some (.int .u8 ((a : Nat) : Int))) := fun j => by
    by_cases hj : j < m * n
    · have hi : j / n < m := (Nat.div_lt_iff_lt_mul hn).2 hj
      have h1 := hel (j / n) hi
      rw [List.getElem?_eq_getElem (by omega), hU] at h1
      obtain ⟨ns, a1, a2, _, a4⟩ := trod_ints hu he hc hU h1
      have hjn : j % n < n := Nat.mod_lt _ hn
      have h2 : ((cs.toList.drop (j / n * n)).take n)[j % n]? = cs.toList[j]? := by
        rw [List.getElem?_take, if_pos hjn, List.getElem?_drop]
        congr 1
        rw [Nat.mul_comm]; exact Nat.div_add_mod j n
      have a2' : (cs.toList.drop (j / n * n)).take n = _ := a2
      rw [a2', List.getElem?_map, List.getElem?_eq_getElem (by omega), Option.map_some] at h2
      have hm := a4 _ (List.getElem_mem (l := ns) (n := j % n) (by omega))
      have hw := wf_u8 hm
      refine ⟨(UInt8.ofNat (ns[j % n]'(by omega)).toNat).toNat, UInt8.toNat_lt _, fun _ => ?_⟩
      rw [← h2, hw]; rfl
    · exact ⟨0, by decide, fun h => absurd h hj⟩
  obtain ⟨f, hf⟩ := Classical.axiomOfChoice each
  refine ⟨f, fun i => (hf i).1, ?_⟩
  unfold aggV
  congr 1
  apply Array.ext'
  show cs.toList = rowV (m * n) f
  apply List.ext_getElem?
  intro j
  rcases Nat.lt_or_ge j (m * n) with hj | hj
  · rw [(hf j).2 hj, rowV_get hj]
  · rw [List.getElem?_eq_none (by omega), List.getElem?_eq_none (by rw [rowV_length]; omega)]
end
end Go.Proofs.Ytliolhdkbneleaa
