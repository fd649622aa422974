/-
  From contracts by facts to the walks that given statements ask for: parameters that are structs of a slice of numbers and of three numbers. Nothing of one program stands here.
-/
import Derived.Test.YtmedljdbamnoiaaLaw4
import Derived.Test.YtmedljdbamnoiaaNonce
namespace Go.Proofs.Ytmedljdbamnoiaa
open Go Go.RowKit Go.ChangeShapes Go.WideShapes
/-- A slice of numbers that came in reads as a list. -/
theorem vals_of_cells {k : IntKind} {w : World} {x : Addr} {len cap : Nat} {zs : List Int} (hl : len ≤ cap) (hm : cap ≤ maxLen) (hz : zs.length = cap) (hc : ∀ i, i < zs.length → w.cell? (x.add i) = some (.int k (zs.getD i 0))) :
    (vlst ((zs.take len).map fun n => .int k n)).Of w (.slice (some x) len cap) := by
  have hlen : ((zs.take len).map fun n => Value.int k n).length = len := by simp; omega
  refine ⟨cap, ?_⟩
  have := vlist_mk (B := w.heap.size) (w := w) (us := (zs.take len).map fun n => Value.int k n) (c := cap) (A := some x) (by omega) hm fun j u hu => by
    rw [List.getElem?_map] at hu
    cases hj : (zs.take len)[j]? with
    | none => rw [hj] at hu; cases hu
    | some n =>
      rw [hj] at hu
      injection hu with hu; subst hu
      rw [List.getElem?_take] at hj
      split at hj
      · have hlt : j < zs.length := (List.getElem?_eq_some_iff.1 hj).1
        have h1 := hc j hlt
        rw [show zs.getD j 0 = n from by rw [List.getD_eq_getElem?_getD, hj]; rfl] at h1
        refine ⟨x, rfl, ?_, h1⟩
        have := block_of_cell h1
        rwa [block_of_add] at this
      · cases hj
  rw [hlen] at this
  exact this
section
variable {H : Type} {enc : TypeId × Value → H} {P : Program} {w : World} {base : Nat} {held : Bool}
theorem trod_nums {t e : TypeId} {k : IntKind} {fuel : Nat} {cs : List Value} {x : DataW H × List MemPlace} (ht : P.underlying t = some (.slice e)) (he : P.underlying e = some (.int k)) (hc : P.cellsOf e = 1)
    (h : DataW.trod enc P w base (fun _ => true) held fuel t cs = some x) : ∃ (v : Value) (ns : List Int), cs = [v] ∧ v.oneCell' = true ∧ (∀ n ∈ ns, (Lit.int k n).wf = true) ∧ (vlst (ns.map fun n => .int k n)).Of w v := by
  rcases open_ints ht he hc h with ⟨rfl, _⟩ | ⟨a, len, cap, zs, rfl, _, hl, hm, hz, _, hcell, hwf⟩
  · exact ⟨_, [], rfl, rfl, fun n hn => (by cases hn), lst_nil_le.of (w := w) (x := .slice none 0 0) rfl⟩
  · exact ⟨_, zs.take len, rfl, rfl, fun n hn => hwf n (List.mem_of_mem_take hn), vals_of_cells hl hm (by rw [hz]; simp) hcell⟩
theorem arg_hd4 {t e : TypeId} {k k1 k2 k3 : IntKind} {f0 f1 f2 f3 : Field} {v : Value} {d : DataW H} {ps : List MemPlace} (ht : P.underlying t = some (.struct #[f0, f1, f2, f3])) (o0 : f0.offset = 0) (o1 : f1.offset = 1) (o2 : f2.offset = 2) (o3 : f3.offset = 3)
    (t0 : P.underlying f0.type = some (.slice e)) (he : P.underlying e = some (.int k)) (hc : P.cellsOf e = 1) (c0 : P.cellsOf f0.type = 1) (t1 : P.underlying f1.type = some (.int k1)) (c1 : P.cellsOf f1.type = 1) (t2 : P.underlying f2.type = some (.int k2)) (c2 : P.cellsOf f2.type = 1)
    (t3 : P.underlying f3.type = some (.int k3)) (c3 : P.cellsOf f3.type = 1) (hC : P.cellsOf t = 4) {r : Reach} {b0 : Nat} (hk : Value.okWide P w r b0 t v) (h : DataW.Trod enc P w base (fun _ => true) held t v d ps) :
    ∃ (ns : List Int) (a b c : Int), (∀ n ∈ ns, (Lit.int k n).wf = true) ∧ (Lit.int k1 a).wf = true ∧ (Lit.int k2 b).wf = true ∧ (Lit.int k3 c).wf = true ∧ (hdD (vlst (ns.map fun n => .int k n)) [.int k1 a, .int k2 b, .int k3 c]).Of w v := by
  obtain ⟨cs, rfl, hcs⟩ := okWide_struct ht hk
  obtain ⟨fuel, hf⟩ := h
  obtain ⟨xs, m, _, _, hlen, hxl, hel⟩ := DataW.trod_struct ht hf
  have hlen' : cs.toList.length = 4 := by rw [← hC]; exact hlen
  have hxl' : xs.length = 4 := by simpa using hxl
  have e0 := hel 0 f0 rfl
  have e1 := hel 1 f1 rfl
  have e2 := hel 2 f2 rfl
  have e3 := hel 3 f3 rfl
  rw [List.getElem?_eq_getElem (by omega)] at e0 e1 e2 e3
  rw [o0, c0] at e0
  rw [o1, c1] at e1
  rw [o2, c2] at e2
  rw [o3, c3] at e3
  obtain ⟨u, ns, a1, a2, a3, a4⟩ := trod_nums t0 he hc e0
  obtain ⟨a, b1, _, b3⟩ := DataW.trod_int t1 e1
  obtain ⟨b, d1, _, d3⟩ := DataW.trod_int t2 e2
  obtain ⟨c, g1, _, g3⟩ := DataW.trod_int t3 e3
  refine ⟨ns, a, b, c, a3, b3, d3, g3, u, a2, ?_, a4⟩
  unfold aggV
  congr 1
  apply Array.ext'
  show cs.toList = [u, .int k1 a, .int k2 b, .int k3 c]
  have a1' : (cs.toList.drop 0).take 1 = [u] := a1
  have b1' : (cs.toList.drop 1).take 1 = [.int k1 a] := b1
  have d1' : (cs.toList.drop 2).take 1 = [.int k2 b] := d1
  have g1' : (cs.toList.drop 3).take 1 = [.int k3 c] := g1
  match hcl : cs.toList, hlen' with
  | [x, y, z, q], _ =>
    rw [hcl] at a1' b1' d1' g1'
    simp at a1' b1' d1' g1'
    rw [a1', b1', d1', g1']
theorem nats_u64 {ns : List Int} (h : ∀ n ∈ ns, (Lit.int .u64 n).wf = true) : ∃ cs : List Nat, (∀ c ∈ cs, c < 18446744073709551616) ∧ ns.map (fun n => Value.int .u64 n) = rowQ cs := by
  refine ⟨ns.map Int.toNat, fun c hc => ?_, ?_⟩
  · obtain ⟨n, hn, rfl⟩ := List.mem_map.1 hc
    obtain ⟨a, rfl, ha⟩ := nat_u64 (h n hn)
    simpa using ha
  · rw [rowQ, List.map_map]
    refine List.map_congr_left fun n hn => ?_
    obtain ⟨a, rfl, ha⟩ := nat_u64 (h n hn)
    rfl
theorem nats_u16 {ns : List Int} (h : ∀ n ∈ ns, (Lit.int .u16 n).wf = true) : ∃ us : List Nat, (∀ c ∈ us, c < 65536) ∧ ns.map (fun n => Value.int .u16 n) = us.map sV := by
  refine ⟨ns.map Int.toNat, fun c hc => ?_, ?_⟩
  · obtain ⟨n, hn, rfl⟩ := List.mem_map.1 hc
    obtain ⟨a, rfl, ha⟩ := nat_u16 (h n hn)
    simpa using ha
  · rw [List.map_map]
    refine List.map_congr_left fun n hn => ?_
    obtain ⟨a, rfl, ha⟩ := nat_u16 (h n hn)
    rfl
theorem arg_al {w : World} {v : Value} (h : ∃ (ns : List Int) (a b c : Int), (∀ n ∈ ns, (Lit.int .u64 n).wf = true) ∧ (Lit.int .u64 a).wf = true ∧ (Lit.int .u64 b).wf = true ∧ (Lit.int .u64 c).wf = true ∧ (hdD (vlst (ns.map fun n => .int .u64 n)) [.int .u64 a, .int .u64 b, .int .u64 c]).Of w v) :
    ∃ (cs : List Nat) (m l r : Nat), l < 18446744073709551616 ∧ (hdD (vlst (rowQ cs)) (alR m l r)).Of w v := by
  obtain ⟨ns, a, b, c, h1, h2, h3, h4, h5⟩ := h
  obtain ⟨cs, hcs, h6⟩ := nats_u64 h1
  obtain ⟨m, rfl, hm⟩ := nat_u64 h2
  obtain ⟨l, rfl, hl⟩ := nat_u64 h3
  obtain ⟨r, rfl, hr⟩ := nat_u64 h4
  rw [h6] at h5
  exact ⟨cs, m, l, r, hl, h5⟩
theorem arg_A {w : World} {v : Value} (h : ∃ (ns : List Int) (a b c : Int), (∀ n ∈ ns, (Lit.int .u16 n).wf = true) ∧ (Lit.int .u8 a).wf = true ∧ (Lit.int .u8 b).wf = true ∧ (Lit.int .u16 c).wf = true ∧ (hdD (vlst (ns.map fun n => .int .u16 n)) [.int .u8 a, .int .u8 b, .int .u16 c]).Of w v) :
    ∃ (us : List Nat) (M R O : Nat), (∀ a ∈ us, a < 65536) ∧ M < 256 ∧ R < 256 ∧ O < 65536 ∧ (hdD (vlst (us.map sV)) [.int .u8 ((M : Nat) : Int), .int .u8 ((R : Nat) : Int), .int .u16 ((O : Nat) : Int)]).Of w v := by
  obtain ⟨ns, a, b, c, h1, h2, h3, h4, h5⟩ := h
  obtain ⟨us, hus, h6⟩ := nats_u16 h1
  obtain ⟨M, rfl, hM⟩ := nat_u8 h2
  obtain ⟨R, rfl, hR⟩ := nat_u8 h3
  obtain ⟨O, rfl, hO⟩ := nat_u16 h4
  rw [h6] at h5
  exact ⟨us, M, R, O, hus, hM, hR, hO, h5⟩
end
end Go.Proofs.Ytmedljdbamnoiaa
