/-
  From a contract by facts to the walk that a given statement asks for.
-/
import Derived.Test.YtdnblilocdddpaaOps
namespace Go.Proofs.Ytdnblilocdddpaa
open Go Go.RowKit

/-- A law that is known by facts returns true, and writes nothing that was there. -/
theorem Fn.law {P : Program} {f : FuncId} {ds : List D} (h : Fn P f ds (.v (.bool true))) (vs : List Value) (w : World) (hl : vs.length = ds.length) (hv : ∀ (j : Nat) (e : D) (u : Value), ds[j]? = some e → vs[j]? = some u → e.Of w u) :
    Calls P f vs.toArray w fun e w' => e = .returned (.bool true) ∧ Below w.heap.size w w' :=
  (h.calls vs w hl hv).mono fun e w' ⟨x, he, g, hx⟩ => ⟨by have hx : x = .bool true := hx; rw [he, hx], g⟩
theorem facts_nil {w : World} : ∀ (j : Nat) (e : D) (u : Value), ([] : List D)[j]? = some e → ([] : List Value)[j]? = some u → e.Of w u := fun j e u h => by simp at h
theorem facts_cons {w : World} {d : D} {v : Value} {ds : List D} {vs : List Value} (h : d.Of w v) (hr : ∀ (j : Nat) (e : D) (u : Value), ds[j]? = some e → vs[j]? = some u → e.Of w u) : ∀ (j : Nat) (e : D) (u : Value), (d :: ds)[j]? = some e → (v :: vs)[j]? = some u → e.Of w u := fun j e u he hu => by
  cases j with
  | zero => simp at he hu; subst he; subst hu; exact h
  | succ j => exact hr j e u (by simpa using he) (by simpa using hu)
theorem block_of_cell {w : World} {a : Addr} {v : Value} (h : w.cell? a = some v) : a.block < w.heap.size := by
  rcases Nat.lt_or_ge a.block w.heap.size with hlt | hge
  · exact hlt
  · simp [World.cell?, Array.getElem?_eq_none hge] at h
/-- A slice of bytes that came in reads as a list. -/
theorem byt_of_cells {w : World} {a : Option Addr} {len cap : Nat} {zs : List Int}
    (h : (a = none ∧ len = 0 ∧ cap = 0 ∧ zs = []) ∨ ∃ x, a = some x ∧ len ≤ cap ∧ cap ≤ maxLen ∧ zs.length = cap ∧ (∀ i, i < zs.length → w.cell? (x.add i) = some (.int .u8 (zs.getD i 0))) ∧ ∀ n ∈ zs, (Lit.int .u8 n).wf = true) :
    ∃ l : List UInt8, l.length = len ∧ (byt l).Of w (.slice a len cap) := by
  rcases h with ⟨rfl, rfl, rfl, rfl⟩ | ⟨x, rfl, hl, hm, hz, hc, hw⟩
  · exact ⟨[], rfl, byt_nil_le.of (w := w) (x := .slice none 0 0) rfl⟩
  · refine ⟨(zs.take len).map fun n => UInt8.ofNat n.toNat, by simp; omega, cap, ?_⟩
    have hlen : ((zs.take len).map fun n => UInt8.ofNat n.toNat).length = len := by simp; omega
    have hrow : RowIn w.heap.size w (some x) (((zs.take len).map fun n => UInt8.ofNat n.toNat).map byteV) := fun j u hu => by
      simp only [List.map_map, List.getElem?_map] at hu
      cases hj : (zs.take len)[j]? with
      | none => rw [hj] at hu; cases hu
      | some n =>
        rw [hj] at hu
        simp only [Option.map_some, Option.some.injEq, Function.comp_def] at hu
        rw [List.getElem?_take] at hj
        split at hj
        · have hlt : j < zs.length := (List.getElem?_eq_some_iff.1 hj).1
          have hn : zs.getD j 0 = n := by rw [List.getD_eq_getElem?_getD, hj]; rfl
          have h1 := hc j hlt
          rw [hn] at h1
          have h2 := hw n (List.mem_of_getElem? hj)
          simp [Lit.wf, IntKind.min, IntKind.max, IntKind.signed, IntKind.bits] at h2
          have h3 : byteV (UInt8.ofNat n.toNat) = .int .u8 n := by
            unfold byteV
            congr 1
            simp
            omega
          rw [h3] at hu
          subst hu
          refine ⟨x, rfl, ?_, h1⟩
          have := block_of_cell h1
          rwa [block_of_add] at this
        · cases hj
    have := bytes_mk (c := cap) (by omega) hm hrow
    rw [hlen] at this
    exact this
end Go.Proofs.Ytdnblilocdddpaa
