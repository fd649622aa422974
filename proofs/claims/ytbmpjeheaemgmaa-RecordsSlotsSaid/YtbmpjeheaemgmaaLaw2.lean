/-
  From contracts by facts to the walks that given statements ask for: tables that are listed; parameters that are arrays of numbers, slices of bytes, slices of such slices.
-/
import Derived.Test.YtbmpjeheaemgmaaLaw
import Derived.Test.YtbmpjeheaemgmaaOps4
import Derived.Test.YtbmpjeheaemgmaaSha
import Derived.OpenShut
import Derived.ChangeSlices
namespace Go.Proofs.Ytbmpjeheaemgmaa
open Go Go.RowKit Go.ChangeShapes Go.WideShapes

theorem FnM.law {P : Program} {f : FuncId} {M : Env} {ds : List D} (h : FnM P f M ds (.v (.bool true))) (vs : List Value) (w : World) (hM : ∀ p ∈ M, p.2.Of w undef) (hl : vs.length = ds.length) (hv : ∀ (j : Nat) (e : D) (u : Value), ds[j]? = some e → vs[j]? = some u → e.Of w u) :
    Calls P f vs.toArray w fun e w' => e = .returned (.bool true) ∧ Below w.heap.size w w' :=
  (h.calls vs w hM hl hv).mono fun e w' ⟨x, he, g, hx⟩ => ⟨by have hx : x = .bool true := hx; rw [he, hx], g⟩

section
variable {H : Type} {enc : TypeId × Value → H} {P : Program} {w : World} {base : Nat} {spare : Nat → Bool} {held : Bool}
/-- A slice of bytes, read. -/
theorem trod_byt {t e : TypeId} {fuel : Nat} {cs : List Value} {x : DataW H × List MemPlace} (ht : P.underlying t = some (.slice e)) (he : P.underlying e = some (.int .u8)) (hc : P.cellsOf e = 1) (hsp : ∀ b, spare b = true)
    (h : DataW.trod enc P w base spare held fuel t cs = some x) : ∃ v l, cs = [v] ∧ (byt l).Of w v := by
  rcases open_ints ht he hc h with ⟨rfl, _⟩ | ⟨a, len, cap, zs, rfl, _, hl, hm, hz, _, hcell, hwf⟩
  · obtain ⟨l, _, h1⟩ := byt_of_cells (w := w) (a := none) (len := 0) (cap := 0) (zs := []) (.inl ⟨rfl, rfl, rfl, rfl⟩)
    exact ⟨_, l, rfl, h1⟩
  · obtain ⟨l, _, h1⟩ := byt_of_cells (w := w) (a := some a) (len := len) (cap := cap) (zs := zs) (.inr ⟨a, rfl, hl, hm, by rw [hz, hsp, if_pos rfl], hcell, hwf⟩)
    exact ⟨_, l, rfl, h1⟩
theorem okWide_arr' {r : Reach} {b0 n : Nat} {t e : TypeId} {v : Value} (ht : P.underlying t = some (.array n e)) (h : Value.okWide P w r b0 t v) : ∃ cs, v = .agg cs := by
  unfold Value.okWide at h
  rw [ht] at h
  obtain ⟨cs, h, _⟩ := h
  exact ⟨cs, h⟩
/-- Parameters. -/
theorem arg_byt {t e : TypeId} {v : Value} {d : DataW H} {ps : List MemPlace} (ht : P.underlying t = some (.slice e)) (he : P.underlying e = some (.int .u8)) (hc : P.cellsOf e = 1) {r : Reach} {b0 : Nat} (hk : Value.okWide P w r b0 t v)
    (h : DataW.Trod enc P w base (fun _ => true) held t v d ps) : ∃ l, (byt l).Of w v := by
  obtain ⟨a, len, cap, rfl⟩ := okWide_slice ht hk
  obtain ⟨fuel, hf⟩ := h
  obtain ⟨v, l, h1, h2⟩ := trod_byt ht he hc (fun _ => rfl) hf
  simp only [Value.cells, List.cons.injEq] at h1
  exact ⟨l, h1.1 ▸ h2⟩
theorem wf_u8 {m : Int} (h : (Lit.int .u8 m).wf = true) : Value.int .u8 m = byteV (UInt8.ofNat m.toNat) := by
  simp [Lit.wf, IntKind.min, IntKind.max, IntKind.signed, IntKind.bits] at h
  unfold byteV
  congr 1
  simp
  omega
theorem arg_u8 {t : TypeId} {v : Value} {d : DataW H} {ps : List MemPlace} (ht : P.underlying t = some (.int .u8)) {r : Reach} {b0 : Nat} (hk : Value.okWide P w r b0 t v)
    (h : DataW.Trod enc P w base (fun _ => true) held t v d ps) : ∃ b : UInt8, v = byteV b := by
  obtain ⟨n, rfl⟩ := okWide_int ht hk
  obtain ⟨fuel, hf⟩ := h
  obtain ⟨a, h1, _, h3⟩ := DataW.trod_int ht hf
  simp only [Value.cells, List.cons.injEq, Value.int.injEq, true_and, and_true] at h1
  subst h1
  exact ⟨_, wf_u8 h3⟩
end

/-! ### Listed tables -/
end Go.Proofs.Ytbmpjeheaemgmaa
