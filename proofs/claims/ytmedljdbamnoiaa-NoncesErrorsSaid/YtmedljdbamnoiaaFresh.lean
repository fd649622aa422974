/-
  OWN WORDS: a variable that is made inside a region whose order is drawn: its block's number is known only once it is written (the store is a barrier). Nothing of one program stands here.
-/
import Derived.Test.YtmedljdbamnoiaaRange
namespace Go.Proofs.Ytmedljdbamnoiaa
open Go Go.RowKit
section
variable {P : Program} {n B : Nat} {ops : Array Oper} {E : Env} {ty : TypeId} {pos : String} {after : Array Edge}
/-- Blocks that the environment knows whole. -/
def Named (E : Env) (L : List Nat) : Prop := ∀ b ∈ L, ∃ s e xs, vbase ≤ s ∧ E.look s = some (blk b e xs)
theorem Named.nil : Named E [] := fun _ h => by cases h
theorem Named.cons {b s : Nat} {e : TypeId} {xs : List Value} {L : List Nat} (hs : vbase ≤ s) (h : E.look s = some (blk b e xs)) (hr : Named E L) : Named E (b :: L) := fun b' hb => by
  rcases List.mem_cons.1 hb with rfl | hb
  · exact ⟨s, e, xs, hs, h⟩
  · exact hr b' hb
/-- A pointer to a block of its own, above the blocks L. -/
def freshV (base : Nat) (L : List Nat) (T : TypeId) (zs : List Value) : D :=
  .p (fun B w x => ∃ b, x = .pointer (some ⟨b, 0, none⟩) ∧ base ≤ b ∧ (∀ b' ∈ L, b' < b) ∧ b < B ∧ w.heap[b]? = some (.cells zs.toArray T (0, 0)))
    (fun _ _ _ _ g ⟨b, h1, h2, h3, h4, h5⟩ => ⟨b, h1, h2, h3, h4, (g.block b h4).trans h5⟩) (fun _ _ _ _ g ⟨b, h1, h2, h3, h4, h5⟩ => ⟨b, h1, h2, h3, by omega, h5⟩)
theorem ok_allocF {dst : Option Tmp} {guard : Option (Nat × Bool)} {T : TypeId} {zs : List Value} (L : List Nat) (hz : ZeroIs P T zs) (hL : Named E L) : OpOk P B ⟨dst, .alloc T, ty, pos, after, guard⟩ E (freshV B L T zs) := fun ρ w hB hv _ => by
  obtain ⟨i, z, hi, hz, hc⟩ := hz.get
  refine out_val (x := .pointer (some ⟨w.heap.size, 0, none⟩)) (w' := w.alloc (.cells zs.toArray T)) (by simp [execOp, Instr.alloc, zeroValue, typeInfo, hi, hz, newVar, newRow, hc]) ⟨Grow.alloc w _, w.heap.size, rfl, hB, fun b' hb' => ?_, by simp, heap_alloc_new w _⟩
  obtain ⟨s, e, xs, hs, hl⟩ := hL b' hb'
  exact (hv s _ hs hl).1
end
end Go.Proofs.Ytmedljdbamnoiaa
