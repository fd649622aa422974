/-
  OWN WORDS: a variable that is made inside a region whose order is drawn: its block's number is known only once it is written (the store is a barrier). Nothing of one program stands here.
-/
import Derived.Test.YtdnblilocdddpaaRange
namespace Go.Proofs.Ytdnblilocdddpaa
open Go Go.RowKit
section
variable {P : Program} {n B : Nat} {ops : Array Oper} {E : Env} {ty : TypeId} {pos : String} {after : Array Edge}
/-- Blocks that the environment knows whole. -/
def Named (E : Env) (L : List Nat) : Prop := ∀ b ∈ L, ∃ s e xs, vbase ≤ s ∧ E.look s = some (blk b e xs)
theorem Named.nil : Named E [] := fun _ h => by cases h
theorem Named.cons {b s : Nat} {e : TypeId} {xs : List Value} {L : List Nat} (hs : vbase ≤ s) (h : E.look s = some (blk b e xs)) (hr : Named E L) : Named E (b :: L) := fun b' hb => by
  rcases List.mem_cons.1 hb with rfl | hb
  · exact ⟨s, e, xs, hs, h⟩
  · exact hr b' hb
/-- A pointer to a block of its own, above the blocks L. -/
def freshV (base : Nat) (L : List Nat) (T : TypeId) (zs : List Value) : D :=
  .p (fun B w x => ∃ b, x = .pointer (some ⟨b, 0, none⟩) ∧ base ≤ b ∧ (∀ b' ∈ L, b' < b) ∧ b < B ∧ w.heap[b]? = some (.cells zs.toArray T (0, 0)))
    (fun _ _ _ _ g ⟨b, h1, h2, h3, h4, h5⟩ => ⟨b, h1, h2, h3, h4, (g.block b h4).trans h5⟩) (fun _ _ _ _ g ⟨b, h1, h2, h3, h4, h5⟩ => ⟨b, h1, h2, h3, by omega, h5⟩)
theorem ok_allocF {dst : Option Tmp} {guard : Option (Nat × Bool)} {T : TypeId} {zs : List Value} (L : List Nat) (hz : ZeroIs P T zs) (hL : Named E L) : OpOk P B ⟨dst, .alloc T, ty, pos, after, guard⟩ E (freshV B L T zs) := fun ρ w hB hv _ => by
  obtain ⟨i, z, hi, hz, hc⟩ := hz.get
  refine out_val (x := .pointer (some ⟨w.heap.size, 0, none⟩)) (w' := w.alloc (.cells zs.toArray T)) (by simp [execOp, Instr.alloc, zeroValue, typeInfo, hi, hz, newVar, newRow, hc]) ⟨Grow.alloc w _, w.heap.size, rfl, hB, fun b' hb' => ?_, by simp, heap_alloc_new w _⟩
  obtain ⟨s, e, xs, hs, hl⟩ := hL b' hb'
  exact (hv s _ hs hl).1
/-- The number of such a block. -/
def NewF (B : Nat) (L : List Nat) (b : Nat) : Prop := B ≤ b ∧ ∀ b' ∈ L, b' < b
theorem eff_storeF {T : TypeId} {x : Operand} {d k : Nat} {L : List Nat} {zs ys : List Value} {E' : Env} (hsz : SizeIs P T ys.length) (hp : E.look d = some (freshV B L T zs)) (hx : E.at x = some (.v (aggV ys))) (h1 : ys.all (·.oneCell') = true) (ho : zs.length = ys.length) (hl : ∀ b, NewF B L b → LeftS B T b E' E) :
    EffG P n B ops ⟨none, .store T (.tmp d) x, ty, pos, after, none⟩ E (NewF B L) (fun b => (d, .v (.pointer (some ⟨b, 0, none⟩))) :: (k, blk b T ys) :: E') := by
  intro κ a w K Q h hK
  obtain ⟨b, hp', hb, hL, hlt, hh⟩ := h.of d _ hp
  have hp' : a.eval (.tmp d) = .pointer (some ⟨b, 0, none⟩) := hp'
  have hx' : a.eval x = _ := h.at_ x _ hx
  have hrun : (execOp a.eval ⟨none, .store T (.tmp d) x, ty, pos, after, none⟩).run P w = .ok .skip (w.setRow b ys.toArray) := by
    have := run_storeVar_row (P := P) w b T T zs.toArray ys.toArray hh (by simpa [SizeIs] using hsz) (by simpa using ho) (by simpa using h1)
    simp [execOp, hp', hx', Instr.storeAt, Instr.sureAddr, aggV, this]
  rw [if_pos (by simp [Region.wanted])]
  refine opR (by nofun) ?_
  unfold Oper.wp
  rw [hrun, Oper.upon_skip]
  have hwr := Wrote.setRow hb hh ys.toArray
  have hst := (hl b ⟨hb, hL⟩).st h hwr
  refine hK b _ _ ⟨hb, hL⟩ (hwr.below h.base) ⟨hst.base, hst.defers, hst.size, fun t' e he => ?_⟩
  by_cases hts : d = t'
  · subst hts
    rw [look_here] at he; injection he with he; subst he
    exact hp'
  · rw [look_past _ _ hts] at he
    by_cases hks : k = t'
    · subst hks
      rw [look_here] at he; injection he with he; subst he
      exact ⟨by simpa using hlt, setRow_heap w b _ _ T _ hh⟩
    · rw [look_past _ _ hks] at he
      exact hst.of t' e he
end
end Go.Proofs.Ytdnblilocdddpaa
