/-
  OWN WORDS: a drawn region whose effects are no barriers: gone through in each order that its edges allow, step by step (for small regions). Nothing of one program stands here.
-/
import Derived.Test.YtdnblilocdddpaaRange
namespace Go.Proofs.Ytdnblilocdddpaa
open Go Go.RowKit
section
variable {P : Program} {n B : Nat} {ops : Array Oper} {C : Env → Prop} {κ : Cx} {Q : Exit → Act → World → Prop}
/-- What is to be shown from here on, in every order. -/
def AnyT (P : Program) (n B : Nat) (ops : Array Oper) (C : Env → Prop) : Nat → Array Bool → Env → Prop
  | 0, listed, E => Region.ready .any ops listed = [] ∧ C E
  | fuel + 1, listed, E => (Region.ready .any ops listed = [] ∧ C E) ∨ (Region.ready .any ops listed ≠ [] ∧ ∀ i ∈ Region.ready .any ops listed, ∃ o, ops[i]? = some o ∧ ∃ (ι : Type) (G : ι → Prop) (E₂ : ι → Env), EffG P n B ops o E G E₂ ∧ ∀ j, G j → AnyT P n B ops C fuel (listed.setIfInBounds i true) (E₂ j))
/-- One operation after the other. -/
def NextT (P : Program) (n B : Nat) (ops : Array Oper) (C : Env → Prop) (fuel : Nat) (listed : Array Bool) (E : Env) : List Nat → Prop
  | [] => True
  | i :: r => (∃ o, ops[i]? = some o ∧ ∃ (ι : Type) (G : ι → Prop) (E₂ : ι → Env), EffG P n B ops o E G E₂ ∧ ∀ j, G j → AnyT P n B ops C fuel (listed.setIfInBounds i true) (E₂ j)) ∧ NextT P n B ops C fuel listed E r
theorem NextT.all {fuel : Nat} {listed : Array Bool} {E : Env} : ∀ {is : List Nat}, NextT P n B ops C fuel listed E is → ∀ i ∈ is, ∃ o, ops[i]? = some o ∧ ∃ (ι : Type) (G : ι → Prop) (E₂ : ι → Env), EffG P n B ops o E G E₂ ∧ ∀ j, G j → AnyT P n B ops C fuel (listed.setIfInBounds i true) (E₂ j)
  | [], _, i, hi => by cases hi
  | k :: r, h, i, hi => by
    rcases List.mem_cons.1 hi with rfl | hi
    · exact h.1
    · exact NextT.all h.2 i hi
theorem AnyT.last {fuel : Nat} {listed : Array Bool} {E : Env} (hr : Region.ready .any ops listed = []) (hC : C E) : AnyT P n B ops C fuel listed E := by
  cases fuel with
  | zero => exact ⟨hr, hC⟩
  | succ fuel => exact .inl ⟨hr, hC⟩
theorem AnyT.step {fuel : Nat} {listed : Array Bool} {E : Env} (i : Nat) (is : List Nat) (hr : Region.ready .any ops listed = i :: is) (h : NextT P n B ops C fuel listed E (i :: is)) : AnyT P n B ops C (fuel + 1) listed E :=
  .inr ⟨by rw [hr]; simp, by rw [hr]; exact h.all⟩
theorem OpOk.asV {o : Oper} {E : Env} (x : Value) {y : Value} (h : y = x) (hok : OpOk P B o E (.v y)) : OpOk P B o E (.v x) := h ▸ hok
/-- An operation that changes nothing. -/
theorem NextT.pure {fuel : Nat} {listed : Array Bool} {E : Env} {i t : Nat} {d : D} {o : Oper} {r : List Nat} (hf : fits n ops = true) (ho : ops[i]? = some o) (ht : o.dst = some t) (hg : o.guard = none) (hok : OpOk P B o E d) (h : AnyT P n B ops C fuel (listed.setIfInBounds i true) ((t, d) :: E)) (hr : NextT P n B ops C fuel listed E r) :
    NextT P n B ops C fuel listed E (i :: r) := by
  refine ⟨⟨o, ho, Unit, fun _ => True, fun _ => (t, d) :: E, fun κ a w K Q hs hK => ?_, fun _ _ => h⟩, hr⟩
  have hfo := fits_mem hf (o := o) (by simpa using Array.mem_of_getElem? ho)
  exact good_wp hs.base (hs.virt (fits_base hf)) ht (.inl ⟨by simp [GuardIs, hg], hok⟩) (fun s e _ he => hs.of s e he) (fun s hs' => by rw [hs.size]; exact hfo.1 s hs') fun x w' g hx => hK () _ _ trivial (Below.mono g hs.base) ((hs.grow g).put (hfo.2 t ht) hx)
/-- An operation that changes memory. -/
theorem NextT.eff {fuel : Nat} {listed : Array Bool} {E E' : Env} {i : Nat} {o : Oper} {r : List Nat} (ho : ops[i]? = some o) (he : Eff P n B ops o E E') (h : AnyT P n B ops C fuel (listed.setIfInBounds i true) E') (hr : NextT P n B ops C fuel listed E r) :
    NextT P n B ops C fuel listed E (i :: r) := ⟨⟨o, ho, Unit, fun _ => True, fun _ => E', he.g, fun _ _ => h⟩, hr⟩
theorem wp_anyE : ∀ {fuel : Nat} {listed : Array Bool} {E : Env} {a : Act} {w : World}, AnyT P n B ops C fuel listed E → St κ n B E a w → (∀ E' a' w', C E' → Below B w w' → St κ n B E' a' w' → Q .normal a' w') → wpAnyIn (FR κ.rd) 0 P .any ops Q fuel listed a w
  | 0, _, _, _, w, ⟨hr, hC⟩, hs, hQ => ⟨hr, hQ _ _ _ hC (Below.refl B w) hs⟩
  | fuel + 1, _, _, _, w, .inl ⟨hr, hC⟩, hs, hQ => ⟨fun _ => hQ _ _ _ hC (Below.refl B w) hs, fun i hi => by rw [hr] at hi; cases hi⟩
  | fuel + 1, _, _, _, w, .inr ⟨hne, h⟩, hs, hQ => ⟨fun hr => absurd hr hne, fun i hi => by
    obtain ⟨o, ho, ι, G, E₂, he, hn⟩ := h i hi
    exact wpOpR_step ho fun K hK => he κ _ _ K Q hs fun j a' w' hj g' h' => hK _ _ (wp_anyE (hn j hj) h' fun E' a3 w3 hC g3 h3 => hQ E' a3 w3 hC (g'.trans g3) h3)⟩
theorem A.regsE {w₀ : World} {y : Code} {E : Env} {id : Nat} (hm : P.follows .mixedOrders = true) (hr : AnyT P n w₀.heap.size ops (fun E₁ => A κ P w₀ n y E₁ Q) ops.size (Array.replicate ops.size false) E) : A κ P w₀ n (.seq (.region id ops true) y) E Q := A.seq fun a w hg hst => by
  have hd : Below w₀.heap.size w w.drew := (Below.refl _ w).drew
  exact wpIn_region_any hm (wp_anyE hr (hst.grow (Grow.refl w).drew) fun E' a' w' hC g h' => hC a' w' (hg.trans (hd.trans g)) h')
end
end Go.Proofs.Ytdnblilocdddpaa
