/-
  OWN WORDS: arrays of bytes compared as flat values. Nothing of one program stands here.
-/
import Derived.Test.YtbmpjeheaemgmaaFlat
import Derived.Test.YtbmpjeheaemgmaaEq
import Derived.Test.YtbmpjeheaemgmaaAes
namespace Go.Proofs.Ytbmpjeheaemgmaa
open Go Go.RowKit
theorem kinB {n : Nat} {l : List UInt8} (h : l.length = n) : Kin (fun _ _ => True) (List.replicate n .u8) (l.map byteV) := by
  refine ⟨by simp [h], fun i k hk => ?_⟩
  rw [List.getElem?_replicate] at hk
  split at hk
  · rename_i hi
    injection hk with hk; subst hk
    exact ⟨_, by rw [List.getElem?_map, List.getElem?_eq_getElem (by omega)]; rfl, trivial⟩
  · cases hk
theorem decB (a b : List UInt8) : decide (a = b) = true ↔ a.map byteV = b.map byteV := by
  rw [decide_eq_true_iff]
  exact ⟨fun h => by rw [h], fun h => bytes_inj h⟩
end Go.Proofs.Ytbmpjeheaemgmaa
