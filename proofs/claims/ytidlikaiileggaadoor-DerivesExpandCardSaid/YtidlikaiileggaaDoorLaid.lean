/-
  What the listed package-level tables give the contracts by facts; that the door's own heap holds them.
-/
import Derived.Test.YtidlikaiileggaaDoorTie
import Derived.Test.YtidlikaiileggaaDoorC04d
import Derived.Test.YtidlikaiileggaaDoorLaw2
import Derived.ProofKit
import Derived.LaidMore
import Derived.Stop.Joined
namespace Go.Proofs.YtidlikaiileggaaDoor
open Go Go.RowKit Go.ChangeShapes Go.WideShapes Go.ChangeAt
theorem own' : ownKnob Tryd.prog.godebug = none := by kernel_rfl
theorem laidOut' : laidOutB Tryd.prog = true := by kernel_rfl
abbrev LAID : List (String × DataW Unit) := [("caisson/digests.constants", Rows.laid_caisson_digests_constants), ("caisson/digests.initial", Rows.laid_caisson_digests_initial)]
theorem door_met (os : Os) (args : Array Value) : laidMetH Tryd.prog LAID ((World.doorLaid Tryd.prog 400 os).forCall (fun _ _ => 0) ⟨#[], args, []⟩).memory :=
  laidMetH_of_parts3 (fuel := 8) (laidMet_of_run' 8 (by kernel_rfl) (by kernel_rfl)) (by kernel_rfl) (by kernel_rfl)
theorem tabs_of_laid {W : World} (h : laidMetH Tryd.prog LAID W) : ∀ p ∈ tabs, p.2.Of W undef := by
  rw [MakeChecks.laidMetH_plain _ _ _ (by kernel_rfl)] at h
  obtain ⟨ps, hl, _, hr⟩ := h
  have hr' := fun b off hp => (hr b off hp).1
  intro p hp
  simp only [tabs, List.mem_cons, List.not_mem_nil, or_false] at hp
  rcases hp with rfl | rfl
  · have := tab_of_laid hl hr' (nm := "caisson/digests.initial") (d := Rows.laid_caisson_digests_initial) (by simp [LAID]) (g := 0) (by kernel_rfl) (T := 56) (by kernel_rfl) Tryd.underlying56 Tryd.underlying55 (by kernel_rfl) (by kernel_rfl) (by decide) (ns := (H8.list).map fun x => (x.toNat : Int)) (by kernel_rfl)
    rw [List.map_map] at this
    exact this
  · have := tab_of_laid hl hr' (nm := "caisson/digests.constants") (d := Rows.laid_caisson_digests_constants) (by simp [LAID]) (g := 1) (by kernel_rfl) (T := 64) (by kernel_rfl) Tryd.underlying64 Tryd.underlying55 (by kernel_rfl) (by kernel_rfl) (by decide) (ns := (K64).map fun x => (x.toNat : Int)) (by kernel_rfl)
    rw [List.map_map] at this
    exact this
end Go.Proofs.YtidlikaiileggaaDoor
