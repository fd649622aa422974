/-
  The laws WordsJoin and WordsKnown of layer 1, called with values that read as lists: they return true, and memory at most grows.
-/
import Derived.Test.YtflnbbjocakekaaC01f
namespace Go.Proofs.Ytflnbbjocakekaa
open Go Go.RowKit
set_option linter.unusedVariables false

theorem byt_vs (l : List UInt8) : byt l = lst ((l.map byteV).map .v) := by rw [List.map_map]; rfl
theorem bytes_oneV (l : List UInt8) : ∀ u ∈ l.map byteV, u.oneCell' = true := fun u hu => by
  simp only [List.mem_map] at hu
  obtain ⟨b, _, rfl⟩ := hu
  rfl
theorem byt_slice (l : List UInt8) (n : Nat) : lst (((l.map byteD).take n).drop 0) = byt (l.take n) := by
  rw [List.drop_zero, ← List.map_take]; rfl
theorem fresh_one {B : Nat} {e : TypeId} {xs : List Value} {n : Nat} {w : World} {x : Value} (h : (fresh B e xs n).Of w x) : x.oneCell' = true := by
  obtain ⟨b, rfl, _⟩ := h; rfl
theorem wrap_u64_bd (n : Int) : 0 ≤ IntKind.u64.wrap n ∧ IntKind.u64.wrap n < 18446744073709551616 := by rw [wrap_u64_int]; omega

theorem WordsJoin_fnA (a b c : List UInt8) (h : 40 < a.length) : Fn Try.prog 7 [byt a, byt b, byt c] (.v (.bool true)) := by
  refine Fn.of Try.func7 rfl (by kernel_rfl) Try.ntmps7 (by simp) (fun w => [(0, old w.heap.size (byt a)), (1, old w.heap.size (byt b)), (2, old w.heap.size (byt c))]) (fun w => (Start.old rfl (Start.old rfl (Start.old rfl Start.nil)))) fun w₀ => ?_
  refine A.regs (by kernel_rfl) (by kernel_rfl) (.inl rfl) ?_
  refine RunTK.last ?_
  refine RunK.step rfl rfl (ok_assign rfl) ?_
  refine RunK.nil ?_
  refine A.sub (Sub.cons (t := 0) rfl (Sub.cons (t := 1) rfl (Sub.cons (t := 2) rfl Sub.nil))) ?_
  refine A.seq ?_
  refine A.regs (by kernel_rfl) (by kernel_rfl) (.inl rfl) ?_
  refine RunTK.last ?_
  refine RunK.step rfl rfl (ok_move rfl) ?_
  refine RunK.step rfl rfl (ok_lenB Try.underlying23 rfl (by first | exact Le.refl _ | exact Le.old _ _ | exact le_byt _ _ | exact (Le.old _ _).trans (le_byt _ _) | exact le_lst _ _ | exact (Le.old _ _).trans (le_lst _ _) | exact (Le.old _ _).trans (Le.old _ _) | exact (Le.old _ _).trans ((Le.old _ _).trans (le_byt _ _)) | exact byt_nil_le | exact lst_nil_le | exact bytes_nil_le | exact list_nil_le)) ?_
  refine RunK.step rfl rfl (ok_bin rfl rfl rfl) ?_; refine RunK.as (.bool true) (by simp; omega) ?_
  refine RunK.step rfl rfl (ok_move rfl) ?_
  refine RunK.skipped rfl rfl rfl rfl rfl ?_
  refine RunK.skipped rfl rfl rfl rfl rfl ?_
  refine RunK.skipped rfl rfl rfl rfl rfl ?_
  refine RunK.step rfl rfl (ok_pick rfl rfl) ?_
  refine RunK.step rfl rfl (ok_move rfl) ?_
  refine RunK.skipped rfl rfl rfl rfl rfl ?_
  refine RunK.skipped rfl rfl rfl rfl rfl ?_
  refine RunK.skipped rfl rfl rfl rfl rfl ?_
  refine RunK.step rfl rfl (ok_pick rfl rfl) ?_
  refine RunK.nil ?_
  refine A.sub (Sub.cons (t := 0) rfl (Sub.cons (t := 1) rfl (Sub.cons (t := 2) rfl (Sub.cons (t := 26) rfl Sub.nil)))) ?_
  refine A.yes rfl ?_
  refine A.regs (by kernel_rfl) (by kernel_rfl) (.inl rfl) ?_
  refine RunTK.last ?_
  refine RunK.step rfl rfl (ok_call lives_fn Args.nil) ?_
  refine RunK.step rfl rfl (ok_assign rfl) ?_
  refine RunK.nil ?_
  refine A.sub (Sub.cons (t := 6) rfl Sub.nil) ?_
  refine A.ret ?_
  refine End.ret_then ?_
  exact End.ret1 rfl rfl (by first | exact Le.refl _ | exact Le.old _ _)
theorem WordsJoin_fnB (a b c : List UInt8) (ha : a.length ≤ 40) (h : 40 < b.length) : Fn Try.prog 7 [byt a, byt b, byt c] (.v (.bool true)) := by
  refine Fn.of Try.func7 rfl (by kernel_rfl) Try.ntmps7 (by simp) (fun w => [(0, old w.heap.size (byt a)), (1, old w.heap.size (byt b)), (2, old w.heap.size (byt c))]) (fun w => (Start.old rfl (Start.old rfl (Start.old rfl Start.nil)))) fun w₀ => ?_
  refine A.regs (by kernel_rfl) (by kernel_rfl) (.inl rfl) ?_
  refine RunTK.last ?_
  refine RunK.step rfl rfl (ok_assign rfl) ?_
  refine RunK.nil ?_
  refine A.sub (Sub.cons (t := 0) rfl (Sub.cons (t := 1) rfl (Sub.cons (t := 2) rfl Sub.nil))) ?_
  refine A.seq ?_
  refine A.regs (by kernel_rfl) (by kernel_rfl) (.inl rfl) ?_
  refine RunTK.last ?_
  refine RunK.step rfl rfl (ok_move rfl) ?_
  refine RunK.step rfl rfl (ok_lenB Try.underlying23 rfl (by first | exact Le.refl _ | exact Le.old _ _ | exact le_byt _ _ | exact (Le.old _ _).trans (le_byt _ _) | exact le_lst _ _ | exact (Le.old _ _).trans (le_lst _ _) | exact (Le.old _ _).trans (Le.old _ _) | exact (Le.old _ _).trans ((Le.old _ _).trans (le_byt _ _)) | exact byt_nil_le | exact lst_nil_le | exact bytes_nil_le | exact list_nil_le)) ?_
  refine RunK.step rfl rfl (ok_bin rfl rfl rfl) ?_; refine RunK.as (.bool false) (by simp; omega) ?_
  refine RunK.step rfl rfl (ok_move rfl) ?_
  refine RunK.guarded rfl rfl rfl rfl (ok_move rfl) ?_
  refine RunK.guarded rfl rfl rfl rfl (ok_lenB Try.underlying23 rfl (by first | exact Le.refl _ | exact Le.old _ _ | exact le_byt _ _ | exact (Le.old _ _).trans (le_byt _ _) | exact le_lst _ _ | exact (Le.old _ _).trans (le_lst _ _) | exact (Le.old _ _).trans (Le.old _ _) | exact (Le.old _ _).trans ((Le.old _ _).trans (le_byt _ _)) | exact byt_nil_le | exact lst_nil_le | exact bytes_nil_le | exact list_nil_le)) ?_
  refine RunK.guarded rfl rfl rfl rfl (ok_bin rfl rfl rfl) ?_; refine RunK.as (.bool true) (by simp; omega) ?_
  refine RunK.step rfl rfl (ok_pick rfl rfl) ?_
  refine RunK.step rfl rfl (ok_move rfl) ?_
  refine RunK.skipped rfl rfl rfl rfl rfl ?_
  refine RunK.skipped rfl rfl rfl rfl rfl ?_
  refine RunK.skipped rfl rfl rfl rfl rfl ?_
  refine RunK.step rfl rfl (ok_pick rfl rfl) ?_
  refine RunK.nil ?_
  refine A.sub (Sub.cons (t := 0) rfl (Sub.cons (t := 1) rfl (Sub.cons (t := 2) rfl (Sub.cons (t := 26) rfl Sub.nil)))) ?_
  refine A.yes rfl ?_
  refine A.regs (by kernel_rfl) (by kernel_rfl) (.inl rfl) ?_
  refine RunTK.last ?_
  refine RunK.step rfl rfl (ok_call lives_fn Args.nil) ?_
  refine RunK.step rfl rfl (ok_assign rfl) ?_
  refine RunK.nil ?_
  refine A.sub (Sub.cons (t := 6) rfl Sub.nil) ?_
  refine A.ret ?_
  refine End.ret_then ?_
  exact End.ret1 rfl rfl (by first | exact Le.refl _ | exact Le.old _ _)
theorem WordsJoin_fnC (a b c : List UInt8) (ha : a.length ≤ 40) (hb : b.length ≤ 40) (h : 40 < c.length) : Fn Try.prog 7 [byt a, byt b, byt c] (.v (.bool true)) := by
  refine Fn.of Try.func7 rfl (by kernel_rfl) Try.ntmps7 (by simp) (fun w => [(0, old w.heap.size (byt a)), (1, old w.heap.size (byt b)), (2, old w.heap.size (byt c))]) (fun w => (Start.old rfl (Start.old rfl (Start.old rfl Start.nil)))) fun w₀ => ?_
  refine A.regs (by kernel_rfl) (by kernel_rfl) (.inl rfl) ?_
  refine RunTK.last ?_
  refine RunK.step rfl rfl (ok_assign rfl) ?_
  refine RunK.nil ?_
  refine A.sub (Sub.cons (t := 0) rfl (Sub.cons (t := 1) rfl (Sub.cons (t := 2) rfl Sub.nil))) ?_
  refine A.seq ?_
  refine A.regs (by kernel_rfl) (by kernel_rfl) (.inl rfl) ?_
  refine RunTK.last ?_
  refine RunK.step rfl rfl (ok_move rfl) ?_
  refine RunK.step rfl rfl (ok_lenB Try.underlying23 rfl (by first | exact Le.refl _ | exact Le.old _ _ | exact le_byt _ _ | exact (Le.old _ _).trans (le_byt _ _) | exact le_lst _ _ | exact (Le.old _ _).trans (le_lst _ _) | exact (Le.old _ _).trans (Le.old _ _) | exact (Le.old _ _).trans ((Le.old _ _).trans (le_byt _ _)) | exact byt_nil_le | exact lst_nil_le | exact bytes_nil_le | exact list_nil_le)) ?_
  refine RunK.step rfl rfl (ok_bin rfl rfl rfl) ?_; refine RunK.as (.bool false) (by simp; omega) ?_
  refine RunK.step rfl rfl (ok_move rfl) ?_
  refine RunK.guarded rfl rfl rfl rfl (ok_move rfl) ?_
  refine RunK.guarded rfl rfl rfl rfl (ok_lenB Try.underlying23 rfl (by first | exact Le.refl _ | exact Le.old _ _ | exact le_byt _ _ | exact (Le.old _ _).trans (le_byt _ _) | exact le_lst _ _ | exact (Le.old _ _).trans (le_lst _ _) | exact (Le.old _ _).trans (Le.old _ _) | exact (Le.old _ _).trans ((Le.old _ _).trans (le_byt _ _)) | exact byt_nil_le | exact lst_nil_le | exact bytes_nil_le | exact list_nil_le)) ?_
  refine RunK.guarded rfl rfl rfl rfl (ok_bin rfl rfl rfl) ?_; refine RunK.as (.bool false) (by simp; omega) ?_
  refine RunK.step rfl rfl (ok_pick rfl rfl) ?_
  refine RunK.step rfl rfl (ok_move rfl) ?_
  refine RunK.guarded rfl rfl rfl rfl (ok_move rfl) ?_
  refine RunK.guarded rfl rfl rfl rfl (ok_lenB Try.underlying23 rfl (by first | exact Le.refl _ | exact Le.old _ _ | exact le_byt _ _ | exact (Le.old _ _).trans (le_byt _ _) | exact le_lst _ _ | exact (Le.old _ _).trans (le_lst _ _) | exact (Le.old _ _).trans (Le.old _ _) | exact (Le.old _ _).trans ((Le.old _ _).trans (le_byt _ _)) | exact byt_nil_le | exact lst_nil_le | exact bytes_nil_le | exact list_nil_le)) ?_
  refine RunK.guarded rfl rfl rfl rfl (ok_bin rfl rfl rfl) ?_; refine RunK.as (.bool true) (by simp; omega) ?_
  refine RunK.step rfl rfl (ok_pick rfl rfl) ?_
  refine RunK.nil ?_
  refine A.sub (Sub.cons (t := 0) rfl (Sub.cons (t := 1) rfl (Sub.cons (t := 2) rfl (Sub.cons (t := 26) rfl Sub.nil)))) ?_
  refine A.yes rfl ?_
  refine A.regs (by kernel_rfl) (by kernel_rfl) (.inl rfl) ?_
  refine RunTK.last ?_
  refine RunK.step rfl rfl (ok_call lives_fn Args.nil) ?_
  refine RunK.step rfl rfl (ok_assign rfl) ?_
  refine RunK.nil ?_
  refine A.sub (Sub.cons (t := 6) rfl Sub.nil) ?_
  refine A.ret ?_
  refine End.ret_then ?_
  exact End.ret1 rfl rfl (by first | exact Le.refl _ | exact Le.old _ _)
set_option maxHeartbeats 2000000 in
theorem WordsJoin_fnD (a b c : List UInt8) (ha : a.length ≤ 40) (hb : b.length ≤ 40) (hc : c.length ≤ 40) (h0 : 0 < a.length + (b.length + c.length)) : Fn Try.prog 7 [byt a, byt b, byt c] (.v (.bool true)) := by
  obtain ⟨L, hL⟩ : ∃ L, L = a ++ (b ++ c) := ⟨_, rfl⟩
  have hLl : L.length = a.length + (b.length + c.length) := by rw [hL]; simp
  obtain ⟨n, hn⟩ : ∃ n, n = min a.length b.length := ⟨_, rfl⟩
  obtain ⟨Y, hY⟩ : ∃ Y, Y = xors (a.take n) (b.take n) := ⟨_, rfl⟩
  obtain ⟨X, hX⟩ : ∃ X, X = Y ++ List.replicate c.length 0 := ⟨_, rfl⟩
  have hta : (a.take n).length = n := by simp; omega
  have htb : (b.take n).length = n := by simp; omega
  have hYl : Y.length = n := by rw [hY, xors_length (by omega), hta]
  have hx1 : xorV (a.take n ++ c) (b.take n ++ c) = X := by rw [xorV, if_pos (by simp; omega), xors_append (by omega), xors_same, ← hY, hX]
  have hk1 : chk (b.take n ++ c).length (a.take n ++ c).length = 0 := chk_self.2 (by simp; omega)
  have hx2 : xorV (a.take n) (b.take n) = Y := by rw [xorV, if_pos (by omega), hY]
  have hk2 : chk (b.take n).length (a.take n).length = 0 := chk_self.2 (by omega)
  have hpos : 0 < L.length := by omega
  refine Fn.of Try.func7 rfl (by kernel_rfl) Try.ntmps7 (by simp) (fun w => [(0, old w.heap.size (byt a)), (1, old w.heap.size (byt b)), (2, old w.heap.size (byt c))]) (fun w => (Start.old rfl (Start.old rfl (Start.old rfl Start.nil)))) fun w₀ => ?_
  refine A.regs (by kernel_rfl) (by kernel_rfl) (.inl rfl) ?_
  refine RunTK.last ?_
  refine RunK.step rfl rfl (ok_assign rfl) ?_
  refine RunK.nil ?_
  refine A.sub (Sub.cons (t := 0) rfl (Sub.cons (t := 1) rfl (Sub.cons (t := 2) rfl Sub.nil))) ?_
  refine A.seq ?_
  refine A.regs (by kernel_rfl) (by kernel_rfl) (.inl rfl) ?_
  refine RunTK.last ?_
  refine RunK.step rfl rfl (ok_move rfl) ?_
  refine RunK.step rfl rfl (ok_lenB Try.underlying23 rfl (by first | exact Le.refl _ | exact Le.old _ _ | exact le_byt _ _ | exact (Le.old _ _).trans (le_byt _ _) | exact le_lst _ _ | exact (Le.old _ _).trans (le_lst _ _) | exact (Le.old _ _).trans (Le.old _ _) | exact (Le.old _ _).trans ((Le.old _ _).trans (le_byt _ _)) | exact byt_nil_le | exact lst_nil_le | exact bytes_nil_le | exact list_nil_le)) ?_
  refine RunK.step rfl rfl (ok_bin rfl rfl rfl) ?_; refine RunK.as (.bool false) (by simp; omega) ?_
  refine RunK.step rfl rfl (ok_move rfl) ?_
  refine RunK.guarded rfl rfl rfl rfl (ok_move rfl) ?_
  refine RunK.guarded rfl rfl rfl rfl (ok_lenB Try.underlying23 rfl (by first | exact Le.refl _ | exact Le.old _ _ | exact le_byt _ _ | exact (Le.old _ _).trans (le_byt _ _) | exact le_lst _ _ | exact (Le.old _ _).trans (le_lst _ _) | exact (Le.old _ _).trans (Le.old _ _) | exact (Le.old _ _).trans ((Le.old _ _).trans (le_byt _ _)) | exact byt_nil_le | exact lst_nil_le | exact bytes_nil_le | exact list_nil_le)) ?_
  refine RunK.guarded rfl rfl rfl rfl (ok_bin rfl rfl rfl) ?_; refine RunK.as (.bool false) (by simp; omega) ?_
  refine RunK.step rfl rfl (ok_pick rfl rfl) ?_
  refine RunK.step rfl rfl (ok_move rfl) ?_
  refine RunK.guarded rfl rfl rfl rfl (ok_move rfl) ?_
  refine RunK.guarded rfl rfl rfl rfl (ok_lenB Try.underlying23 rfl (by first | exact Le.refl _ | exact Le.old _ _ | exact le_byt _ _ | exact (Le.old _ _).trans (le_byt _ _) | exact le_lst _ _ | exact (Le.old _ _).trans (le_lst _ _) | exact (Le.old _ _).trans (Le.old _ _) | exact (Le.old _ _).trans ((Le.old _ _).trans (le_byt _ _)) | exact byt_nil_le | exact lst_nil_le | exact bytes_nil_le | exact list_nil_le)) ?_
  refine RunK.guarded rfl rfl rfl rfl (ok_bin rfl rfl rfl) ?_; refine RunK.as (.bool false) (by simp; omega) ?_
  refine RunK.step rfl rfl (ok_pick rfl rfl) ?_
  refine RunK.nil ?_
  refine A.sub (Sub.cons (t := 0) rfl (Sub.cons (t := 1) rfl (Sub.cons (t := 2) rfl (Sub.cons (t := 26) rfl Sub.nil)))) ?_
  refine A.no rfl ?_
  refine A.skip ?_
  refine End.normal_then (End.code ?_)
  refine A.regs (by kernel_rfl) (by kernel_rfl) (.inl rfl) ?_
  refine RunTK.last ?_
  refine RunK.step rfl rfl (ok_move rfl) ?_
  refine RunK.step rfl rfl (ok_move rfl) ?_
  refine RunK.step rfl rfl (ok_move rfl) ?_
  refine RunK.step rfl rfl (ok_build [old w₀.heap.size (byt a), old w₀.heap.size (byt b), old w₀.heap.size (byt c)] Try.underlying49 info23 rfl (by decide) (by decide) rfl ⟨rfl, rfl, rfl, rfl, rfl, rfl, trivial⟩ (fun d hd w x h => by simp only [List.mem_cons, List.not_mem_nil, or_false] at hd; rcases hd with rfl | rfl | rfl <;> first | exact old_one (fun _ _ h => lst_one h) h | exact lst_one h | exact bytes_one h | exact fresh_one h)) ?_
  refine RunK.step rfl rfl ((ok_callB (Join_fnB [a, b, c] (by simp) (by simp; omega)) (fun _ _ => fresh_mono _ _) (Args.cons rfl (list_lst3 (Le.old _ _) (Le.old _ _) (Le.old _ _)) Args.nil)).le (d' := fresh w₀.heap.size 5 (L.map byteV) L.length) (Le.eq (by rw [hL]; simp))) ?_
  refine RunK.step rfl rfl (ok_assign rfl) ?_
  refine RunK.nil ?_
  refine A.sub (Sub.cons (t := 0) rfl (Sub.cons (t := 1) rfl (Sub.cons (t := 2) rfl (Sub.cons (t := 7) rfl Sub.nil)))) ?_
  refine A.seq ?_
  refine A.regsG _ (fun B => (OldOf.p (t := 0) rfl (OldOf.p (t := 1) rfl (OldOf.p (t := 2) rfl (OldOf.p (t := 7) rfl OldOf.nil))))) (by kernel_rfl) (by kernel_rfl) (.inl rfl) (fun B hB => ?_)
  refine RunTK.eff 3 (by decide) rfl (.inl rfl) ?_
  refine RunK.step rfl rfl (ok_move rfl) ?_
  refine RunK.step rfl rfl (ok_build0own Try.underlying23 info5) ?_
  refine RunK.step rfl rfl (ok_move rfl) ?_
  refine RunK.nil ?_
  refine ⟨_, eff_append (vs := a.map byteV) Try.underlying23 info5 (by decide) rfl rfl rfl (((Le.old _ _).trans (Le.old _ _)).trans (Le.eq (byt_vs a))) (bytes_oneV a) (by simp; omega) (by decide) (Left.cons (t := 0) rfl (Stays.old _ _) (Left.cons (t := 1) rfl (Stays.old _ _) (Left.cons (t := 2) rfl (Stays.old _ _) (Left.cons (t := 7) rfl (Stays.old _ _) (Left.cons (t := 33) rfl (Stays.old _ _) (Left.cons (t := 35) rfl (Stays.old _ _) Left.nil)))))), ?_⟩
  refine RunTK.eff 5 (by decide) rfl (.inl rfl) ?_
  refine RunK.step rfl rfl (ok_move rfl) ?_
  refine RunK.nil ?_
  refine ⟨_, eff_append (vs := b.map byteV) Try.underlying23 info5 (by decide) rfl rfl rfl (((Le.old _ _).trans (Le.old _ _)).trans (Le.eq (byt_vs b))) (bytes_oneV b) (by simp; omega) (by decide) (Left.cons (t := 0) rfl (Stays.old _ _) (Left.cons (t := 1) rfl (Stays.old _ _) (Left.cons (t := 2) rfl (Stays.old _ _) (Left.cons (t := 7) rfl (Stays.old _ _) (Left.cons (t := 33) rfl (Stays.old _ _) (Left.cons (t := 35) rfl (Stays.old _ _) (Left.cons (t := 37) rfl (Stays.old _ _) Left.nil))))))), ?_⟩
  refine RunTK.eff 7 (by decide) rfl (.inl rfl) ?_
  refine RunK.step rfl rfl (ok_move rfl) ?_
  refine RunK.nil ?_
  refine ⟨_, eff_append (vs := c.map byteV) Try.underlying23 info5 (by decide) rfl rfl rfl (((Le.old _ _).trans (Le.old _ _)).trans (Le.eq (byt_vs c))) (bytes_oneV c) (by simp; omega) (by decide) (Left.cons (t := 0) rfl (Stays.old _ _) (Left.cons (t := 1) rfl (Stays.old _ _) (Left.cons (t := 2) rfl (Stays.old _ _) (Left.cons (t := 7) rfl (Stays.old _ _) (Left.cons (t := 33) rfl (Stays.old _ _) (Left.cons (t := 35) rfl (Stays.old _ _) (Left.cons (t := 37) rfl (Stays.old _ _) (Left.cons (t := 39) rfl (Stays.old _ _) Left.nil)))))))), ?_⟩
  refine RunTK.last ?_
  refine RunK.step rfl rfl (ok_call (same_fn L 0) (Args.cons rfl ((Le.old _ _).trans (fresh_bytes rfl (by simp only [maxLen]; omega))) (Args.cons rfl (Le.refl _) (Args.cons rfl (Le.trans (Le.eq (show own B 5 _ _ = own B 5 L.length (L.map byteV) from by subst hL; simp [Nat.add_assoc])) (own_byt rfl)) (Args.cons rfl (Le.refl _) Args.nil))))) ?_
  refine RunK.step rfl rfl (ok_not rfl) ?_
  refine RunK.nil ?_
  refine A.sub (Sub.cons (t := 0) rfl (Sub.cons (t := 1) rfl (Sub.cons (t := 2) rfl (Sub.cons (t := 7) rfl (Sub.cons (t := 42) rfl Sub.nil))))) ?_
  refine A.subL (SubL.cons (t := 0) rfl (Le.old _ _) (SubL.cons (t := 1) rfl (Le.old _ _) (SubL.cons (t := 2) rfl (Le.old _ _) (SubL.cons (t := 7) rfl (Le.old _ _) (SubL.cons (t := 42) rfl (Le.refl _) SubL.nil))))) ?_
  refine A.no rfl ?_
  refine A.skip ?_
  refine End.normal_then (End.code ?_)
  refine A.regs (by kernel_rfl) (by kernel_rfl) (.inl rfl) ?_
  refine RunTK.last ?_
  refine RunK.step rfl rfl (ok_move rfl) ?_
  refine RunK.step rfl rfl (ok_build [old w₀.heap.size (byt a)] Try.underlying49 info23 rfl (by decide) (by decide) rfl ⟨rfl, rfl, trivial⟩ (fun d hd w x h => by simp only [List.mem_cons, List.not_mem_nil, or_false] at hd; rcases hd with rfl <;> first | exact old_one (fun _ _ h => lst_one h) h | exact lst_one h | exact bytes_one h | exact fresh_one h)) ?_
  refine RunK.step rfl rfl (ok_call ((Join_fn [a] (by simp) (by simp; omega)).le (d' := byt a) ((le_byt _ _).trans (Le.eq (by simp)))) (Args.cons rfl (list_lst1 (Le.old _ _)) Args.nil)) ?_
  refine RunK.step rfl rfl (ok_str Try.underlying23 Try.underlying5 Try.underlying9 rfl (by first | exact Le.refl _ | exact Le.old _ _ | exact le_byt _ _ | exact (Le.old _ _).trans (le_byt _ _) | exact le_lst _ _ | exact (Le.old _ _).trans (le_lst _ _) | exact (Le.old _ _).trans (Le.old _ _) | exact (Le.old _ _).trans ((Le.old _ _).trans (le_byt _ _)) | exact byt_nil_le | exact lst_nil_le | exact bytes_nil_le | exact list_nil_le)) ?_
  refine RunK.step rfl rfl (ok_assign rfl) ?_
  refine RunK.nil ?_
  refine A.sub (Sub.cons (t := 0) rfl (Sub.cons (t := 1) rfl (Sub.cons (t := 2) rfl (Sub.cons (t := 7) rfl (Sub.cons (t := 8) rfl Sub.nil))))) ?_
  refine A.seq ?_
  refine A.regs (by kernel_rfl) (by kernel_rfl) (.inl rfl) ?_
  refine RunTK.last ?_
  refine RunK.step rfl rfl (ok_move rfl) ?_
  refine RunK.step rfl rfl (ok_lenB Try.underlying23 rfl ((fresh_bytes rfl (by simp only [maxLen]; omega)).trans (le_byt L _))) ?_
  refine RunK.step rfl rfl (ok_bin rfl rfl rfl) ?_; refine RunK.as (.bool true) (by simp; omega) ?_
  refine RunK.nil ?_
  refine A.sub (Sub.cons (t := 0) rfl (Sub.cons (t := 1) rfl (Sub.cons (t := 2) rfl (Sub.cons (t := 7) rfl (Sub.cons (t := 8) rfl (Sub.cons (t := 49) rfl Sub.nil)))))) ?_
  refine A.open (t := 7) (k := 1000000) rfl fun bl hbl => ?_
  refine A.yes rfl ?_
  refine A.reg (by kernel_rfl) (by kernel_rfl) (.inl rfl) ?_
  refine RunTK.eff 5 (by decide) rfl (.inl rfl) ?_
  refine RunK.step rfl rfl (ok_move rfl) ?_
  refine RunK.step rfl rfl (ok_indexV 0 Try.underlying23 info5 rfl rfl rfl hpos) ?_
  refine RunK.step rfl rfl (ok_loadV (s := 1000000) (u := byteV L[0]) (by decide) Try.underlying5 rfl rfl rfl (by simp [hpos])) ?_
  refine RunK.step rfl rfl (ok_bin rfl rfl rfl) ?_
  refine RunK.step rfl rfl (ok_indexV 0 Try.underlying23 info5 rfl rfl rfl hpos) ?_
  refine RunK.nil ?_
  refine ⟨_, eff_store (n := 109) (s := 1000000) info5 rfl rfl rfl hbl rfl (by simp; omega) (Left.cons (t := 0) rfl (Stays.old _ _) (Left.cons (t := 1) rfl (Stays.old _ _) (Left.cons (t := 2) rfl (Stays.old _ _) (Left.cons (t := 7) rfl (Stays.v _ _) (Left.cons (t := 8) rfl (Stays.v _ _) (Left.cons (t := 49) rfl (Stays.v _ _) (Left.cons (t := 50) rfl (Stays.v _ _) (Left.cons (t := 51) rfl (Stays.v _ _) (Left.cons (t := 52) rfl (Stays.v _ _) (Left.cons (t := 53) rfl (Stays.v _ _) (Left.cons (t := 54) rfl (Stays.v _ _) Left.nil))))))))))), ?_⟩
  refine RunTK.last ?_
  refine RunK.nil ?_
  refine End.sub (Sub.cons (t := 0) rfl (Sub.cons (t := 1) rfl (Sub.cons (t := 2) rfl (Sub.cons (t := 8) rfl (Sub.cons (t := 1000000) rfl Sub.nil))))) ?_
  refine End.normal_then (End.code ?_)
  refine A.seq ?_
  refine A.regs (by kernel_rfl) (by kernel_rfl) (.inl rfl) ?_
  refine RunTK.last ?_
  refine RunK.step rfl rfl (ok_move rfl) ?_
  refine RunK.step rfl rfl (ok_str Try.underlying23 Try.underlying5 Try.underlying9 rfl (by first | exact Le.refl _ | exact Le.old _ _ | exact le_byt _ _ | exact (Le.old _ _).trans (le_byt _ _) | exact le_lst _ _ | exact (Le.old _ _).trans (le_lst _ _) | exact (Le.old _ _).trans (Le.old _ _) | exact (Le.old _ _).trans ((Le.old _ _).trans (le_byt _ _)) | exact byt_nil_le | exact lst_nil_le | exact bytes_nil_le | exact list_nil_le)) ?_
  refine RunK.step rfl rfl (ok_move rfl) ?_
  refine RunK.step rfl rfl (ok_sne rfl rfl) ?_; refine RunK.as (.bool false) (by simp) ?_
  refine RunK.nil ?_
  refine A.sub (Sub.cons (t := 0) rfl (Sub.cons (t := 1) rfl (Sub.cons (t := 2) rfl (Sub.cons (t := 58) rfl (Sub.cons (t := 1000000) rfl Sub.nil))))) ?_
  refine A.no rfl ?_
  refine A.skip ?_
  refine End.normal_then (End.code ?_)
  refine A.regs (by kernel_rfl) (by kernel_rfl) (.inl rfl) ?_
  refine RunTK.last ?_
  refine RunK.step rfl rfl (ok_move rfl) ?_
  refine RunK.step rfl rfl (ok_lenB Try.underlying23 rfl (by first | exact Le.refl _ | exact Le.old _ _ | exact le_byt _ _ | exact (Le.old _ _).trans (le_byt _ _) | exact le_lst _ _ | exact (Le.old _ _).trans (le_lst _ _) | exact (Le.old _ _).trans (Le.old _ _) | exact (Le.old _ _).trans ((Le.old _ _).trans (le_byt _ _)) | exact byt_nil_le | exact lst_nil_le | exact bytes_nil_le | exact list_nil_le)) ?_
  refine RunK.step rfl rfl (ok_move rfl) ?_
  refine RunK.step rfl rfl (ok_lenB Try.underlying23 rfl (by first | exact Le.refl _ | exact Le.old _ _ | exact le_byt _ _ | exact (Le.old _ _).trans (le_byt _ _) | exact le_lst _ _ | exact (Le.old _ _).trans (le_lst _ _) | exact (Le.old _ _).trans (Le.old _ _) | exact (Le.old _ _).trans ((Le.old _ _).trans (le_byt _ _)) | exact byt_nil_le | exact lst_nil_le | exact bytes_nil_le | exact list_nil_le)) ?_
  refine RunK.step rfl rfl (ok_min rfl rfl) ?_; refine RunK.as (.int .i64 ((n : Nat) : Int)) (by rw [hn]; congr 1; omega) ?_
  refine RunK.step rfl rfl (ok_assign rfl) ?_
  refine RunK.nil ?_
  refine A.sub (Sub.cons (t := 0) rfl (Sub.cons (t := 1) rfl (Sub.cons (t := 2) rfl (Sub.cons (t := 9) rfl (Sub.cons (t := 1000000) rfl Sub.nil))))) ?_
  refine A.regs (by kernel_rfl) (by kernel_rfl) (.inr (by kernel_rfl)) ?_
  refine RunTK.last ?_
  refine RunK.step rfl rfl (ok_move rfl) ?_
  refine RunK.step rfl rfl (ok_move rfl) ?_
  refine RunK.step rfl rfl ((ok_slice (ds := a.map byteD) 0 n Try.underlying23 info5 rfl (Le.old _ _) (.inr ⟨rfl, rfl⟩) (.inl ⟨_, _, rfl, rfl⟩) (by omega) (by simp; omega)).le (d' := byt (a.take n)) (Le.eq (byt_slice a n))) ?_
  refine RunK.step rfl rfl (ok_move rfl) ?_
  refine RunK.step rfl rfl (ok_build [byt (a.take n), old w₀.heap.size (byt c)] Try.underlying49 info23 rfl (by decide) (by decide) rfl ⟨rfl, rfl, rfl, rfl, trivial⟩ (fun d hd w x h => by simp only [List.mem_cons, List.not_mem_nil, or_false] at hd; rcases hd with rfl | rfl <;> first | exact old_one (fun _ _ h => lst_one h) h | exact lst_one h | exact bytes_one h | exact fresh_one h)) ?_
  refine RunK.step rfl rfl (ok_call ((Join_fn [a.take n, c] (by simp) (by simp; omega)).le (d' := byt (a.take n ++ c)) ((le_byt _ _).trans (Le.eq (by simp)))) (Args.cons rfl (list_lst2 (Le.refl _) (Le.old _ _)) Args.nil)) ?_
  refine RunK.step rfl rfl (ok_move rfl) ?_
  refine RunK.step rfl rfl (ok_move rfl) ?_
  refine RunK.step rfl rfl ((ok_slice (ds := b.map byteD) 0 n Try.underlying23 info5 rfl (Le.old _ _) (.inr ⟨rfl, rfl⟩) (.inl ⟨_, _, rfl, rfl⟩) (by omega) (by simp; omega)).le (d' := byt (b.take n)) (Le.eq (byt_slice b n))) ?_
  refine RunK.step rfl rfl (ok_move rfl) ?_
  refine RunK.step rfl rfl (ok_build [byt (b.take n), old w₀.heap.size (byt c)] Try.underlying49 info23 rfl (by decide) (by decide) rfl ⟨rfl, rfl, rfl, rfl, trivial⟩ (fun d hd w x h => by simp only [List.mem_cons, List.not_mem_nil, or_false] at hd; rcases hd with rfl | rfl <;> first | exact old_one (fun _ _ h => lst_one h) h | exact lst_one h | exact bytes_one h | exact fresh_one h)) ?_
  refine RunK.step rfl rfl (ok_call ((Join_fn [b.take n, c] (by simp) (by simp; omega)).le (d' := byt (b.take n ++ c)) ((le_byt _ _).trans (Le.eq (by simp)))) (Args.cons rfl (list_lst2 (Le.refl _) (Le.old _ _)) Args.nil)) ?_
  refine RunK.step rfl rfl (ok_call ((Xor_fn (a.take n ++ c) (b.take n ++ c) (by simp; omega)).le (d' := tup [bytes X X.length, .v (.int .i64 0)]) (Le.eq (by rw [hx1, hk1]))) (Args.cons rfl (Le.refl _) (Args.cons rfl (Le.refl _) Args.nil))) ?_
  refine RunK.step rfl rfl (ok_move rfl) ?_
  refine RunK.step rfl rfl (ok_extract rfl rfl) ?_
  refine RunK.step rfl rfl (ok_extract rfl rfl) ?_
  refine RunK.step rfl rfl (ok_assign rfl) ?_
  refine RunK.step rfl rfl (ok_assign rfl) ?_
  refine RunK.nil ?_
  refine A.sub (Sub.cons (t := 0) rfl (Sub.cons (t := 1) rfl (Sub.cons (t := 2) rfl (Sub.cons (t := 9) rfl (Sub.cons (t := 10) rfl (Sub.cons (t := 11) rfl (Sub.cons (t := 1000000) rfl Sub.nil))))))) ?_
  refine A.regs (by kernel_rfl) (by kernel_rfl) (.inr (by kernel_rfl)) ?_
  refine RunTK.last ?_
  refine RunK.step rfl rfl (ok_move rfl) ?_
  refine RunK.step rfl rfl (ok_move rfl) ?_
  refine RunK.step rfl rfl ((ok_slice (ds := a.map byteD) 0 n Try.underlying23 info5 rfl (Le.old _ _) (.inr ⟨rfl, rfl⟩) (.inl ⟨_, _, rfl, rfl⟩) (by omega) (by simp; omega)).le (d' := byt (a.take n)) (Le.eq (byt_slice a n))) ?_
  refine RunK.step rfl rfl (ok_move rfl) ?_
  refine RunK.step rfl rfl (ok_move rfl) ?_
  refine RunK.step rfl rfl ((ok_slice (ds := b.map byteD) 0 n Try.underlying23 info5 rfl (Le.old _ _) (.inr ⟨rfl, rfl⟩) (.inl ⟨_, _, rfl, rfl⟩) (by omega) (by simp; omega)).le (d' := byt (b.take n)) (Le.eq (byt_slice b n))) ?_
  refine RunK.step rfl rfl (ok_call ((Xor_fn (a.take n) (b.take n) (by simp; omega)).le (d' := tup [bytes Y Y.length, .v (.int .i64 0)]) (Le.eq (by rw [hx2, hk2]))) (Args.cons rfl (Le.refl _) (Args.cons rfl (Le.refl _) Args.nil))) ?_
  refine RunK.step rfl rfl (ok_move rfl) ?_
  refine RunK.step rfl rfl (ok_extract rfl rfl) ?_
  refine RunK.step rfl rfl (ok_extract rfl rfl) ?_
  refine RunK.step rfl rfl (ok_assign rfl) ?_
  refine RunK.step rfl rfl (ok_assign rfl) ?_
  refine RunK.nil ?_
  refine A.sub (Sub.cons (t := 2) rfl (Sub.cons (t := 10) rfl (Sub.cons (t := 11) rfl (Sub.cons (t := 12) rfl (Sub.cons (t := 13) rfl (Sub.cons (t := 1000000) rfl Sub.nil)))))) ?_
  refine A.regs (by kernel_rfl) (by kernel_rfl) (.inl rfl) ?_
  refine RunTK.last ?_
  refine RunK.step rfl rfl (ok_move rfl) ?_
  refine RunK.step rfl rfl (ok_bin rfl rfl rfl) ?_; refine RunK.as (.bool true) (by rfl) ?_
  refine RunK.step rfl rfl (ok_move rfl) ?_
  refine RunK.guarded rfl rfl rfl rfl (ok_move rfl) ?_
  refine RunK.guarded rfl rfl rfl rfl (ok_bin rfl rfl rfl) ?_; refine RunK.as (.bool true) (by rfl) ?_
  refine RunK.step rfl rfl (ok_pick rfl rfl) ?_
  refine RunK.step rfl rfl (ok_move rfl) ?_
  refine RunK.guarded rfl rfl rfl rfl (ok_move rfl) ?_
  refine RunK.guarded rfl rfl rfl rfl (ok_move rfl) ?_
  refine RunK.guarded rfl rfl rfl rfl (ok_move rfl) ?_
  refine RunK.guarded rfl rfl rfl rfl (ok_lenB Try.underlying23 rfl (by first | exact Le.refl _ | exact Le.old _ _ | exact le_byt _ _ | exact (Le.old _ _).trans (le_byt _ _) | exact le_lst _ _ | exact (Le.old _ _).trans (le_lst _ _) | exact (Le.old _ _).trans (Le.old _ _) | exact (Le.old _ _).trans ((Le.old _ _).trans (le_byt _ _)) | exact byt_nil_le | exact lst_nil_le | exact bytes_nil_le | exact list_nil_le)) ?_
  refine RunK.guarded rfl rfl rfl rfl (ok_make c.length Try.underlying23 info5 (by decide) rfl rfl rfl rfl rfl (by omega)) ?_
  refine RunK.guarded rfl rfl rfl rfl (ok_build [bytes Y Y.length, fresh w₀.heap.size 5 (List.replicate c.length (.int .u8 0)) c.length] Try.underlying49 info23 rfl (by decide) (by decide) rfl ⟨rfl, rfl, rfl, rfl, trivial⟩ (fun d hd w x h => by simp only [List.mem_cons, List.not_mem_nil, or_false] at hd; rcases hd with rfl | rfl <;> first | exact old_one (fun _ _ h => lst_one h) h | exact lst_one h | exact bytes_one h | exact fresh_one h)) ?_
  refine RunK.guarded rfl rfl rfl rfl (ok_call ((Join_fn [Y, List.replicate c.length 0] (by simp) (by simp; omega)).le (d' := byt X) ((le_byt _ _).trans (Le.eq (by rw [hX]; simp)))) (Args.cons rfl (list_lst2 (le_byt _ _) (fresh_byt (by simp [byteV]) (by simp) (by simp only [maxLen]; omega))) Args.nil)) ?_
  refine RunK.guarded rfl rfl rfl rfl (ok_call (same_fn X 0) (Args.cons rfl (Le.refl _) (Args.cons rfl (Le.refl _) (Args.cons rfl (Le.refl _) (Args.cons rfl (Le.refl _) Args.nil))))) ?_
  refine RunK.step rfl rfl (ok_pick rfl rfl) ?_
  refine RunK.step rfl rfl (ok_move rfl) ?_
  refine RunK.guarded rfl rfl rfl rfl (ok_call lives_fn Args.nil) ?_
  refine RunK.step rfl rfl (ok_pick rfl rfl) ?_
  refine RunK.step rfl rfl (ok_assign rfl) ?_
  refine RunK.nil ?_
  refine A.sub (Sub.cons (t := 6) rfl (Sub.cons (t := 1000000) rfl Sub.nil)) ?_
  refine A.ret ?_
  exact End.ret1 rfl rfl (by first | exact Le.refl _ | exact Le.old _ _)
set_option maxHeartbeats 2000000 in
theorem WordsJoin_fnE (a b c : List UInt8) (ha : a.length ≤ 40) (hb : b.length ≤ 40) (hc : c.length ≤ 40) (h0 : a.length + (b.length + c.length) = 0) : Fn Try.prog 7 [byt a, byt b, byt c] (.v (.bool true)) := by
  obtain ⟨L, hL⟩ : ∃ L, L = a ++ (b ++ c) := ⟨_, rfl⟩
  have hLl : L.length = a.length + (b.length + c.length) := by rw [hL]; simp
  obtain ⟨n, hn⟩ : ∃ n, n = min a.length b.length := ⟨_, rfl⟩
  obtain ⟨Y, hY⟩ : ∃ Y, Y = xors (a.take n) (b.take n) := ⟨_, rfl⟩
  obtain ⟨X, hX⟩ : ∃ X, X = Y ++ List.replicate c.length 0 := ⟨_, rfl⟩
  have hta : (a.take n).length = n := by simp; omega
  have htb : (b.take n).length = n := by simp; omega
  have hYl : Y.length = n := by rw [hY, xors_length (by omega), hta]
  have hx1 : xorV (a.take n ++ c) (b.take n ++ c) = X := by rw [xorV, if_pos (by simp; omega), xors_append (by omega), xors_same, ← hY, hX]
  have hk1 : chk (b.take n ++ c).length (a.take n ++ c).length = 0 := chk_self.2 (by simp; omega)
  have hx2 : xorV (a.take n) (b.take n) = Y := by rw [xorV, if_pos (by omega), hY]
  have hk2 : chk (b.take n).length (a.take n).length = 0 := chk_self.2 (by omega)
  refine Fn.of Try.func7 rfl (by kernel_rfl) Try.ntmps7 (by simp) (fun w => [(0, old w.heap.size (byt a)), (1, old w.heap.size (byt b)), (2, old w.heap.size (byt c))]) (fun w => (Start.old rfl (Start.old rfl (Start.old rfl Start.nil)))) fun w₀ => ?_
  refine A.regs (by kernel_rfl) (by kernel_rfl) (.inl rfl) ?_
  refine RunTK.last ?_
  refine RunK.step rfl rfl (ok_assign rfl) ?_
  refine RunK.nil ?_
  refine A.sub (Sub.cons (t := 0) rfl (Sub.cons (t := 1) rfl (Sub.cons (t := 2) rfl Sub.nil))) ?_
  refine A.seq ?_
  refine A.regs (by kernel_rfl) (by kernel_rfl) (.inl rfl) ?_
  refine RunTK.last ?_
  refine RunK.step rfl rfl (ok_move rfl) ?_
  refine RunK.step rfl rfl (ok_lenB Try.underlying23 rfl (by first | exact Le.refl _ | exact Le.old _ _ | exact le_byt _ _ | exact (Le.old _ _).trans (le_byt _ _) | exact le_lst _ _ | exact (Le.old _ _).trans (le_lst _ _) | exact (Le.old _ _).trans (Le.old _ _) | exact (Le.old _ _).trans ((Le.old _ _).trans (le_byt _ _)) | exact byt_nil_le | exact lst_nil_le | exact bytes_nil_le | exact list_nil_le)) ?_
  refine RunK.step rfl rfl (ok_bin rfl rfl rfl) ?_; refine RunK.as (.bool false) (by simp; omega) ?_
  refine RunK.step rfl rfl (ok_move rfl) ?_
  refine RunK.guarded rfl rfl rfl rfl (ok_move rfl) ?_
  refine RunK.guarded rfl rfl rfl rfl (ok_lenB Try.underlying23 rfl (by first | exact Le.refl _ | exact Le.old _ _ | exact le_byt _ _ | exact (Le.old _ _).trans (le_byt _ _) | exact le_lst _ _ | exact (Le.old _ _).trans (le_lst _ _) | exact (Le.old _ _).trans (Le.old _ _) | exact (Le.old _ _).trans ((Le.old _ _).trans (le_byt _ _)) | exact byt_nil_le | exact lst_nil_le | exact bytes_nil_le | exact list_nil_le)) ?_
  refine RunK.guarded rfl rfl rfl rfl (ok_bin rfl rfl rfl) ?_; refine RunK.as (.bool false) (by simp; omega) ?_
  refine RunK.step rfl rfl (ok_pick rfl rfl) ?_
  refine RunK.step rfl rfl (ok_move rfl) ?_
  refine RunK.guarded rfl rfl rfl rfl (ok_move rfl) ?_
  refine RunK.guarded rfl rfl rfl rfl (ok_lenB Try.underlying23 rfl (by first | exact Le.refl _ | exact Le.old _ _ | exact le_byt _ _ | exact (Le.old _ _).trans (le_byt _ _) | exact le_lst _ _ | exact (Le.old _ _).trans (le_lst _ _) | exact (Le.old _ _).trans (Le.old _ _) | exact (Le.old _ _).trans ((Le.old _ _).trans (le_byt _ _)) | exact byt_nil_le | exact lst_nil_le | exact bytes_nil_le | exact list_nil_le)) ?_
  refine RunK.guarded rfl rfl rfl rfl (ok_bin rfl rfl rfl) ?_; refine RunK.as (.bool false) (by simp; omega) ?_
  refine RunK.step rfl rfl (ok_pick rfl rfl) ?_
  refine RunK.nil ?_
  refine A.sub (Sub.cons (t := 0) rfl (Sub.cons (t := 1) rfl (Sub.cons (t := 2) rfl (Sub.cons (t := 26) rfl Sub.nil)))) ?_
  refine A.no rfl ?_
  refine A.skip ?_
  refine End.normal_then (End.code ?_)
  refine A.regs (by kernel_rfl) (by kernel_rfl) (.inl rfl) ?_
  refine RunTK.last ?_
  refine RunK.step rfl rfl (ok_move rfl) ?_
  refine RunK.step rfl rfl (ok_move rfl) ?_
  refine RunK.step rfl rfl (ok_move rfl) ?_
  refine RunK.step rfl rfl (ok_build [old w₀.heap.size (byt a), old w₀.heap.size (byt b), old w₀.heap.size (byt c)] Try.underlying49 info23 rfl (by decide) (by decide) rfl ⟨rfl, rfl, rfl, rfl, rfl, rfl, trivial⟩ (fun d hd w x h => by simp only [List.mem_cons, List.not_mem_nil, or_false] at hd; rcases hd with rfl | rfl | rfl <;> first | exact old_one (fun _ _ h => lst_one h) h | exact lst_one h | exact bytes_one h | exact fresh_one h)) ?_
  refine RunK.step rfl rfl ((ok_callB (Join_fnB [a, b, c] (by simp) (by simp; omega)) (fun _ _ => fresh_mono _ _) (Args.cons rfl (list_lst3 (Le.old _ _) (Le.old _ _) (Le.old _ _)) Args.nil)).le (d' := fresh w₀.heap.size 5 (L.map byteV) L.length) (Le.eq (by rw [hL]; simp))) ?_
  refine RunK.step rfl rfl (ok_assign rfl) ?_
  refine RunK.nil ?_
  refine A.sub (Sub.cons (t := 0) rfl (Sub.cons (t := 1) rfl (Sub.cons (t := 2) rfl (Sub.cons (t := 7) rfl Sub.nil)))) ?_
  refine A.seq ?_
  refine A.regsG _ (fun B => (OldOf.p (t := 0) rfl (OldOf.p (t := 1) rfl (OldOf.p (t := 2) rfl (OldOf.p (t := 7) rfl OldOf.nil))))) (by kernel_rfl) (by kernel_rfl) (.inl rfl) (fun B hB => ?_)
  refine RunTK.eff 3 (by decide) rfl (.inl rfl) ?_
  refine RunK.step rfl rfl (ok_move rfl) ?_
  refine RunK.step rfl rfl (ok_build0own Try.underlying23 info5) ?_
  refine RunK.step rfl rfl (ok_move rfl) ?_
  refine RunK.nil ?_
  refine ⟨_, eff_append (vs := a.map byteV) Try.underlying23 info5 (by decide) rfl rfl rfl (((Le.old _ _).trans (Le.old _ _)).trans (Le.eq (byt_vs a))) (bytes_oneV a) (by simp; omega) (by decide) (Left.cons (t := 0) rfl (Stays.old _ _) (Left.cons (t := 1) rfl (Stays.old _ _) (Left.cons (t := 2) rfl (Stays.old _ _) (Left.cons (t := 7) rfl (Stays.old _ _) (Left.cons (t := 33) rfl (Stays.old _ _) (Left.cons (t := 35) rfl (Stays.old _ _) Left.nil)))))), ?_⟩
  refine RunTK.eff 5 (by decide) rfl (.inl rfl) ?_
  refine RunK.step rfl rfl (ok_move rfl) ?_
  refine RunK.nil ?_
  refine ⟨_, eff_append (vs := b.map byteV) Try.underlying23 info5 (by decide) rfl rfl rfl (((Le.old _ _).trans (Le.old _ _)).trans (Le.eq (byt_vs b))) (bytes_oneV b) (by simp; omega) (by decide) (Left.cons (t := 0) rfl (Stays.old _ _) (Left.cons (t := 1) rfl (Stays.old _ _) (Left.cons (t := 2) rfl (Stays.old _ _) (Left.cons (t := 7) rfl (Stays.old _ _) (Left.cons (t := 33) rfl (Stays.old _ _) (Left.cons (t := 35) rfl (Stays.old _ _) (Left.cons (t := 37) rfl (Stays.old _ _) Left.nil))))))), ?_⟩
  refine RunTK.eff 7 (by decide) rfl (.inl rfl) ?_
  refine RunK.step rfl rfl (ok_move rfl) ?_
  refine RunK.nil ?_
  refine ⟨_, eff_append (vs := c.map byteV) Try.underlying23 info5 (by decide) rfl rfl rfl (((Le.old _ _).trans (Le.old _ _)).trans (Le.eq (byt_vs c))) (bytes_oneV c) (by simp; omega) (by decide) (Left.cons (t := 0) rfl (Stays.old _ _) (Left.cons (t := 1) rfl (Stays.old _ _) (Left.cons (t := 2) rfl (Stays.old _ _) (Left.cons (t := 7) rfl (Stays.old _ _) (Left.cons (t := 33) rfl (Stays.old _ _) (Left.cons (t := 35) rfl (Stays.old _ _) (Left.cons (t := 37) rfl (Stays.old _ _) (Left.cons (t := 39) rfl (Stays.old _ _) Left.nil)))))))), ?_⟩
  refine RunTK.last ?_
  refine RunK.step rfl rfl (ok_call (same_fn L 0) (Args.cons rfl ((Le.old _ _).trans (fresh_bytes rfl (by simp only [maxLen]; omega))) (Args.cons rfl (Le.refl _) (Args.cons rfl (Le.trans (Le.eq (show own B 5 _ _ = own B 5 L.length (L.map byteV) from by subst hL; simp [Nat.add_assoc])) (own_byt rfl)) (Args.cons rfl (Le.refl _) Args.nil))))) ?_
  refine RunK.step rfl rfl (ok_not rfl) ?_
  refine RunK.nil ?_
  refine A.sub (Sub.cons (t := 0) rfl (Sub.cons (t := 1) rfl (Sub.cons (t := 2) rfl (Sub.cons (t := 7) rfl (Sub.cons (t := 42) rfl Sub.nil))))) ?_
  refine A.subL (SubL.cons (t := 0) rfl (Le.old _ _) (SubL.cons (t := 1) rfl (Le.old _ _) (SubL.cons (t := 2) rfl (Le.old _ _) (SubL.cons (t := 7) rfl (Le.old _ _) (SubL.cons (t := 42) rfl (Le.refl _) SubL.nil))))) ?_
  refine A.no rfl ?_
  refine A.skip ?_
  refine End.normal_then (End.code ?_)
  refine A.regs (by kernel_rfl) (by kernel_rfl) (.inl rfl) ?_
  refine RunTK.last ?_
  refine RunK.step rfl rfl (ok_move rfl) ?_
  refine RunK.step rfl rfl (ok_build [old w₀.heap.size (byt a)] Try.underlying49 info23 rfl (by decide) (by decide) rfl ⟨rfl, rfl, trivial⟩ (fun d hd w x h => by simp only [List.mem_cons, List.not_mem_nil, or_false] at hd; rcases hd with rfl <;> first | exact old_one (fun _ _ h => lst_one h) h | exact lst_one h | exact bytes_one h | exact fresh_one h)) ?_
  refine RunK.step rfl rfl (ok_call ((Join_fn [a] (by simp) (by simp; omega)).le (d' := byt a) ((le_byt _ _).trans (Le.eq (by simp)))) (Args.cons rfl (list_lst1 (Le.old _ _)) Args.nil)) ?_
  refine RunK.step rfl rfl (ok_str Try.underlying23 Try.underlying5 Try.underlying9 rfl (by first | exact Le.refl _ | exact Le.old _ _ | exact le_byt _ _ | exact (Le.old _ _).trans (le_byt _ _) | exact le_lst _ _ | exact (Le.old _ _).trans (le_lst _ _) | exact (Le.old _ _).trans (Le.old _ _) | exact (Le.old _ _).trans ((Le.old _ _).trans (le_byt _ _)) | exact byt_nil_le | exact lst_nil_le | exact bytes_nil_le | exact list_nil_le)) ?_
  refine RunK.step rfl rfl (ok_assign rfl) ?_
  refine RunK.nil ?_
  refine A.sub (Sub.cons (t := 0) rfl (Sub.cons (t := 1) rfl (Sub.cons (t := 2) rfl (Sub.cons (t := 7) rfl (Sub.cons (t := 8) rfl Sub.nil))))) ?_
  refine A.seq ?_
  refine A.regs (by kernel_rfl) (by kernel_rfl) (.inl rfl) ?_
  refine RunTK.last ?_
  refine RunK.step rfl rfl (ok_move rfl) ?_
  refine RunK.step rfl rfl (ok_lenB Try.underlying23 rfl ((fresh_bytes rfl (by simp only [maxLen]; omega)).trans (le_byt L _))) ?_
  refine RunK.step rfl rfl (ok_bin rfl rfl rfl) ?_; refine RunK.as (.bool false) (by rw [show L.length = 0 from by omega]; rfl) ?_
  refine RunK.nil ?_
  refine A.sub (Sub.cons (t := 0) rfl (Sub.cons (t := 1) rfl (Sub.cons (t := 2) rfl (Sub.cons (t := 7) rfl (Sub.cons (t := 8) rfl (Sub.cons (t := 49) rfl Sub.nil)))))) ?_
  refine A.no rfl ?_
  refine A.skip ?_
  refine End.normal_then (End.code ?_)
  refine A.seq ?_
  refine A.regs (by kernel_rfl) (by kernel_rfl) (.inl rfl) ?_
  refine RunTK.last ?_
  refine RunK.step rfl rfl (ok_move rfl) ?_
  refine RunK.step rfl rfl (ok_str Try.underlying23 Try.underlying5 Try.underlying9 rfl (by first | exact Le.refl _ | exact Le.old _ _ | exact le_byt _ _ | exact (Le.old _ _).trans (le_byt _ _) | exact le_lst _ _ | exact (Le.old _ _).trans (le_lst _ _) | exact (Le.old _ _).trans (Le.old _ _) | exact (Le.old _ _).trans ((Le.old _ _).trans (le_byt _ _)) | exact byt_nil_le | exact lst_nil_le | exact bytes_nil_le | exact list_nil_le)) ?_
  refine RunK.step rfl rfl (ok_move rfl) ?_
  refine RunK.step rfl rfl (ok_sne rfl rfl) ?_; refine RunK.as (.bool false) (by simp) ?_
  refine RunK.nil ?_
  refine A.sub (Sub.cons (t := 0) rfl (Sub.cons (t := 1) rfl (Sub.cons (t := 2) rfl (Sub.cons (t := 58) rfl Sub.nil)))) ?_
  refine A.no rfl ?_
  refine A.skip ?_
  refine End.normal_then (End.code ?_)
  refine A.regs (by kernel_rfl) (by kernel_rfl) (.inl rfl) ?_
  refine RunTK.last ?_
  refine RunK.step rfl rfl (ok_move rfl) ?_
  refine RunK.step rfl rfl (ok_lenB Try.underlying23 rfl (by first | exact Le.refl _ | exact Le.old _ _ | exact le_byt _ _ | exact (Le.old _ _).trans (le_byt _ _) | exact le_lst _ _ | exact (Le.old _ _).trans (le_lst _ _) | exact (Le.old _ _).trans (Le.old _ _) | exact (Le.old _ _).trans ((Le.old _ _).trans (le_byt _ _)) | exact byt_nil_le | exact lst_nil_le | exact bytes_nil_le | exact list_nil_le)) ?_
  refine RunK.step rfl rfl (ok_move rfl) ?_
  refine RunK.step rfl rfl (ok_lenB Try.underlying23 rfl (by first | exact Le.refl _ | exact Le.old _ _ | exact le_byt _ _ | exact (Le.old _ _).trans (le_byt _ _) | exact le_lst _ _ | exact (Le.old _ _).trans (le_lst _ _) | exact (Le.old _ _).trans (Le.old _ _) | exact (Le.old _ _).trans ((Le.old _ _).trans (le_byt _ _)) | exact byt_nil_le | exact lst_nil_le | exact bytes_nil_le | exact list_nil_le)) ?_
  refine RunK.step rfl rfl (ok_min rfl rfl) ?_; refine RunK.as (.int .i64 ((n : Nat) : Int)) (by rw [hn]; congr 1; omega) ?_
  refine RunK.step rfl rfl (ok_assign rfl) ?_
  refine RunK.nil ?_
  refine A.sub (Sub.cons (t := 0) rfl (Sub.cons (t := 1) rfl (Sub.cons (t := 2) rfl (Sub.cons (t := 9) rfl Sub.nil)))) ?_
  refine A.regs (by kernel_rfl) (by kernel_rfl) (.inr (by kernel_rfl)) ?_
  refine RunTK.last ?_
  refine RunK.step rfl rfl (ok_move rfl) ?_
  refine RunK.step rfl rfl (ok_move rfl) ?_
  refine RunK.step rfl rfl ((ok_slice (ds := a.map byteD) 0 n Try.underlying23 info5 rfl (Le.old _ _) (.inr ⟨rfl, rfl⟩) (.inl ⟨_, _, rfl, rfl⟩) (by omega) (by simp; omega)).le (d' := byt (a.take n)) (Le.eq (byt_slice a n))) ?_
  refine RunK.step rfl rfl (ok_move rfl) ?_
  refine RunK.step rfl rfl (ok_build [byt (a.take n), old w₀.heap.size (byt c)] Try.underlying49 info23 rfl (by decide) (by decide) rfl ⟨rfl, rfl, rfl, rfl, trivial⟩ (fun d hd w x h => by simp only [List.mem_cons, List.not_mem_nil, or_false] at hd; rcases hd with rfl | rfl <;> first | exact old_one (fun _ _ h => lst_one h) h | exact lst_one h | exact bytes_one h | exact fresh_one h)) ?_
  refine RunK.step rfl rfl (ok_call ((Join_fn [a.take n, c] (by simp) (by simp; omega)).le (d' := byt (a.take n ++ c)) ((le_byt _ _).trans (Le.eq (by simp)))) (Args.cons rfl (list_lst2 (Le.refl _) (Le.old _ _)) Args.nil)) ?_
  refine RunK.step rfl rfl (ok_move rfl) ?_
  refine RunK.step rfl rfl (ok_move rfl) ?_
  refine RunK.step rfl rfl ((ok_slice (ds := b.map byteD) 0 n Try.underlying23 info5 rfl (Le.old _ _) (.inr ⟨rfl, rfl⟩) (.inl ⟨_, _, rfl, rfl⟩) (by omega) (by simp; omega)).le (d' := byt (b.take n)) (Le.eq (byt_slice b n))) ?_
  refine RunK.step rfl rfl (ok_move rfl) ?_
  refine RunK.step rfl rfl (ok_build [byt (b.take n), old w₀.heap.size (byt c)] Try.underlying49 info23 rfl (by decide) (by decide) rfl ⟨rfl, rfl, rfl, rfl, trivial⟩ (fun d hd w x h => by simp only [List.mem_cons, List.not_mem_nil, or_false] at hd; rcases hd with rfl | rfl <;> first | exact old_one (fun _ _ h => lst_one h) h | exact lst_one h | exact bytes_one h | exact fresh_one h)) ?_
  refine RunK.step rfl rfl (ok_call ((Join_fn [b.take n, c] (by simp) (by simp; omega)).le (d' := byt (b.take n ++ c)) ((le_byt _ _).trans (Le.eq (by simp)))) (Args.cons rfl (list_lst2 (Le.refl _) (Le.old _ _)) Args.nil)) ?_
  refine RunK.step rfl rfl (ok_call ((Xor_fn (a.take n ++ c) (b.take n ++ c) (by simp; omega)).le (d' := tup [bytes X X.length, .v (.int .i64 0)]) (Le.eq (by rw [hx1, hk1]))) (Args.cons rfl (Le.refl _) (Args.cons rfl (Le.refl _) Args.nil))) ?_
  refine RunK.step rfl rfl (ok_move rfl) ?_
  refine RunK.step rfl rfl (ok_extract rfl rfl) ?_
  refine RunK.step rfl rfl (ok_extract rfl rfl) ?_
  refine RunK.step rfl rfl (ok_assign rfl) ?_
  refine RunK.step rfl rfl (ok_assign rfl) ?_
  refine RunK.nil ?_
  refine A.sub (Sub.cons (t := 0) rfl (Sub.cons (t := 1) rfl (Sub.cons (t := 2) rfl (Sub.cons (t := 9) rfl (Sub.cons (t := 10) rfl (Sub.cons (t := 11) rfl Sub.nil)))))) ?_
  refine A.regs (by kernel_rfl) (by kernel_rfl) (.inr (by kernel_rfl)) ?_
  refine RunTK.last ?_
  refine RunK.step rfl rfl (ok_move rfl) ?_
  refine RunK.step rfl rfl (ok_move rfl) ?_
  refine RunK.step rfl rfl ((ok_slice (ds := a.map byteD) 0 n Try.underlying23 info5 rfl (Le.old _ _) (.inr ⟨rfl, rfl⟩) (.inl ⟨_, _, rfl, rfl⟩) (by omega) (by simp; omega)).le (d' := byt (a.take n)) (Le.eq (byt_slice a n))) ?_
  refine RunK.step rfl rfl (ok_move rfl) ?_
  refine RunK.step rfl rfl (ok_move rfl) ?_
  refine RunK.step rfl rfl ((ok_slice (ds := b.map byteD) 0 n Try.underlying23 info5 rfl (Le.old _ _) (.inr ⟨rfl, rfl⟩) (.inl ⟨_, _, rfl, rfl⟩) (by omega) (by simp; omega)).le (d' := byt (b.take n)) (Le.eq (byt_slice b n))) ?_
  refine RunK.step rfl rfl (ok_call ((Xor_fn (a.take n) (b.take n) (by simp; omega)).le (d' := tup [bytes Y Y.length, .v (.int .i64 0)]) (Le.eq (by rw [hx2, hk2]))) (Args.cons rfl (Le.refl _) (Args.cons rfl (Le.refl _) Args.nil))) ?_
  refine RunK.step rfl rfl (ok_move rfl) ?_
  refine RunK.step rfl rfl (ok_extract rfl rfl) ?_
  refine RunK.step rfl rfl (ok_extract rfl rfl) ?_
  refine RunK.step rfl rfl (ok_assign rfl) ?_
  refine RunK.step rfl rfl (ok_assign rfl) ?_
  refine RunK.nil ?_
  refine A.sub (Sub.cons (t := 2) rfl (Sub.cons (t := 10) rfl (Sub.cons (t := 11) rfl (Sub.cons (t := 12) rfl (Sub.cons (t := 13) rfl Sub.nil))))) ?_
  refine A.regs (by kernel_rfl) (by kernel_rfl) (.inl rfl) ?_
  refine RunTK.last ?_
  refine RunK.step rfl rfl (ok_move rfl) ?_
  refine RunK.step rfl rfl (ok_bin rfl rfl rfl) ?_; refine RunK.as (.bool true) (by rfl) ?_
  refine RunK.step rfl rfl (ok_move rfl) ?_
  refine RunK.guarded rfl rfl rfl rfl (ok_move rfl) ?_
  refine RunK.guarded rfl rfl rfl rfl (ok_bin rfl rfl rfl) ?_; refine RunK.as (.bool true) (by rfl) ?_
  refine RunK.step rfl rfl (ok_pick rfl rfl) ?_
  refine RunK.step rfl rfl (ok_move rfl) ?_
  refine RunK.guarded rfl rfl rfl rfl (ok_move rfl) ?_
  refine RunK.guarded rfl rfl rfl rfl (ok_move rfl) ?_
  refine RunK.guarded rfl rfl rfl rfl (ok_move rfl) ?_
  refine RunK.guarded rfl rfl rfl rfl (ok_lenB Try.underlying23 rfl (by first | exact Le.refl _ | exact Le.old _ _ | exact le_byt _ _ | exact (Le.old _ _).trans (le_byt _ _) | exact le_lst _ _ | exact (Le.old _ _).trans (le_lst _ _) | exact (Le.old _ _).trans (Le.old _ _) | exact (Le.old _ _).trans ((Le.old _ _).trans (le_byt _ _)) | exact byt_nil_le | exact lst_nil_le | exact bytes_nil_le | exact list_nil_le)) ?_
  refine RunK.guarded rfl rfl rfl rfl (ok_make c.length Try.underlying23 info5 (by decide) rfl rfl rfl rfl rfl (by omega)) ?_
  refine RunK.guarded rfl rfl rfl rfl (ok_build [bytes Y Y.length, fresh w₀.heap.size 5 (List.replicate c.length (.int .u8 0)) c.length] Try.underlying49 info23 rfl (by decide) (by decide) rfl ⟨rfl, rfl, rfl, rfl, trivial⟩ (fun d hd w x h => by simp only [List.mem_cons, List.not_mem_nil, or_false] at hd; rcases hd with rfl | rfl <;> first | exact old_one (fun _ _ h => lst_one h) h | exact lst_one h | exact bytes_one h | exact fresh_one h)) ?_
  refine RunK.guarded rfl rfl rfl rfl (ok_call ((Join_fn [Y, List.replicate c.length 0] (by simp) (by simp; omega)).le (d' := byt X) ((le_byt _ _).trans (Le.eq (by rw [hX]; simp)))) (Args.cons rfl (list_lst2 (le_byt _ _) (fresh_byt (by simp [byteV]) (by simp) (by simp only [maxLen]; omega))) Args.nil)) ?_
  refine RunK.guarded rfl rfl rfl rfl (ok_call (same_fn X 0) (Args.cons rfl (Le.refl _) (Args.cons rfl (Le.refl _) (Args.cons rfl (Le.refl _) (Args.cons rfl (Le.refl _) Args.nil))))) ?_
  refine RunK.step rfl rfl (ok_pick rfl rfl) ?_
  refine RunK.step rfl rfl (ok_move rfl) ?_
  refine RunK.guarded rfl rfl rfl rfl (ok_call lives_fn Args.nil) ?_
  refine RunK.step rfl rfl (ok_pick rfl rfl) ?_
  refine RunK.step rfl rfl (ok_assign rfl) ?_
  refine RunK.nil ?_
  refine A.sub (Sub.cons (t := 6) rfl Sub.nil) ?_
  refine A.ret ?_
  exact End.ret1 rfl rfl (by first | exact Le.refl _ | exact Le.old _ _)
theorem WordsJoin_fn (a b c : List UInt8) : Fn Try.prog 7 [byt a, byt b, byt c] (.v (.bool true)) := by
  by_cases ha : 40 < a.length
  · exact WordsJoin_fnA a b c ha
  · by_cases hb : 40 < b.length
    · exact WordsJoin_fnB a b c (by omega) hb
    · by_cases hc : 40 < c.length
      · exact WordsJoin_fnC a b c (by omega) (by omega) hc
      · by_cases h0 : a.length + (b.length + c.length) = 0
        · exact WordsJoin_fnE a b c (by omega) (by omega) (by omega) h0
        · exact WordsJoin_fnD a b c (by omega) (by omega) (by omega) (by omega)
set_option maxHeartbeats 2000000 in
theorem WordsKnown_fn  : Fn Try.prog 8 [] (.v (.bool true)) := by
  refine Fn.of Try.func8 rfl (by kernel_rfl) Try.ntmps8 (by simp) (fun w => []) (fun w => Start.nil) fun w₀ => ?_
  refine A.regs (by kernel_rfl) (by kernel_rfl) (.inl rfl) ?_
  refine RunTK.last ?_
  refine RunK.step rfl rfl (ok_assign rfl) ?_
  refine RunK.nil ?_
  refine A.sub Sub.nil ?_
  refine A.regs (by kernel_rfl) (by kernel_rfl) (.inl rfl) ?_
  refine RunTK.last ?_
  refine RunK.step rfl rfl (ok_assign rfl) ?_
  refine RunK.nil ?_
  refine A.sub (Sub.cons (t := 1) rfl Sub.nil) ?_
  refine A.seq ?_
  refine A.regs (by kernel_rfl) (by kernel_rfl) (.inl rfl) ?_
  refine RunTK.last ?_
  refine RunK.step rfl rfl (ok_assign rfl) ?_
  refine RunK.nil ?_
  refine A.sub (Sub.cons (t := 1) rfl (Sub.cons (t := 2) rfl Sub.nil)) ?_
  refine A.block ?_
  refine A.loop (ι := (Nat × Int)) (fun x => x.1 ≤ 64 ∧ 0 ≤ x.2 ∧ x.2 < 18446744073709551616) (fun x => [(1, .v (.int .u64 x.2)), (2, .v (.int .i64 (x.1 : Int)))]) (fun x => 64 - x.1) (0, 1) ?_ ?_ ?_
  · exact ⟨Nat.zero_le _, by decide, by decide⟩
  · exact (Sub.cons (t := 1) rfl (Sub.cons (t := 2) rfl Sub.nil))
  intro x hx
  have hk := hx.1
  have hp := hx.2
  refine A.seq ?_
  refine A.regs (by kernel_rfl) (by kernel_rfl) (.inl rfl) ?_
  refine RunTK.last ?_
  refine RunK.step rfl rfl (ok_move rfl) ?_
  refine RunK.step rfl rfl (ok_bin rfl rfl rfl) ?_
  refine RunK.nil ?_
  refine A.sub (Sub.cons (t := 1) rfl (Sub.cons (t := 2) rfl (Sub.cons (t := 6) rfl Sub.nil))) ?_
  refine A.cond rfl (fun hc6 => ?_) (fun hc6 => ?_)
  · have hlt : x.1 < 64 := by simp at hc6; omega
    refine A.skip ?_
    refine End.normal_then (End.code ?_)
    refine A.seq ?_
    refine A.block ?_
    refine A.seq ?_
    refine A.regs (by kernel_rfl) (by kernel_rfl) (.inl rfl) ?_
    refine RunTK.last ?_
    refine RunK.step rfl rfl (ok_move rfl) ?_
    refine RunK.step rfl rfl (ok_move rfl) ?_
    refine RunK.step rfl rfl (ok_bin rfl rfl rfl) ?_
    refine RunK.step rfl rfl (ok_call (WordsNumbers_fn x.2 _ hp.1 hp.2 (wrap_u64_bd _).1 (wrap_u64_bd _).2) (Args.cons rfl (Le.refl _) (Args.cons rfl (Le.refl _) Args.nil))) ?_
    refine RunK.step rfl rfl (ok_not rfl) ?_
    refine RunK.step rfl rfl (ok_move rfl) ?_
    refine RunK.guarded rfl rfl rfl rfl (ok_move rfl) ?_
    refine RunK.guarded rfl rfl rfl rfl (ok_bin rfl rfl rfl) ?_
    refine RunK.guarded rfl rfl rfl rfl (ok_move rfl) ?_
    refine RunK.guarded rfl rfl rfl rfl (ok_call (WordsNumbers_fn _ x.2 (wrap_u64_bd _).1 (wrap_u64_bd _).2 hp.1 hp.2) (Args.cons rfl (Le.refl _) (Args.cons rfl (Le.refl _) Args.nil))) ?_
    refine RunK.guarded rfl rfl rfl rfl (ok_not rfl) ?_
    refine RunK.step rfl rfl (ok_pick rfl rfl) ?_
    refine RunK.nil ?_
    refine A.sub (Sub.cons (t := 1) rfl (Sub.cons (t := 2) rfl (Sub.cons (t := 20) rfl Sub.nil))) ?_
    refine A.no rfl ?_
    refine A.skip ?_
    refine End.normal_then (End.code ?_)
    refine A.reg (by kernel_rfl) (by kernel_rfl) (.inl rfl) ?_
    refine RunTK.last ?_
    refine RunK.step rfl rfl (ok_move rfl) ?_
    refine RunK.step rfl rfl (ok_bin rfl rfl rfl) ?_
    refine RunK.step rfl rfl (ok_assign rfl) ?_
    refine RunK.nil ?_
    refine End.sub (Sub.cons (t := 1) rfl (Sub.cons (t := 2) rfl Sub.nil)) ?_
    refine End.normal_block ?_
    refine End.normal_then (End.code ?_)
    refine A.reg (by kernel_rfl) (by kernel_rfl) (.inl rfl) ?_
    refine RunTK.last ?_
    refine RunK.step rfl rfl (ok_move rfl) ?_
    refine RunK.step rfl rfl (ok_bin rfl rfl rfl) ?_; refine RunK.as (.int .i64 ((x.1 + 1 : Nat) : Int)) (by rw [wrap_i64 (by omega) (by omega)]; congr 1) ?_
    refine RunK.step rfl rfl (ok_assign rfl) ?_
    refine RunK.nil ?_
    refine End.sub (Sub.cons (t := 1) rfl (Sub.cons (t := 2) rfl Sub.nil)) ?_
    refine End.normal_then ?_
    refine End.again (x.1 + 1, IntKind.u64.wrap (2 * x.2)) ?_ ?_ ?_
    · exact ⟨hlt, wrap_u64_bd _⟩
    · show 64 - (x.1 + 1) < 64 - x.1; omega
    · exact (Sub.cons (t := 1) rfl (Sub.cons (t := 2) rfl Sub.nil))
  · refine A.exit ?_
    refine End.exit_then ?_
    refine End.exit_then ?_
    refine End.exit_here ?_
    refine End.normal_then (End.code ?_)
    refine A.seq ?_
    refine A.regs (by kernel_rfl) (by kernel_rfl) (.inl rfl) ?_
    refine RunTK.last ?_
    refine RunK.step rfl rfl (ok_assign rfl) ?_
    refine RunK.nil ?_
    refine A.sub (Sub.cons (t := 3) rfl Sub.nil) ?_
    refine A.block ?_
    refine A.loop (ι := Nat) (fun j => j ≤ 140) (fun j => [(3, .v (.int .i64 ((j : Int) - 70)))]) (fun j => 140 - j) 0 ?_ ?_ ?_
    · exact Nat.zero_le _
    · exact (Sub.cons (t := 3) rfl Sub.nil)
    intro j hj
    refine A.seq ?_
    refine A.regs (by kernel_rfl) (by kernel_rfl) (.inl rfl) ?_
    refine RunTK.last ?_
    refine RunK.step rfl rfl (ok_move rfl) ?_
    refine RunK.step rfl rfl (ok_bin rfl rfl rfl) ?_
    refine RunK.nil ?_
    refine A.sub (Sub.cons (t := 3) rfl (Sub.cons (t := 24) rfl Sub.nil)) ?_
    refine A.cond rfl (fun hc24 => ?_) (fun hc24 => ?_)
    · have hlt : j < 140 := by simp at hc24; omega
      refine A.skip ?_
      refine End.normal_then (End.code ?_)
      refine A.seq ?_
      refine A.block ?_
      refine A.regs (by kernel_rfl) (by kernel_rfl) (.inl rfl) ?_
      refine RunTK.last ?_
      refine RunK.step rfl rfl (ok_move rfl) ?_
      refine RunK.step rfl rfl (ok_call (WordsRot_fn 2147483649 ((j : Int) - 70) 3 (by decide) (by decide) (by decide) (by decide)) (Args.cons rfl (Le.refl _) (Args.cons rfl (Le.refl _) (Args.cons rfl (Le.refl _) Args.nil)))) ?_
      refine RunK.step rfl rfl (ok_not rfl) ?_
      refine RunK.step rfl rfl (ok_move rfl) ?_
      refine RunK.guarded rfl rfl rfl rfl (ok_move rfl) ?_
      refine RunK.guarded rfl rfl rfl rfl (ok_move rfl) ?_
      refine RunK.guarded rfl rfl rfl rfl (ok_neg rfl) ?_; refine RunK.as (.int .i64 (70 - (j : Int))) (by rw [wrap_i64 (by omega) (by omega)]; congr 1; omega) ?_
      refine RunK.guarded rfl rfl rfl rfl (ok_call (WordsRot_fn 305419896 ((j : Int) - 70) (70 - (j : Int)) (by decide) (by decide) (by omega) (by omega)) (Args.cons rfl (Le.refl _) (Args.cons rfl (Le.refl _) (Args.cons rfl (Le.refl _) Args.nil)))) ?_
      refine RunK.guarded rfl rfl rfl rfl (ok_not rfl) ?_
      refine RunK.step rfl rfl (ok_pick rfl rfl) ?_
      refine RunK.nil ?_
      refine A.sub (Sub.cons (t := 3) rfl (Sub.cons (t := 36) rfl Sub.nil)) ?_
      refine A.no rfl ?_
      refine A.skip ?_
      refine End.normal_block ?_
      refine End.normal_then (End.code ?_)
      refine A.reg (by kernel_rfl) (by kernel_rfl) (.inl rfl) ?_
      refine RunTK.last ?_
      refine RunK.step rfl rfl (ok_move rfl) ?_
      refine RunK.step rfl rfl (ok_bin rfl rfl rfl) ?_; refine RunK.as (.int .i64 (((j + 1 : Nat) : Int) - 70)) (by rw [wrap_i64 (by omega) (by omega)]; congr 1; omega) ?_
      refine RunK.step rfl rfl (ok_assign rfl) ?_
      refine RunK.nil ?_
      refine End.sub (Sub.cons (t := 3) rfl Sub.nil) ?_
      refine End.normal_then ?_
      refine End.again (j + 1) ?_ ?_ ?_
      · show _ ≤ _; omega
      · show _ - _ < _ - _; omega
      · exact (Sub.cons (t := 3) rfl Sub.nil)
    · refine A.exit ?_
      refine End.exit_then ?_
      refine End.exit_then ?_
      refine End.exit_here ?_
      refine End.normal_then (End.code ?_)
      refine A.seq ?_
      refine A.regs (by kernel_rfl) (by kernel_rfl) (.inl rfl) ?_
      refine RunTK.last ?_
      refine RunK.step rfl rfl (ok_assign rfl) ?_
      refine RunK.nil ?_
      refine A.sub (Sub.cons (t := 4) rfl Sub.nil) ?_
      refine A.block ?_
      refine A.loop (ι := Nat) (fun j => j ≤ 12) (fun j => [(4, .v (.int .i64 (j : Int)))]) (fun j => 12 - j) 0 ?_ ?_ ?_
      · exact Nat.zero_le _
      · exact (Sub.cons (t := 4) rfl Sub.nil)
      intro j hj
      refine A.seq ?_
      refine A.regs (by kernel_rfl) (by kernel_rfl) (.inl rfl) ?_
      refine RunTK.last ?_
      refine RunK.step rfl rfl (ok_move rfl) ?_
      refine RunK.step rfl rfl (ok_bin rfl rfl rfl) ?_
      refine RunK.nil ?_
      refine A.sub (Sub.cons (t := 4) rfl (Sub.cons (t := 38) rfl Sub.nil)) ?_
      refine A.cond rfl (fun hc38 => ?_) (fun hc38 => ?_)
      · have hlt : j < 12 := by simp at hc38; omega
        refine A.skip ?_
        refine End.normal_then (End.code ?_)
        refine A.seq ?_
        refine A.block ?_
        refine A.regs (by kernel_rfl) (by kernel_rfl) (.inl rfl) ?_
        refine RunTK.last ?_
        refine RunK.step rfl rfl (ok_move rfl) ?_
        refine RunK.step rfl rfl (ok_make j Try.underlying23 info5 (by decide) rfl rfl rfl rfl rfl (by omega)) ?_
        refine RunK.step rfl rfl (ok_call (WordsGet_fn (List.replicate j 0)) (Args.cons rfl (fresh_byt (by simp [byteV]) (by simp) (by simp only [maxLen]; omega)) Args.nil)) ?_
        refine RunK.step rfl rfl (ok_not rfl) ?_
        refine RunK.nil ?_
        refine A.sub (Sub.cons (t := 4) rfl (Sub.cons (t := 44) rfl Sub.nil)) ?_
        refine A.no rfl ?_
        refine A.skip ?_
        refine End.normal_block ?_
        refine End.normal_then (End.code ?_)
        refine A.reg (by kernel_rfl) (by kernel_rfl) (.inl rfl) ?_
        refine RunTK.last ?_
        refine RunK.step rfl rfl (ok_move rfl) ?_
        refine RunK.step rfl rfl (ok_bin rfl rfl rfl) ?_; refine RunK.as (.int .i64 ((j + 1 : Nat) : Int)) (by rw [wrap_i64 (by omega) (by omega)]; congr 1) ?_
        refine RunK.step rfl rfl (ok_assign rfl) ?_
        refine RunK.nil ?_
        refine End.sub (Sub.cons (t := 4) rfl Sub.nil) ?_
        refine End.normal_then ?_
        refine End.again (j + 1) ?_ ?_ ?_
        · show _ ≤ _; omega
        · show _ - _ < _ - _; omega
        · exact (Sub.cons (t := 4) rfl Sub.nil)
      · refine A.exit ?_
        refine End.exit_then ?_
        refine End.exit_then ?_
        refine End.exit_here ?_
        refine End.normal_then (End.code ?_)
        refine A.regs (by kernel_rfl) (by kernel_rfl) (.inl rfl) ?_
        refine RunTK.last ?_
        refine RunK.step rfl rfl (ok_call (Rot_fn 305419896 8 (by decide) (by decide)) (Args.cons rfl (Le.refl _) (Args.cons rfl (Le.refl _) Args.nil))) ?_
        refine RunK.step rfl rfl (ok_bin rfl rfl rfl) ?_; refine RunK.as (.bool true) (by kernel_rfl) ?_
        refine RunK.step rfl rfl (ok_move rfl) ?_
        refine RunK.guarded rfl rfl rfl rfl (ok_call (Rot_fn 305419896 (-9223372036854775808) (by decide) (by decide)) (Args.cons rfl (Le.refl _) (Args.cons rfl (Le.refl _) Args.nil))) ?_
        refine RunK.guarded rfl rfl rfl rfl (ok_bin rfl rfl rfl) ?_; refine RunK.as (.bool true) (by kernel_rfl) ?_
        refine RunK.step rfl rfl (ok_pick rfl rfl) ?_
        refine RunK.step rfl rfl (ok_move rfl) ?_
        refine RunK.guarded rfl rfl rfl rfl (ok_call (Rot_fn 1 9223372036854775807 (by decide) (by decide)) (Args.cons rfl (Le.refl _) (Args.cons rfl (Le.refl _) Args.nil))) ?_
        refine RunK.guarded rfl rfl rfl rfl (ok_bin rfl rfl rfl) ?_; refine RunK.as (.bool true) (by kernel_rfl) ?_
        refine RunK.step rfl rfl (ok_pick rfl rfl) ?_
        refine RunK.step rfl rfl (ok_move rfl) ?_
        refine RunK.guarded rfl rfl rfl rfl (ok_call lives_fn Args.nil) ?_
        refine RunK.step rfl rfl (ok_pick rfl rfl) ?_
        refine RunK.step rfl rfl (ok_assign rfl) ?_
        refine RunK.nil ?_
        refine A.sub (Sub.cons (t := 0) rfl Sub.nil) ?_
        refine A.ret ?_
        exact End.ret1 rfl rfl (by first | exact Le.refl _ | exact Le.old _ _)
end Go.Proofs.Ytflnbbjocakekaa
