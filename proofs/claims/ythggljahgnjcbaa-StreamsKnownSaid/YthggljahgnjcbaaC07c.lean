/-
  The laws of caissonlaw07, by facts.
-/
import Derived.Test.YthggljahgnjcbaaC07b
import Derived.Test.YthggljahgnjcbaaChain
namespace Go.Proofs.Ythggljahgnjcbaa
open Go Go.RowKit
set_option linter.unusedVariables false
set_option maxRecDepth 100000
theorem flat28 : flat Try.prog 3 28 = some (List.replicate 16 .u8 ++ [.u32, .u64]) := by kernel_rfl
theorem buildN26 (s c : Nat) : Try.prog.built 26 (([.int .u32 ((s : Nat) : Int), .int .u64 ((c : Nat) : Int)].zipIdx 0).map fun x => (x.2, x.1)) = some ([.int .u32 ((s : Nat) : Int), .int .u64 ((c : Nat) : Int)] : List Value).toArray := by kernel_rfl

def ksD : List (List Nat) := [[43, 126, 21, 22, 40, 174, 210, 166, 171, 247, 21, 136, 9, 207, 79, 60],
  [160, 250, 254, 23, 136, 84, 44, 177, 35, 163, 57, 57, 42, 108, 118, 5],
  [242, 194, 149, 242, 122, 150, 185, 67, 89, 53, 128, 122, 115, 89, 246, 127],
  [61, 128, 71, 125, 71, 22, 254, 62, 30, 35, 126, 68, 109, 122, 136, 59],
  [239, 68, 165, 65, 168, 82, 91, 127, 182, 113, 37, 59, 219, 11, 173, 0],
  [212, 209, 198, 248, 124, 131, 157, 135, 202, 242, 184, 188, 17, 249, 21, 188],
  [109, 136, 163, 122, 17, 11, 62, 253, 219, 249, 134, 65, 202, 0, 147, 253],
  [78, 84, 247, 14, 95, 95, 201, 243, 132, 166, 79, 178, 78, 166, 220, 79],
  [234, 210, 115, 33, 181, 141, 186, 210, 49, 43, 245, 96, 127, 141, 41, 47],
  [172, 119, 102, 243, 25, 250, 220, 33, 40, 209, 41, 65, 87, 92, 0, 110],
  [208, 20, 249, 168, 201, 238, 37, 137, 225, 63, 12, 200, 182, 99, 12, 166]]
def stD : List (List Nat) := [[219, 143, 231, 229, 220, 91, 36, 81, 83, 14, 239, 115, 245, 50, 177, 195],
  [115, 101, 169, 125, 104, 5, 250, 234, 194, 126, 172, 27, 209, 185, 5, 116],
  [73, 161, 229, 189, 106, 108, 195, 241, 189, 85, 220, 133, 90, 37, 53, 24],
  [144, 39, 215, 167, 176, 44, 185, 166, 211, 246, 106, 117, 229, 69, 250, 203],
  [161, 223, 145, 172, 202, 26, 64, 154, 226, 253, 93, 185, 246, 54, 168, 203],
  [30, 119, 239, 126, 59, 147, 138, 180, 215, 64, 239, 224, 115, 209, 33, 65],
  [170, 160, 54, 242, 219, 20, 58, 201, 215, 124, 159, 179, 84, 29, 45, 37],
  [252, 94, 77, 190, 87, 60, 75, 226, 183, 41, 147, 160, 216, 171, 176, 149],
  [65, 250, 245, 137, 190, 27, 120, 58, 165, 224, 80, 42, 6, 114, 86, 188],
  [109, 33, 67, 91, 112, 226, 24, 205, 130, 230, 35, 246, 167, 83, 21, 159]]
theorem ksD_ok : chainK ksD 0 = true := by kernel_rfl
theorem stD_ok : chainE stD (ksD.drop 1) = true := by kernel_rfl
theorem keyD {k : Sta} (h : Eq16 k (lst16 [43, 126, 21, 22, 40, 174, 210, 166, 171, 247, 21, 136, 9, 207, 79, 60])) {j : Nat} {m : List Nat} (hm : ksD[j]? = some m) : Eq16 (keyS (expand k) j) (lst16 m) := keys_of ksD rfl h ksD_ok hm
theorem encD {k f : Sta} (h : Eq16 k (lst16 [43, 126, 21, 22, 40, 174, 210, 166, 171, 247, 21, 136, 9, 207, 79, 60])) (hf : Eq16 f (lst16 [240, 241, 242, 243, 244, 245, 246, 247, 248, 249, 250, 251, 252, 253, 254, 255])) : Eq16 (enc (expand k) f) (lst16 [236, 140, 223, 115, 152, 96, 124, 176, 242, 210, 22, 117, 234, 158, 161, 228]) :=
  enc_of stD ksD hf rfl rfl (fun j m hm => keyD h hm) (by decide) (by kernel_rfl) stD_ok (s9 := [109, 33, 67, 91, 112, 226, 24, 205, 130, 230, 35, 246, 167, 83, 21, 159]) rfl (k9 := [208, 20, 249, 168, 201, 238, 37, 137, 225, 63, 12, 200, 182, 99, 12, 166]) rfl (by kernel_rfl)
theorem blockD : Eq16 (ksB (lst16 [43, 126, 21, 22, 40, 174, 210, 166, 171, 247, 21, 136, 9, 207, 79, 60]) 4042388211 17651285859443014395 4244504319) (lst16 [236, 140, 223, 115, 152, 96, 124, 176, 242, 210, 22, 117, 234, 158, 161, 228]) := encD (Eq16.refl _) (eq16_all (by kernel_rfl))

theorem same7_fn (l : List UInt8) (e : Int) : Fn Try.prog 13 [bytes l l.length, .v (.int .i64 e), byt l, .v (.int .i64 e)] (.v (.bool true)) := by
  refine Fn.of Try.func13 rfl (by kernel_rfl) Try.ntmps13 (by simp) (fun w => [(0, old w.heap.size (bytes l l.length)), (1, .v (.int .i64 e)), (2, old w.heap.size (byt l)), (3, .v (.int .i64 e))]) (fun w => (Start.old rfl (Start.v rfl (Start.old rfl (Start.v rfl Start.nil))))) fun w₀ => ?_
  refine A.regs (by kernel_rfl) (by kernel_rfl) (.inl rfl) ?_
  refine RunTK.last ?_
  refine RunK.step rfl rfl (ok_assign rfl) ?_
  refine RunK.nil ?_
  refine A.sub (Sub.cons (t := 0) rfl (Sub.cons (t := 1) rfl (Sub.cons (t := 2) rfl (Sub.cons (t := 3) rfl Sub.nil)))) ?_
  refine A.regs (by kernel_rfl) (by kernel_rfl) (.inl rfl) ?_
  refine RunTK.last ?_
  refine RunK.step rfl rfl (ok_move rfl) ?_
  refine RunK.step rfl rfl (ok_move rfl) ?_
  refine RunK.step rfl rfl (ok_bin rfl rfl rfl) ?_; refine RunK.as (.bool true) (by simp) ?_
  refine RunK.step rfl rfl (ok_move rfl) ?_
  refine RunK.guarded rfl rfl rfl rfl (ok_move rfl) ?_
  refine RunK.guarded rfl rfl rfl rfl (ok_str Try.underlying32 Try.underlying5 Try.underlying9 rfl (by first | exact Le.refl _ | exact Le.old _ _ | exact le_byt _ _ | exact (Le.old _ _).trans (le_byt _ _) | exact le_lst _ _ | exact (Le.old _ _).trans (le_lst _ _) | exact (Le.old _ _).trans (Le.old _ _) | exact (Le.old _ _).trans ((Le.old _ _).trans (le_byt _ _)) | exact byt_nil_le | exact lst_nil_le | exact bytes_nil_le | exact list_nil_le)) ?_
  refine RunK.guarded rfl rfl rfl rfl (ok_move rfl) ?_
  refine RunK.guarded rfl rfl rfl rfl (ok_str Try.underlying32 Try.underlying5 Try.underlying9 rfl (by first | exact Le.refl _ | exact Le.old _ _ | exact le_byt _ _ | exact (Le.old _ _).trans (le_byt _ _) | exact le_lst _ _ | exact (Le.old _ _).trans (le_lst _ _) | exact (Le.old _ _).trans (Le.old _ _) | exact (Le.old _ _).trans ((Le.old _ _).trans (le_byt _ _)) | exact byt_nil_le | exact lst_nil_le | exact bytes_nil_le | exact list_nil_le)) ?_
  refine RunK.guarded rfl rfl rfl rfl (ok_bin rfl rfl rfl) ?_; refine RunK.as (.bool true) (by simp) ?_
  refine RunK.step rfl rfl (ok_pick rfl rfl) ?_
  refine RunK.step rfl rfl (ok_move rfl) ?_
  refine RunK.guarded rfl rfl rfl rfl (ok_move rfl) ?_
  refine RunK.guarded rfl rfl rfl rfl (ok_cap Try.underlying32 rfl (by first | exact Le.refl _ | exact Le.old _ _ | exact le_byt _ _ | exact (Le.old _ _).trans (le_byt _ _) | exact le_lst _ _ | exact (Le.old _ _).trans (le_lst _ _) | exact (Le.old _ _).trans (Le.old _ _) | exact (Le.old _ _).trans ((Le.old _ _).trans (le_byt _ _)) | exact byt_nil_le | exact lst_nil_le | exact bytes_nil_le | exact list_nil_le)) ?_
  refine RunK.guarded rfl rfl rfl rfl (ok_move rfl) ?_
  refine RunK.guarded rfl rfl rfl rfl (ok_lenB Try.underlying32 rfl (by first | exact Le.refl _ | exact Le.old _ _ | exact le_byt _ _ | exact (Le.old _ _).trans (le_byt _ _) | exact le_lst _ _ | exact (Le.old _ _).trans (le_lst _ _) | exact (Le.old _ _).trans (Le.old _ _) | exact (Le.old _ _).trans ((Le.old _ _).trans (le_byt _ _)) | exact byt_nil_le | exact lst_nil_le | exact bytes_nil_le | exact list_nil_le)) ?_
  refine RunK.guarded rfl rfl rfl rfl (ok_bin rfl rfl rfl) ?_; refine RunK.as (.bool true) (by simp) ?_
  refine RunK.step rfl rfl (ok_pick rfl rfl) ?_
  refine RunK.step rfl rfl (ok_assign rfl) ?_
  refine RunK.nil ?_
  refine A.sub (Sub.cons (t := 8) rfl Sub.nil) ?_
  refine A.ret ?_
  exact End.ret1 rfl rfl (by first | exact Le.refl _ | exact Le.old _ _)
set_option maxHeartbeats 1000000 in
theorem used7_negO (s c : Nat) (o n : Int) (xs : List Value) (h : o < 0) : Fn Try.prog 15 [.v (aggV ([.int .u32 ((s : Nat) : Int), .int .u64 ((c : Nat) : Int)])), .v (.int .i64 o), .v (.int .i64 n), .v (aggV (xs)), .v (.int .i64 1)] (.v (.bool true)) := by
  refine Fn.of Try.func15 rfl (by kernel_rfl) Try.ntmps15 (by simp) (fun w => [(0, .v (aggV ([.int .u32 ((s : Nat) : Int), .int .u64 ((c : Nat) : Int)]))), (1, .v (.int .i64 o)), (2, .v (.int .i64 n)), (3, .v (aggV (xs))), (4, .v (.int .i64 1))]) (fun w => (Start.v rfl (Start.v rfl (Start.v rfl (Start.v rfl (Start.v rfl Start.nil)))))) fun w₀ => ?_
  refine A.regs (by kernel_rfl) (by kernel_rfl) (.inl rfl) ?_
  refine RunTK.new 0 (by decide) rfl (.inl rfl) ?_
  refine RunK.nil ?_
  refine ⟨_, _, eff_box (n := 42) (d := 5) (k := 1000005) rfl (by decide), fun b5 hb5 => ?_⟩
  have hBb5 := hb5.1
  refine RunTK.new 1 (by decide) rfl (.inl rfl) ?_
  refine RunK.nil ?_
  refine ⟨_, _, eff_box (n := 42) (d := 8) (k := 1000008) rfl (by decide), fun b8 hb8 => ?_⟩
  have hBb8 := hb8.1
  have hlt_b5_b8 : b5 < b8 := hb8.2 1000005 _ _ _ rfl
  refine RunTK.last ?_
  refine RunK.step rfl rfl (ok_assign rfl) ?_
  refine RunK.nil ?_
  refine A.sub (Sub.cons (t := 1) rfl (Sub.cons (t := 2) rfl (Sub.cons (t := 4) rfl (Sub.cons (t := 5) rfl (Sub.cons (t := 8) rfl (Sub.cons (t := 1000005) rfl (Sub.cons (t := 1000008) rfl Sub.nil))))))) ?_
  refine A.regs (by kernel_rfl) (by kernel_rfl) (.inl rfl) ?_
  refine RunTK.new 7 (by decide) rfl (.inl rfl) ?_
  refine RunK.step rfl rfl (ok_loadA (s := 1000005) (by decide) Try.underlying26 rfl (size26.of (rfl)) rfl rfl) ?_
  refine RunK.step rfl rfl (ok_move rfl) ?_
  refine RunK.step rfl rfl (ok_move rfl) ?_
  refine RunK.step rfl rfl (ok_call (Used_negO s c o n h) (Args.cons rfl (Le.refl _) (Args.cons rfl (Le.refl _) (Args.cons rfl (Le.refl _) Args.nil)))) ?_
  refine RunK.step rfl rfl (ok_move rfl) ?_
  refine RunK.step rfl rfl (ok_extract rfl rfl) ?_
  refine RunK.step rfl rfl (ok_extract rfl rfl) ?_
  refine RunK.nil ?_
  refine ⟨_, _, eff_alloc (n := 42) (d := 11) (k := 1000011) zero46 (by decide), fun b11 hb11 => ?_⟩
  have hBb11 := hb11.1
  have hlt_b5_b11 : b5 < b11 := hb11.2 1000005 _ _ _ rfl
  have hlt_b8_b11 : b8 < b11 := hb11.2 1000008 _ _ _ rfl
  refine RunTK.eff 8 (by decide) rfl (.inl rfl) ?_
  refine RunK.nil ?_
  refine ⟨_, eff_storeA (n := 42) (s := 1000011) (size46.of (rfl)) rfl rfl (rfl) hBb11 rfl (rfl) (LeftS.cons (t := 1) rfl (Surv.v _) (LeftS.cons (t := 2) rfl (Surv.v _) (LeftS.cons (t := 4) rfl (Surv.v _) (LeftS.cons (t := 5) rfl (Surv.v _) (LeftS.cons (t := 8) rfl (Surv.v _) (LeftS.cons (t := 11) rfl (Surv.v _) (LeftS.cons (t := 14) rfl (Surv.v _) (LeftS.cons (t := 15) rfl (Surv.v _) (LeftS.cons (t := 16) rfl (Surv.v _) (LeftS.cons (t := 18) rfl (Surv.v _) (LeftS.cons (t := 19) rfl (Surv.v _) (LeftS.cons (t := 1000005) rfl (Surv.blkT (by decide)) (LeftS.cons (t := 1000008) rfl (Surv.blkT (by decide)) LeftS.nil))))))))))))), ?_⟩
  refine RunTK.last ?_
  refine RunK.step rfl rfl (ok_assign rfl) ?_
  refine RunK.nil ?_
  refine A.sub (Sub.cons (t := 4) rfl (Sub.cons (t := 5) rfl (Sub.cons (t := 8) rfl (Sub.cons (t := 11) rfl (Sub.cons (t := 12) rfl (Sub.cons (t := 1000005) rfl (Sub.cons (t := 1000008) rfl (Sub.cons (t := 1000011) rfl Sub.nil)))))))) ?_
  refine A.seq ?_
  refine A.regs (by kernel_rfl) (by kernel_rfl) (.inl rfl) ?_
  refine RunTK.last ?_
  refine RunK.step rfl rfl (ok_move rfl) ?_
  refine RunK.step rfl rfl (ok_bin rfl rfl rfl) ?_; refine RunK.as (.bool true) (by rfl) ?_
  refine RunK.nil ?_
  refine A.sub (Sub.cons (t := 4) rfl (Sub.cons (t := 5) rfl (Sub.cons (t := 8) rfl (Sub.cons (t := 11) rfl (Sub.cons (t := 12) rfl (Sub.cons (t := 21) rfl (Sub.cons (t := 1000005) rfl (Sub.cons (t := 1000008) rfl (Sub.cons (t := 1000011) rfl Sub.nil))))))))) ?_
  refine A.yes rfl ?_
  refine A.regs (by kernel_rfl) (by kernel_rfl) (.inl rfl) ?_
  refine RunTK.last ?_
  refine RunK.step rfl rfl (ok_loadA (s := 1000011) (by decide) Try.underlying46 rfl (size46.of (rfl)) rfl rfl) ?_
  refine RunK.step rfl rfl (ok_lit [] ([.int .u32 0] ++ [.int .u64 0] ++ [.int .u32 0] ++ [.int .u32 0]) (fun _ _ => rfl) (by kernel_rfl)) ?_
  refine RunK.step rfl rfl (ok_eqlT (n := 3) true flat46 (by decide) (by kernel_rfl) (by kernel_rfl) rfl rfl (kinR _ _ _ _) (kinR _ _ _ _) ⟨fun _ => rfl, fun _ => rfl⟩) ?_
  refine RunK.step rfl rfl (ok_move rfl) ?_
  refine RunK.guarded rfl rfl rfl rfl (ok_move rfl) ?_
  refine RunK.guarded rfl rfl rfl rfl (ok_move rfl) ?_
  refine RunK.guarded rfl rfl rfl rfl (ok_bin rfl rfl rfl) ?_; refine RunK.as (.bool true) (by rfl) ?_
  refine RunK.step rfl rfl (ok_pick rfl rfl) ?_
  refine RunK.step rfl rfl (ok_assign rfl) ?_
  refine RunK.nil ?_
  refine A.sub (Sub.cons (t := 10) rfl (Sub.cons (t := 1000005) rfl (Sub.cons (t := 1000008) rfl (Sub.cons (t := 1000011) rfl Sub.nil)))) ?_
  refine A.ret ?_
  refine End.ret_then ?_
  exact End.ret1 rfl rfl (by first | exact Le.refl _ | exact Le.old _ _)
set_option maxHeartbeats 1000000 in
theorem used7_negN (s c : Nat) (o n : Int) (xs : List Value) (h : 0 ≤ o) (h2 : n < 0) : Fn Try.prog 15 [.v (aggV ([.int .u32 ((s : Nat) : Int), .int .u64 ((c : Nat) : Int)])), .v (.int .i64 o), .v (.int .i64 n), .v (aggV (xs)), .v (.int .i64 1)] (.v (.bool true)) := by
  refine Fn.of Try.func15 rfl (by kernel_rfl) Try.ntmps15 (by simp) (fun w => [(0, .v (aggV ([.int .u32 ((s : Nat) : Int), .int .u64 ((c : Nat) : Int)]))), (1, .v (.int .i64 o)), (2, .v (.int .i64 n)), (3, .v (aggV (xs))), (4, .v (.int .i64 1))]) (fun w => (Start.v rfl (Start.v rfl (Start.v rfl (Start.v rfl (Start.v rfl Start.nil)))))) fun w₀ => ?_
  refine A.regs (by kernel_rfl) (by kernel_rfl) (.inl rfl) ?_
  refine RunTK.new 0 (by decide) rfl (.inl rfl) ?_
  refine RunK.nil ?_
  refine ⟨_, _, eff_box (n := 42) (d := 5) (k := 1000005) rfl (by decide), fun b5 hb5 => ?_⟩
  have hBb5 := hb5.1
  refine RunTK.new 1 (by decide) rfl (.inl rfl) ?_
  refine RunK.nil ?_
  refine ⟨_, _, eff_box (n := 42) (d := 8) (k := 1000008) rfl (by decide), fun b8 hb8 => ?_⟩
  have hBb8 := hb8.1
  have hlt_b5_b8 : b5 < b8 := hb8.2 1000005 _ _ _ rfl
  refine RunTK.last ?_
  refine RunK.step rfl rfl (ok_assign rfl) ?_
  refine RunK.nil ?_
  refine A.sub (Sub.cons (t := 1) rfl (Sub.cons (t := 2) rfl (Sub.cons (t := 4) rfl (Sub.cons (t := 5) rfl (Sub.cons (t := 8) rfl (Sub.cons (t := 1000005) rfl (Sub.cons (t := 1000008) rfl Sub.nil))))))) ?_
  refine A.regs (by kernel_rfl) (by kernel_rfl) (.inl rfl) ?_
  refine RunTK.new 7 (by decide) rfl (.inl rfl) ?_
  refine RunK.step rfl rfl (ok_loadA (s := 1000005) (by decide) Try.underlying26 rfl (size26.of (rfl)) rfl rfl) ?_
  refine RunK.step rfl rfl (ok_move rfl) ?_
  refine RunK.step rfl rfl (ok_move rfl) ?_
  refine RunK.step rfl rfl (ok_call (Used_negN s c o n h h2) (Args.cons rfl (Le.refl _) (Args.cons rfl (Le.refl _) (Args.cons rfl (Le.refl _) Args.nil)))) ?_
  refine RunK.step rfl rfl (ok_move rfl) ?_
  refine RunK.step rfl rfl (ok_extract rfl rfl) ?_
  refine RunK.step rfl rfl (ok_extract rfl rfl) ?_
  refine RunK.nil ?_
  refine ⟨_, _, eff_alloc (n := 42) (d := 11) (k := 1000011) zero46 (by decide), fun b11 hb11 => ?_⟩
  have hBb11 := hb11.1
  have hlt_b5_b11 : b5 < b11 := hb11.2 1000005 _ _ _ rfl
  have hlt_b8_b11 : b8 < b11 := hb11.2 1000008 _ _ _ rfl
  refine RunTK.eff 8 (by decide) rfl (.inl rfl) ?_
  refine RunK.nil ?_
  refine ⟨_, eff_storeA (n := 42) (s := 1000011) (size46.of (rfl)) rfl rfl (rfl) hBb11 rfl (rfl) (LeftS.cons (t := 1) rfl (Surv.v _) (LeftS.cons (t := 2) rfl (Surv.v _) (LeftS.cons (t := 4) rfl (Surv.v _) (LeftS.cons (t := 5) rfl (Surv.v _) (LeftS.cons (t := 8) rfl (Surv.v _) (LeftS.cons (t := 11) rfl (Surv.v _) (LeftS.cons (t := 14) rfl (Surv.v _) (LeftS.cons (t := 15) rfl (Surv.v _) (LeftS.cons (t := 16) rfl (Surv.v _) (LeftS.cons (t := 18) rfl (Surv.v _) (LeftS.cons (t := 19) rfl (Surv.v _) (LeftS.cons (t := 1000005) rfl (Surv.blkT (by decide)) (LeftS.cons (t := 1000008) rfl (Surv.blkT (by decide)) LeftS.nil))))))))))))), ?_⟩
  refine RunTK.last ?_
  refine RunK.step rfl rfl (ok_assign rfl) ?_
  refine RunK.nil ?_
  refine A.sub (Sub.cons (t := 4) rfl (Sub.cons (t := 5) rfl (Sub.cons (t := 8) rfl (Sub.cons (t := 11) rfl (Sub.cons (t := 12) rfl (Sub.cons (t := 1000005) rfl (Sub.cons (t := 1000008) rfl (Sub.cons (t := 1000011) rfl Sub.nil)))))))) ?_
  refine A.seq ?_
  refine A.regs (by kernel_rfl) (by kernel_rfl) (.inl rfl) ?_
  refine RunTK.last ?_
  refine RunK.step rfl rfl (ok_move rfl) ?_
  refine RunK.step rfl rfl (ok_bin rfl rfl rfl) ?_; refine RunK.as (.bool true) (by rfl) ?_
  refine RunK.nil ?_
  refine A.sub (Sub.cons (t := 4) rfl (Sub.cons (t := 5) rfl (Sub.cons (t := 8) rfl (Sub.cons (t := 11) rfl (Sub.cons (t := 12) rfl (Sub.cons (t := 21) rfl (Sub.cons (t := 1000005) rfl (Sub.cons (t := 1000008) rfl (Sub.cons (t := 1000011) rfl Sub.nil))))))))) ?_
  refine A.yes rfl ?_
  refine A.regs (by kernel_rfl) (by kernel_rfl) (.inl rfl) ?_
  refine RunTK.last ?_
  refine RunK.step rfl rfl (ok_loadA (s := 1000011) (by decide) Try.underlying46 rfl (size46.of (rfl)) rfl rfl) ?_
  refine RunK.step rfl rfl (ok_lit [] ([.int .u32 0] ++ [.int .u64 0] ++ [.int .u32 0] ++ [.int .u32 0]) (fun _ _ => rfl) (by kernel_rfl)) ?_
  refine RunK.step rfl rfl (ok_eqlT (n := 3) true flat46 (by decide) (by kernel_rfl) (by kernel_rfl) rfl rfl (kinR _ _ _ _) (kinR _ _ _ _) ⟨fun _ => rfl, fun _ => rfl⟩) ?_
  refine RunK.step rfl rfl (ok_move rfl) ?_
  refine RunK.guarded rfl rfl rfl rfl (ok_move rfl) ?_
  refine RunK.guarded rfl rfl rfl rfl (ok_move rfl) ?_
  refine RunK.guarded rfl rfl rfl rfl (ok_bin rfl rfl rfl) ?_; refine RunK.as (.bool true) (by rfl) ?_
  refine RunK.step rfl rfl (ok_pick rfl rfl) ?_
  refine RunK.step rfl rfl (ok_assign rfl) ?_
  refine RunK.nil ?_
  refine A.sub (Sub.cons (t := 10) rfl (Sub.cons (t := 1000005) rfl (Sub.cons (t := 1000008) rfl (Sub.cons (t := 1000011) rfl Sub.nil)))) ?_
  refine A.ret ?_
  refine End.ret_then ?_
  exact End.ret1 rfl rfl (by first | exact Le.refl _ | exact Le.old _ _)
set_option maxHeartbeats 1000000 in
theorem used7_big (s c : Nat) (o n : Int) (xs : List Value) (h : 0 ≤ o) (hm : o ≤ 9223372036854775807) (h2 : 0 ≤ n) (h3 : 1048576 - o < n) : Fn Try.prog 15 [.v (aggV ([.int .u32 ((s : Nat) : Int), .int .u64 ((c : Nat) : Int)])), .v (.int .i64 o), .v (.int .i64 n), .v (aggV (xs)), .v (.int .i64 3)] (.v (.bool true)) := by
  refine Fn.of Try.func15 rfl (by kernel_rfl) Try.ntmps15 (by simp) (fun w => [(0, .v (aggV ([.int .u32 ((s : Nat) : Int), .int .u64 ((c : Nat) : Int)]))), (1, .v (.int .i64 o)), (2, .v (.int .i64 n)), (3, .v (aggV (xs))), (4, .v (.int .i64 3))]) (fun w => (Start.v rfl (Start.v rfl (Start.v rfl (Start.v rfl (Start.v rfl Start.nil)))))) fun w₀ => ?_
  refine A.regs (by kernel_rfl) (by kernel_rfl) (.inl rfl) ?_
  refine RunTK.new 0 (by decide) rfl (.inl rfl) ?_
  refine RunK.nil ?_
  refine ⟨_, _, eff_box (n := 42) (d := 5) (k := 1000005) rfl (by decide), fun b5 hb5 => ?_⟩
  have hBb5 := hb5.1
  refine RunTK.new 1 (by decide) rfl (.inl rfl) ?_
  refine RunK.nil ?_
  refine ⟨_, _, eff_box (n := 42) (d := 8) (k := 1000008) rfl (by decide), fun b8 hb8 => ?_⟩
  have hBb8 := hb8.1
  have hlt_b5_b8 : b5 < b8 := hb8.2 1000005 _ _ _ rfl
  refine RunTK.last ?_
  refine RunK.step rfl rfl (ok_assign rfl) ?_
  refine RunK.nil ?_
  refine A.sub (Sub.cons (t := 1) rfl (Sub.cons (t := 2) rfl (Sub.cons (t := 4) rfl (Sub.cons (t := 5) rfl (Sub.cons (t := 8) rfl (Sub.cons (t := 1000005) rfl (Sub.cons (t := 1000008) rfl Sub.nil))))))) ?_
  refine A.regs (by kernel_rfl) (by kernel_rfl) (.inl rfl) ?_
  refine RunTK.new 7 (by decide) rfl (.inl rfl) ?_
  refine RunK.step rfl rfl (ok_loadA (s := 1000005) (by decide) Try.underlying26 rfl (size26.of (rfl)) rfl rfl) ?_
  refine RunK.step rfl rfl (ok_move rfl) ?_
  refine RunK.step rfl rfl (ok_move rfl) ?_
  refine RunK.step rfl rfl (ok_call (Used_big s c o n h hm h2 h3) (Args.cons rfl (Le.refl _) (Args.cons rfl (Le.refl _) (Args.cons rfl (Le.refl _) Args.nil)))) ?_
  refine RunK.step rfl rfl (ok_move rfl) ?_
  refine RunK.step rfl rfl (ok_extract rfl rfl) ?_
  refine RunK.step rfl rfl (ok_extract rfl rfl) ?_
  refine RunK.nil ?_
  refine ⟨_, _, eff_alloc (n := 42) (d := 11) (k := 1000011) zero46 (by decide), fun b11 hb11 => ?_⟩
  have hBb11 := hb11.1
  have hlt_b5_b11 : b5 < b11 := hb11.2 1000005 _ _ _ rfl
  have hlt_b8_b11 : b8 < b11 := hb11.2 1000008 _ _ _ rfl
  refine RunTK.eff 8 (by decide) rfl (.inl rfl) ?_
  refine RunK.nil ?_
  refine ⟨_, eff_storeA (n := 42) (s := 1000011) (size46.of (rfl)) rfl rfl (rfl) hBb11 rfl (rfl) (LeftS.cons (t := 1) rfl (Surv.v _) (LeftS.cons (t := 2) rfl (Surv.v _) (LeftS.cons (t := 4) rfl (Surv.v _) (LeftS.cons (t := 5) rfl (Surv.v _) (LeftS.cons (t := 8) rfl (Surv.v _) (LeftS.cons (t := 11) rfl (Surv.v _) (LeftS.cons (t := 14) rfl (Surv.v _) (LeftS.cons (t := 15) rfl (Surv.v _) (LeftS.cons (t := 16) rfl (Surv.v _) (LeftS.cons (t := 18) rfl (Surv.v _) (LeftS.cons (t := 19) rfl (Surv.v _) (LeftS.cons (t := 1000005) rfl (Surv.blkT (by decide)) (LeftS.cons (t := 1000008) rfl (Surv.blkT (by decide)) LeftS.nil))))))))))))), ?_⟩
  refine RunTK.last ?_
  refine RunK.step rfl rfl (ok_assign rfl) ?_
  refine RunK.nil ?_
  refine A.sub (Sub.cons (t := 4) rfl (Sub.cons (t := 5) rfl (Sub.cons (t := 8) rfl (Sub.cons (t := 11) rfl (Sub.cons (t := 12) rfl (Sub.cons (t := 1000005) rfl (Sub.cons (t := 1000008) rfl (Sub.cons (t := 1000011) rfl Sub.nil)))))))) ?_
  refine A.seq ?_
  refine A.regs (by kernel_rfl) (by kernel_rfl) (.inl rfl) ?_
  refine RunTK.last ?_
  refine RunK.step rfl rfl (ok_move rfl) ?_
  refine RunK.step rfl rfl (ok_bin rfl rfl rfl) ?_; refine RunK.as (.bool true) (by rfl) ?_
  refine RunK.nil ?_
  refine A.sub (Sub.cons (t := 4) rfl (Sub.cons (t := 5) rfl (Sub.cons (t := 8) rfl (Sub.cons (t := 11) rfl (Sub.cons (t := 12) rfl (Sub.cons (t := 21) rfl (Sub.cons (t := 1000005) rfl (Sub.cons (t := 1000008) rfl (Sub.cons (t := 1000011) rfl Sub.nil))))))))) ?_
  refine A.yes rfl ?_
  refine A.regs (by kernel_rfl) (by kernel_rfl) (.inl rfl) ?_
  refine RunTK.last ?_
  refine RunK.step rfl rfl (ok_loadA (s := 1000011) (by decide) Try.underlying46 rfl (size46.of (rfl)) rfl rfl) ?_
  refine RunK.step rfl rfl (ok_lit [] ([.int .u32 0] ++ [.int .u64 0] ++ [.int .u32 0] ++ [.int .u32 0]) (fun _ _ => rfl) (by kernel_rfl)) ?_
  refine RunK.step rfl rfl (ok_eqlT (n := 3) true flat46 (by decide) (by kernel_rfl) (by kernel_rfl) rfl rfl (kinR _ _ _ _) (kinR _ _ _ _) ⟨fun _ => rfl, fun _ => rfl⟩) ?_
  refine RunK.step rfl rfl (ok_move rfl) ?_
  refine RunK.guarded rfl rfl rfl rfl (ok_move rfl) ?_
  refine RunK.guarded rfl rfl rfl rfl (ok_move rfl) ?_
  refine RunK.guarded rfl rfl rfl rfl (ok_bin rfl rfl rfl) ?_; refine RunK.as (.bool true) (by rfl) ?_
  refine RunK.step rfl rfl (ok_pick rfl rfl) ?_
  refine RunK.step rfl rfl (ok_assign rfl) ?_
  refine RunK.nil ?_
  refine A.sub (Sub.cons (t := 10) rfl (Sub.cons (t := 1000005) rfl (Sub.cons (t := 1000008) rfl (Sub.cons (t := 1000011) rfl Sub.nil)))) ?_
  refine A.ret ?_
  refine End.ret_then ?_
  exact End.ret1 rfl rfl (by first | exact Le.refl _ | exact Le.old _ _)
set_option maxHeartbeats 1000000 in
theorem used7_empty (s c : Nat) (o n : Int) (xs : List Value) (h : 0 ≤ o) (h1 : o ≤ 1048576) (h2 : n = 0) : Fn Try.prog 15 [.v (aggV ([.int .u32 ((s : Nat) : Int), .int .u64 ((c : Nat) : Int)])), .v (.int .i64 o), .v (.int .i64 n), .v (aggV (xs)), .v (.int .i64 16)] (.v (.bool true)) := by
  refine Fn.of Try.func15 rfl (by kernel_rfl) Try.ntmps15 (by simp) (fun w => [(0, .v (aggV ([.int .u32 ((s : Nat) : Int), .int .u64 ((c : Nat) : Int)]))), (1, .v (.int .i64 o)), (2, .v (.int .i64 n)), (3, .v (aggV (xs))), (4, .v (.int .i64 16))]) (fun w => (Start.v rfl (Start.v rfl (Start.v rfl (Start.v rfl (Start.v rfl Start.nil)))))) fun w₀ => ?_
  refine A.regs (by kernel_rfl) (by kernel_rfl) (.inl rfl) ?_
  refine RunTK.new 0 (by decide) rfl (.inl rfl) ?_
  refine RunK.nil ?_
  refine ⟨_, _, eff_box (n := 42) (d := 5) (k := 1000005) rfl (by decide), fun b5 hb5 => ?_⟩
  have hBb5 := hb5.1
  refine RunTK.new 1 (by decide) rfl (.inl rfl) ?_
  refine RunK.nil ?_
  refine ⟨_, _, eff_box (n := 42) (d := 8) (k := 1000008) rfl (by decide), fun b8 hb8 => ?_⟩
  have hBb8 := hb8.1
  have hlt_b5_b8 : b5 < b8 := hb8.2 1000005 _ _ _ rfl
  refine RunTK.last ?_
  refine RunK.step rfl rfl (ok_assign rfl) ?_
  refine RunK.nil ?_
  refine A.sub (Sub.cons (t := 1) rfl (Sub.cons (t := 2) rfl (Sub.cons (t := 4) rfl (Sub.cons (t := 5) rfl (Sub.cons (t := 8) rfl (Sub.cons (t := 1000005) rfl (Sub.cons (t := 1000008) rfl Sub.nil))))))) ?_
  refine A.regs (by kernel_rfl) (by kernel_rfl) (.inl rfl) ?_
  refine RunTK.new 7 (by decide) rfl (.inl rfl) ?_
  refine RunK.step rfl rfl (ok_loadA (s := 1000005) (by decide) Try.underlying26 rfl (size26.of (rfl)) rfl rfl) ?_
  refine RunK.step rfl rfl (ok_move rfl) ?_
  refine RunK.step rfl rfl (ok_move rfl) ?_
  refine RunK.step rfl rfl (ok_call (Used_empty s c o n h h1 h2) (Args.cons rfl (Le.refl _) (Args.cons rfl (Le.refl _) (Args.cons rfl (Le.refl _) Args.nil)))) ?_
  refine RunK.step rfl rfl (ok_move rfl) ?_
  refine RunK.step rfl rfl (ok_extract rfl rfl) ?_
  refine RunK.step rfl rfl (ok_extract rfl rfl) ?_
  refine RunK.nil ?_
  refine ⟨_, _, eff_alloc (n := 42) (d := 11) (k := 1000011) zero46 (by decide), fun b11 hb11 => ?_⟩
  have hBb11 := hb11.1
  have hlt_b5_b11 : b5 < b11 := hb11.2 1000005 _ _ _ rfl
  have hlt_b8_b11 : b8 < b11 := hb11.2 1000008 _ _ _ rfl
  refine RunTK.eff 8 (by decide) rfl (.inl rfl) ?_
  refine RunK.nil ?_
  refine ⟨_, eff_storeA (n := 42) (s := 1000011) (size46.of (rfl)) rfl rfl (rfl) hBb11 rfl (rfl) (LeftS.cons (t := 1) rfl (Surv.v _) (LeftS.cons (t := 2) rfl (Surv.v _) (LeftS.cons (t := 4) rfl (Surv.v _) (LeftS.cons (t := 5) rfl (Surv.v _) (LeftS.cons (t := 8) rfl (Surv.v _) (LeftS.cons (t := 11) rfl (Surv.v _) (LeftS.cons (t := 14) rfl (Surv.v _) (LeftS.cons (t := 15) rfl (Surv.v _) (LeftS.cons (t := 16) rfl (Surv.v _) (LeftS.cons (t := 18) rfl (Surv.v _) (LeftS.cons (t := 19) rfl (Surv.v _) (LeftS.cons (t := 1000005) rfl (Surv.blkT (by decide)) (LeftS.cons (t := 1000008) rfl (Surv.blkT (by decide)) LeftS.nil))))))))))))), ?_⟩
  refine RunTK.last ?_
  refine RunK.step rfl rfl (ok_assign rfl) ?_
  refine RunK.nil ?_
  refine A.sub (Sub.cons (t := 4) rfl (Sub.cons (t := 5) rfl (Sub.cons (t := 8) rfl (Sub.cons (t := 11) rfl (Sub.cons (t := 12) rfl (Sub.cons (t := 1000005) rfl (Sub.cons (t := 1000008) rfl (Sub.cons (t := 1000011) rfl Sub.nil)))))))) ?_
  refine A.seq ?_
  refine A.regs (by kernel_rfl) (by kernel_rfl) (.inl rfl) ?_
  refine RunTK.last ?_
  refine RunK.step rfl rfl (ok_move rfl) ?_
  refine RunK.step rfl rfl (ok_bin rfl rfl rfl) ?_; refine RunK.as (.bool true) (by rfl) ?_
  refine RunK.nil ?_
  refine A.sub (Sub.cons (t := 4) rfl (Sub.cons (t := 5) rfl (Sub.cons (t := 8) rfl (Sub.cons (t := 11) rfl (Sub.cons (t := 12) rfl (Sub.cons (t := 21) rfl (Sub.cons (t := 1000005) rfl (Sub.cons (t := 1000008) rfl (Sub.cons (t := 1000011) rfl Sub.nil))))))))) ?_
  refine A.yes rfl ?_
  refine A.regs (by kernel_rfl) (by kernel_rfl) (.inl rfl) ?_
  refine RunTK.last ?_
  refine RunK.step rfl rfl (ok_loadA (s := 1000011) (by decide) Try.underlying46 rfl (size46.of (rfl)) rfl rfl) ?_
  refine RunK.step rfl rfl (ok_lit [] ([.int .u32 0] ++ [.int .u64 0] ++ [.int .u32 0] ++ [.int .u32 0]) (fun _ _ => rfl) (by kernel_rfl)) ?_
  refine RunK.step rfl rfl (ok_eqlT (n := 3) true flat46 (by decide) (by kernel_rfl) (by kernel_rfl) rfl rfl (kinR _ _ _ _) (kinR _ _ _ _) ⟨fun _ => rfl, fun _ => rfl⟩) ?_
  refine RunK.step rfl rfl (ok_move rfl) ?_
  refine RunK.guarded rfl rfl rfl rfl (ok_move rfl) ?_
  refine RunK.guarded rfl rfl rfl rfl (ok_move rfl) ?_
  refine RunK.guarded rfl rfl rfl rfl (ok_bin rfl rfl rfl) ?_; refine RunK.as (.bool true) (by rfl) ?_
  refine RunK.step rfl rfl (ok_pick rfl rfl) ?_
  refine RunK.step rfl rfl (ok_assign rfl) ?_
  refine RunK.nil ?_
  refine A.sub (Sub.cons (t := 10) rfl (Sub.cons (t := 1000005) rfl (Sub.cons (t := 1000008) rfl (Sub.cons (t := 1000011) rfl Sub.nil)))) ?_
  refine A.ret ?_
  refine End.ret_then ?_
  exact End.ret1 rfl rfl (by first | exact Le.refl _ | exact Le.old _ _)
set_option maxHeartbeats 1000000 in
theorem used7_fn (s c o n : Nat) (h0 : 0 < n) (h : o + n ≤ 1048576) : Fn Try.prog 15 [.v (aggV ([.int .u32 ((s : Nat) : Int), .int .u64 ((c : Nat) : Int)])), .v (.int .i64 ((o : Nat) : Int)), .v (.int .i64 ((n : Nat) : Int)), .v (aggV ([.int .u32 ((o / 16 : Nat) : Int), .int .u32 (((o + n - 1) / 16 : Nat) : Int)])), .v (.int .i64 0)] (.v (.bool true)) := by
  refine Fn.of Try.func15 rfl (by kernel_rfl) Try.ntmps15 (by simp) (fun w => [(0, .v (aggV ([.int .u32 ((s : Nat) : Int), .int .u64 ((c : Nat) : Int)]))), (1, .v (.int .i64 ((o : Nat) : Int))), (2, .v (.int .i64 ((n : Nat) : Int))), (3, .v (aggV ([.int .u32 ((o / 16 : Nat) : Int), .int .u32 (((o + n - 1) / 16 : Nat) : Int)]))), (4, .v (.int .i64 0))]) (fun w => (Start.v rfl (Start.v rfl (Start.v rfl (Start.v rfl (Start.v rfl Start.nil)))))) fun w₀ => ?_
  refine A.regs (by kernel_rfl) (by kernel_rfl) (.inl rfl) ?_
  refine RunTK.new 0 (by decide) rfl (.inl rfl) ?_
  refine RunK.nil ?_
  refine ⟨_, _, eff_box (n := 42) (d := 5) (k := 1000005) rfl (by decide), fun b5 hb5 => ?_⟩
  have hBb5 := hb5.1
  refine RunTK.new 1 (by decide) rfl (.inl rfl) ?_
  refine RunK.nil ?_
  refine ⟨_, _, eff_box (n := 42) (d := 8) (k := 1000008) rfl (by decide), fun b8 hb8 => ?_⟩
  have hBb8 := hb8.1
  have hlt_b5_b8 : b5 < b8 := hb8.2 1000005 _ _ _ rfl
  refine RunTK.last ?_
  refine RunK.step rfl rfl (ok_assign rfl) ?_
  refine RunK.nil ?_
  refine A.sub (Sub.cons (t := 1) rfl (Sub.cons (t := 2) rfl (Sub.cons (t := 4) rfl (Sub.cons (t := 5) rfl (Sub.cons (t := 8) rfl (Sub.cons (t := 1000005) rfl (Sub.cons (t := 1000008) rfl Sub.nil))))))) ?_
  refine A.regs (by kernel_rfl) (by kernel_rfl) (.inl rfl) ?_
  refine RunTK.new 7 (by decide) rfl (.inl rfl) ?_
  refine RunK.step rfl rfl (ok_loadA (s := 1000005) (by decide) Try.underlying26 rfl (size26.of (rfl)) rfl rfl) ?_
  refine RunK.step rfl rfl (ok_move rfl) ?_
  refine RunK.step rfl rfl (ok_move rfl) ?_
  refine RunK.step rfl rfl (ok_call (Used_fn s c o n h0 h) (Args.cons rfl (Le.refl _) (Args.cons rfl (Le.refl _) (Args.cons rfl (Le.refl _) Args.nil)))) ?_
  refine RunK.step rfl rfl (ok_move rfl) ?_
  refine RunK.step rfl rfl (ok_extract rfl rfl) ?_
  refine RunK.step rfl rfl (ok_extract rfl rfl) ?_
  refine RunK.nil ?_
  refine ⟨_, _, eff_alloc (n := 42) (d := 11) (k := 1000011) zero46 (by decide), fun b11 hb11 => ?_⟩
  have hBb11 := hb11.1
  have hlt_b5_b11 : b5 < b11 := hb11.2 1000005 _ _ _ rfl
  have hlt_b8_b11 : b8 < b11 := hb11.2 1000008 _ _ _ rfl
  refine RunTK.eff 8 (by decide) rfl (.inl rfl) ?_
  refine RunK.nil ?_
  refine ⟨_, eff_storeA (n := 42) (s := 1000011) (size46.of (rfl)) rfl rfl (rfl) hBb11 rfl (rfl) (LeftS.cons (t := 1) rfl (Surv.v _) (LeftS.cons (t := 2) rfl (Surv.v _) (LeftS.cons (t := 4) rfl (Surv.v _) (LeftS.cons (t := 5) rfl (Surv.v _) (LeftS.cons (t := 8) rfl (Surv.v _) (LeftS.cons (t := 11) rfl (Surv.v _) (LeftS.cons (t := 14) rfl (Surv.v _) (LeftS.cons (t := 15) rfl (Surv.v _) (LeftS.cons (t := 16) rfl (Surv.v _) (LeftS.cons (t := 18) rfl (Surv.v _) (LeftS.cons (t := 19) rfl (Surv.v _) (LeftS.cons (t := 1000005) rfl (Surv.blkT (by decide)) (LeftS.cons (t := 1000008) rfl (Surv.blkT (by decide)) LeftS.nil))))))))))))), ?_⟩
  refine RunTK.last ?_
  refine RunK.step rfl rfl (ok_assign rfl) ?_
  refine RunK.nil ?_
  refine A.sub (Sub.cons (t := 4) rfl (Sub.cons (t := 5) rfl (Sub.cons (t := 8) rfl (Sub.cons (t := 11) rfl (Sub.cons (t := 12) rfl (Sub.cons (t := 1000005) rfl (Sub.cons (t := 1000008) rfl (Sub.cons (t := 1000011) rfl Sub.nil)))))))) ?_
  refine A.seq ?_
  refine A.regs (by kernel_rfl) (by kernel_rfl) (.inl rfl) ?_
  refine RunTK.last ?_
  refine RunK.step rfl rfl (ok_move rfl) ?_
  refine RunK.step rfl rfl (ok_bin rfl rfl rfl) ?_; refine RunK.as (.bool false) (by rfl) ?_
  refine RunK.nil ?_
  refine A.sub (Sub.cons (t := 4) rfl (Sub.cons (t := 5) rfl (Sub.cons (t := 8) rfl (Sub.cons (t := 11) rfl (Sub.cons (t := 12) rfl (Sub.cons (t := 21) rfl (Sub.cons (t := 1000005) rfl (Sub.cons (t := 1000008) rfl (Sub.cons (t := 1000011) rfl Sub.nil))))))))) ?_
  refine A.no rfl ?_
  refine A.skip ?_
  refine End.normal_then (End.code ?_)
  refine A.regs (by kernel_rfl) (by kernel_rfl) (.inl rfl) ?_
  refine RunTK.last ?_
  refine RunK.step rfl rfl (ok_loadA (s := 1000011) (by decide) Try.underlying46 rfl (size46.of (rfl)) rfl rfl) ?_
  refine RunK.step rfl rfl (ok_loadA (s := 1000005) (by decide) Try.underlying26 rfl (size26.of (rfl)) rfl rfl) ?_
  refine RunK.step rfl rfl (ok_index0 (0) Try.underlying43 info23 rfl rfl (rfl) (by decide)) ?_
  refine RunK.step rfl rfl (ok_loadV (s := 1000008) (by decide) Try.underlying23 rfl rfl rfl (rfl)) ?_
  refine RunK.step rfl rfl (ok_index0 (1) Try.underlying43 info23 rfl rfl (rfl) (by decide)) ?_
  refine RunK.step rfl rfl (ok_loadV (s := 1000008) (by decide) Try.underlying23 rfl rfl rfl (rfl)) ?_
  refine RunK.step rfl rfl (ok_litU [aggV [.int .u32 ((s : Nat) : Int), .int .u64 ((c : Nat) : Int)], .int .u32 ((o / 16 : Nat) : Int), .int .u32 (((o + n - 1) / 16 : Nat) : Int)] _ ⟨rfl, rfl, rfl, rfl, rfl, rfl, trivial⟩ (build46 s c (o / 16) ((o + n - 1) / 16))) ?_
  refine RunK.step rfl rfl (ok_eqlT (n := 3) true flat46 (by decide) (by kernel_rfl) (by kernel_rfl) rfl rfl (kinR _ _ _ _) (kinR _ _ _ _) ⟨fun _ => rfl, fun _ => rfl⟩) ?_
  refine RunK.step rfl rfl (ok_move rfl) ?_
  refine RunK.guarded rfl rfl rfl rfl (ok_move rfl) ?_
  refine RunK.guarded rfl rfl rfl rfl (ok_bin rfl rfl rfl) ?_; refine RunK.as (.bool true) (by rfl) ?_
  refine RunK.step rfl rfl (ok_pick rfl rfl) ?_
  refine RunK.step rfl rfl (ok_assign rfl) ?_
  refine RunK.nil ?_
  refine A.sub (Sub.cons (t := 10) rfl (Sub.cons (t := 1000005) rfl (Sub.cons (t := 1000008) rfl (Sub.cons (t := 1000011) rfl Sub.nil)))) ?_
  refine A.ret ?_
  exact End.ret1 rfl rfl (by first | exact Le.refl _ | exact Le.old _ _)
set_option maxHeartbeats 4000000 in
theorem lives7_fn  : Fn Try.prog 11 [] (.v (.bool true)) := by
  refine Fn.of Try.func11 rfl (by kernel_rfl) Try.ntmps11 (by simp) (fun w => []) (fun w => Start.nil) fun w₀ => ?_
  refine A.regs (by kernel_rfl) (by kernel_rfl) (.inl rfl) ?_
  refine RunTK.last ?_
  refine RunK.step rfl rfl (ok_assign rfl) ?_
  refine RunK.nil ?_
  refine A.sub Sub.nil ?_
  refine A.regs (by kernel_rfl) (by kernel_rfl) (.inl rfl) ?_
  refine RunTK.new 1 (by decide) rfl (.inl rfl) ?_
  refine RunK.step rfl rfl (ok_litA [_, _, _, _, _, _, _, _, _, _, _, _, _, _, _, _] Try.underlying22 info5 zero22 rfl ⟨rfl, rfl, rfl, rfl, rfl, rfl, rfl, rfl, rfl, rfl, rfl, rfl, rfl, rfl, rfl, rfl, rfl, rfl, rfl, rfl, rfl, rfl, rfl, rfl, rfl, rfl, rfl, rfl, rfl, rfl, rfl, rfl, trivial⟩ rfl) ?_; refine RunK.as (aggV (rowV 16 (lst16 [43, 126, 21, 22, 40, 174, 210, 166, 171, 247, 21, 136, 9, 207, 79, 60]))) (by kernel_rfl) ?_
  refine RunK.nil ?_
  refine ⟨_, _, eff_alloc (n := 68) (d := 1) (k := 1000001) zero22 (by decide), fun b1 hb1 => ?_⟩
  have hBb1 := hb1.1
  refine RunTK.eff 2 (by decide) rfl (.inl rfl) ?_
  refine RunK.nil ?_
  refine ⟨_, eff_storeA (n := 68) (s := 1000001) (size22.of (rowV_length _ _)) rfl rfl (rowV_one _ _) hBb1 rfl (by first | (simp only [rowV_length]; done) | simp only [rowV_length, List.length_replicate]) (LeftS.cons (t := 1) rfl (Surv.v _) (LeftS.cons (t := 5) rfl (Surv.v _) LeftS.nil)), ?_⟩
  refine RunTK.last ?_
  refine RunK.nil ?_
  refine A.sub (Sub.cons (t := 1) rfl (Sub.cons (t := 1000001) rfl Sub.nil)) ?_
  refine A.regs (by kernel_rfl) (by kernel_rfl) (.inl rfl) ?_
  refine RunTK.new 1 (by decide) rfl (.inl rfl) ?_
  refine RunK.step rfl rfl (ok_litU [.int .u32 ((4042388211 : Nat) : Int), .int .u64 ((17651285859443014395 : Nat) : Int)] [.int .u32 ((4042388211 : Nat) : Int), .int .u64 ((17651285859443014395 : Nat) : Int)] ⟨rfl, rfl, rfl, rfl, trivial⟩ (by kernel_rfl)) ?_
  refine RunK.nil ?_
  refine ⟨_, _, eff_alloc (n := 68) (d := 2) (k := 1000002) zero26 (by decide), fun b2 hb2 => ?_⟩
  have hBb2 := hb2.1
  have hlt_b1_b2 : b1 < b2 := hb2.2 1000001 _ _ _ rfl
  refine RunTK.eff 2 (by decide) rfl (.inl rfl) ?_
  refine RunK.nil ?_
  refine ⟨_, eff_storeA (n := 68) (s := 1000002) (size26.of (rfl)) rfl rfl (rfl) hBb2 rfl (rfl) (LeftS.cons (t := 1) rfl (Surv.v _) (LeftS.cons (t := 2) rfl (Surv.v _) (LeftS.cons (t := 6) rfl (Surv.v _) (LeftS.cons (t := 1000001) rfl (Surv.blkT (by decide)) LeftS.nil)))), ?_⟩
  refine RunTK.last ?_
  refine RunK.nil ?_
  refine A.sub (Sub.cons (t := 1) rfl (Sub.cons (t := 2) rfl (Sub.cons (t := 1000001) rfl (Sub.cons (t := 1000002) rfl Sub.nil)))) ?_
  refine A.seq ?_
  refine A.regs (by kernel_rfl) (by kernel_rfl) (.inl rfl) ?_
  refine RunTK.last ?_
  refine RunK.step rfl rfl (ok_loadA (s := 1000001) (by decide) Try.underlying22 rfl (size22.of (rowV_length _ _)) rfl rfl) ?_
  refine RunK.step rfl rfl (ok_loadA (s := 1000002) (by decide) Try.underlying26 rfl (size26.of (rfl)) rfl rfl) ?_
  refine RunK.step rfl rfl (ok_call (Block_fn7 (lst16 [43, 126, 21, 22, 40, 174, 210, 166, 171, 247, 21, 136, 9, 207, 79, 60]) (by_lst7 (by decide)) 4042388211 17651285859443014395 4244504319 (by decide) (by decide) (by decide)) (Args.cons rfl (Le.refl _) (Args.cons rfl (Le.refl _) (Args.cons rfl (Le.refl _) Args.nil)))) ?_; refine RunK.as (aggV (rowV 16 (lst16 [236, 140, 223, 115, 152, 96, 124, 176, 242, 210, 22, 117, 234, 158, 161, 228]))) (congrArg aggV (row_lst blockD)) ?_
  refine RunK.step rfl rfl (ok_litA [_, _, _, _, _, _, _, _, _, _, _, _, _, _, _, _] Try.underlying22 info5 zero22 rfl ⟨rfl, rfl, rfl, rfl, rfl, rfl, rfl, rfl, rfl, rfl, rfl, rfl, rfl, rfl, rfl, rfl, rfl, rfl, rfl, rfl, rfl, rfl, rfl, rfl, rfl, rfl, rfl, rfl, rfl, rfl, rfl, rfl, trivial⟩ rfl) ?_; refine RunK.as (aggV (rowV 16 (lst16 [236, 140, 223, 115, 152, 96, 124, 176, 242, 210, 22, 117, 234, 158, 161, 228]))) (by kernel_rfl) ?_
  refine RunK.step rfl rfl (ok_neqA Try.underlying22 Try.underlying5 info5 (by kernel_rfl) rfl rfl rfl (rowV_length _ _) (rowV_ints _ _)) ?_
  refine RunK.nil ?_
  refine A.sub (Sub.cons (t := 2) rfl (Sub.cons (t := 11) rfl (Sub.cons (t := 1000001) rfl (Sub.cons (t := 1000002) rfl Sub.nil)))) ?_
  refine A.no rfl ?_
  refine A.skip ?_
  refine End.normal_then (End.code ?_)
  refine A.seq ?_
  refine A.regs (by kernel_rfl) (by kernel_rfl) (.inl rfl) ?_
  refine RunTK.last ?_
  refine RunK.step rfl rfl (ok_loadA (s := 1000002) (by decide) Try.underlying26 rfl (size26.of (rfl)) rfl rfl) ?_
  refine RunK.step rfl rfl (ok_litU [.int .u32 ((0 : Nat) : Int), .int .u32 ((1 : Nat) : Int)] [.int .u32 ((0 : Nat) : Int), .int .u32 ((1 : Nat) : Int)] ⟨rfl, rfl, rfl, rfl, trivial⟩ (by kernel_rfl)) ?_
  refine RunK.step rfl rfl (ok_call (used7_fn 4042388211 17651285859443014395 0 32 (by decide) (by decide)) (Args.cons rfl (Le.refl _) (Args.cons rfl (Le.refl _) (Args.cons rfl (Le.refl _) (Args.cons rfl (Le.refl _) (Args.cons rfl (Le.refl _) Args.nil)))))) ?_
  refine RunK.step rfl rfl (ok_not rfl) ?_; refine RunK.as (.bool false) (by rfl) ?_
  refine RunK.step rfl rfl (ok_move rfl) ?_
  refine RunK.guarded rfl rfl rfl rfl (ok_loadA (s := 1000002) (by decide) Try.underlying26 rfl (size26.of (rfl)) rfl rfl) ?_
  refine RunK.guarded rfl rfl rfl rfl (ok_litU [.int .u32 ((0 : Nat) : Int), .int .u32 ((1 : Nat) : Int)] [.int .u32 ((0 : Nat) : Int), .int .u32 ((1 : Nat) : Int)] ⟨rfl, rfl, rfl, rfl, trivial⟩ (by kernel_rfl)) ?_
  refine RunK.guarded rfl rfl rfl rfl (ok_call (used7_fn 4042388211 17651285859443014395 15 2 (by decide) (by decide)) (Args.cons rfl (Le.refl _) (Args.cons rfl (Le.refl _) (Args.cons rfl (Le.refl _) (Args.cons rfl (Le.refl _) (Args.cons rfl (Le.refl _) Args.nil)))))) ?_
  refine RunK.guarded rfl rfl rfl rfl (ok_not rfl) ?_; refine RunK.as (.bool false) (by rfl) ?_
  refine RunK.step rfl rfl (ok_pick rfl rfl) ?_
  refine RunK.step rfl rfl (ok_move rfl) ?_
  refine RunK.guarded rfl rfl rfl rfl (ok_loadA (s := 1000002) (by decide) Try.underlying26 rfl (size26.of (rfl)) rfl rfl) ?_
  refine RunK.guarded rfl rfl rfl rfl (ok_litU [.int .u32 ((1 : Nat) : Int), .int .u32 ((1 : Nat) : Int)] [.int .u32 ((1 : Nat) : Int), .int .u32 ((1 : Nat) : Int)] ⟨rfl, rfl, rfl, rfl, trivial⟩ (by kernel_rfl)) ?_
  refine RunK.guarded rfl rfl rfl rfl (ok_call (used7_fn 4042388211 17651285859443014395 16 16 (by decide) (by decide)) (Args.cons rfl (Le.refl _) (Args.cons rfl (Le.refl _) (Args.cons rfl (Le.refl _) (Args.cons rfl (Le.refl _) (Args.cons rfl (Le.refl _) Args.nil)))))) ?_
  refine RunK.guarded rfl rfl rfl rfl (ok_not rfl) ?_; refine RunK.as (.bool false) (by rfl) ?_
  refine RunK.step rfl rfl (ok_pick rfl rfl) ?_
  refine RunK.step rfl rfl (ok_move rfl) ?_
  refine RunK.guarded rfl rfl rfl rfl (ok_loadA (s := 1000002) (by decide) Try.underlying26 rfl (size26.of (rfl)) rfl rfl) ?_
  refine RunK.guarded rfl rfl rfl rfl (ok_lit [] [.int .u32 0, .int .u32 0] (fun _ _ => rfl) (by kernel_rfl)) ?_
  refine RunK.guarded rfl rfl rfl rfl (ok_call (used7_empty 4042388211 17651285859443014395 0 0 [.int .u32 0, .int .u32 0] (by decide) (by decide) rfl) (Args.cons rfl (Le.refl _) (Args.cons rfl (Le.refl _) (Args.cons rfl (Le.refl _) (Args.cons rfl (Le.refl _) (Args.cons rfl (Le.refl _) Args.nil)))))) ?_
  refine RunK.guarded rfl rfl rfl rfl (ok_not rfl) ?_; refine RunK.as (.bool false) (by rfl) ?_
  refine RunK.step rfl rfl (ok_pick rfl rfl) ?_
  refine RunK.step rfl rfl (ok_move rfl) ?_
  refine RunK.guarded rfl rfl rfl rfl (ok_loadA (s := 1000002) (by decide) Try.underlying26 rfl (size26.of (rfl)) rfl rfl) ?_
  refine RunK.guarded rfl rfl rfl rfl (ok_lit [] [.int .u32 0, .int .u32 0] (fun _ _ => rfl) (by kernel_rfl)) ?_
  refine RunK.guarded rfl rfl rfl rfl (ok_call (used7_negO 4042388211 17651285859443014395 (-1) 1 [.int .u32 0, .int .u32 0] (by decide)) (Args.cons rfl (Le.refl _) (Args.cons rfl (Le.refl _) (Args.cons rfl (Le.refl _) (Args.cons rfl (Le.refl _) (Args.cons rfl (Le.refl _) Args.nil)))))) ?_
  refine RunK.guarded rfl rfl rfl rfl (ok_not rfl) ?_; refine RunK.as (.bool false) (by rfl) ?_
  refine RunK.step rfl rfl (ok_pick rfl rfl) ?_
  refine RunK.step rfl rfl (ok_move rfl) ?_
  refine RunK.guarded rfl rfl rfl rfl (ok_loadA (s := 1000002) (by decide) Try.underlying26 rfl (size26.of (rfl)) rfl rfl) ?_
  refine RunK.guarded rfl rfl rfl rfl (ok_lit [] [.int .u32 0, .int .u32 0] (fun _ _ => rfl) (by kernel_rfl)) ?_
  refine RunK.guarded rfl rfl rfl rfl (ok_call (used7_big 4042388211 17651285859443014395 1048576 1 [.int .u32 0, .int .u32 0] (by decide) (by decide) (by decide) (by decide)) (Args.cons rfl (Le.refl _) (Args.cons rfl (Le.refl _) (Args.cons rfl (Le.refl _) (Args.cons rfl (Le.refl _) (Args.cons rfl (Le.refl _) Args.nil)))))) ?_
  refine RunK.guarded rfl rfl rfl rfl (ok_not rfl) ?_; refine RunK.as (.bool false) (by rfl) ?_
  refine RunK.step rfl rfl (ok_pick rfl rfl) ?_
  refine RunK.nil ?_
  refine A.sub (Sub.cons (t := 2) rfl (Sub.cons (t := 45) rfl (Sub.cons (t := 1000001) rfl (Sub.cons (t := 1000002) rfl Sub.nil)))) ?_
  refine A.no rfl ?_
  refine A.skip ?_
  refine End.normal_then (End.code ?_)
  refine A.regs (by kernel_rfl) (by kernel_rfl) (.inl rfl) ?_
  refine RunTK.new 2 (by decide) rfl (.inl rfl) ?_
  refine RunK.step rfl rfl (ok_loadA (s := 1000002) (by decide) Try.underlying26 rfl (size26.of (rfl)) rfl rfl) ?_
  refine RunK.step rfl rfl (ok_litU [aggV [.int .u32 ((4042388211 : Nat) : Int), .int .u64 ((17651285859443014395 : Nat) : Int)], .int .u32 ((0 : Nat) : Int), .int .u32 ((1 : Nat) : Int)] [.int .u32 ((4042388211 : Nat) : Int), .int .u64 ((17651285859443014395 : Nat) : Int), .int .u32 ((0 : Nat) : Int), .int .u32 ((1 : Nat) : Int)] ⟨rfl, rfl, rfl, rfl, rfl, rfl, trivial⟩ (by kernel_rfl)) ?_
  refine RunK.nil ?_
  refine ⟨_, _, eff_alloc (n := 68) (d := 3) (k := 1000003) zero46 (by decide), fun b3 hb3 => ?_⟩
  have hBb3 := hb3.1
  have hlt_b1_b3 : b1 < b3 := hb3.2 1000001 _ _ _ rfl
  have hlt_b2_b3 : b2 < b3 := hb3.2 1000002 _ _ _ rfl
  refine RunTK.eff 3 (by decide) rfl (.inl rfl) ?_
  refine RunK.nil ?_
  refine ⟨_, eff_storeA (n := 68) (s := 1000003) (size46.of (rfl)) rfl rfl (rfl) hBb3 rfl (rfl) (LeftS.cons (t := 2) rfl (Surv.v _) (LeftS.cons (t := 3) rfl (Surv.v _) (LeftS.cons (t := 45) rfl (Surv.v _) (LeftS.cons (t := 46) rfl (Surv.v _) (LeftS.cons (t := 47) rfl (Surv.v _) (LeftS.cons (t := 1000001) rfl (Surv.blkT (by decide)) (LeftS.cons (t := 1000002) rfl (Surv.blkT (by decide)) LeftS.nil))))))), ?_⟩
  refine RunTK.last ?_
  refine RunK.nil ?_
  refine A.sub (Sub.cons (t := 2) rfl (Sub.cons (t := 3) rfl (Sub.cons (t := 1000001) rfl (Sub.cons (t := 1000002) rfl (Sub.cons (t := 1000003) rfl Sub.nil))))) ?_
  refine A.regs (by kernel_rfl) (by kernel_rfl) (.inl rfl) ?_
  refine RunTK.new 1 (by decide) rfl (.inl rfl) ?_
  refine RunK.step rfl rfl (ok_loadA (s := 1000003) (by decide) Try.underlying46 rfl (size46.of (rfl)) rfl rfl) ?_
  refine RunK.nil ?_
  refine ⟨_, _, eff_alloc (n := 68) (d := 4) (k := 1000004) zero46 (by decide), fun b4 hb4 => ?_⟩
  have hBb4 := hb4.1
  have hlt_b1_b4 : b1 < b4 := hb4.2 1000001 _ _ _ rfl
  have hlt_b2_b4 : b2 < b4 := hb4.2 1000002 _ _ _ rfl
  have hlt_b3_b4 : b3 < b4 := hb4.2 1000003 _ _ _ rfl
  refine RunTK.eff 2 (by decide) rfl (.inl rfl) ?_
  refine RunK.nil ?_
  refine ⟨_, eff_storeA (n := 68) (s := 1000004) (size46.of (rfl)) rfl rfl (rfl) hBb4 rfl (rfl) (LeftS.cons (t := 2) rfl (Surv.v _) (LeftS.cons (t := 3) rfl (Surv.v _) (LeftS.cons (t := 4) rfl (Surv.v _) (LeftS.cons (t := 48) rfl (Surv.v _) (LeftS.cons (t := 1000001) rfl (Surv.blkT (by decide)) (LeftS.cons (t := 1000002) rfl (Surv.blkT (by decide)) (LeftS.cons (t := 1000003) rfl (Surv.blk (by omega)) LeftS.nil))))))), ?_⟩
  refine RunTK.last ?_
  refine RunK.nil ?_
  refine A.sub (Sub.cons (t := 2) rfl (Sub.cons (t := 3) rfl (Sub.cons (t := 4) rfl (Sub.cons (t := 1000001) rfl (Sub.cons (t := 1000002) rfl (Sub.cons (t := 1000003) rfl (Sub.cons (t := 1000004) rfl Sub.nil))))))) ?_
  refine A.regs (by kernel_rfl) (by kernel_rfl) (.inl rfl) ?_
  refine RunTK.eff 2 (by decide) rfl (.inl rfl) ?_
  refine RunK.step rfl rfl (ok_field field46_0 (by decide) rfl) ?_
  refine RunK.step rfl rfl (ok_field field26_0 (by decide) rfl) ?_
  refine RunK.nil ?_
  refine ⟨_, eff_storeS (n := 68) (s := 1000004) info23 rfl rfl rfl hBb4 rfl (by decide) (LeftS.cons (t := 2) rfl (Surv.v _) (LeftS.cons (t := 3) rfl (Surv.v _) (LeftS.cons (t := 4) rfl (Surv.v _) (LeftS.cons (t := 49) rfl (Surv.v _) (LeftS.cons (t := 50) rfl (Surv.v _) (LeftS.cons (t := 1000001) rfl (Surv.blkT (by decide)) (LeftS.cons (t := 1000002) rfl (Surv.blkT (by decide)) (LeftS.cons (t := 1000003) rfl (Surv.blk (by omega)) LeftS.nil)))))))), ?_⟩
  refine RunTK.last ?_
  refine RunK.nil ?_
  refine A.sub (Sub.cons (t := 2) rfl (Sub.cons (t := 3) rfl (Sub.cons (t := 4) rfl (Sub.cons (t := 1000001) rfl (Sub.cons (t := 1000002) rfl (Sub.cons (t := 1000003) rfl (Sub.cons (t := 1000004) rfl Sub.nil))))))) ?_
  refine A.regs (by kernel_rfl) (by kernel_rfl) (.inl rfl) ?_
  refine RunTK.last ?_
  refine RunK.step rfl rfl (ok_loadA (s := 1000003) (by decide) Try.underlying46 rfl (size46.of (rfl)) rfl rfl) ?_
  refine RunK.step rfl rfl (ok_loadA (s := 1000002) (by decide) Try.underlying26 rfl (size26.of (rfl)) rfl rfl) ?_
  refine RunK.step rfl rfl (ok_litU [aggV [.int .u32 ((4042388211 : Nat) : Int), .int .u64 ((17651285859443014395 : Nat) : Int)], .int .u32 ((1 : Nat) : Int), .int .u32 ((2 : Nat) : Int)] [.int .u32 ((4042388211 : Nat) : Int), .int .u64 ((17651285859443014395 : Nat) : Int), .int .u32 ((1 : Nat) : Int), .int .u32 ((2 : Nat) : Int)] ⟨rfl, rfl, rfl, rfl, rfl, rfl, trivial⟩ (by kernel_rfl)) ?_
  refine RunK.step rfl rfl (ok_call (Overlap_fn 4042388211 17651285859443014395 0 1 4042388211 17651285859443014395 1 2) (Args.cons rfl (Le.refl _) (Args.cons rfl (Le.refl _) Args.nil))) ?_; refine RunK.as (.bool true) (by kernel_rfl) ?_
  refine RunK.step rfl rfl (ok_move rfl) ?_
  refine RunK.guarded rfl rfl rfl rfl (ok_loadA (s := 1000003) (by decide) Try.underlying46 rfl (size46.of (rfl)) rfl rfl) ?_
  refine RunK.guarded rfl rfl rfl rfl (ok_loadA (s := 1000002) (by decide) Try.underlying26 rfl (size26.of (rfl)) rfl rfl) ?_
  refine RunK.guarded rfl rfl rfl rfl (ok_litU [aggV [.int .u32 ((4042388211 : Nat) : Int), .int .u64 ((17651285859443014395 : Nat) : Int)], .int .u32 ((2 : Nat) : Int), .int .u32 ((3 : Nat) : Int)] [.int .u32 ((4042388211 : Nat) : Int), .int .u64 ((17651285859443014395 : Nat) : Int), .int .u32 ((2 : Nat) : Int), .int .u32 ((3 : Nat) : Int)] ⟨rfl, rfl, rfl, rfl, rfl, rfl, trivial⟩ (by kernel_rfl)) ?_
  refine RunK.guarded rfl rfl rfl rfl (ok_call (Overlap_fn 4042388211 17651285859443014395 0 1 4042388211 17651285859443014395 2 3) (Args.cons rfl (Le.refl _) (Args.cons rfl (Le.refl _) Args.nil))) ?_; refine RunK.as (.bool false) (by kernel_rfl) ?_
  refine RunK.guarded rfl rfl rfl rfl (ok_not rfl) ?_; refine RunK.as (.bool true) (by rfl) ?_
  refine RunK.step rfl rfl (ok_pick rfl rfl) ?_
  refine RunK.step rfl rfl (ok_move rfl) ?_
  refine RunK.guarded rfl rfl rfl rfl (ok_loadA (s := 1000003) (by decide) Try.underlying46 rfl (size46.of (rfl)) rfl rfl) ?_
  refine RunK.guarded rfl rfl rfl rfl (ok_loadA (s := 1000004) (by decide) Try.underlying46 rfl (size46.of (rfl)) rfl rfl) ?_
  refine RunK.guarded rfl rfl rfl rfl (ok_call (Overlap_fn 4042388211 17651285859443014395 0 1 1 17651285859443014395 0 1) (Args.cons rfl (Le.refl _) (Args.cons rfl (Le.refl _) Args.nil))) ?_; refine RunK.as (.bool false) (by kernel_rfl) ?_
  refine RunK.guarded rfl rfl rfl rfl (ok_not rfl) ?_; refine RunK.as (.bool true) (by rfl) ?_
  refine RunK.step rfl rfl (ok_pick rfl rfl) ?_
  refine RunK.step rfl rfl (ok_assign rfl) ?_
  refine RunK.nil ?_
  refine A.sub (Sub.cons (t := 0) rfl (Sub.cons (t := 1000001) rfl (Sub.cons (t := 1000002) rfl (Sub.cons (t := 1000003) rfl (Sub.cons (t := 1000004) rfl Sub.nil))))) ?_
  refine A.ret ?_
  exact End.ret1 rfl rfl (by first | exact Le.refl _ | exact Le.old _ _)
set_option maxHeartbeats 1000000 in
theorem StreamsBlock_fn (k : Nat → Nat) (hk : By k) (s c : Nat) (hs : s < 4294967296) (hc : c < 18446744073709551616) (t : Nat) (ht : t < 4294967296) : Fn Try.prog 3 [.v (aggV (rowV 16 k ++ [.int .u32 ((s : Nat) : Int), .int .u64 ((c : Nat) : Int)])), .v (.int .u32 ((t : Nat) : Int))] (.v (.bool true)) := by
  refine Fn.of Try.func3 rfl (by kernel_rfl) Try.ntmps3 (by simp) (fun w => [(0, .v (aggV (rowV 16 k ++ [.int .u32 ((s : Nat) : Int), .int .u64 ((c : Nat) : Int)]))), (1, .v (.int .u32 ((t : Nat) : Int)))]) (fun w => (Start.v rfl (Start.v rfl Start.nil))) fun w₀ => ?_
  refine A.regs (by kernel_rfl) (by kernel_rfl) (.inl rfl) ?_
  refine RunTK.new 0 (by decide) rfl (.inl rfl) ?_
  refine RunK.nil ?_
  refine ⟨_, _, eff_box (n := 21) (d := 2) (k := 1000002) rfl (by decide), fun b2 hb2 => ?_⟩
  have hBb2 := hb2.1
  refine RunTK.last ?_
  refine RunK.step rfl rfl (ok_assign rfl) ?_
  refine RunK.nil ?_
  refine A.sub (Sub.cons (t := 1) rfl (Sub.cons (t := 2) rfl (Sub.cons (t := 1000002) rfl Sub.nil))) ?_
  refine A.regs (by kernel_rfl) (by kernel_rfl) (.inr (by kernel_rfl)) ?_
  refine RunTK.last ?_
  refine RunK.step rfl rfl (ok_field field28_0 (by decide) rfl) ?_
  refine RunK.step rfl rfl (ok_loadP (s := 1000002) (by decide) Try.underlying22 rfl size22 rfl rfl (by simp only [List.length_append, rowV_length, List.length_cons, List.length_nil]; decide) (K_key k _)) ?_
  refine RunK.step rfl rfl (ok_field field28_1 (by decide) rfl) ?_
  refine RunK.step rfl rfl (ok_loadP (s := 1000002) (by decide) Try.underlying26 rfl size26 rfl rfl (by simp only [List.length_append, rowV_length, List.length_cons, List.length_nil]; decide) (K_non k _ _)) ?_
  refine RunK.step rfl rfl (ok_move rfl) ?_
  refine RunK.step rfl rfl (ok_call (Block_fn7 k hk s c t hs hc ht) (Args.cons rfl (Le.refl _) (Args.cons rfl (Le.refl _) (Args.cons rfl (Le.refl _) Args.nil)))) ?_
  refine RunK.step rfl rfl (ok_field field28_0 (by decide) rfl) ?_
  refine RunK.step rfl rfl (ok_loadP (s := 1000002) (by decide) Try.underlying22 rfl size22 rfl rfl (by simp only [List.length_append, rowV_length, List.length_cons, List.length_nil]; decide) (K_key k _)) ?_
  refine RunK.step rfl rfl (ok_field field28_1 (by decide) rfl) ?_
  refine RunK.step rfl rfl (ok_loadP (s := 1000002) (by decide) Try.underlying26 rfl size26 rfl rfl (by simp only [List.length_append, rowV_length, List.length_cons, List.length_nil]; decide) (K_non k _ _)) ?_
  refine RunK.step rfl rfl (ok_move rfl) ?_
  refine RunK.step rfl rfl (ok_call (ref7Block_fn k hk s c t hs hc ht) (Args.cons rfl (Le.refl _) (Args.cons rfl (Le.refl _) (Args.cons rfl (Le.refl _) Args.nil)))) ?_
  refine RunK.step rfl rfl (ok_eqlA Try.underlying22 Try.underlying5 info5 (by kernel_rfl) rfl rfl rfl (rowV_length _ _) (rowV_ints _ _)) ?_
  refine RunK.step rfl rfl (ok_move rfl) ?_
  refine RunK.guarded rfl rfl rfl rfl (ok_call lives7_fn Args.nil) ?_
  refine RunK.step rfl rfl (ok_pick rfl rfl) ?_
  refine RunK.step rfl rfl (ok_assign rfl) ?_
  refine RunK.nil ?_
  refine A.sub (Sub.cons (t := 4) rfl (Sub.cons (t := 1000002) rfl Sub.nil)) ?_
  refine A.ret ?_
  exact End.ret1 rfl rfl (by first | exact Le.refl _ | exact Le.old _ _)
theorem StreamsXor_long (k : Nat → Nat) (hk : By k) (s c : Nat) (hs : s < 4294967296) (hc : c < 18446744073709551616) (o : Int) (l : List UInt8) (h : 60 < l.length) : Fn Try.prog 4 [.v (aggV (rowV 16 k ++ [.int .u32 ((s : Nat) : Int), .int .u64 ((c : Nat) : Int)])), .v (.int .i64 o), byt l] (.v (.bool true)) := by
  refine Fn.of Try.func4 rfl (by kernel_rfl) Try.ntmps4 (by simp) (fun w => [(0, .v (aggV (rowV 16 k ++ [.int .u32 ((s : Nat) : Int), .int .u64 ((c : Nat) : Int)]))), (1, .v (.int .i64 o)), (2, old w.heap.size (byt l))]) (fun w => (Start.v rfl (Start.v rfl (Start.old rfl Start.nil)))) fun w₀ => ?_
  refine A.regs (by kernel_rfl) (by kernel_rfl) (.inl rfl) ?_
  refine RunTK.new 0 (by decide) rfl (.inl rfl) ?_
  refine RunK.nil ?_
  refine ⟨_, _, eff_box (n := 83) (d := 3) (k := 1000003) rfl (by decide), fun b3 hb3 => ?_⟩
  have hBb3 := hb3.1
  refine RunTK.last ?_
  refine RunK.step rfl rfl (ok_assign rfl) ?_
  refine RunK.nil ?_
  refine A.sub (Sub.cons (t := 1) rfl (Sub.cons (t := 2) rfl (Sub.cons (t := 3) rfl (Sub.cons (t := 1000003) rfl Sub.nil)))) ?_
  refine A.seq ?_
  refine A.regs (by kernel_rfl) (by kernel_rfl) (.inl rfl) ?_
  refine RunTK.last ?_
  refine RunK.step rfl rfl (ok_move rfl) ?_
  refine RunK.step rfl rfl (ok_lenB Try.underlying32 rfl (by first | exact Le.refl _ | exact Le.old _ _ | exact le_byt _ _ | exact (Le.old _ _).trans (le_byt _ _) | exact le_lst _ _ | exact (Le.old _ _).trans (le_lst _ _) | exact (Le.old _ _).trans (Le.old _ _) | exact (Le.old _ _).trans ((Le.old _ _).trans (le_byt _ _)) | exact byt_nil_le | exact lst_nil_le | exact bytes_nil_le | exact list_nil_le)) ?_
  refine RunK.step rfl rfl (ok_bin rfl rfl rfl) ?_; refine RunK.as (.bool true) (by first | (simp; done) | (simp; omega)) ?_
  refine RunK.nil ?_
  refine A.sub (Sub.cons (t := 1) rfl (Sub.cons (t := 2) rfl (Sub.cons (t := 3) rfl (Sub.cons (t := 14) rfl (Sub.cons (t := 1000003) rfl Sub.nil))))) ?_
  refine A.yes rfl ?_
  refine A.regs (by kernel_rfl) (by kernel_rfl) (.inl rfl) ?_
  refine RunTK.last ?_
  refine RunK.step rfl rfl (ok_call lives7_fn Args.nil) ?_
  refine RunK.step rfl rfl (ok_assign rfl) ?_
  refine RunK.nil ?_
  refine A.sub (Sub.cons (t := 6) rfl (Sub.cons (t := 1000003) rfl Sub.nil)) ?_
  refine A.ret ?_
  refine End.ret_then ?_
  exact End.ret1 rfl rfl (by first | exact Le.refl _ | exact Le.old _ _)
set_option maxHeartbeats 1000000 in
theorem StreamsXor_neg (k : Nat → Nat) (hk : By k) (s c : Nat) (hs : s < 4294967296) (hc : c < 18446744073709551616) (o : Int) (l : List UInt8) (h : l.length ≤ 60) (h1 : o < 0) : Fn Try.prog 4 [.v (aggV (rowV 16 k ++ [.int .u32 ((s : Nat) : Int), .int .u64 ((c : Nat) : Int)])), .v (.int .i64 o), byt l] (.v (.bool true)) := by
  refine Fn.of Try.func4 rfl (by kernel_rfl) Try.ntmps4 (by simp) (fun w => [(0, .v (aggV (rowV 16 k ++ [.int .u32 ((s : Nat) : Int), .int .u64 ((c : Nat) : Int)]))), (1, .v (.int .i64 o)), (2, old w.heap.size (byt l))]) (fun w => (Start.v rfl (Start.v rfl (Start.old rfl Start.nil)))) fun w₀ => ?_
  refine A.regs (by kernel_rfl) (by kernel_rfl) (.inl rfl) ?_
  refine RunTK.new 0 (by decide) rfl (.inl rfl) ?_
  refine RunK.nil ?_
  refine ⟨_, _, eff_box (n := 83) (d := 3) (k := 1000003) rfl (by decide), fun b3 hb3 => ?_⟩
  have hBb3 := hb3.1
  refine RunTK.last ?_
  refine RunK.step rfl rfl (ok_assign rfl) ?_
  refine RunK.nil ?_
  refine A.sub (Sub.cons (t := 1) rfl (Sub.cons (t := 2) rfl (Sub.cons (t := 3) rfl (Sub.cons (t := 1000003) rfl Sub.nil)))) ?_
  refine A.seq ?_
  refine A.regs (by kernel_rfl) (by kernel_rfl) (.inl rfl) ?_
  refine RunTK.last ?_
  refine RunK.step rfl rfl (ok_move rfl) ?_
  refine RunK.step rfl rfl (ok_lenB Try.underlying32 rfl (by first | exact Le.refl _ | exact Le.old _ _ | exact le_byt _ _ | exact (Le.old _ _).trans (le_byt _ _) | exact le_lst _ _ | exact (Le.old _ _).trans (le_lst _ _) | exact (Le.old _ _).trans (Le.old _ _) | exact (Le.old _ _).trans ((Le.old _ _).trans (le_byt _ _)) | exact byt_nil_le | exact lst_nil_le | exact bytes_nil_le | exact list_nil_le)) ?_
  refine RunK.step rfl rfl (ok_bin rfl rfl rfl) ?_; refine RunK.as (.bool false) (by first | (simp; done) | (simp; omega)) ?_
  refine RunK.nil ?_
  refine A.sub (Sub.cons (t := 1) rfl (Sub.cons (t := 2) rfl (Sub.cons (t := 3) rfl (Sub.cons (t := 14) rfl (Sub.cons (t := 1000003) rfl Sub.nil))))) ?_
  refine A.no rfl ?_
  refine A.skip ?_
  refine End.normal_then (End.code ?_)
  refine A.regs (by kernel_rfl) (by kernel_rfl) (.inl rfl) ?_
  refine RunTK.last ?_
  refine RunK.step rfl rfl (ok_move rfl) ?_
  refine RunK.step rfl rfl (ok_str Try.underlying32 Try.underlying5 Try.underlying9 rfl (by first | exact Le.refl _ | exact Le.old _ _ | exact le_byt _ _ | exact (Le.old _ _).trans (le_byt _ _) | exact le_lst _ _ | exact (Le.old _ _).trans (le_lst _ _) | exact (Le.old _ _).trans (Le.old _ _) | exact (Le.old _ _).trans ((Le.old _ _).trans (le_byt _ _)) | exact byt_nil_le | exact lst_nil_le | exact bytes_nil_le | exact list_nil_le)) ?_
  refine RunK.step rfl rfl (ok_assign rfl) ?_
  refine RunK.nil ?_
  refine A.sub (Sub.cons (t := 1) rfl (Sub.cons (t := 2) rfl (Sub.cons (t := 3) rfl (Sub.cons (t := 7) rfl (Sub.cons (t := 1000003) rfl Sub.nil))))) ?_
  refine A.regs (by kernel_rfl) (by kernel_rfl) (.inl rfl) ?_
  refine RunTK.last ?_
  refine RunK.step rfl rfl (ok_field field28_0 (by decide) rfl) ?_
  refine RunK.step rfl rfl (ok_loadP (s := 1000003) (by decide) Try.underlying22 rfl size22 rfl rfl (by simp only [List.length_append, rowV_length, List.length_cons, List.length_nil]; decide) (K_key k _)) ?_
  refine RunK.step rfl rfl (ok_field field28_1 (by decide) rfl) ?_
  refine RunK.step rfl rfl (ok_loadP (s := 1000003) (by decide) Try.underlying26 rfl size26 rfl rfl (by simp only [List.length_append, rowV_length, List.length_cons, List.length_nil]; decide) (K_non k _ _)) ?_
  refine RunK.step rfl rfl (ok_move rfl) ?_
  refine RunK.step rfl rfl (ok_move rfl) ?_
  refine RunK.step rfl rfl (ok_call (Xor7_neg k s c o l h1) (Args.cons rfl (Le.refl _) (Args.cons rfl (Le.refl _) (Args.cons rfl (Le.refl _) (Args.cons rfl (by first | exact Le.refl _ | exact Le.old _ _ | exact le_byt _ _ | exact (Le.old _ _).trans (le_byt _ _) | exact le_lst _ _ | exact (Le.old _ _).trans (le_lst _ _) | exact (Le.old _ _).trans (Le.old _ _) | exact (Le.old _ _).trans ((Le.old _ _).trans (le_byt _ _)) | exact byt_nil_le | exact lst_nil_le | exact bytes_nil_le | exact list_nil_le) Args.nil))))) ?_
  refine RunK.step rfl rfl (ok_move rfl) ?_
  refine RunK.step rfl rfl (ok_extract rfl rfl) ?_
  refine RunK.step rfl rfl (ok_extract rfl rfl) ?_
  refine RunK.step rfl rfl (ok_assign rfl) ?_
  refine RunK.step rfl rfl (ok_assign rfl) ?_
  refine RunK.nil ?_
  refine A.sub (Sub.cons (t := 1) rfl (Sub.cons (t := 2) rfl (Sub.cons (t := 3) rfl (Sub.cons (t := 7) rfl (Sub.cons (t := 8) rfl (Sub.cons (t := 9) rfl (Sub.cons (t := 1000003) rfl Sub.nil))))))) ?_
  refine A.seq ?_
  refine A.block ?_
  refine A.regs (by kernel_rfl) (by kernel_rfl) (.inl rfl) ?_
  refine RunTK.last ?_
  refine RunK.step rfl rfl (ok_move rfl) ?_
  refine RunK.step rfl rfl (ok_bin rfl rfl rfl) ?_; refine RunK.as (.bool true) (by first | (simp; done) | (simp; omega)) ?_
  refine RunK.step rfl rfl (ok_assign rfl) ?_
  refine RunK.nil ?_
  refine A.sub (Sub.cons (t := 1) rfl (Sub.cons (t := 2) rfl (Sub.cons (t := 3) rfl (Sub.cons (t := 7) rfl (Sub.cons (t := 8) rfl (Sub.cons (t := 9) rfl (Sub.cons (t := 28) rfl (Sub.cons (t := 1000003) rfl Sub.nil)))))))) ?_
  refine A.yes rfl ?_
  refine A.regs (by kernel_rfl) (by kernel_rfl) (.inl rfl) ?_
  refine RunTK.last ?_
  refine RunK.step rfl rfl (ok_move rfl) ?_
  refine RunK.step rfl rfl (ok_move rfl) ?_
  refine RunK.step rfl rfl (ok_call (same7_fn [] 1) (Args.cons rfl bytes_nil_le (Args.cons rfl (Le.refl _) (Args.cons rfl byt_nil_le (Args.cons rfl (Le.refl _) Args.nil))))) ?_
  refine RunK.step rfl rfl (ok_move rfl) ?_
  refine RunK.guarded rfl rfl rfl rfl (ok_call lives7_fn Args.nil) ?_
  refine RunK.step rfl rfl (ok_pick rfl rfl) ?_
  refine RunK.step rfl rfl (ok_assign rfl) ?_
  refine RunK.nil ?_
  refine A.sub (Sub.cons (t := 6) rfl (Sub.cons (t := 1000003) rfl Sub.nil)) ?_
  refine A.ret ?_
  refine End.ret_block ?_
  refine End.ret_then ?_
  exact End.ret1 rfl rfl (by first | exact Le.refl _ | exact Le.old _ _)
set_option maxHeartbeats 1000000 in
theorem StreamsXor_big (k : Nat → Nat) (hk : By k) (s c : Nat) (hs : s < 4294967296) (hc : c < 18446744073709551616) (o : Int) (l : List UInt8) (h : l.length ≤ 60) (h1 : 0 ≤ o) (hm : o ≤ 9223372036854775807) (h2 : 1048576 - (l.length : Int) < o) : Fn Try.prog 4 [.v (aggV (rowV 16 k ++ [.int .u32 ((s : Nat) : Int), .int .u64 ((c : Nat) : Int)])), .v (.int .i64 o), byt l] (.v (.bool true)) := by
  refine Fn.of Try.func4 rfl (by kernel_rfl) Try.ntmps4 (by simp) (fun w => [(0, .v (aggV (rowV 16 k ++ [.int .u32 ((s : Nat) : Int), .int .u64 ((c : Nat) : Int)]))), (1, .v (.int .i64 o)), (2, old w.heap.size (byt l))]) (fun w => (Start.v rfl (Start.v rfl (Start.old rfl Start.nil)))) fun w₀ => ?_
  refine A.regs (by kernel_rfl) (by kernel_rfl) (.inl rfl) ?_
  refine RunTK.new 0 (by decide) rfl (.inl rfl) ?_
  refine RunK.nil ?_
  refine ⟨_, _, eff_box (n := 83) (d := 3) (k := 1000003) rfl (by decide), fun b3 hb3 => ?_⟩
  have hBb3 := hb3.1
  refine RunTK.last ?_
  refine RunK.step rfl rfl (ok_assign rfl) ?_
  refine RunK.nil ?_
  refine A.sub (Sub.cons (t := 1) rfl (Sub.cons (t := 2) rfl (Sub.cons (t := 3) rfl (Sub.cons (t := 1000003) rfl Sub.nil)))) ?_
  refine A.seq ?_
  refine A.regs (by kernel_rfl) (by kernel_rfl) (.inl rfl) ?_
  refine RunTK.last ?_
  refine RunK.step rfl rfl (ok_move rfl) ?_
  refine RunK.step rfl rfl (ok_lenB Try.underlying32 rfl (by first | exact Le.refl _ | exact Le.old _ _ | exact le_byt _ _ | exact (Le.old _ _).trans (le_byt _ _) | exact le_lst _ _ | exact (Le.old _ _).trans (le_lst _ _) | exact (Le.old _ _).trans (Le.old _ _) | exact (Le.old _ _).trans ((Le.old _ _).trans (le_byt _ _)) | exact byt_nil_le | exact lst_nil_le | exact bytes_nil_le | exact list_nil_le)) ?_
  refine RunK.step rfl rfl (ok_bin rfl rfl rfl) ?_; refine RunK.as (.bool false) (by first | (simp; done) | (simp; omega)) ?_
  refine RunK.nil ?_
  refine A.sub (Sub.cons (t := 1) rfl (Sub.cons (t := 2) rfl (Sub.cons (t := 3) rfl (Sub.cons (t := 14) rfl (Sub.cons (t := 1000003) rfl Sub.nil))))) ?_
  refine A.no rfl ?_
  refine A.skip ?_
  refine End.normal_then (End.code ?_)
  refine A.regs (by kernel_rfl) (by kernel_rfl) (.inl rfl) ?_
  refine RunTK.last ?_
  refine RunK.step rfl rfl (ok_move rfl) ?_
  refine RunK.step rfl rfl (ok_str Try.underlying32 Try.underlying5 Try.underlying9 rfl (by first | exact Le.refl _ | exact Le.old _ _ | exact le_byt _ _ | exact (Le.old _ _).trans (le_byt _ _) | exact le_lst _ _ | exact (Le.old _ _).trans (le_lst _ _) | exact (Le.old _ _).trans (Le.old _ _) | exact (Le.old _ _).trans ((Le.old _ _).trans (le_byt _ _)) | exact byt_nil_le | exact lst_nil_le | exact bytes_nil_le | exact list_nil_le)) ?_
  refine RunK.step rfl rfl (ok_assign rfl) ?_
  refine RunK.nil ?_
  refine A.sub (Sub.cons (t := 1) rfl (Sub.cons (t := 2) rfl (Sub.cons (t := 3) rfl (Sub.cons (t := 7) rfl (Sub.cons (t := 1000003) rfl Sub.nil))))) ?_
  refine A.regs (by kernel_rfl) (by kernel_rfl) (.inl rfl) ?_
  refine RunTK.last ?_
  refine RunK.step rfl rfl (ok_field field28_0 (by decide) rfl) ?_
  refine RunK.step rfl rfl (ok_loadP (s := 1000003) (by decide) Try.underlying22 rfl size22 rfl rfl (by simp only [List.length_append, rowV_length, List.length_cons, List.length_nil]; decide) (K_key k _)) ?_
  refine RunK.step rfl rfl (ok_field field28_1 (by decide) rfl) ?_
  refine RunK.step rfl rfl (ok_loadP (s := 1000003) (by decide) Try.underlying26 rfl size26 rfl rfl (by simp only [List.length_append, rowV_length, List.length_cons, List.length_nil]; decide) (K_non k _ _)) ?_
  refine RunK.step rfl rfl (ok_move rfl) ?_
  refine RunK.step rfl rfl (ok_move rfl) ?_
  refine RunK.step rfl rfl (ok_call (Xor7_big k s c o l h1 hm (by omega)) (Args.cons rfl (Le.refl _) (Args.cons rfl (Le.refl _) (Args.cons rfl (Le.refl _) (Args.cons rfl (by first | exact Le.refl _ | exact Le.old _ _ | exact le_byt _ _ | exact (Le.old _ _).trans (le_byt _ _) | exact le_lst _ _ | exact (Le.old _ _).trans (le_lst _ _) | exact (Le.old _ _).trans (Le.old _ _) | exact (Le.old _ _).trans ((Le.old _ _).trans (le_byt _ _)) | exact byt_nil_le | exact lst_nil_le | exact bytes_nil_le | exact list_nil_le) Args.nil))))) ?_
  refine RunK.step rfl rfl (ok_move rfl) ?_
  refine RunK.step rfl rfl (ok_extract rfl rfl) ?_
  refine RunK.step rfl rfl (ok_extract rfl rfl) ?_
  refine RunK.step rfl rfl (ok_assign rfl) ?_
  refine RunK.step rfl rfl (ok_assign rfl) ?_
  refine RunK.nil ?_
  refine A.sub (Sub.cons (t := 1) rfl (Sub.cons (t := 2) rfl (Sub.cons (t := 3) rfl (Sub.cons (t := 7) rfl (Sub.cons (t := 8) rfl (Sub.cons (t := 9) rfl (Sub.cons (t := 1000003) rfl Sub.nil))))))) ?_
  refine A.seq ?_
  refine A.block ?_
  refine A.regs (by kernel_rfl) (by kernel_rfl) (.inl rfl) ?_
  refine RunTK.last ?_
  refine RunK.step rfl rfl (ok_move rfl) ?_
  refine RunK.step rfl rfl (ok_bin rfl rfl rfl) ?_; refine RunK.as (.bool false) (by first | (simp; done) | (simp; omega)) ?_
  refine RunK.step rfl rfl (ok_assign rfl) ?_
  refine RunK.nil ?_
  refine A.sub (Sub.cons (t := 1) rfl (Sub.cons (t := 2) rfl (Sub.cons (t := 3) rfl (Sub.cons (t := 7) rfl (Sub.cons (t := 8) rfl (Sub.cons (t := 9) rfl (Sub.cons (t := 28) rfl (Sub.cons (t := 1000003) rfl Sub.nil)))))))) ?_
  refine A.no rfl ?_
  refine A.regs (by kernel_rfl) (by kernel_rfl) (.inl rfl) ?_
  refine RunTK.last ?_
  refine RunK.step rfl rfl (ok_move rfl) ?_
  refine RunK.step rfl rfl (ok_move rfl) ?_
  refine RunK.step rfl rfl (ok_lenB Try.underlying32 rfl (by first | exact Le.refl _ | exact Le.old _ _ | exact le_byt _ _ | exact (Le.old _ _).trans (le_byt _ _) | exact le_lst _ _ | exact (Le.old _ _).trans (le_lst _ _) | exact (Le.old _ _).trans (Le.old _ _) | exact (Le.old _ _).trans ((Le.old _ _).trans (le_byt _ _)) | exact byt_nil_le | exact lst_nil_le | exact bytes_nil_le | exact list_nil_le)) ?_
  refine RunK.step rfl rfl (ok_bin rfl rfl rfl) ?_; refine RunK.as (.int .i64 (1048576 - (l.length : Int))) (by rw [wrap_i64 (by omega) (by omega)]) ?_
  refine RunK.step rfl rfl (ok_bin rfl rfl rfl) ?_; refine RunK.as (.bool true) (by first | (simp; done) | (simp; omega)) ?_
  refine RunK.step rfl rfl (ok_assign rfl) ?_
  refine RunK.nil ?_
  refine A.sub (Sub.cons (t := 1) rfl (Sub.cons (t := 2) rfl (Sub.cons (t := 3) rfl (Sub.cons (t := 7) rfl (Sub.cons (t := 8) rfl (Sub.cons (t := 9) rfl (Sub.cons (t := 37) rfl (Sub.cons (t := 1000003) rfl Sub.nil)))))))) ?_
  refine A.yes rfl ?_
  refine A.regs (by kernel_rfl) (by kernel_rfl) (.inl rfl) ?_
  refine RunTK.last ?_
  refine RunK.step rfl rfl (ok_move rfl) ?_
  refine RunK.step rfl rfl (ok_move rfl) ?_
  refine RunK.step rfl rfl (ok_call (same7_fn [] 3) (Args.cons rfl bytes_nil_le (Args.cons rfl (Le.refl _) (Args.cons rfl byt_nil_le (Args.cons rfl (Le.refl _) Args.nil))))) ?_
  refine RunK.step rfl rfl (ok_move rfl) ?_
  refine RunK.guarded rfl rfl rfl rfl (ok_call lives7_fn Args.nil) ?_
  refine RunK.step rfl rfl (ok_pick rfl rfl) ?_
  refine RunK.step rfl rfl (ok_assign rfl) ?_
  refine RunK.nil ?_
  refine A.sub (Sub.cons (t := 6) rfl (Sub.cons (t := 1000003) rfl Sub.nil)) ?_
  refine A.ret ?_
  refine End.ret_block ?_
  refine End.ret_then ?_
  exact End.ret1 rfl rfl (by first | exact Le.refl _ | exact Le.old _ _)
set_option maxHeartbeats 2000000 in
theorem StreamsXor_good (k : Nat → Nat) (hk : By k) (s c : Nat) (hs : s < 4294967296) (hc : c < 18446744073709551616) (o : Nat) (l : List UInt8) (h : l.length ≤ 60) (ho : o + l.length ≤ 1048576) : Fn Try.prog 4 [.v (aggV (rowV 16 k ++ [.int .u32 ((s : Nat) : Int), .int .u64 ((c : Nat) : Int)])), .v (.int .i64 ((o : Nat) : Int)), byt l] (.v (.bool true)) := by
  refine Fn.of Try.func4 rfl (by kernel_rfl) Try.ntmps4 (by simp) (fun w => [(0, .v (aggV (rowV 16 k ++ [.int .u32 ((s : Nat) : Int), .int .u64 ((c : Nat) : Int)]))), (1, .v (.int .i64 ((o : Nat) : Int))), (2, old w.heap.size (byt l))]) (fun w => (Start.v rfl (Start.v rfl (Start.old rfl Start.nil)))) fun w₀ => ?_
  refine A.regs (by kernel_rfl) (by kernel_rfl) (.inl rfl) ?_
  refine RunTK.new 0 (by decide) rfl (.inl rfl) ?_
  refine RunK.nil ?_
  refine ⟨_, _, eff_box (n := 83) (d := 3) (k := 1000003) rfl (by decide), fun b3 hb3 => ?_⟩
  have hBb3 := hb3.1
  refine RunTK.last ?_
  refine RunK.step rfl rfl (ok_assign rfl) ?_
  refine RunK.nil ?_
  refine A.sub (Sub.cons (t := 1) rfl (Sub.cons (t := 2) rfl (Sub.cons (t := 3) rfl (Sub.cons (t := 1000003) rfl Sub.nil)))) ?_
  refine A.seq ?_
  refine A.regs (by kernel_rfl) (by kernel_rfl) (.inl rfl) ?_
  refine RunTK.last ?_
  refine RunK.step rfl rfl (ok_move rfl) ?_
  refine RunK.step rfl rfl (ok_lenB Try.underlying32 rfl (by first | exact Le.refl _ | exact Le.old _ _ | exact le_byt _ _ | exact (Le.old _ _).trans (le_byt _ _) | exact le_lst _ _ | exact (Le.old _ _).trans (le_lst _ _) | exact (Le.old _ _).trans (Le.old _ _) | exact (Le.old _ _).trans ((Le.old _ _).trans (le_byt _ _)) | exact byt_nil_le | exact lst_nil_le | exact bytes_nil_le | exact list_nil_le)) ?_
  refine RunK.step rfl rfl (ok_bin rfl rfl rfl) ?_; refine RunK.as (.bool false) (by first | (simp; done) | (simp; omega)) ?_
  refine RunK.nil ?_
  refine A.sub (Sub.cons (t := 1) rfl (Sub.cons (t := 2) rfl (Sub.cons (t := 3) rfl (Sub.cons (t := 14) rfl (Sub.cons (t := 1000003) rfl Sub.nil))))) ?_
  refine A.no rfl ?_
  refine A.skip ?_
  refine End.normal_then (End.code ?_)
  refine A.regs (by kernel_rfl) (by kernel_rfl) (.inl rfl) ?_
  refine RunTK.last ?_
  refine RunK.step rfl rfl (ok_move rfl) ?_
  refine RunK.step rfl rfl (ok_str Try.underlying32 Try.underlying5 Try.underlying9 rfl (by first | exact Le.refl _ | exact Le.old _ _ | exact le_byt _ _ | exact (Le.old _ _).trans (le_byt _ _) | exact le_lst _ _ | exact (Le.old _ _).trans (le_lst _ _) | exact (Le.old _ _).trans (Le.old _ _) | exact (Le.old _ _).trans ((Le.old _ _).trans (le_byt _ _)) | exact byt_nil_le | exact lst_nil_le | exact bytes_nil_le | exact list_nil_le)) ?_
  refine RunK.step rfl rfl (ok_assign rfl) ?_
  refine RunK.nil ?_
  refine A.sub (Sub.cons (t := 1) rfl (Sub.cons (t := 2) rfl (Sub.cons (t := 3) rfl (Sub.cons (t := 7) rfl (Sub.cons (t := 1000003) rfl Sub.nil))))) ?_
  refine A.regs (by kernel_rfl) (by kernel_rfl) (.inl rfl) ?_
  refine RunTK.last ?_
  refine RunK.step rfl rfl (ok_field field28_0 (by decide) rfl) ?_
  refine RunK.step rfl rfl (ok_loadP (s := 1000003) (by decide) Try.underlying22 rfl size22 rfl rfl (by simp only [List.length_append, rowV_length, List.length_cons, List.length_nil]; decide) (K_key k _)) ?_
  refine RunK.step rfl rfl (ok_field field28_1 (by decide) rfl) ?_
  refine RunK.step rfl rfl (ok_loadP (s := 1000003) (by decide) Try.underlying26 rfl size26 rfl rfl (by simp only [List.length_append, rowV_length, List.length_cons, List.length_nil]; decide) (K_non k _ _)) ?_
  refine RunK.step rfl rfl (ok_move rfl) ?_
  refine RunK.step rfl rfl (ok_move rfl) ?_
  refine RunK.step rfl rfl (ok_call (Xor7_fn k hk s c o l hs hc ho) (Args.cons rfl (Le.refl _) (Args.cons rfl (Le.refl _) (Args.cons rfl (Le.refl _) (Args.cons rfl (by first | exact Le.refl _ | exact Le.old _ _ | exact le_byt _ _ | exact (Le.old _ _).trans (le_byt _ _) | exact le_lst _ _ | exact (Le.old _ _).trans (le_lst _ _) | exact (Le.old _ _).trans (Le.old _ _) | exact (Le.old _ _).trans ((Le.old _ _).trans (le_byt _ _)) | exact byt_nil_le | exact lst_nil_le | exact bytes_nil_le | exact list_nil_le) Args.nil))))) ?_
  refine RunK.step rfl rfl (ok_move rfl) ?_
  refine RunK.step rfl rfl (ok_extract rfl rfl) ?_
  refine RunK.step rfl rfl (ok_extract rfl rfl) ?_
  refine RunK.step rfl rfl (ok_assign rfl) ?_
  refine RunK.step rfl rfl (ok_assign rfl) ?_
  refine RunK.nil ?_
  refine A.sub (Sub.cons (t := 1) rfl (Sub.cons (t := 2) rfl (Sub.cons (t := 3) rfl (Sub.cons (t := 7) rfl (Sub.cons (t := 8) rfl (Sub.cons (t := 9) rfl (Sub.cons (t := 1000003) rfl Sub.nil))))))) ?_
  refine A.seq ?_
  refine A.block ?_
  refine A.regs (by kernel_rfl) (by kernel_rfl) (.inl rfl) ?_
  refine RunTK.last ?_
  refine RunK.step rfl rfl (ok_move rfl) ?_
  refine RunK.step rfl rfl (ok_bin rfl rfl rfl) ?_; refine RunK.as (.bool false) (by first | (simp; done) | (simp; omega)) ?_
  refine RunK.step rfl rfl (ok_assign rfl) ?_
  refine RunK.nil ?_
  refine A.sub (Sub.cons (t := 1) rfl (Sub.cons (t := 2) rfl (Sub.cons (t := 3) rfl (Sub.cons (t := 7) rfl (Sub.cons (t := 8) rfl (Sub.cons (t := 9) rfl (Sub.cons (t := 28) rfl (Sub.cons (t := 1000003) rfl Sub.nil)))))))) ?_
  refine A.no rfl ?_
  refine A.regs (by kernel_rfl) (by kernel_rfl) (.inl rfl) ?_
  refine RunTK.last ?_
  refine RunK.step rfl rfl (ok_move rfl) ?_
  refine RunK.step rfl rfl (ok_move rfl) ?_
  refine RunK.step rfl rfl (ok_lenB Try.underlying32 rfl (by first | exact Le.refl _ | exact Le.old _ _ | exact le_byt _ _ | exact (Le.old _ _).trans (le_byt _ _) | exact le_lst _ _ | exact (Le.old _ _).trans (le_lst _ _) | exact (Le.old _ _).trans (Le.old _ _) | exact (Le.old _ _).trans ((Le.old _ _).trans (le_byt _ _)) | exact byt_nil_le | exact lst_nil_le | exact bytes_nil_le | exact list_nil_le)) ?_
  refine RunK.step rfl rfl (ok_bin rfl rfl rfl) ?_; refine RunK.as (.int .i64 (1048576 - (l.length : Int))) (by rw [wrap_i64 (by omega) (by omega)]) ?_
  refine RunK.step rfl rfl (ok_bin rfl rfl rfl) ?_; refine RunK.as (.bool false) (by first | (simp; done) | (simp; omega)) ?_
  refine RunK.step rfl rfl (ok_assign rfl) ?_
  refine RunK.nil ?_
  refine A.sub (Sub.cons (t := 1) rfl (Sub.cons (t := 2) rfl (Sub.cons (t := 3) rfl (Sub.cons (t := 7) rfl (Sub.cons (t := 8) rfl (Sub.cons (t := 9) rfl (Sub.cons (t := 37) rfl (Sub.cons (t := 1000003) rfl Sub.nil)))))))) ?_
  refine A.no rfl ?_
  refine A.skip ?_
  refine End.normal_block ?_
  refine End.normal_then (End.code ?_)
  refine A.seq ?_
  refine A.regs (by kernel_rfl) (by kernel_rfl) (.inl rfl) ?_
  refine RunTK.last ?_
  refine RunK.step rfl rfl (ok_move rfl) ?_
  refine RunK.step rfl rfl (ok_move rfl) ?_
  refine RunK.step rfl rfl (ok_field field28_0 (by decide) rfl) ?_
  refine RunK.step rfl rfl (ok_loadP (s := 1000003) (by decide) Try.underlying22 rfl size22 rfl rfl (by simp only [List.length_append, rowV_length, List.length_cons, List.length_nil]; decide) (K_key k _)) ?_
  refine RunK.step rfl rfl (ok_field field28_1 (by decide) rfl) ?_
  refine RunK.step rfl rfl (ok_loadP (s := 1000003) (by decide) Try.underlying26 rfl size26 rfl rfl (by simp only [List.length_append, rowV_length, List.length_cons, List.length_nil]; decide) (K_non k _ _)) ?_
  refine RunK.step rfl rfl (ok_move rfl) ?_
  refine RunK.step rfl rfl (ok_move rfl) ?_
  refine RunK.step rfl rfl (ok_call (ref7Xor_fn k hk s c o l hs hc ho) (Args.cons rfl (Le.refl _) (Args.cons rfl (Le.refl _) (Args.cons rfl (Le.refl _) (Args.cons rfl (by first | exact Le.refl _ | exact Le.old _ _ | exact le_byt _ _ | exact (Le.old _ _).trans (le_byt _ _) | exact le_lst _ _ | exact (Le.old _ _).trans (le_lst _ _) | exact (Le.old _ _).trans (Le.old _ _) | exact (Le.old _ _).trans ((Le.old _ _).trans (le_byt _ _)) | exact byt_nil_le | exact lst_nil_le | exact bytes_nil_le | exact list_nil_le) Args.nil))))) ?_
  refine RunK.step rfl rfl (ok_call (same7_fn (xorK k s c o l) 0) (Args.cons rfl (Le.eq (by rw [xorK_length])) (Args.cons rfl (Le.refl _) (Args.cons rfl (Le.refl _) (Args.cons rfl (Le.refl _) Args.nil))))) ?_
  refine RunK.step rfl rfl (ok_not rfl) ?_; refine RunK.as (.bool false) (by rfl) ?_
  refine RunK.step rfl rfl (ok_move rfl) ?_
  refine RunK.guarded rfl rfl rfl rfl (ok_move rfl) ?_
  refine RunK.guarded rfl rfl rfl rfl (ok_str Try.underlying32 Try.underlying5 Try.underlying9 rfl (by first | exact Le.refl _ | exact Le.old _ _ | exact le_byt _ _ | exact (Le.old _ _).trans (le_byt _ _) | exact le_lst _ _ | exact (Le.old _ _).trans (le_lst _ _) | exact (Le.old _ _).trans (Le.old _ _) | exact (Le.old _ _).trans ((Le.old _ _).trans (le_byt _ _)) | exact byt_nil_le | exact lst_nil_le | exact bytes_nil_le | exact list_nil_le)) ?_
  refine RunK.guarded rfl rfl rfl rfl (ok_move rfl) ?_
  refine RunK.guarded rfl rfl rfl rfl (ok_bin rfl rfl rfl) ?_; refine RunK.as (.bool false) (by simp) ?_
  refine RunK.step rfl rfl (ok_pick rfl rfl) ?_
  refine RunK.nil ?_
  refine A.sub (Sub.cons (t := 1) rfl (Sub.cons (t := 2) rfl (Sub.cons (t := 3) rfl (Sub.cons (t := 8) rfl (Sub.cons (t := 65) rfl (Sub.cons (t := 1000003) rfl Sub.nil)))))) ?_
  refine A.no rfl ?_
  refine A.skip ?_
  refine End.normal_then (End.code ?_)
  refine A.regs (by kernel_rfl) (by kernel_rfl) (.inl rfl) ?_
  refine RunTK.last ?_
  refine RunK.step rfl rfl (ok_field field28_0 (by decide) rfl) ?_
  refine RunK.step rfl rfl (ok_loadP (s := 1000003) (by decide) Try.underlying22 rfl size22 rfl rfl (by simp only [List.length_append, rowV_length, List.length_cons, List.length_nil]; decide) (K_key k _)) ?_
  refine RunK.step rfl rfl (ok_field field28_1 (by decide) rfl) ?_
  refine RunK.step rfl rfl (ok_loadP (s := 1000003) (by decide) Try.underlying26 rfl size26 rfl rfl (by simp only [List.length_append, rowV_length, List.length_cons, List.length_nil]; decide) (K_non k _ _)) ?_
  refine RunK.step rfl rfl (ok_move rfl) ?_
  refine RunK.step rfl rfl (ok_move rfl) ?_
  refine RunK.step rfl rfl (ok_call (Xor7_fn k hk s c o (xorK k s c o l) hs hc (by rw [xorK_length]; exact ho)) (Args.cons rfl (Le.refl _) (Args.cons rfl (Le.refl _) (Args.cons rfl (Le.refl _) (Args.cons rfl (le_byt _ _) Args.nil))))) ?_
  refine RunK.step rfl rfl (ok_move rfl) ?_
  refine RunK.step rfl rfl (ok_extract rfl rfl) ?_
  refine RunK.step rfl rfl (ok_extract rfl rfl) ?_
  refine RunK.step rfl rfl (ok_assign rfl) ?_
  refine RunK.step rfl rfl (ok_assign rfl) ?_
  refine RunK.nil ?_
  refine A.sub (Sub.cons (t := 2) rfl (Sub.cons (t := 10) rfl (Sub.cons (t := 11) rfl (Sub.cons (t := 1000003) rfl Sub.nil)))) ?_
  refine A.regs (by kernel_rfl) (by kernel_rfl) (.inl rfl) ?_
  refine RunTK.last ?_
  refine RunK.step rfl rfl (ok_move rfl) ?_
  refine RunK.step rfl rfl (ok_move rfl) ?_
  refine RunK.step rfl rfl (ok_move rfl) ?_
  refine RunK.step rfl rfl (ok_call (same7_fn l 0) (Args.cons rfl (Le.eq (by rw [xorK_xorK hk, xorK_length])) (Args.cons rfl (Le.refl _) (Args.cons rfl (by first | exact Le.refl _ | exact Le.old _ _ | exact le_byt _ _ | exact (Le.old _ _).trans (le_byt _ _) | exact le_lst _ _ | exact (Le.old _ _).trans (le_lst _ _) | exact (Le.old _ _).trans (Le.old _ _) | exact (Le.old _ _).trans ((Le.old _ _).trans (le_byt _ _)) | exact byt_nil_le | exact lst_nil_le | exact bytes_nil_le | exact list_nil_le) (Args.cons rfl (Le.refl _) Args.nil))))) ?_
  refine RunK.step rfl rfl (ok_move rfl) ?_
  refine RunK.guarded rfl rfl rfl rfl (ok_call lives7_fn Args.nil) ?_
  refine RunK.step rfl rfl (ok_pick rfl rfl) ?_
  refine RunK.step rfl rfl (ok_assign rfl) ?_
  refine RunK.nil ?_
  refine A.sub (Sub.cons (t := 6) rfl (Sub.cons (t := 1000003) rfl Sub.nil)) ?_
  refine A.ret ?_
  exact End.ret1 rfl rfl (by first | exact Le.refl _ | exact Le.old _ _)
theorem StreamsXor_fn (k : Nat → Nat) (hk : By k) (s c : Nat) (hs : s < 4294967296) (hc : c < 18446744073709551616) (o : Int) (l : List UInt8) (hl : -9223372036854775808 ≤ o) (hm : o ≤ 9223372036854775807) : Fn Try.prog 4 [.v (aggV (rowV 16 k ++ [.int .u32 ((s : Nat) : Int), .int .u64 ((c : Nat) : Int)])), .v (.int .i64 o), byt l] (.v (.bool true)) := by
  by_cases h : l.length ≤ 60
  · by_cases h1 : o < 0
    · exact StreamsXor_neg k hk s c hs hc o l h h1
    · by_cases h2 : 1048576 - (l.length : Int) < o
      · exact StreamsXor_big k hk s c hs hc o l h (by omega) hm h2
      · obtain ⟨m, rfl⟩ := Int.eq_ofNat_of_zero_le (show 0 ≤ o by omega)
        exact StreamsXor_good k hk s c hs hc m l h (by omega)
  · exact StreamsXor_long k hk s c hs hc o l (by omega)
set_option maxHeartbeats 1000000 in
theorem StreamsUsed_A (s c : Nat) (o n : Int) (h : o < 0) : Fn Try.prog 6 [.v (aggV ([.int .u32 ((s : Nat) : Int), .int .u64 ((c : Nat) : Int)])), .v (.int .i64 o), .v (.int .i64 n)] (.v (.bool true)) := by
  refine Fn.of Try.func6 rfl (by kernel_rfl) Try.ntmps6 (by simp) (fun w => [(0, .v (aggV ([.int .u32 ((s : Nat) : Int), .int .u64 ((c : Nat) : Int)]))), (1, .v (.int .i64 o)), (2, .v (.int .i64 n))]) (fun w => (Start.v rfl (Start.v rfl (Start.v rfl Start.nil)))) fun w₀ => ?_
  refine A.regs (by kernel_rfl) (by kernel_rfl) (.inl rfl) ?_
  refine RunTK.new 0 (by decide) rfl (.inl rfl) ?_
  refine RunK.nil ?_
  refine ⟨_, _, eff_box (n := 67) (d := 3) (k := 1000003) rfl (by decide), fun b3 hb3 => ?_⟩
  have hBb3 := hb3.1
  refine RunTK.last ?_
  refine RunK.step rfl rfl (ok_assign rfl) ?_
  refine RunK.nil ?_
  refine A.sub (Sub.cons (t := 1) rfl (Sub.cons (t := 2) rfl (Sub.cons (t := 3) rfl (Sub.cons (t := 1000003) rfl Sub.nil)))) ?_
  refine A.seq ?_
  refine A.block ?_
  refine A.regs (by kernel_rfl) (by kernel_rfl) (.inl rfl) ?_
  refine RunTK.last ?_
  refine RunK.step rfl rfl (ok_move rfl) ?_
  refine RunK.step rfl rfl (ok_bin rfl rfl rfl) ?_; refine RunK.as (.bool true) (by first | (simp; done) | (simp; omega)) ?_
  refine RunK.step rfl rfl (ok_move rfl) ?_
  refine RunK.skipped rfl rfl rfl rfl rfl ?_
  refine RunK.skipped rfl rfl rfl rfl rfl ?_
  refine RunK.step rfl rfl (ok_pick rfl rfl) ?_
  refine RunK.step rfl rfl (ok_assign rfl) ?_
  refine RunK.nil ?_
  refine A.sub (Sub.cons (t := 1) rfl (Sub.cons (t := 2) rfl (Sub.cons (t := 3) rfl (Sub.cons (t := 7) rfl (Sub.cons (t := 1000003) rfl Sub.nil))))) ?_
  refine A.yes rfl ?_
  refine A.regs (by kernel_rfl) (by kernel_rfl) (.inl rfl) ?_
  refine RunTK.last ?_
  refine RunK.step rfl rfl (ok_loadA (s := 1000003) (by decide) Try.underlying26 rfl (size26.of (rfl)) rfl rfl) ?_
  refine RunK.step rfl rfl (ok_move rfl) ?_
  refine RunK.step rfl rfl (ok_move rfl) ?_
  refine RunK.step rfl rfl (ok_lit [] [.int .u32 0, .int .u32 0] (fun _ _ => rfl) (by kernel_rfl)) ?_
  refine RunK.step rfl rfl (ok_call (used7_negO s c o n [.int .u32 0, .int .u32 0] h) (Args.cons rfl (Le.refl _) (Args.cons rfl (Le.refl _) (Args.cons rfl (Le.refl _) (Args.cons rfl (Le.refl _) (Args.cons rfl (Le.refl _) Args.nil)))))) ?_
  refine RunK.step rfl rfl (ok_move rfl) ?_
  refine RunK.guarded rfl rfl rfl rfl (ok_call lives7_fn Args.nil) ?_
  refine RunK.step rfl rfl (ok_pick rfl rfl) ?_
  refine RunK.step rfl rfl (ok_assign rfl) ?_
  refine RunK.nil ?_
  refine A.sub (Sub.cons (t := 6) rfl (Sub.cons (t := 1000003) rfl Sub.nil)) ?_
  refine A.ret ?_
  refine End.ret_block ?_
  refine End.ret_then ?_
  exact End.ret1 rfl rfl (by first | exact Le.refl _ | exact Le.old _ _)
set_option maxHeartbeats 1000000 in
theorem StreamsUsed_B (s c : Nat) (o n : Int) (h : 0 ≤ o) (h2 : n < 0) : Fn Try.prog 6 [.v (aggV ([.int .u32 ((s : Nat) : Int), .int .u64 ((c : Nat) : Int)])), .v (.int .i64 o), .v (.int .i64 n)] (.v (.bool true)) := by
  refine Fn.of Try.func6 rfl (by kernel_rfl) Try.ntmps6 (by simp) (fun w => [(0, .v (aggV ([.int .u32 ((s : Nat) : Int), .int .u64 ((c : Nat) : Int)]))), (1, .v (.int .i64 o)), (2, .v (.int .i64 n))]) (fun w => (Start.v rfl (Start.v rfl (Start.v rfl Start.nil)))) fun w₀ => ?_
  refine A.regs (by kernel_rfl) (by kernel_rfl) (.inl rfl) ?_
  refine RunTK.new 0 (by decide) rfl (.inl rfl) ?_
  refine RunK.nil ?_
  refine ⟨_, _, eff_box (n := 67) (d := 3) (k := 1000003) rfl (by decide), fun b3 hb3 => ?_⟩
  have hBb3 := hb3.1
  refine RunTK.last ?_
  refine RunK.step rfl rfl (ok_assign rfl) ?_
  refine RunK.nil ?_
  refine A.sub (Sub.cons (t := 1) rfl (Sub.cons (t := 2) rfl (Sub.cons (t := 3) rfl (Sub.cons (t := 1000003) rfl Sub.nil)))) ?_
  refine A.seq ?_
  refine A.block ?_
  refine A.regs (by kernel_rfl) (by kernel_rfl) (.inl rfl) ?_
  refine RunTK.last ?_
  refine RunK.step rfl rfl (ok_move rfl) ?_
  refine RunK.step rfl rfl (ok_bin rfl rfl rfl) ?_; refine RunK.as (.bool false) (by first | (simp; done) | (simp; omega)) ?_
  refine RunK.step rfl rfl (ok_move rfl) ?_
  refine RunK.guarded rfl rfl rfl rfl (ok_move rfl) ?_
  refine RunK.guarded rfl rfl rfl rfl (ok_bin rfl rfl rfl) ?_; refine RunK.as (.bool true) (by first | (simp; done) | (simp; omega)) ?_
  refine RunK.step rfl rfl (ok_pick rfl rfl) ?_
  refine RunK.step rfl rfl (ok_assign rfl) ?_
  refine RunK.nil ?_
  refine A.sub (Sub.cons (t := 1) rfl (Sub.cons (t := 2) rfl (Sub.cons (t := 3) rfl (Sub.cons (t := 7) rfl (Sub.cons (t := 1000003) rfl Sub.nil))))) ?_
  refine A.yes rfl ?_
  refine A.regs (by kernel_rfl) (by kernel_rfl) (.inl rfl) ?_
  refine RunTK.last ?_
  refine RunK.step rfl rfl (ok_loadA (s := 1000003) (by decide) Try.underlying26 rfl (size26.of (rfl)) rfl rfl) ?_
  refine RunK.step rfl rfl (ok_move rfl) ?_
  refine RunK.step rfl rfl (ok_move rfl) ?_
  refine RunK.step rfl rfl (ok_lit [] [.int .u32 0, .int .u32 0] (fun _ _ => rfl) (by kernel_rfl)) ?_
  refine RunK.step rfl rfl (ok_call (used7_negN s c o n [.int .u32 0, .int .u32 0] h h2) (Args.cons rfl (Le.refl _) (Args.cons rfl (Le.refl _) (Args.cons rfl (Le.refl _) (Args.cons rfl (Le.refl _) (Args.cons rfl (Le.refl _) Args.nil)))))) ?_
  refine RunK.step rfl rfl (ok_move rfl) ?_
  refine RunK.guarded rfl rfl rfl rfl (ok_call lives7_fn Args.nil) ?_
  refine RunK.step rfl rfl (ok_pick rfl rfl) ?_
  refine RunK.step rfl rfl (ok_assign rfl) ?_
  refine RunK.nil ?_
  refine A.sub (Sub.cons (t := 6) rfl (Sub.cons (t := 1000003) rfl Sub.nil)) ?_
  refine A.ret ?_
  refine End.ret_block ?_
  refine End.ret_then ?_
  exact End.ret1 rfl rfl (by first | exact Le.refl _ | exact Le.old _ _)
set_option maxHeartbeats 1000000 in
theorem StreamsUsed_C (s c : Nat) (o n : Int) (h : 0 ≤ o) (hm : o ≤ 9223372036854775807) (h2 : 0 ≤ n) (h3 : 1048576 < o) : Fn Try.prog 6 [.v (aggV ([.int .u32 ((s : Nat) : Int), .int .u64 ((c : Nat) : Int)])), .v (.int .i64 o), .v (.int .i64 n)] (.v (.bool true)) := by
  refine Fn.of Try.func6 rfl (by kernel_rfl) Try.ntmps6 (by simp) (fun w => [(0, .v (aggV ([.int .u32 ((s : Nat) : Int), .int .u64 ((c : Nat) : Int)]))), (1, .v (.int .i64 o)), (2, .v (.int .i64 n))]) (fun w => (Start.v rfl (Start.v rfl (Start.v rfl Start.nil)))) fun w₀ => ?_
  refine A.regs (by kernel_rfl) (by kernel_rfl) (.inl rfl) ?_
  refine RunTK.new 0 (by decide) rfl (.inl rfl) ?_
  refine RunK.nil ?_
  refine ⟨_, _, eff_box (n := 67) (d := 3) (k := 1000003) rfl (by decide), fun b3 hb3 => ?_⟩
  have hBb3 := hb3.1
  refine RunTK.last ?_
  refine RunK.step rfl rfl (ok_assign rfl) ?_
  refine RunK.nil ?_
  refine A.sub (Sub.cons (t := 1) rfl (Sub.cons (t := 2) rfl (Sub.cons (t := 3) rfl (Sub.cons (t := 1000003) rfl Sub.nil)))) ?_
  refine A.seq ?_
  refine A.block ?_
  refine A.regs (by kernel_rfl) (by kernel_rfl) (.inl rfl) ?_
  refine RunTK.last ?_
  refine RunK.step rfl rfl (ok_move rfl) ?_
  refine RunK.step rfl rfl (ok_bin rfl rfl rfl) ?_; refine RunK.as (.bool false) (by first | (simp; done) | (simp; omega)) ?_
  refine RunK.step rfl rfl (ok_move rfl) ?_
  refine RunK.guarded rfl rfl rfl rfl (ok_move rfl) ?_
  refine RunK.guarded rfl rfl rfl rfl (ok_bin rfl rfl rfl) ?_; refine RunK.as (.bool false) (by first | (simp; done) | (simp; omega)) ?_
  refine RunK.step rfl rfl (ok_pick rfl rfl) ?_
  refine RunK.step rfl rfl (ok_assign rfl) ?_
  refine RunK.nil ?_
  refine A.sub (Sub.cons (t := 1) rfl (Sub.cons (t := 2) rfl (Sub.cons (t := 3) rfl (Sub.cons (t := 7) rfl (Sub.cons (t := 1000003) rfl Sub.nil))))) ?_
  refine A.no rfl ?_
  refine A.regs (by kernel_rfl) (by kernel_rfl) (.inl rfl) ?_
  refine RunTK.last ?_
  refine RunK.step rfl rfl (ok_move rfl) ?_
  refine RunK.step rfl rfl (ok_bin rfl rfl rfl) ?_; refine RunK.as (.bool true) (by first | (simp; done) | (simp; omega)) ?_
  refine RunK.step rfl rfl (ok_move rfl) ?_
  refine RunK.skipped rfl rfl rfl rfl rfl ?_
  refine RunK.skipped rfl rfl rfl rfl rfl ?_
  refine RunK.skipped rfl rfl rfl rfl rfl ?_
  refine RunK.skipped rfl rfl rfl rfl rfl ?_
  refine RunK.step rfl rfl (ok_pick rfl rfl) ?_
  refine RunK.step rfl rfl (ok_assign rfl) ?_
  refine RunK.nil ?_
  refine A.sub (Sub.cons (t := 1) rfl (Sub.cons (t := 2) rfl (Sub.cons (t := 3) rfl (Sub.cons (t := 22) rfl (Sub.cons (t := 1000003) rfl Sub.nil))))) ?_
  refine A.yes rfl ?_
  refine A.regs (by kernel_rfl) (by kernel_rfl) (.inl rfl) ?_
  refine RunTK.last ?_
  refine RunK.step rfl rfl (ok_loadA (s := 1000003) (by decide) Try.underlying26 rfl (size26.of (rfl)) rfl rfl) ?_
  refine RunK.step rfl rfl (ok_move rfl) ?_
  refine RunK.step rfl rfl (ok_move rfl) ?_
  refine RunK.step rfl rfl (ok_lit [] [.int .u32 0, .int .u32 0] (fun _ _ => rfl) (by kernel_rfl)) ?_
  refine RunK.step rfl rfl (ok_call (used7_big s c o n [.int .u32 0, .int .u32 0] h hm h2 (by omega)) (Args.cons rfl (Le.refl _) (Args.cons rfl (Le.refl _) (Args.cons rfl (Le.refl _) (Args.cons rfl (Le.refl _) (Args.cons rfl (Le.refl _) Args.nil)))))) ?_
  refine RunK.step rfl rfl (ok_move rfl) ?_
  refine RunK.guarded rfl rfl rfl rfl (ok_call lives7_fn Args.nil) ?_
  refine RunK.step rfl rfl (ok_pick rfl rfl) ?_
  refine RunK.step rfl rfl (ok_assign rfl) ?_
  refine RunK.nil ?_
  refine A.sub (Sub.cons (t := 6) rfl (Sub.cons (t := 1000003) rfl Sub.nil)) ?_
  refine A.ret ?_
  refine End.ret_block ?_
  refine End.ret_then ?_
  exact End.ret1 rfl rfl (by first | exact Le.refl _ | exact Le.old _ _)
set_option maxHeartbeats 1000000 in
theorem StreamsUsed_D (s c : Nat) (o n : Int) (h : 0 ≤ o) (hm : o ≤ 9223372036854775807) (h2 : 0 ≤ n) (h3 : o ≤ 1048576) (h4 : 1048576 - o < n) : Fn Try.prog 6 [.v (aggV ([.int .u32 ((s : Nat) : Int), .int .u64 ((c : Nat) : Int)])), .v (.int .i64 o), .v (.int .i64 n)] (.v (.bool true)) := by
  refine Fn.of Try.func6 rfl (by kernel_rfl) Try.ntmps6 (by simp) (fun w => [(0, .v (aggV ([.int .u32 ((s : Nat) : Int), .int .u64 ((c : Nat) : Int)]))), (1, .v (.int .i64 o)), (2, .v (.int .i64 n))]) (fun w => (Start.v rfl (Start.v rfl (Start.v rfl Start.nil)))) fun w₀ => ?_
  refine A.regs (by kernel_rfl) (by kernel_rfl) (.inl rfl) ?_
  refine RunTK.new 0 (by decide) rfl (.inl rfl) ?_
  refine RunK.nil ?_
  refine ⟨_, _, eff_box (n := 67) (d := 3) (k := 1000003) rfl (by decide), fun b3 hb3 => ?_⟩
  have hBb3 := hb3.1
  refine RunTK.last ?_
  refine RunK.step rfl rfl (ok_assign rfl) ?_
  refine RunK.nil ?_
  refine A.sub (Sub.cons (t := 1) rfl (Sub.cons (t := 2) rfl (Sub.cons (t := 3) rfl (Sub.cons (t := 1000003) rfl Sub.nil)))) ?_
  refine A.seq ?_
  refine A.block ?_
  refine A.regs (by kernel_rfl) (by kernel_rfl) (.inl rfl) ?_
  refine RunTK.last ?_
  refine RunK.step rfl rfl (ok_move rfl) ?_
  refine RunK.step rfl rfl (ok_bin rfl rfl rfl) ?_; refine RunK.as (.bool false) (by first | (simp; done) | (simp; omega)) ?_
  refine RunK.step rfl rfl (ok_move rfl) ?_
  refine RunK.guarded rfl rfl rfl rfl (ok_move rfl) ?_
  refine RunK.guarded rfl rfl rfl rfl (ok_bin rfl rfl rfl) ?_; refine RunK.as (.bool false) (by first | (simp; done) | (simp; omega)) ?_
  refine RunK.step rfl rfl (ok_pick rfl rfl) ?_
  refine RunK.step rfl rfl (ok_assign rfl) ?_
  refine RunK.nil ?_
  refine A.sub (Sub.cons (t := 1) rfl (Sub.cons (t := 2) rfl (Sub.cons (t := 3) rfl (Sub.cons (t := 7) rfl (Sub.cons (t := 1000003) rfl Sub.nil))))) ?_
  refine A.no rfl ?_
  refine A.regs (by kernel_rfl) (by kernel_rfl) (.inl rfl) ?_
  refine RunTK.last ?_
  refine RunK.step rfl rfl (ok_move rfl) ?_
  refine RunK.step rfl rfl (ok_bin rfl rfl rfl) ?_; refine RunK.as (.bool false) (by first | (simp; done) | (simp; omega)) ?_
  refine RunK.step rfl rfl (ok_move rfl) ?_
  refine RunK.guarded rfl rfl rfl rfl (ok_move rfl) ?_
  refine RunK.guarded rfl rfl rfl rfl (ok_move rfl) ?_
  refine RunK.guarded rfl rfl rfl rfl (ok_bin rfl rfl rfl) ?_; refine RunK.as (.int .i64 (1048576 - o)) (by rw [wrap_i64 (by omega) (by omega)]) ?_
  refine RunK.guarded rfl rfl rfl rfl (ok_bin rfl rfl rfl) ?_; refine RunK.as (.bool true) (by first | (simp; done) | (simp; omega)) ?_
  refine RunK.step rfl rfl (ok_pick rfl rfl) ?_
  refine RunK.step rfl rfl (ok_assign rfl) ?_
  refine RunK.nil ?_
  refine A.sub (Sub.cons (t := 1) rfl (Sub.cons (t := 2) rfl (Sub.cons (t := 3) rfl (Sub.cons (t := 22) rfl (Sub.cons (t := 1000003) rfl Sub.nil))))) ?_
  refine A.yes rfl ?_
  refine A.regs (by kernel_rfl) (by kernel_rfl) (.inl rfl) ?_
  refine RunTK.last ?_
  refine RunK.step rfl rfl (ok_loadA (s := 1000003) (by decide) Try.underlying26 rfl (size26.of (rfl)) rfl rfl) ?_
  refine RunK.step rfl rfl (ok_move rfl) ?_
  refine RunK.step rfl rfl (ok_move rfl) ?_
  refine RunK.step rfl rfl (ok_lit [] [.int .u32 0, .int .u32 0] (fun _ _ => rfl) (by kernel_rfl)) ?_
  refine RunK.step rfl rfl (ok_call (used7_big s c o n [.int .u32 0, .int .u32 0] h hm h2 h4) (Args.cons rfl (Le.refl _) (Args.cons rfl (Le.refl _) (Args.cons rfl (Le.refl _) (Args.cons rfl (Le.refl _) (Args.cons rfl (Le.refl _) Args.nil)))))) ?_
  refine RunK.step rfl rfl (ok_move rfl) ?_
  refine RunK.guarded rfl rfl rfl rfl (ok_call lives7_fn Args.nil) ?_
  refine RunK.step rfl rfl (ok_pick rfl rfl) ?_
  refine RunK.step rfl rfl (ok_assign rfl) ?_
  refine RunK.nil ?_
  refine A.sub (Sub.cons (t := 6) rfl (Sub.cons (t := 1000003) rfl Sub.nil)) ?_
  refine A.ret ?_
  refine End.ret_block ?_
  refine End.ret_then ?_
  exact End.ret1 rfl rfl (by first | exact Le.refl _ | exact Le.old _ _)
set_option maxHeartbeats 1000000 in
theorem StreamsUsed_E (s c : Nat) (o n : Int) (h : 0 ≤ o) (h3 : o ≤ 1048576) (h2 : n = 0) : Fn Try.prog 6 [.v (aggV ([.int .u32 ((s : Nat) : Int), .int .u64 ((c : Nat) : Int)])), .v (.int .i64 o), .v (.int .i64 n)] (.v (.bool true)) := by
  refine Fn.of Try.func6 rfl (by kernel_rfl) Try.ntmps6 (by simp) (fun w => [(0, .v (aggV ([.int .u32 ((s : Nat) : Int), .int .u64 ((c : Nat) : Int)]))), (1, .v (.int .i64 o)), (2, .v (.int .i64 n))]) (fun w => (Start.v rfl (Start.v rfl (Start.v rfl Start.nil)))) fun w₀ => ?_
  refine A.regs (by kernel_rfl) (by kernel_rfl) (.inl rfl) ?_
  refine RunTK.new 0 (by decide) rfl (.inl rfl) ?_
  refine RunK.nil ?_
  refine ⟨_, _, eff_box (n := 67) (d := 3) (k := 1000003) rfl (by decide), fun b3 hb3 => ?_⟩
  have hBb3 := hb3.1
  refine RunTK.last ?_
  refine RunK.step rfl rfl (ok_assign rfl) ?_
  refine RunK.nil ?_
  refine A.sub (Sub.cons (t := 1) rfl (Sub.cons (t := 2) rfl (Sub.cons (t := 3) rfl (Sub.cons (t := 1000003) rfl Sub.nil)))) ?_
  refine A.seq ?_
  refine A.block ?_
  refine A.regs (by kernel_rfl) (by kernel_rfl) (.inl rfl) ?_
  refine RunTK.last ?_
  refine RunK.step rfl rfl (ok_move rfl) ?_
  refine RunK.step rfl rfl (ok_bin rfl rfl rfl) ?_; refine RunK.as (.bool false) (by first | (simp; done) | (simp; omega)) ?_
  refine RunK.step rfl rfl (ok_move rfl) ?_
  refine RunK.guarded rfl rfl rfl rfl (ok_move rfl) ?_
  refine RunK.guarded rfl rfl rfl rfl (ok_bin rfl rfl rfl) ?_; refine RunK.as (.bool false) (by first | (simp; done) | (simp; omega)) ?_
  refine RunK.step rfl rfl (ok_pick rfl rfl) ?_
  refine RunK.step rfl rfl (ok_assign rfl) ?_
  refine RunK.nil ?_
  refine A.sub (Sub.cons (t := 1) rfl (Sub.cons (t := 2) rfl (Sub.cons (t := 3) rfl (Sub.cons (t := 7) rfl (Sub.cons (t := 1000003) rfl Sub.nil))))) ?_
  refine A.no rfl ?_
  refine A.regs (by kernel_rfl) (by kernel_rfl) (.inl rfl) ?_
  refine RunTK.last ?_
  refine RunK.step rfl rfl (ok_move rfl) ?_
  refine RunK.step rfl rfl (ok_bin rfl rfl rfl) ?_; refine RunK.as (.bool false) (by first | (simp; done) | (simp; omega)) ?_
  refine RunK.step rfl rfl (ok_move rfl) ?_
  refine RunK.guarded rfl rfl rfl rfl (ok_move rfl) ?_
  refine RunK.guarded rfl rfl rfl rfl (ok_move rfl) ?_
  refine RunK.guarded rfl rfl rfl rfl (ok_bin rfl rfl rfl) ?_; refine RunK.as (.int .i64 (1048576 - o)) (by rw [wrap_i64 (by omega) (by omega)]) ?_
  refine RunK.guarded rfl rfl rfl rfl (ok_bin rfl rfl rfl) ?_; refine RunK.as (.bool false) (by first | (simp; done) | (simp; omega)) ?_
  refine RunK.step rfl rfl (ok_pick rfl rfl) ?_
  refine RunK.step rfl rfl (ok_assign rfl) ?_
  refine RunK.nil ?_
  refine A.sub (Sub.cons (t := 1) rfl (Sub.cons (t := 2) rfl (Sub.cons (t := 3) rfl (Sub.cons (t := 22) rfl (Sub.cons (t := 1000003) rfl Sub.nil))))) ?_
  refine A.no rfl ?_
  refine A.regs (by kernel_rfl) (by kernel_rfl) (.inl rfl) ?_
  refine RunTK.last ?_
  refine RunK.step rfl rfl (ok_move rfl) ?_
  refine RunK.step rfl rfl (ok_bin rfl rfl rfl) ?_; refine RunK.as (.bool true) (by first | (simp; done) | (simp; omega)) ?_
  refine RunK.step rfl rfl (ok_assign rfl) ?_
  refine RunK.nil ?_
  refine A.sub (Sub.cons (t := 1) rfl (Sub.cons (t := 2) rfl (Sub.cons (t := 3) rfl (Sub.cons (t := 39) rfl (Sub.cons (t := 1000003) rfl Sub.nil))))) ?_
  refine A.yes rfl ?_
  refine A.regs (by kernel_rfl) (by kernel_rfl) (.inl rfl) ?_
  refine RunTK.last ?_
  refine RunK.step rfl rfl (ok_loadA (s := 1000003) (by decide) Try.underlying26 rfl (size26.of (rfl)) rfl rfl) ?_
  refine RunK.step rfl rfl (ok_move rfl) ?_
  refine RunK.step rfl rfl (ok_move rfl) ?_
  refine RunK.step rfl rfl (ok_lit [] [.int .u32 0, .int .u32 0] (fun _ _ => rfl) (by kernel_rfl)) ?_
  refine RunK.step rfl rfl (ok_call (used7_empty s c o n [.int .u32 0, .int .u32 0] h h3 h2) (Args.cons rfl (Le.refl _) (Args.cons rfl (Le.refl _) (Args.cons rfl (Le.refl _) (Args.cons rfl (Le.refl _) (Args.cons rfl (Le.refl _) Args.nil)))))) ?_
  refine RunK.step rfl rfl (ok_move rfl) ?_
  refine RunK.guarded rfl rfl rfl rfl (ok_call lives7_fn Args.nil) ?_
  refine RunK.step rfl rfl (ok_pick rfl rfl) ?_
  refine RunK.step rfl rfl (ok_assign rfl) ?_
  refine RunK.nil ?_
  refine A.sub (Sub.cons (t := 6) rfl (Sub.cons (t := 1000003) rfl Sub.nil)) ?_
  refine A.ret ?_
  refine End.ret_block ?_
  refine End.ret_then ?_
  exact End.ret1 rfl rfl (by first | exact Le.refl _ | exact Le.old _ _)
set_option maxHeartbeats 1000000 in
theorem StreamsUsed_F (s c o n : Nat) (h0 : 0 < n) (h : o + n ≤ 1048576) : Fn Try.prog 6 [.v (aggV ([.int .u32 ((s : Nat) : Int), .int .u64 ((c : Nat) : Int)])), .v (.int .i64 ((o : Nat) : Int)), .v (.int .i64 ((n : Nat) : Int))] (.v (.bool true)) := by
  refine Fn.of Try.func6 rfl (by kernel_rfl) Try.ntmps6 (by simp) (fun w => [(0, .v (aggV ([.int .u32 ((s : Nat) : Int), .int .u64 ((c : Nat) : Int)]))), (1, .v (.int .i64 ((o : Nat) : Int))), (2, .v (.int .i64 ((n : Nat) : Int)))]) (fun w => (Start.v rfl (Start.v rfl (Start.v rfl Start.nil)))) fun w₀ => ?_
  refine A.regs (by kernel_rfl) (by kernel_rfl) (.inl rfl) ?_
  refine RunTK.new 0 (by decide) rfl (.inl rfl) ?_
  refine RunK.nil ?_
  refine ⟨_, _, eff_box (n := 67) (d := 3) (k := 1000003) rfl (by decide), fun b3 hb3 => ?_⟩
  have hBb3 := hb3.1
  refine RunTK.last ?_
  refine RunK.step rfl rfl (ok_assign rfl) ?_
  refine RunK.nil ?_
  refine A.sub (Sub.cons (t := 1) rfl (Sub.cons (t := 2) rfl (Sub.cons (t := 3) rfl (Sub.cons (t := 1000003) rfl Sub.nil)))) ?_
  refine A.seq ?_
  refine A.block ?_
  refine A.regs (by kernel_rfl) (by kernel_rfl) (.inl rfl) ?_
  refine RunTK.last ?_
  refine RunK.step rfl rfl (ok_move rfl) ?_
  refine RunK.step rfl rfl (ok_bin rfl rfl rfl) ?_; refine RunK.as (.bool false) (by first | (simp; done) | (simp; omega)) ?_
  refine RunK.step rfl rfl (ok_move rfl) ?_
  refine RunK.guarded rfl rfl rfl rfl (ok_move rfl) ?_
  refine RunK.guarded rfl rfl rfl rfl (ok_bin rfl rfl rfl) ?_; refine RunK.as (.bool false) (by first | (simp; done) | (simp; omega)) ?_
  refine RunK.step rfl rfl (ok_pick rfl rfl) ?_
  refine RunK.step rfl rfl (ok_assign rfl) ?_
  refine RunK.nil ?_
  refine A.sub (Sub.cons (t := 1) rfl (Sub.cons (t := 2) rfl (Sub.cons (t := 3) rfl (Sub.cons (t := 7) rfl (Sub.cons (t := 1000003) rfl Sub.nil))))) ?_
  refine A.no rfl ?_
  refine A.regs (by kernel_rfl) (by kernel_rfl) (.inl rfl) ?_
  refine RunTK.last ?_
  refine RunK.step rfl rfl (ok_move rfl) ?_
  refine RunK.step rfl rfl (ok_bin rfl rfl rfl) ?_; refine RunK.as (.bool false) (by first | (simp; done) | (simp; omega)) ?_
  refine RunK.step rfl rfl (ok_move rfl) ?_
  refine RunK.guarded rfl rfl rfl rfl (ok_move rfl) ?_
  refine RunK.guarded rfl rfl rfl rfl (ok_move rfl) ?_
  refine RunK.guarded rfl rfl rfl rfl (ok_bin rfl rfl rfl) ?_; refine RunK.as (.int .i64 (1048576 - (o : Int))) (by rw [wrap_i64 (by omega) (by omega)]) ?_
  refine RunK.guarded rfl rfl rfl rfl (ok_bin rfl rfl rfl) ?_; refine RunK.as (.bool false) (by first | (simp; done) | (simp; omega)) ?_
  refine RunK.step rfl rfl (ok_pick rfl rfl) ?_
  refine RunK.step rfl rfl (ok_assign rfl) ?_
  refine RunK.nil ?_
  refine A.sub (Sub.cons (t := 1) rfl (Sub.cons (t := 2) rfl (Sub.cons (t := 3) rfl (Sub.cons (t := 22) rfl (Sub.cons (t := 1000003) rfl Sub.nil))))) ?_
  refine A.no rfl ?_
  refine A.regs (by kernel_rfl) (by kernel_rfl) (.inl rfl) ?_
  refine RunTK.last ?_
  refine RunK.step rfl rfl (ok_move rfl) ?_
  refine RunK.step rfl rfl (ok_bin rfl rfl rfl) ?_; refine RunK.as (.bool false) (by first | (simp; done) | (simp; omega)) ?_
  refine RunK.step rfl rfl (ok_assign rfl) ?_
  refine RunK.nil ?_
  refine A.sub (Sub.cons (t := 1) rfl (Sub.cons (t := 2) rfl (Sub.cons (t := 3) rfl (Sub.cons (t := 39) rfl (Sub.cons (t := 1000003) rfl Sub.nil))))) ?_
  refine A.no rfl ?_
  refine A.skip ?_
  refine End.normal_block ?_
  refine End.normal_then (End.code ?_)
  refine A.regs (by kernel_rfl) (by kernel_rfl) (.inl rfl) ?_
  refine RunTK.last ?_
  refine RunK.step rfl rfl (ok_loadA (s := 1000003) (by decide) Try.underlying26 rfl (size26.of (rfl)) rfl rfl) ?_
  refine RunK.step rfl rfl (ok_move rfl) ?_
  refine RunK.step rfl rfl (ok_move rfl) ?_
  refine RunK.step rfl rfl (ok_move rfl) ?_
  refine RunK.step rfl rfl (ok_div rfl rfl (by decide)) ?_; refine RunK.as (.int .i64 ((o / 16 : Nat) : Int)) (by rw [tdiv_lit _ (by decide), show Int.toNat 16 = 16 from rfl, wrapN_i64 (by omega)]) ?_
  refine RunK.step rfl rfl (ok_conv Try.underlying3 Try.underlying23 rfl) ?_; refine RunK.as (.int .u32 ((o / 16 : Nat) : Int)) (by rw [wrapN_u32 (by omega)]) ?_
  refine RunK.step rfl rfl (ok_move rfl) ?_
  refine RunK.step rfl rfl (ok_move rfl) ?_
  refine RunK.step rfl rfl (ok_bin rfl rfl rfl) ?_; refine RunK.as (.int .i64 ((o + n : Nat) : Int)) (by rw [wrap_i64 (by omega) (by omega)]; exact congrArg (Value.int .i64) (by omega)) ?_
  refine RunK.step rfl rfl (ok_bin rfl rfl rfl) ?_; refine RunK.as (.int .i64 ((o + n - 1 : Nat) : Int)) (by rw [wrap_i64 (by omega) (by omega)]; exact congrArg (Value.int .i64) (by omega)) ?_
  refine RunK.step rfl rfl (ok_div rfl rfl (by decide)) ?_; refine RunK.as (.int .i64 (((o + n - 1) / 16 : Nat) : Int)) (by rw [tdiv_lit _ (by decide), show Int.toNat 16 = 16 from rfl, wrapN_i64 (by omega)]) ?_
  refine RunK.step rfl rfl (ok_conv Try.underlying3 Try.underlying23 rfl) ?_; refine RunK.as (.int .u32 (((o + n - 1) / 16 : Nat) : Int)) (by rw [wrapN_u32 (by omega)]) ?_
  refine RunK.step rfl rfl (ok_litU [.int .u32 ((o / 16 : Nat) : Int), .int .u32 (((o + n - 1) / 16 : Nat) : Int)] [.int .u32 ((o / 16 : Nat) : Int), .int .u32 (((o + n - 1) / 16 : Nat) : Int)] ⟨rfl, rfl, rfl, rfl, trivial⟩ (by kernel_rfl)) ?_
  refine RunK.step rfl rfl (ok_call (used7_fn s c o n h0 h) (Args.cons rfl (Le.refl _) (Args.cons rfl (Le.refl _) (Args.cons rfl (Le.refl _) (Args.cons rfl (Le.refl _) (Args.cons rfl (Le.refl _) Args.nil)))))) ?_
  refine RunK.step rfl rfl (ok_move rfl) ?_
  refine RunK.guarded rfl rfl rfl rfl (ok_call lives7_fn Args.nil) ?_
  refine RunK.step rfl rfl (ok_pick rfl rfl) ?_
  refine RunK.step rfl rfl (ok_assign rfl) ?_
  refine RunK.nil ?_
  refine A.sub (Sub.cons (t := 6) rfl (Sub.cons (t := 1000003) rfl Sub.nil)) ?_
  refine A.ret ?_
  exact End.ret1 rfl rfl (by first | exact Le.refl _ | exact Le.old _ _)
theorem StreamsUsed_fn (s c : Nat) (o n : Int) (hm : o ≤ 9223372036854775807) : Fn Try.prog 6 [.v (aggV ([.int .u32 ((s : Nat) : Int), .int .u64 ((c : Nat) : Int)])), .v (.int .i64 o), .v (.int .i64 n)] (.v (.bool true)) := by
  by_cases h : o < 0
  · exact StreamsUsed_A s c o n h
  by_cases h2 : n < 0
  · exact StreamsUsed_B s c o n (by omega) h2
  by_cases h3 : 1048576 < o
  · exact StreamsUsed_C s c o n (by omega) hm (by omega) h3
  by_cases h4 : 1048576 - o < n
  · exact StreamsUsed_D s c o n (by omega) hm (by omega) (by omega) h4
  by_cases h5 : n = 0
  · exact StreamsUsed_E s c o n (by omega) (by omega) h5
  obtain ⟨a, rfl⟩ := Int.eq_ofNat_of_zero_le (show 0 ≤ o by omega)
  obtain ⟨b, rfl⟩ := Int.eq_ofNat_of_zero_le (show 0 ≤ n by omega)
  exact StreamsUsed_F s c a b (by omega) (by omega)
theorem over_symm (s c f l s' c' f' l' : Nat) : overB s' c' f' l' s c f l = (overB s c f l s' c' f' l') := by
  unfold overB
  congr 1
  · exact decide_eq_decide.2 (by omega)
  · exact decide_eq_decide.2 (by omega)
theorem over_other {s c f l s' f' l' : Nat} (hc : c < 18446744073709551616) : overB s c f l s' ((c + 1) % 18446744073709551616) f' l' = false := by
  unfold overB
  rw [show decide (s = s' ∧ c = ((c + 1) % 18446744073709551616)) = false from decide_eq_false (by omega)]
  rfl
theorem over_self (s c f l : Nat) : overB s c f l s c f l = decide (f ≤ l) := by simp [overB]
set_option maxHeartbeats 4000000 in
theorem StreamsOverlap_fn (s c f l s' c' f' l' : Nat) (hc : c < 18446744073709551616) : Fn Try.prog 7 [.v (aggV ([.int .u32 ((s : Nat) : Int), .int .u64 ((c : Nat) : Int), .int .u32 ((f : Nat) : Int), .int .u32 ((l : Nat) : Int)])), .v (aggV ([.int .u32 ((s' : Nat) : Int), .int .u64 ((c' : Nat) : Int), .int .u32 ((f' : Nat) : Int), .int .u32 ((l' : Nat) : Int)]))] (.v (.bool true)) := by
  refine Fn.of Try.func7 rfl (by kernel_rfl) Try.ntmps7 (by simp) (fun w => [(0, .v (aggV ([.int .u32 ((s : Nat) : Int), .int .u64 ((c : Nat) : Int), .int .u32 ((f : Nat) : Int), .int .u32 ((l : Nat) : Int)]))), (1, .v (aggV ([.int .u32 ((s' : Nat) : Int), .int .u64 ((c' : Nat) : Int), .int .u32 ((f' : Nat) : Int), .int .u32 ((l' : Nat) : Int)])))]) (fun w => (Start.v rfl (Start.v rfl Start.nil))) fun w₀ => ?_
  refine A.regs (by kernel_rfl) (by kernel_rfl) (.inl rfl) ?_
  refine RunTK.new 0 (by decide) rfl (.inl rfl) ?_
  refine RunK.nil ?_
  refine ⟨_, _, eff_box (n := 61) (d := 2) (k := 1000002) rfl (by decide), fun b2 hb2 => ?_⟩
  have hBb2 := hb2.1
  refine RunTK.new 1 (by decide) rfl (.inl rfl) ?_
  refine RunK.nil ?_
  refine ⟨_, _, eff_box (n := 61) (d := 3) (k := 1000003) rfl (by decide), fun b3 hb3 => ?_⟩
  have hBb3 := hb3.1
  have hlt_b2_b3 : b2 < b3 := hb3.2 1000002 _ _ _ rfl
  refine RunTK.last ?_
  refine RunK.step rfl rfl (ok_assign rfl) ?_
  refine RunK.nil ?_
  refine A.sub (Sub.cons (t := 2) rfl (Sub.cons (t := 3) rfl (Sub.cons (t := 1000002) rfl (Sub.cons (t := 1000003) rfl Sub.nil)))) ?_
  refine A.regs (by kernel_rfl) (by kernel_rfl) (.inl rfl) ?_
  refine RunTK.last ?_
  refine RunK.step rfl rfl (ok_field field46_0 (by decide) rfl) ?_
  refine RunK.step rfl rfl (ok_loadP (s := 1000002) (by decide) Try.underlying26 rfl size26 rfl rfl (by simp) (rfl)) ?_
  refine RunK.step rfl rfl (ok_field field46_0 (by decide) rfl) ?_
  refine RunK.step rfl rfl (ok_loadP (s := 1000003) (by decide) Try.underlying26 rfl size26 rfl rfl (by simp) (rfl)) ?_
  refine RunK.step rfl rfl (ok_field field46_1 (by decide) rfl) ?_
  refine RunK.step rfl rfl (ok_loadV (s := 1000002) (by decide) Try.underlying23 rfl rfl rfl (rfl)) ?_
  refine RunK.step rfl rfl (ok_field field46_2 (by decide) rfl) ?_
  refine RunK.step rfl rfl (ok_loadV (s := 1000002) (by decide) Try.underlying23 rfl rfl rfl (rfl)) ?_
  refine RunK.step rfl rfl (ok_litU [.int .u32 ((f : Nat) : Int), .int .u32 ((l : Nat) : Int)] [.int .u32 ((f : Nat) : Int), .int .u32 ((l : Nat) : Int)] ⟨rfl, rfl, rfl, rfl, trivial⟩ (by kernel_rfl)) ?_
  refine RunK.step rfl rfl (ok_field field46_1 (by decide) rfl) ?_
  refine RunK.step rfl rfl (ok_loadV (s := 1000003) (by decide) Try.underlying23 rfl rfl rfl (rfl)) ?_
  refine RunK.step rfl rfl (ok_field field46_2 (by decide) rfl) ?_
  refine RunK.step rfl rfl (ok_loadV (s := 1000003) (by decide) Try.underlying23 rfl rfl rfl (rfl)) ?_
  refine RunK.step rfl rfl (ok_litU [.int .u32 ((f' : Nat) : Int), .int .u32 ((l' : Nat) : Int)] [.int .u32 ((f' : Nat) : Int), .int .u32 ((l' : Nat) : Int)] ⟨rfl, rfl, rfl, rfl, trivial⟩ (by kernel_rfl)) ?_
  refine RunK.step rfl rfl (ok_call (ref7Over_fn s c f l s' c' f' l') (Args.cons rfl (Le.refl _) (Args.cons rfl (Le.refl _) (Args.cons rfl (Le.refl _) (Args.cons rfl (Le.refl _) Args.nil))))) ?_
  refine RunK.step rfl rfl (ok_assign rfl) ?_
  refine RunK.nil ?_
  refine A.sub (Sub.cons (t := 2) rfl (Sub.cons (t := 3) rfl (Sub.cons (t := 5) rfl (Sub.cons (t := 1000002) rfl (Sub.cons (t := 1000003) rfl Sub.nil))))) ?_
  refine A.regs (by kernel_rfl) (by kernel_rfl) (.inl rfl) ?_
  refine RunTK.new 1 (by decide) rfl (.inl rfl) ?_
  refine RunK.step rfl rfl (ok_loadA (s := 1000003) (by decide) Try.underlying46 rfl (size46.of (rfl)) rfl rfl) ?_
  refine RunK.nil ?_
  refine ⟨_, _, eff_alloc (n := 61) (d := 6) (k := 1000006) zero46 (by decide), fun b6 hb6 => ?_⟩
  have hBb6 := hb6.1
  have hlt_b2_b6 : b2 < b6 := hb6.2 1000002 _ _ _ rfl
  have hlt_b3_b6 : b3 < b6 := hb6.2 1000003 _ _ _ rfl
  refine RunTK.eff 2 (by decide) rfl (.inl rfl) ?_
  refine RunK.nil ?_
  refine ⟨_, eff_storeA (n := 61) (s := 1000006) (size46.of (rfl)) rfl rfl (rfl) hBb6 rfl (rfl) (LeftS.cons (t := 2) rfl (Surv.v _) (LeftS.cons (t := 3) rfl (Surv.v _) (LeftS.cons (t := 5) rfl (Surv.v _) (LeftS.cons (t := 6) rfl (Surv.v _) (LeftS.cons (t := 22) rfl (Surv.v _) (LeftS.cons (t := 1000002) rfl (Surv.blk (by omega)) (LeftS.cons (t := 1000003) rfl (Surv.blk (by omega)) LeftS.nil))))))), ?_⟩
  refine RunTK.last ?_
  refine RunK.nil ?_
  refine A.sub (Sub.cons (t := 2) rfl (Sub.cons (t := 3) rfl (Sub.cons (t := 5) rfl (Sub.cons (t := 6) rfl (Sub.cons (t := 1000002) rfl (Sub.cons (t := 1000003) rfl (Sub.cons (t := 1000006) rfl Sub.nil))))))) ?_
  refine A.regs (by kernel_rfl) (by kernel_rfl) (.inl rfl) ?_
  refine RunTK.eff 6 (by decide) rfl (.inl rfl) ?_
  refine RunK.step rfl rfl (ok_field field46_0 (by decide) rfl) ?_
  refine RunK.step rfl rfl (ok_field field26_1 (by decide) rfl) ?_
  refine RunK.step rfl rfl (ok_loadV (s := 1000002) (by decide) Try.underlying24 rfl rfl rfl (rfl)) ?_
  refine RunK.step rfl rfl (ok_bin rfl rfl rfl) ?_; refine RunK.as (.int .u64 ((((c + 1) % 18446744073709551616) : Nat) : Int)) (by rw [← wrap_u64_nat]; rfl) ?_
  refine RunK.step rfl rfl (ok_field field46_0 (by decide) rfl) ?_
  refine RunK.step rfl rfl (ok_field field26_1 (by decide) rfl) ?_
  refine RunK.nil ?_
  refine ⟨_, eff_storeS (n := 61) (s := 1000006) info24 rfl rfl rfl hBb6 rfl (by simp) (LeftS.cons (t := 2) rfl (Surv.v _) (LeftS.cons (t := 3) rfl (Surv.v _) (LeftS.cons (t := 5) rfl (Surv.v _) (LeftS.cons (t := 6) rfl (Surv.v _) (LeftS.cons (t := 23) rfl (Surv.v _) (LeftS.cons (t := 24) rfl (Surv.v _) (LeftS.cons (t := 25) rfl (Surv.v _) (LeftS.cons (t := 26) rfl (Surv.v _) (LeftS.cons (t := 27) rfl (Surv.v _) (LeftS.cons (t := 28) rfl (Surv.v _) (LeftS.cons (t := 1000002) rfl (Surv.blk (by omega)) (LeftS.cons (t := 1000003) rfl (Surv.blk (by omega)) LeftS.nil)))))))))))), ?_⟩
  refine RunTK.last ?_
  refine RunK.nil ?_
  refine A.sub (Sub.cons (t := 2) rfl (Sub.cons (t := 3) rfl (Sub.cons (t := 5) rfl (Sub.cons (t := 6) rfl (Sub.cons (t := 1000002) rfl (Sub.cons (t := 1000003) rfl (Sub.cons (t := 1000006) rfl Sub.nil))))))) ?_
  refine A.regs (by kernel_rfl) (by kernel_rfl) (.inr (by kernel_rfl)) ?_
  refine RunTK.last ?_
  refine RunK.step rfl rfl (ok_loadA (s := 1000002) (by decide) Try.underlying46 rfl (size46.of (rfl)) rfl rfl) ?_
  refine RunK.step rfl rfl (ok_loadA (s := 1000003) (by decide) Try.underlying46 rfl (size46.of (rfl)) rfl rfl) ?_
  refine RunK.step rfl rfl (ok_call (Overlap_fn s c f l s' c' f' l') (Args.cons rfl (Le.refl _) (Args.cons rfl (Le.refl _) Args.nil))) ?_
  refine RunK.step rfl rfl (ok_move rfl) ?_
  refine RunK.step rfl rfl (ok_eqBool Try.underlying4 rfl rfl) ?_; refine RunK.as (.bool true) (by simp) ?_
  refine RunK.step rfl rfl (ok_move rfl) ?_
  refine RunK.guarded rfl rfl rfl rfl (ok_loadA (s := 1000003) (by decide) Try.underlying46 rfl (size46.of (rfl)) rfl rfl) ?_
  refine RunK.guarded rfl rfl rfl rfl (ok_loadA (s := 1000002) (by decide) Try.underlying46 rfl (size46.of (rfl)) rfl rfl) ?_
  refine RunK.guarded rfl rfl rfl rfl (ok_call (Overlap_fn s' c' f' l' s c f l) (Args.cons rfl (Le.refl _) (Args.cons rfl (Le.refl _) Args.nil))) ?_; refine RunK.as (.bool (overB s c f l s' c' f' l')) (congrArg Value.bool (over_symm _ _ _ _ _ _ _ _)) ?_
  refine RunK.guarded rfl rfl rfl rfl (ok_move rfl) ?_
  refine RunK.guarded rfl rfl rfl rfl (ok_eqBool Try.underlying4 rfl rfl) ?_; refine RunK.as (.bool true) (by simp) ?_
  refine RunK.step rfl rfl (ok_pick rfl rfl) ?_
  refine RunK.step rfl rfl (ok_move rfl) ?_
  refine RunK.guarded rfl rfl rfl rfl (ok_loadA (s := 1000002) (by decide) Try.underlying46 rfl (size46.of (rfl)) rfl rfl) ?_
  refine RunK.guarded rfl rfl rfl rfl (ok_loadA (s := 1000006) (by decide) Try.underlying46 rfl (size46.of (rfl)) rfl rfl) ?_
  refine RunK.guarded rfl rfl rfl rfl (ok_call (Overlap_fn s c f l s' ((c + 1) % 18446744073709551616) f' l') (Args.cons rfl (Le.refl _) (Args.cons rfl (Le.refl _) Args.nil))) ?_; refine RunK.as (.bool false) (congrArg Value.bool (over_other hc)) ?_
  refine RunK.guarded rfl rfl rfl rfl (ok_not rfl) ?_; refine RunK.as (.bool true) (by rfl) ?_
  refine RunK.step rfl rfl (ok_pick rfl rfl) ?_
  refine RunK.step rfl rfl (ok_move rfl) ?_
  refine RunK.guarded rfl rfl rfl rfl (ok_loadA (s := 1000002) (by decide) Try.underlying46 rfl (size46.of (rfl)) rfl rfl) ?_
  refine RunK.guarded rfl rfl rfl rfl (ok_loadA (s := 1000002) (by decide) Try.underlying46 rfl (size46.of (rfl)) rfl rfl) ?_
  refine RunK.guarded rfl rfl rfl rfl (ok_call (Overlap_fn s c f l s c f l) (Args.cons rfl (Le.refl _) (Args.cons rfl (Le.refl _) Args.nil))) ?_; refine RunK.as (.bool (decide (f ≤ l))) (congrArg Value.bool (over_self s c f l)) ?_
  refine RunK.guarded rfl rfl rfl rfl (ok_field field46_1 (by decide) rfl) ?_
  refine RunK.guarded rfl rfl rfl rfl (ok_loadV (s := 1000002) (by decide) Try.underlying23 rfl rfl rfl (rfl)) ?_
  refine RunK.guarded rfl rfl rfl rfl (ok_field field46_2 (by decide) rfl) ?_
  refine RunK.guarded rfl rfl rfl rfl (ok_loadV (s := 1000002) (by decide) Try.underlying23 rfl rfl rfl (rfl)) ?_
  refine RunK.guarded rfl rfl rfl rfl (ok_bin rfl rfl rfl) ?_; refine RunK.as (.bool (decide (f ≤ l))) (congrArg Value.bool (decide_eq_decide.2 (by omega))) ?_
  refine RunK.guarded rfl rfl rfl rfl (ok_eqBool Try.underlying4 rfl rfl) ?_; refine RunK.as (.bool true) (by simp) ?_
  refine RunK.step rfl rfl (ok_pick rfl rfl) ?_
  refine RunK.step rfl rfl (ok_move rfl) ?_
  refine RunK.guarded rfl rfl rfl rfl (ok_call lives7_fn Args.nil) ?_
  refine RunK.step rfl rfl (ok_pick rfl rfl) ?_
  refine RunK.step rfl rfl (ok_assign rfl) ?_
  refine RunK.nil ?_
  refine A.sub (Sub.cons (t := 4) rfl (Sub.cons (t := 1000002) rfl (Sub.cons (t := 1000003) rfl (Sub.cons (t := 1000006) rfl Sub.nil)))) ?_
  refine A.ret ?_
  exact End.ret1 rfl rfl (by first | exact Le.refl _ | exact Le.old _ _)
theorem StreamsParts_A (k : Nat → Nat) (hk : By k) (s c : Nat) (hs : s < 4294967296) (hc : c < 18446744073709551616) (f : Nat) (hf : f < 65536) (a b : List UInt8) (h : 60 < a.length) : Fn Try.prog 5 [.v (aggV (rowV 16 k ++ [.int .u32 ((s : Nat) : Int), .int .u64 ((c : Nat) : Int)])), .v (.int .u16 ((f : Nat) : Int)), pairD (byt a) (byt b)] (.v (.bool true)) := by
  refine Fn.of Try.func5 rfl (by kernel_rfl) Try.ntmps5 (by simp) (fun w => [(0, .v (aggV (rowV 16 k ++ [.int .u32 ((s : Nat) : Int), .int .u64 ((c : Nat) : Int)]))), (1, .v (.int .u16 ((f : Nat) : Int))), (2, old w.heap.size (pairD (byt a) (byt b)))]) (fun w => (Start.v rfl (Start.v rfl (Start.old rfl Start.nil)))) fun w₀ => ?_
  refine A.namePair (t := 2) (k₁ := 1000201) (k₂ := 1000202) rfl fun va vb => ?_
  refine A.regs (by kernel_rfl) (by kernel_rfl) (.inl rfl) ?_
  refine RunTK.new 0 (by decide) rfl (.inl rfl) ?_
  refine RunK.nil ?_
  refine ⟨_, _, eff_box (n := 91) (d := 3) (k := 1000003) rfl (by decide), fun b3 hb3 => ?_⟩
  have hBb3 := hb3.1
  refine RunTK.new 1 (by decide) rfl (.inl rfl) ?_
  refine RunK.nil ?_
  refine ⟨_, _, eff_box (n := 91) (d := 5) (k := 1000005) rfl (by decide), fun b5 hb5 => ?_⟩
  have hBb5 := hb5.1
  have hlt_b3_b5 : b3 < b5 := hb5.2 1000003 _ _ _ rfl
  refine RunTK.last ?_
  refine RunK.step rfl rfl (ok_assign rfl) ?_
  refine RunK.nil ?_
  refine A.sub (Sub.cons (t := 1) rfl (Sub.cons (t := 3) rfl (Sub.cons (t := 5) rfl (Sub.cons (t := 1000003) rfl (Sub.cons (t := 1000005) rfl (Sub.cons (t := 1000201) rfl (Sub.cons (t := 1000202) rfl Sub.nil))))))) ?_
  refine A.regs (by kernel_rfl) (by kernel_rfl) (.inr (by kernel_rfl)) ?_
  refine RunTK.last ?_
  refine RunK.step rfl rfl (ok_index0 (0) Try.underlying40 info32 rfl rfl (rfl) (by decide)) ?_
  refine RunK.step rfl rfl (ok_loadV (s := 1000005) (by decide) Try.underlying32 rfl rfl rfl (rfl)) ?_
  refine RunK.step rfl rfl (ok_index0 (1) Try.underlying40 info32 rfl rfl (rfl) (by decide)) ?_
  refine RunK.step rfl rfl (ok_loadV (s := 1000005) (by decide) Try.underlying32 rfl rfl rfl (rfl)) ?_
  refine RunK.step rfl rfl (ok_assignM (k := 1000201) (by decide) rfl rfl) ?_
  refine RunK.step rfl rfl (ok_assignM (k := 1000202) (by decide) rfl rfl) ?_
  refine RunK.nil ?_
  refine A.sub (Sub.cons (t := 1) rfl (Sub.cons (t := 3) rfl (Sub.cons (t := 7) rfl (Sub.cons (t := 8) rfl (Sub.cons (t := 1000003) rfl (Sub.cons (t := 1000005) rfl (Sub.cons (t := 1000201) rfl (Sub.cons (t := 1000202) rfl Sub.nil)))))))) ?_
  refine A.seq ?_
  refine A.regs (by kernel_rfl) (by kernel_rfl) (.inl rfl) ?_
  refine RunTK.last ?_
  refine RunK.step rfl rfl (ok_move rfl) ?_
  refine RunK.step rfl rfl (ok_lenB Try.underlying32 rfl (by first | exact Le.refl _ | exact Le.old _ _ | exact le_byt _ _ | exact (Le.old _ _).trans (le_byt _ _) | exact le_lst _ _ | exact (Le.old _ _).trans (le_lst _ _) | exact (Le.old _ _).trans (Le.old _ _) | exact (Le.old _ _).trans ((Le.old _ _).trans (le_byt _ _)) | exact byt_nil_le | exact lst_nil_le | exact bytes_nil_le | exact list_nil_le)) ?_
  refine RunK.step rfl rfl (ok_bin rfl rfl rfl) ?_; refine RunK.as (.bool true) (by first | (simp; done) | (simp; omega)) ?_
  refine RunK.step rfl rfl (ok_move rfl) ?_
  refine RunK.skipped rfl rfl rfl rfl rfl ?_
  refine RunK.skipped rfl rfl rfl rfl rfl ?_
  refine RunK.skipped rfl rfl rfl rfl rfl ?_
  refine RunK.step rfl rfl (ok_pick rfl rfl) ?_
  refine RunK.nil ?_
  refine A.sub (Sub.cons (t := 1) rfl (Sub.cons (t := 3) rfl (Sub.cons (t := 7) rfl (Sub.cons (t := 8) rfl (Sub.cons (t := 26) rfl (Sub.cons (t := 1000003) rfl (Sub.cons (t := 1000005) rfl (Sub.cons (t := 1000201) rfl (Sub.cons (t := 1000202) rfl Sub.nil))))))))) ?_
  refine A.yes rfl ?_
  refine A.regs (by kernel_rfl) (by kernel_rfl) (.inl rfl) ?_
  refine RunTK.last ?_
  refine RunK.step rfl rfl (ok_call lives7_fn Args.nil) ?_
  refine RunK.step rfl rfl (ok_assign rfl) ?_
  refine RunK.nil ?_
  refine A.sub (Sub.cons (t := 6) rfl (Sub.cons (t := 1000003) rfl (Sub.cons (t := 1000005) rfl (Sub.cons (t := 1000201) rfl (Sub.cons (t := 1000202) rfl Sub.nil))))) ?_
  refine A.ret ?_
  refine End.ret_then ?_
  exact End.ret1 rfl rfl (by first | exact Le.refl _ | exact Le.old _ _)
theorem StreamsParts_B (k : Nat → Nat) (hk : By k) (s c : Nat) (hs : s < 4294967296) (hc : c < 18446744073709551616) (f : Nat) (hf : f < 65536) (a b : List UInt8) (h : a.length ≤ 60) (h2 : 60 < b.length) : Fn Try.prog 5 [.v (aggV (rowV 16 k ++ [.int .u32 ((s : Nat) : Int), .int .u64 ((c : Nat) : Int)])), .v (.int .u16 ((f : Nat) : Int)), pairD (byt a) (byt b)] (.v (.bool true)) := by
  refine Fn.of Try.func5 rfl (by kernel_rfl) Try.ntmps5 (by simp) (fun w => [(0, .v (aggV (rowV 16 k ++ [.int .u32 ((s : Nat) : Int), .int .u64 ((c : Nat) : Int)]))), (1, .v (.int .u16 ((f : Nat) : Int))), (2, old w.heap.size (pairD (byt a) (byt b)))]) (fun w => (Start.v rfl (Start.v rfl (Start.old rfl Start.nil)))) fun w₀ => ?_
  refine A.namePair (t := 2) (k₁ := 1000201) (k₂ := 1000202) rfl fun va vb => ?_
  refine A.regs (by kernel_rfl) (by kernel_rfl) (.inl rfl) ?_
  refine RunTK.new 0 (by decide) rfl (.inl rfl) ?_
  refine RunK.nil ?_
  refine ⟨_, _, eff_box (n := 91) (d := 3) (k := 1000003) rfl (by decide), fun b3 hb3 => ?_⟩
  have hBb3 := hb3.1
  refine RunTK.new 1 (by decide) rfl (.inl rfl) ?_
  refine RunK.nil ?_
  refine ⟨_, _, eff_box (n := 91) (d := 5) (k := 1000005) rfl (by decide), fun b5 hb5 => ?_⟩
  have hBb5 := hb5.1
  have hlt_b3_b5 : b3 < b5 := hb5.2 1000003 _ _ _ rfl
  refine RunTK.last ?_
  refine RunK.step rfl rfl (ok_assign rfl) ?_
  refine RunK.nil ?_
  refine A.sub (Sub.cons (t := 1) rfl (Sub.cons (t := 3) rfl (Sub.cons (t := 5) rfl (Sub.cons (t := 1000003) rfl (Sub.cons (t := 1000005) rfl (Sub.cons (t := 1000201) rfl (Sub.cons (t := 1000202) rfl Sub.nil))))))) ?_
  refine A.regs (by kernel_rfl) (by kernel_rfl) (.inr (by kernel_rfl)) ?_
  refine RunTK.last ?_
  refine RunK.step rfl rfl (ok_index0 (0) Try.underlying40 info32 rfl rfl (rfl) (by decide)) ?_
  refine RunK.step rfl rfl (ok_loadV (s := 1000005) (by decide) Try.underlying32 rfl rfl rfl (rfl)) ?_
  refine RunK.step rfl rfl (ok_index0 (1) Try.underlying40 info32 rfl rfl (rfl) (by decide)) ?_
  refine RunK.step rfl rfl (ok_loadV (s := 1000005) (by decide) Try.underlying32 rfl rfl rfl (rfl)) ?_
  refine RunK.step rfl rfl (ok_assignM (k := 1000201) (by decide) rfl rfl) ?_
  refine RunK.step rfl rfl (ok_assignM (k := 1000202) (by decide) rfl rfl) ?_
  refine RunK.nil ?_
  refine A.sub (Sub.cons (t := 1) rfl (Sub.cons (t := 3) rfl (Sub.cons (t := 7) rfl (Sub.cons (t := 8) rfl (Sub.cons (t := 1000003) rfl (Sub.cons (t := 1000005) rfl (Sub.cons (t := 1000201) rfl (Sub.cons (t := 1000202) rfl Sub.nil)))))))) ?_
  refine A.seq ?_
  refine A.regs (by kernel_rfl) (by kernel_rfl) (.inl rfl) ?_
  refine RunTK.last ?_
  refine RunK.step rfl rfl (ok_move rfl) ?_
  refine RunK.step rfl rfl (ok_lenB Try.underlying32 rfl (by first | exact Le.refl _ | exact Le.old _ _ | exact le_byt _ _ | exact (Le.old _ _).trans (le_byt _ _) | exact le_lst _ _ | exact (Le.old _ _).trans (le_lst _ _) | exact (Le.old _ _).trans (Le.old _ _) | exact (Le.old _ _).trans ((Le.old _ _).trans (le_byt _ _)) | exact byt_nil_le | exact lst_nil_le | exact bytes_nil_le | exact list_nil_le)) ?_
  refine RunK.step rfl rfl (ok_bin rfl rfl rfl) ?_; refine RunK.as (.bool false) (by first | (simp; done) | (simp; omega)) ?_
  refine RunK.step rfl rfl (ok_move rfl) ?_
  refine RunK.guarded rfl rfl rfl rfl (ok_move rfl) ?_
  refine RunK.guarded rfl rfl rfl rfl (ok_lenB Try.underlying32 rfl (by first | exact Le.refl _ | exact Le.old _ _ | exact le_byt _ _ | exact (Le.old _ _).trans (le_byt _ _) | exact le_lst _ _ | exact (Le.old _ _).trans (le_lst _ _) | exact (Le.old _ _).trans (Le.old _ _) | exact (Le.old _ _).trans ((Le.old _ _).trans (le_byt _ _)) | exact byt_nil_le | exact lst_nil_le | exact bytes_nil_le | exact list_nil_le)) ?_
  refine RunK.guarded rfl rfl rfl rfl (ok_bin rfl rfl rfl) ?_; refine RunK.as (.bool true) (by first | (simp; done) | (simp; omega)) ?_
  refine RunK.step rfl rfl (ok_pick rfl rfl) ?_
  refine RunK.nil ?_
  refine A.sub (Sub.cons (t := 1) rfl (Sub.cons (t := 3) rfl (Sub.cons (t := 7) rfl (Sub.cons (t := 8) rfl (Sub.cons (t := 26) rfl (Sub.cons (t := 1000003) rfl (Sub.cons (t := 1000005) rfl (Sub.cons (t := 1000201) rfl (Sub.cons (t := 1000202) rfl Sub.nil))))))))) ?_
  refine A.yes rfl ?_
  refine A.regs (by kernel_rfl) (by kernel_rfl) (.inl rfl) ?_
  refine RunTK.last ?_
  refine RunK.step rfl rfl (ok_call lives7_fn Args.nil) ?_
  refine RunK.step rfl rfl (ok_assign rfl) ?_
  refine RunK.nil ?_
  refine A.sub (Sub.cons (t := 6) rfl (Sub.cons (t := 1000003) rfl (Sub.cons (t := 1000005) rfl (Sub.cons (t := 1000201) rfl (Sub.cons (t := 1000202) rfl Sub.nil))))) ?_
  refine A.ret ?_
  refine End.ret_then ?_
  exact End.ret1 rfl rfl (by first | exact Le.refl _ | exact Le.old _ _)
set_option maxHeartbeats 4000000 in
theorem StreamsParts_C (k : Nat → Nat) (hk : By k) (s c : Nat) (hs : s < 4294967296) (hc : c < 18446744073709551616) (f : Nat) (hf : f < 65536) (a b : List UInt8) (h : a.length ≤ 60) (h2 : b.length ≤ 60) : Fn Try.prog 5 [.v (aggV (rowV 16 k ++ [.int .u32 ((s : Nat) : Int), .int .u64 ((c : Nat) : Int)])), .v (.int .u16 ((f : Nat) : Int)), pairD (byt a) (byt b)] (.v (.bool true)) := by
  refine Fn.of Try.func5 rfl (by kernel_rfl) Try.ntmps5 (by simp) (fun w => [(0, .v (aggV (rowV 16 k ++ [.int .u32 ((s : Nat) : Int), .int .u64 ((c : Nat) : Int)]))), (1, .v (.int .u16 ((f : Nat) : Int))), (2, old w.heap.size (pairD (byt a) (byt b)))]) (fun w => (Start.v rfl (Start.v rfl (Start.old rfl Start.nil)))) fun w₀ => ?_
  refine A.namePair (t := 2) (k₁ := 1000201) (k₂ := 1000202) rfl fun va vb => ?_
  refine A.regs (by kernel_rfl) (by kernel_rfl) (.inl rfl) ?_
  refine RunTK.new 0 (by decide) rfl (.inl rfl) ?_
  refine RunK.nil ?_
  refine ⟨_, _, eff_box (n := 91) (d := 3) (k := 1000003) rfl (by decide), fun b3 hb3 => ?_⟩
  have hBb3 := hb3.1
  refine RunTK.new 1 (by decide) rfl (.inl rfl) ?_
  refine RunK.nil ?_
  refine ⟨_, _, eff_box (n := 91) (d := 5) (k := 1000005) rfl (by decide), fun b5 hb5 => ?_⟩
  have hBb5 := hb5.1
  have hlt_b3_b5 : b3 < b5 := hb5.2 1000003 _ _ _ rfl
  refine RunTK.last ?_
  refine RunK.step rfl rfl (ok_assign rfl) ?_
  refine RunK.nil ?_
  refine A.sub (Sub.cons (t := 1) rfl (Sub.cons (t := 3) rfl (Sub.cons (t := 5) rfl (Sub.cons (t := 1000003) rfl (Sub.cons (t := 1000005) rfl (Sub.cons (t := 1000201) rfl (Sub.cons (t := 1000202) rfl Sub.nil))))))) ?_
  refine A.regs (by kernel_rfl) (by kernel_rfl) (.inr (by kernel_rfl)) ?_
  refine RunTK.last ?_
  refine RunK.step rfl rfl (ok_index0 (0) Try.underlying40 info32 rfl rfl (rfl) (by decide)) ?_
  refine RunK.step rfl rfl (ok_loadV (s := 1000005) (by decide) Try.underlying32 rfl rfl rfl (rfl)) ?_
  refine RunK.step rfl rfl (ok_index0 (1) Try.underlying40 info32 rfl rfl (rfl) (by decide)) ?_
  refine RunK.step rfl rfl (ok_loadV (s := 1000005) (by decide) Try.underlying32 rfl rfl rfl (rfl)) ?_
  refine RunK.step rfl rfl (ok_assignM (k := 1000201) (by decide) rfl rfl) ?_
  refine RunK.step rfl rfl (ok_assignM (k := 1000202) (by decide) rfl rfl) ?_
  refine RunK.nil ?_
  refine A.sub (Sub.cons (t := 1) rfl (Sub.cons (t := 3) rfl (Sub.cons (t := 7) rfl (Sub.cons (t := 8) rfl (Sub.cons (t := 1000003) rfl (Sub.cons (t := 1000005) rfl (Sub.cons (t := 1000201) rfl (Sub.cons (t := 1000202) rfl Sub.nil)))))))) ?_
  refine A.seq ?_
  refine A.regs (by kernel_rfl) (by kernel_rfl) (.inl rfl) ?_
  refine RunTK.last ?_
  refine RunK.step rfl rfl (ok_move rfl) ?_
  refine RunK.step rfl rfl (ok_lenB Try.underlying32 rfl (by first | exact Le.refl _ | exact Le.old _ _ | exact le_byt _ _ | exact (Le.old _ _).trans (le_byt _ _) | exact le_lst _ _ | exact (Le.old _ _).trans (le_lst _ _) | exact (Le.old _ _).trans (Le.old _ _) | exact (Le.old _ _).trans ((Le.old _ _).trans (le_byt _ _)) | exact byt_nil_le | exact lst_nil_le | exact bytes_nil_le | exact list_nil_le)) ?_
  refine RunK.step rfl rfl (ok_bin rfl rfl rfl) ?_; refine RunK.as (.bool false) (by first | (simp; done) | (simp; omega)) ?_
  refine RunK.step rfl rfl (ok_move rfl) ?_
  refine RunK.guarded rfl rfl rfl rfl (ok_move rfl) ?_
  refine RunK.guarded rfl rfl rfl rfl (ok_lenB Try.underlying32 rfl (by first | exact Le.refl _ | exact Le.old _ _ | exact le_byt _ _ | exact (Le.old _ _).trans (le_byt _ _) | exact le_lst _ _ | exact (Le.old _ _).trans (le_lst _ _) | exact (Le.old _ _).trans (Le.old _ _) | exact (Le.old _ _).trans ((Le.old _ _).trans (le_byt _ _)) | exact byt_nil_le | exact lst_nil_le | exact bytes_nil_le | exact list_nil_le)) ?_
  refine RunK.guarded rfl rfl rfl rfl (ok_bin rfl rfl rfl) ?_; refine RunK.as (.bool false) (by first | (simp; done) | (simp; omega)) ?_
  refine RunK.step rfl rfl (ok_pick rfl rfl) ?_
  refine RunK.nil ?_
  refine A.sub (Sub.cons (t := 1) rfl (Sub.cons (t := 3) rfl (Sub.cons (t := 7) rfl (Sub.cons (t := 8) rfl (Sub.cons (t := 26) rfl (Sub.cons (t := 1000003) rfl (Sub.cons (t := 1000005) rfl (Sub.cons (t := 1000201) rfl (Sub.cons (t := 1000202) rfl Sub.nil))))))))) ?_
  refine A.no rfl ?_
  refine A.skip ?_
  refine End.normal_then (End.code ?_)
  refine A.regs (by kernel_rfl) (by kernel_rfl) (.inl rfl) ?_
  refine RunTK.last ?_
  refine RunK.step rfl rfl (ok_field field28_0 (by decide) rfl) ?_
  refine RunK.step rfl rfl (ok_loadP (s := 1000003) (by decide) Try.underlying22 rfl size22 rfl rfl (by simp only [List.length_append, rowV_length, List.length_cons, List.length_nil]; decide) (K_key k _)) ?_
  refine RunK.step rfl rfl (ok_field field28_1 (by decide) rfl) ?_
  refine RunK.step rfl rfl (ok_loadP (s := 1000003) (by decide) Try.underlying26 rfl size26 rfl rfl (by simp only [List.length_append, rowV_length, List.length_cons, List.length_nil]; decide) (K_non k _ _)) ?_
  refine RunK.step rfl rfl (ok_move rfl) ?_
  refine RunK.step rfl rfl (ok_conv Try.underlying39 Try.underlying3 rfl) ?_; refine RunK.as (.int .i64 ((f : Nat) : Int)) (by rw [wrapN_i64 (by omega)]) ?_
  refine RunK.step rfl rfl (ok_move rfl) ?_
  refine RunK.step rfl rfl (ok_call (Xor7_fn k hk s c (f) (a) hs hc (by omega)) (Args.cons rfl (Le.refl _) (Args.cons rfl (Le.refl _) (Args.cons rfl (Le.refl _) (Args.cons rfl (by first | exact Le.refl _ | exact Le.old _ _ | exact le_byt _ _ | exact (Le.old _ _).trans (le_byt _ _) | exact le_lst _ _ | exact (Le.old _ _).trans (le_lst _ _) | exact (Le.old _ _).trans (Le.old _ _) | exact (Le.old _ _).trans ((Le.old _ _).trans (le_byt _ _)) | exact byt_nil_le | exact lst_nil_le | exact bytes_nil_le | exact list_nil_le) Args.nil))))) ?_
  refine RunK.step rfl rfl (ok_move rfl) ?_
  refine RunK.step rfl rfl (ok_extract rfl rfl) ?_
  refine RunK.step rfl rfl (ok_extract rfl rfl) ?_
  refine RunK.step rfl rfl (ok_assign rfl) ?_
  refine RunK.step rfl rfl (ok_assign rfl) ?_
  refine RunK.nil ?_
  refine A.sub (Sub.cons (t := 1) rfl (Sub.cons (t := 3) rfl (Sub.cons (t := 7) rfl (Sub.cons (t := 8) rfl (Sub.cons (t := 9) rfl (Sub.cons (t := 10) rfl (Sub.cons (t := 1000003) rfl (Sub.cons (t := 1000005) rfl (Sub.cons (t := 1000201) rfl (Sub.cons (t := 1000202) rfl Sub.nil)))))))))) ?_
  refine A.regs (by kernel_rfl) (by kernel_rfl) (.inl rfl) ?_
  refine RunTK.last ?_
  refine RunK.step rfl rfl (ok_field field28_0 (by decide) rfl) ?_
  refine RunK.step rfl rfl (ok_loadP (s := 1000003) (by decide) Try.underlying22 rfl size22 rfl rfl (by simp only [List.length_append, rowV_length, List.length_cons, List.length_nil]; decide) (K_key k _)) ?_
  refine RunK.step rfl rfl (ok_field field28_1 (by decide) rfl) ?_
  refine RunK.step rfl rfl (ok_loadP (s := 1000003) (by decide) Try.underlying26 rfl size26 rfl rfl (by simp only [List.length_append, rowV_length, List.length_cons, List.length_nil]; decide) (K_non k _ _)) ?_
  refine RunK.step rfl rfl (ok_move rfl) ?_
  refine RunK.step rfl rfl (ok_conv Try.underlying39 Try.underlying3 rfl) ?_; refine RunK.as (.int .i64 ((f : Nat) : Int)) (by rw [wrapN_i64 (by omega)]) ?_
  refine RunK.step rfl rfl (ok_move rfl) ?_
  refine RunK.step rfl rfl (ok_lenB Try.underlying32 rfl (by first | exact Le.refl _ | exact Le.old _ _ | exact le_byt _ _ | exact (Le.old _ _).trans (le_byt _ _) | exact le_lst _ _ | exact (Le.old _ _).trans (le_lst _ _) | exact (Le.old _ _).trans (Le.old _ _) | exact (Le.old _ _).trans ((Le.old _ _).trans (le_byt _ _)) | exact byt_nil_le | exact lst_nil_le | exact bytes_nil_le | exact list_nil_le)) ?_
  refine RunK.step rfl rfl (ok_bin rfl rfl rfl) ?_; refine RunK.as (.int .i64 ((f + a.length : Nat) : Int)) (by rw [wrap_i64 (by omega) (by omega)]; exact congrArg (Value.int .i64) (by omega)) ?_
  refine RunK.step rfl rfl (ok_move rfl) ?_
  refine RunK.step rfl rfl (ok_call (Xor7_fn k hk s c (f + a.length) (b) hs hc (by omega)) (Args.cons rfl (Le.refl _) (Args.cons rfl (Le.refl _) (Args.cons rfl (Le.refl _) (Args.cons rfl (by first | exact Le.refl _ | exact Le.old _ _ | exact le_byt _ _ | exact (Le.old _ _).trans (le_byt _ _) | exact le_lst _ _ | exact (Le.old _ _).trans (le_lst _ _) | exact (Le.old _ _).trans (Le.old _ _) | exact (Le.old _ _).trans ((Le.old _ _).trans (le_byt _ _)) | exact byt_nil_le | exact lst_nil_le | exact bytes_nil_le | exact list_nil_le) Args.nil))))) ?_
  refine RunK.step rfl rfl (ok_move rfl) ?_
  refine RunK.step rfl rfl (ok_extract rfl rfl) ?_
  refine RunK.step rfl rfl (ok_extract rfl rfl) ?_
  refine RunK.step rfl rfl (ok_assign rfl) ?_
  refine RunK.step rfl rfl (ok_assign rfl) ?_
  refine RunK.nil ?_
  refine A.sub (Sub.cons (t := 1) rfl (Sub.cons (t := 3) rfl (Sub.cons (t := 7) rfl (Sub.cons (t := 8) rfl (Sub.cons (t := 9) rfl (Sub.cons (t := 10) rfl (Sub.cons (t := 11) rfl (Sub.cons (t := 12) rfl (Sub.cons (t := 1000003) rfl (Sub.cons (t := 1000005) rfl (Sub.cons (t := 1000201) rfl (Sub.cons (t := 1000202) rfl Sub.nil)))))))))))) ?_
  refine A.regsX [⟨false, true, none⟩, ⟨false, true, none⟩, ⟨false, true, none⟩, ⟨false, true, none⟩, ⟨false, true, none⟩, ⟨false, true, none⟩, ⟨false, false, some 8⟩, ⟨false, true, none⟩, ⟨true, false, some 10⟩, ⟨false, true, none⟩, ⟨true, false, none⟩, ⟨false, false, none⟩, ⟨false, false, none⟩, ⟨false, false, none⟩, ⟨false, true, none⟩, ⟨false, false, none⟩, ⟨false, true, none⟩] _ (fun B => (OldH.same (t := 1) rfl (OldH.same (t := 3) rfl (OldH.p (t := 7) rfl (OldH.p (t := 8) rfl (OldH.p (t := 9) rfl (OldH.same (t := 10) rfl (OldH.p (t := 11) rfl (OldH.same (t := 12) rfl (OldH.same (t := 1000003) rfl (OldH.same (t := 1000005) rfl (OldH.p (t := 1000201) rfl (OldH.p (t := 1000202) rfl OldH.nil))))))))))))) (by kernel_rfl) (by kernel_rfl) (by kernel_rfl) (by kernel_rfl) (fun B hlt => (StaysL.cons (k := 1) (Stays.v _ _) (StaysL.cons (k := 3) (Stays.v _ _) (StaysL.cons (k := 7) (Stays.old _ _) (StaysL.cons (k := 8) (Stays.old _ _) (StaysL.cons (k := 9) (Stays.old _ _) (StaysL.cons (k := 10) (Stays.v _ _) (StaysL.cons (k := 11) (Stays.old _ _) (StaysL.cons (k := 12) (Stays.v _ _) (StaysL.cons (k := 1000003) (Stays.blk (hlt 1000003 _ _ _ rfl)) (StaysL.cons (k := 1000005) (Stays.blk (hlt 1000005 _ _ _ rfl)) (StaysL.cons (k := 1000201) (Stays.old _ _) (StaysL.cons (k := 1000202) (Stays.old _ _) StaysL.nil))))))))))))) (fun B hB hlt => ?_)
  refine RunX.step rfl rfl (ok_field field28_0 (by decide) rfl) (fun _ => Stays.v _ _) ?_
  refine RunX.step rfl rfl (ok_loadP (s := 1000003) (by decide) Try.underlying22 rfl size22 rfl rfl (by simp only [List.length_append, rowV_length, List.length_cons, List.length_nil]; decide) (K_key k _)) (fun _ => Stays.v _ _) ?_
  refine RunX.step rfl rfl (ok_field field28_1 (by decide) rfl) (fun _ => Stays.v _ _) ?_
  refine RunX.step rfl rfl (ok_loadP (s := 1000003) (by decide) Try.underlying26 rfl size26 rfl rfl (by simp only [List.length_append, rowV_length, List.length_cons, List.length_nil]; decide) (K_non k _ _)) (fun _ => Stays.v _ _) ?_
  refine RunX.step rfl rfl (ok_move rfl) (fun _ => Stays.v _ _) ?_
  refine RunX.step rfl rfl (ok_conv Try.underlying39 Try.underlying3 rfl) (fun _ => Stays.v _ _) ?_; refine RunX.as (.int .i64 ((f : Nat) : Int)) (by rw [wrapN_i64 (by omega)]) ?_
  refine RunX.step rfl rfl (ok_build0own Try.underlying32 info5) (fun h => by cases h) ?_
  refine RunX.step rfl rfl (ok_move rfl) (fun _ => Stays.old _ _) ?_
  refine RunX.eff rfl rfl (okx_append (vs := a.map byteV) Try.underlying32 info5 (by decide) rfl rfl rfl ((Le.old _ _).trans ((Le.old _ _).trans (Le.eq (byt_vals _)))) (by simp [byteV, Value.oneCell']) (by simp only [List.length_map]; omega)) (fun h => by cases h) ?_
  refine RunX.step rfl rfl (ok_move rfl) (fun _ => Stays.old _ _) ?_
  refine RunX.eff rfl rfl (okx_append (vs := b.map byteV) Try.underlying32 info5 (by decide) rfl rfl rfl ((Le.old _ _).trans ((Le.old _ _).trans (Le.eq (byt_vals _)))) (by simp [byteV, Value.oneCell']) (by simp only [List.length_map]; omega)) (fun h => by cases h) ?_
  refine RunX.step rfl rfl (ok_call (Xor7_fn k hk s c (f) (a ++ b) hs hc (by simp only [List.length_append]; omega)) (Args.cons rfl (Le.refl _) (Args.cons rfl (Le.refl _) (Args.cons rfl (Le.refl _) (Args.cons rfl (own_cat (by simp) (by simp)) Args.nil))))) (fun h => by cases h) ?_
  refine RunX.step rfl rfl (ok_move rfl) (fun h => by cases h) ?_
  refine RunX.step rfl rfl (ok_extract rfl rfl) (fun h => by cases h) ?_
  refine RunX.step rfl rfl (ok_extract rfl rfl) (fun _ => Stays.v _ _) ?_
  refine RunX.step rfl rfl (ok_assign rfl) (fun h => by cases h) ?_
  refine RunX.step rfl rfl (ok_assign rfl) (fun _ => Stays.v _ _) ?_
  refine RunX.last (Sub.cons (t := 9) rfl (Sub.cons (t := 10) rfl (Sub.cons (t := 11) rfl (Sub.cons (t := 12) rfl (Sub.cons (t := 13) rfl (Sub.cons (t := 14) rfl (Sub.cons (t := 1000003) rfl (Sub.cons (t := 1000005) rfl (Sub.cons (t := 1000201) rfl (Sub.cons (t := 1000202) rfl Sub.nil)))))))))) (by kernel_rfl) ?_
  refine A.subL (SubL.cons (t := 9) rfl (Le.old _ _) (SubL.cons (t := 10) rfl (Le.refl _) (SubL.cons (t := 11) rfl (Le.old _ _) (SubL.cons (t := 12) rfl (Le.refl _) (SubL.cons (t := 13) rfl (Le.refl _) (SubL.cons (t := 14) rfl (Le.refl _) (SubL.cons (t := 1000003) rfl (Le.refl _) (SubL.cons (t := 1000005) rfl (Le.refl _) (SubL.cons (t := 1000201) rfl (Le.old _ _) (SubL.cons (t := 1000202) rfl (Le.old _ _) SubL.nil)))))))))) ?_
  refine A.regs (by kernel_rfl) (by kernel_rfl) (.inl rfl) ?_
  refine RunTK.last ?_
  refine RunK.step rfl rfl (ok_move rfl) ?_
  refine RunK.step rfl rfl (ok_bin rfl rfl rfl) ?_; refine RunK.as (.bool true) (by rfl) ?_
  refine RunK.step rfl rfl (ok_move rfl) ?_
  refine RunK.guarded rfl rfl rfl rfl (ok_move rfl) ?_
  refine RunK.guarded rfl rfl rfl rfl (ok_bin rfl rfl rfl) ?_; refine RunK.as (.bool true) (by rfl) ?_
  refine RunK.step rfl rfl (ok_pick rfl rfl) ?_
  refine RunK.step rfl rfl (ok_move rfl) ?_
  refine RunK.guarded rfl rfl rfl rfl (ok_move rfl) ?_
  refine RunK.guarded rfl rfl rfl rfl (ok_bin rfl rfl rfl) ?_; refine RunK.as (.bool true) (by rfl) ?_
  refine RunK.step rfl rfl (ok_pick rfl rfl) ?_
  refine RunK.step rfl rfl (ok_move rfl) ?_
  refine RunK.guarded rfl rfl rfl rfl (ok_move rfl) ?_
  refine RunK.guarded rfl rfl rfl rfl (ok_str (l := (xorK k s c (f) (a ++ b))) Try.underlying32 Try.underlying5 Try.underlying9 rfl (by first | exact Le.refl _ | exact Le.old _ _ | exact le_byt _ _ | exact (Le.old _ _).trans (le_byt _ _) | exact le_lst _ _ | exact (Le.old _ _).trans (le_lst _ _) | exact (Le.old _ _).trans (Le.old _ _) | exact (Le.old _ _).trans ((Le.old _ _).trans (le_byt _ _)) | exact byt_nil_le | exact lst_nil_le | exact bytes_nil_le | exact list_nil_le)) ?_
  refine RunK.guarded rfl rfl rfl rfl (ok_move rfl) ?_
  refine RunK.guarded rfl rfl rfl rfl (ok_str (l := (xorK k s c (f) (a))) Try.underlying32 Try.underlying5 Try.underlying9 rfl (by first | exact Le.refl _ | exact Le.old _ _ | exact le_byt _ _ | exact (Le.old _ _).trans (le_byt _ _) | exact le_lst _ _ | exact (Le.old _ _).trans (le_lst _ _) | exact (Le.old _ _).trans (Le.old _ _) | exact (Le.old _ _).trans ((Le.old _ _).trans (le_byt _ _)) | exact byt_nil_le | exact lst_nil_le | exact bytes_nil_le | exact list_nil_le)) ?_
  refine RunK.guarded rfl rfl rfl rfl (ok_move rfl) ?_
  refine RunK.guarded rfl rfl rfl rfl (ok_str (l := (xorK k s c (f + a.length) (b))) Try.underlying32 Try.underlying5 Try.underlying9 rfl (by first | exact Le.refl _ | exact Le.old _ _ | exact le_byt _ _ | exact (Le.old _ _).trans (le_byt _ _) | exact le_lst _ _ | exact (Le.old _ _).trans (le_lst _ _) | exact (Le.old _ _).trans (Le.old _ _) | exact (Le.old _ _).trans ((Le.old _ _).trans (le_byt _ _)) | exact byt_nil_le | exact lst_nil_le | exact bytes_nil_le | exact list_nil_le)) ?_
  refine RunK.guarded rfl rfl rfl rfl (ok_addS rfl rfl (by rw [xorK_length, xorK_length]; omega)) ?_
  refine RunK.guarded rfl rfl rfl rfl (ok_bin rfl rfl rfl) ?_; refine RunK.as (.bool true) (by simp [xorK_append]) ?_
  refine RunK.step rfl rfl (ok_pick rfl rfl) ?_
  refine RunK.step rfl rfl (ok_move rfl) ?_
  refine RunK.guarded rfl rfl rfl rfl (ok_call lives7_fn Args.nil) ?_
  refine RunK.step rfl rfl (ok_pick rfl rfl) ?_
  refine RunK.step rfl rfl (ok_assign rfl) ?_
  refine RunK.nil ?_
  refine A.sub (Sub.cons (t := 6) rfl (Sub.cons (t := 1000003) rfl (Sub.cons (t := 1000005) rfl (Sub.cons (t := 1000201) rfl (Sub.cons (t := 1000202) rfl Sub.nil))))) ?_
  refine A.ret ?_
  exact End.ret1 rfl rfl (by first | exact Le.refl _ | exact Le.old _ _)
theorem StreamsParts_fn (k : Nat → Nat) (hk : By k) (s c : Nat) (hs : s < 4294967296) (hc : c < 18446744073709551616) (f : Nat) (hf : f < 65536) (a b : List UInt8) : Fn Try.prog 5 [.v (aggV (rowV 16 k ++ [.int .u32 ((s : Nat) : Int), .int .u64 ((c : Nat) : Int)])), .v (.int .u16 ((f : Nat) : Int)), pairD (byt a) (byt b)] (.v (.bool true)) := by
  by_cases h : a.length ≤ 60
  · by_cases h2 : b.length ≤ 60
    · exact StreamsParts_C k hk s c hs hc f hf a b h h2
    · exact StreamsParts_B k hk s c hs hc f hf a b h (by omega)
  · exact StreamsParts_A k hk s c hs hc f hf a b (by omega)
set_option maxHeartbeats 4000000 in
theorem StreamsKnown_fn  : Fn Try.prog 8 [] (.v (.bool true)) := by
  refine Fn.of Try.func8 rfl (by kernel_rfl) Try.ntmps8 (by simp) (fun w => []) (fun w => Start.nil) fun w₀ => ?_
  refine A.regs (by kernel_rfl) (by kernel_rfl) (.inl rfl) ?_
  refine RunTK.last ?_
  refine RunK.step rfl rfl (ok_assign rfl) ?_
  refine RunK.nil ?_
  refine A.sub Sub.nil ?_
  refine A.regs (by kernel_rfl) (by kernel_rfl) (.inl rfl) ?_
  refine RunTK.new 3 (by decide) rfl (.inl rfl) ?_
  refine RunK.step rfl rfl (ok_litP [_, _, _] Try.underlying22 info5 zero22 (by decide) ⟨rfl, rfl, rfl, rfl, rfl, rfl, trivial⟩ rfl) ?_; refine RunK.as (aggV (rowV 16 (lst16 [1, 2, 3]))) (by kernel_rfl) ?_
  refine RunK.step rfl rfl (ok_litU [.int .u32 ((7 : Nat) : Int), .int .u64 ((18446744073709551615 : Nat) : Int)] [.int .u32 ((7 : Nat) : Int), .int .u64 ((18446744073709551615 : Nat) : Int)] ⟨rfl, rfl, rfl, rfl, trivial⟩ (by kernel_rfl)) ?_
  refine RunK.step rfl rfl (ok_litU [aggV (rowV 16 (lst16 [1, 2, 3])), aggV [.int .u32 ((7 : Nat) : Int), .int .u64 ((18446744073709551615 : Nat) : Int)]] (rowV 16 (lst16 [1, 2, 3]) ++ [.int .u32 ((7 : Nat) : Int), .int .u64 ((18446744073709551615 : Nat) : Int)]) ⟨rfl, rfl, rfl, rfl, trivial⟩ (by kernel_rfl)) ?_
  refine RunK.nil ?_
  refine ⟨_, _, eff_alloc (n := 115) (d := 1) (k := 1000001) zero28 (by decide), fun b1 hb1 => ?_⟩
  have hBb1 := hb1.1
  refine RunTK.eff 4 (by decide) rfl (.inl rfl) ?_
  refine RunK.nil ?_
  refine ⟨_, eff_storeA (n := 115) (s := 1000001) (size28.of (K_len _ _ _)) rfl rfl (K_one _ _ _ rfl rfl) hBb1 rfl (by rw [K_len]; rfl) (LeftS.cons (t := 1) rfl (Surv.v _) (LeftS.cons (t := 10) rfl (Surv.v _) (LeftS.cons (t := 11) rfl (Surv.v _) (LeftS.cons (t := 12) rfl (Surv.v _) LeftS.nil)))), ?_⟩
  refine RunTK.last ?_
  refine RunK.nil ?_
  refine A.sub (Sub.cons (t := 1) rfl (Sub.cons (t := 1000001) rfl Sub.nil)) ?_
  refine A.regs (by kernel_rfl) (by kernel_rfl) (.inl rfl) ?_
  refine RunTK.last ?_
  refine RunK.step rfl rfl (ok_make 40 Try.underlying32 info5 (by decide) rfl rfl rfl rfl rfl (by decide)) ?_
  refine RunK.step rfl rfl (ok_assign rfl) ?_
  refine RunK.nil ?_
  refine A.sub (Sub.cons (t := 1) rfl (Sub.cons (t := 2) rfl (Sub.cons (t := 1000001) rfl Sub.nil))) ?_
  refine A.open (t := 2) (k := 1000002) rfl fun g2 hg2 => ?_
  have hBg2 := hg2
  refine A.seq ?_
  refine A.regs (by kernel_rfl) (by kernel_rfl) (.inl rfl) ?_
  refine RunTK.last ?_
  refine RunK.step rfl rfl (ok_assign rfl) ?_
  refine RunK.nil ?_
  refine A.sub (Sub.cons (t := 1) rfl (Sub.cons (t := 2) rfl (Sub.cons (t := 3) rfl (Sub.cons (t := 1000001) rfl (Sub.cons (t := 1000002) rfl Sub.nil))))) ?_
  refine A.block ?_
  refine A.loop (ι := Nat) (fun i => i ≤ 40) (fun i => [(1, .v (.pointer (some ⟨b1, 0, none⟩))), (2, .v (.slice (some ⟨g2, 0, none⟩) 40 40)), (3, .v (.int .i64 ((i : Nat) : Int))), (1000001, blk b1 28 (rowV 16 (lst16 [1, 2, 3]) ++ [.int .u32 ((7 : Nat) : Int), .int .u64 ((18446744073709551615 : Nat) : Int)])), (1000002, blk g2 5 (rowV 40 (cutF (fun j => j) i)))]) (fun i => 40 - i) 0 ?_ ?_ ?_
  · exact Nat.zero_le _
  · exact (Sub.cons (t := 1) rfl (Sub.eq (t := 2) _ rfl (by rfl) (Sub.cons (t := 3) rfl (Sub.cons (t := 1000001) rfl (Sub.eq (t := 1000002) _ rfl (congrArg _ (cutF_zero 40 _)) Sub.nil)))))
  intro i hi'
  refine A.seq ?_
  refine A.regs (by kernel_rfl) (by kernel_rfl) (.inl rfl) ?_
  refine RunTK.last ?_
  refine RunK.step rfl rfl (ok_move rfl) ?_
  refine RunK.step rfl rfl (ok_bin rfl rfl rfl) ?_
  refine RunK.nil ?_
  refine A.sub (Sub.cons (t := 1) rfl (Sub.cons (t := 2) rfl (Sub.cons (t := 3) rfl (Sub.cons (t := 15) rfl (Sub.cons (t := 1000001) rfl (Sub.cons (t := 1000002) rfl Sub.nil)))))) ?_
  refine A.cond rfl (fun hc15 => ?_) (fun hc15 => ?_)
  · have hi : i < 40 := by simp at hc15; omega
    refine A.skip ?_
    refine End.normal_then (End.code ?_)
    refine A.seq ?_
    refine A.block ?_
    refine A.regs (by kernel_rfl) (by kernel_rfl) (.inl rfl) ?_
    refine RunTK.eff 5 (by decide) rfl (.inl rfl) ?_
    refine RunK.step rfl rfl (ok_move rfl) ?_
    refine RunK.step rfl rfl (ok_move rfl) ?_
    refine RunK.step rfl rfl (ok_move rfl) ?_
    refine RunK.step rfl rfl (ok_conv Try.underlying3 Try.underlying5 rfl) ?_; refine RunK.as (.int .u8 ((i : Nat) : Int)) (by rw [wrapN_u8 (by omega)]) ?_
    refine RunK.step rfl rfl (ok_indexV i Try.underlying32 info5 rfl rfl rfl (by omega)) ?_
    refine RunK.nil ?_
    refine ⟨_, eff_storeS (n := 115) (s := 1000002) info5 rfl rfl rfl hBg2 rfl (by simp only [rowV_length]; omega) (LeftS.cons (t := 1) rfl (Surv.v _) (LeftS.cons (t := 2) rfl (Surv.v _) (LeftS.cons (t := 3) rfl (Surv.v _) (LeftS.cons (t := 15) rfl (Surv.v _) (LeftS.cons (t := 18) rfl (Surv.v _) (LeftS.cons (t := 19) rfl (Surv.v _) (LeftS.cons (t := 20) rfl (Surv.v _) (LeftS.cons (t := 21) rfl (Surv.v _) (LeftS.cons (t := 22) rfl (Surv.v _) (LeftS.cons (t := 1000001) rfl (Surv.blkT (by decide)) LeftS.nil)))))))))), ?_⟩
    refine RunTK.last ?_
    refine RunK.nil ?_
    refine A.sub (Sub.cons (t := 1) rfl (Sub.cons (t := 2) rfl (Sub.cons (t := 3) rfl (Sub.cons (t := 1000001) rfl (Sub.eq (t := 1000002) _ rfl (show _ = blk g2 5 (rowV 40 (cutF (fun j => j) (i + 1))) from congrArg _ (cutF_set (Nat.zero_add i) rfl)) Sub.nil))))) ?_
    refine A.regs (by kernel_rfl) (by kernel_rfl) (.inr (by kernel_rfl)) ?_
    refine RunTK.last ?_
    refine RunK.step rfl rfl (ok_loadA (s := 1000001) (by decide) Try.underlying28 rfl (size28.of (K_len _ _ _)) rfl rfl) ?_
    refine RunK.step rfl rfl (ok_move rfl) ?_
    refine RunK.step rfl rfl (ok_move rfl) ?_
    refine RunK.step rfl rfl (ok_move rfl) ?_
    refine RunK.step rfl rfl ((ok_sliceE (l := 0) (h := i) (m := 40) Try.underlying32 info5 rfl (.inr ⟨rfl, rfl⟩) (.inl ⟨_, _, rfl, rfl⟩) (.inr ⟨rfl, rfl⟩) (by omega) (by omega) (by omega)).fact (d := byt (rowL (cutF (fun j => j) (i + 1)) 0 i)) (s := 1000002) (by decide) rfl (slice_byt (rowL (cutF (fun j => j) (i + 1)) 0 i) (rowL_length _ _ _).symm (by omega) (by decide) (rowL_row (n := 40) (o := 0) (m := i) (cutid_lt (n := i + 1) (by omega)) (by omega)))) ?_
    refine RunK.step rfl rfl (ok_call (StreamsXor_fn (lst16 [1, 2, 3]) (by_lst7 (by decide)) 7 18446744073709551615 (by decide) (by decide) (i : Int) (rowL (cutF (fun j => j) (i + 1)) 0 i) (by omega) (by omega)) (Args.cons rfl (Le.refl _) (Args.cons rfl (Le.refl _) (Args.cons rfl (Le.refl _) Args.nil)))) ?_
    refine RunK.step rfl rfl (ok_not rfl) ?_; refine RunK.as (.bool false) (by rfl) ?_
    refine RunK.step rfl rfl (ok_move rfl) ?_
    refine RunK.guarded rfl rfl rfl rfl (ok_loadA (s := 1000001) (by decide) Try.underlying28 rfl (size28.of (K_len _ _ _)) rfl rfl) ?_
    refine RunK.guarded rfl rfl rfl rfl (ok_move rfl) ?_
    refine RunK.guarded rfl rfl rfl rfl (ok_conv Try.underlying3 Try.underlying39 rfl) ?_; refine RunK.as (.int .u16 ((i : Nat) : Int)) (by rw [wrapN_u16 (by omega)]) ?_
    refine RunK.guarded rfl rfl rfl rfl (ok_move rfl) ?_
    refine RunK.guarded rfl rfl rfl rfl (ok_move rfl) ?_
    refine RunK.guarded rfl rfl rfl rfl (ok_sliceE (l := 0) (h := i) (m := 40) Try.underlying32 info5 rfl (.inr ⟨rfl, rfl⟩) (.inl ⟨_, _, rfl, rfl⟩) (.inr ⟨rfl, rfl⟩) (by omega) (by omega) (by omega)) ?_; refine RunK.as (.slice (some ⟨g2, 0, none⟩) i 40) (by rw [if_neg (by decide)]; rfl) ?_
    refine RunK.guarded rfl rfl rfl rfl (ok_move rfl) ?_
    refine RunK.guarded rfl rfl rfl rfl (ok_move rfl) ?_
    refine RunK.guarded rfl rfl rfl rfl (ok_sliceE (l := i) (h := 40) (m := 40) Try.underlying32 info5 rfl (.inl ⟨_, _, rfl, rfl⟩) (.inr ⟨rfl, rfl, rfl⟩) (.inr ⟨rfl, rfl⟩) (by omega) (by omega) (by omega)) ?_; refine RunK.as (.slice (some ⟨g2, i, none⟩) (40 - i) (40 - i)) (by rw [if_neg (by omega), Nat.zero_add]) ?_
    refine RunK.guarded rfl rfl rfl rfl (OpOk.fact (ok_litU [.slice (some ⟨g2, 0, none⟩) i 40, .slice (some ⟨g2, i, none⟩) (40 - i) (40 - i)] [.slice (some ⟨g2, 0, none⟩) i 40, .slice (some ⟨g2, i, none⟩) (40 - i) (40 - i)] ⟨rfl, rfl, rfl, rfl, trivial⟩ (by kernel_rfl)) (d := pairD (byt (rowL (cutF (fun j => j) (i + 1)) 0 i)) (byt (rowL (cutF (fun j => j) (i + 1)) i (40 - i)))) (s := 1000002) (by decide) rfl (fun B w hb hh => ⟨_, _, rfl, slice_byt (rowL (cutF (fun j => j) (i + 1)) 0 i) (rowL_length _ _ _).symm (by omega) (by decide) (rowL_row (n := 40) (o := 0) (m := i) (cutid_lt (n := i + 1) (by omega)) (by omega)) B w hb hh, slice_byt (rowL (cutF (fun j => j) (i + 1)) i (40 - i)) (rowL_length _ _ _).symm (by omega) (by simp only [maxLen]; omega) (rowL_row (n := 40) (o := i) (m := 40 - i) (cutid_lt (n := i + 1) (by omega)) (by omega)) B w hb hh⟩)) ?_
    refine RunK.guarded rfl rfl rfl rfl (ok_call (StreamsParts_fn (lst16 [1, 2, 3]) (by_lst7 (by decide)) 7 18446744073709551615 (by decide) (by decide) i (by omega) (rowL (cutF (fun j => j) (i + 1)) 0 i) (rowL (cutF (fun j => j) (i + 1)) i (40 - i))) (Args.cons rfl (Le.refl _) (Args.cons rfl (Le.refl _) (Args.cons rfl (Le.refl _) Args.nil)))) ?_
    refine RunK.guarded rfl rfl rfl rfl (ok_not rfl) ?_; refine RunK.as (.bool false) (by rfl) ?_
    refine RunK.step rfl rfl (ok_pick rfl rfl) ?_
    refine RunK.step rfl rfl (ok_move rfl) ?_
    refine RunK.guarded rfl rfl rfl rfl (ok_field field28_1 (by decide) rfl) ?_
    refine RunK.guarded rfl rfl rfl rfl (ok_loadP (s := 1000001) (by decide) Try.underlying26 rfl size26 rfl rfl (by simp only [List.length_append, rowV_length, List.length_cons, List.length_nil]; decide) (K_non _ _ _)) ?_
    refine RunK.guarded rfl rfl rfl rfl (ok_move rfl) ?_
    refine RunK.guarded rfl rfl rfl rfl (ok_move rfl) ?_
    refine RunK.guarded rfl rfl rfl rfl (ok_bin rfl rfl rfl) ?_; refine RunK.as (.int .i64 ((40 - i : Nat) : Int)) (by rw [wrap_i64 (by omega) (by omega)]; exact congrArg (Value.int .i64) (by omega)) ?_
    refine RunK.guarded rfl rfl rfl rfl (ok_call (StreamsUsed_fn 7 18446744073709551615 (i : Int) ((40 - i : Nat) : Int) (by omega)) (Args.cons rfl (Le.refl _) (Args.cons rfl (Le.refl _) (Args.cons rfl (Le.refl _) Args.nil)))) ?_
    refine RunK.guarded rfl rfl rfl rfl (ok_not rfl) ?_; refine RunK.as (.bool false) (by rfl) ?_
    refine RunK.step rfl rfl (ok_pick rfl rfl) ?_
    refine RunK.nil ?_
    refine A.sub (Sub.cons (t := 1) rfl (Sub.cons (t := 2) rfl (Sub.cons (t := 3) rfl (Sub.cons (t := 52) rfl (Sub.cons (t := 1000001) rfl (Sub.cons (t := 1000002) rfl Sub.nil)))))) ?_
    refine A.no rfl ?_
    refine A.skip ?_
    refine End.normal_block ?_
    refine End.normal_then (End.code ?_)
    refine A.reg (by kernel_rfl) (by kernel_rfl) (.inl rfl) ?_
    refine RunTK.last ?_
    refine RunK.step rfl rfl (ok_move rfl) ?_
    refine RunK.step rfl rfl (ok_bin rfl rfl rfl) ?_; refine RunK.as (.int .i64 ((i + 1 : Nat) : Int)) (by rw [wrap_i64 (by omega) (by omega)]; exact congrArg (Value.int .i64) (by omega)) ?_
    refine RunK.step rfl rfl (ok_assign rfl) ?_
    refine RunK.nil ?_
    refine End.sub (Sub.cons (t := 1) rfl (Sub.cons (t := 2) rfl (Sub.cons (t := 3) rfl (Sub.cons (t := 1000001) rfl (Sub.cons (t := 1000002) rfl Sub.nil))))) ?_
    refine End.normal_then ?_
    refine End.again (i + 1) ?_ ?_ ?_
    · show _ ≤ _; omega
    · show _ - _ < _ - _; omega
    · exact (Sub.cons (t := 1) rfl (Sub.cons (t := 2) rfl (Sub.cons (t := 3) rfl (Sub.cons (t := 1000001) rfl (Sub.cons (t := 1000002) rfl Sub.nil)))))
  · obtain rfl : i = 40 := by simp at hc15; omega
    refine A.exit ?_
    refine End.exit_then ?_
    refine End.exit_then ?_
    refine End.exit_here ?_
    refine End.normal_then (End.code ?_)
    refine A.regs (by kernel_rfl) (by kernel_rfl) (.inl rfl) ?_
    refine RunTK.last ?_
    refine RunK.step rfl rfl (ok_field field28_0 (by decide) rfl) ?_
    refine RunK.step rfl rfl (ok_loadP (s := 1000001) (by decide) Try.underlying22 rfl size22 rfl rfl (by simp only [List.length_append, rowV_length, List.length_cons, List.length_nil]; decide) (K_key _ _)) ?_
    refine RunK.step rfl rfl (ok_field field28_1 (by decide) rfl) ?_
    refine RunK.step rfl rfl (ok_loadP (s := 1000001) (by decide) Try.underlying26 rfl size26 rfl rfl (by simp only [List.length_append, rowV_length, List.length_cons, List.length_nil]; decide) (K_non _ _ _)) ?_
    refine RunK.step rfl rfl (ok_moveB (s := 1000002) (rowL (cutF (fun j => j) 40) 0 40) (by decide) rfl rfl (rowL_length _ _ _).symm (by decide) (by decide) (rowL_row (cutid_lt (by decide)) (by decide))) ?_
    refine RunK.step rfl rfl (ok_call (Xor7_fn (lst16 [1, 2, 3]) (by_lst7 (by decide)) 7 18446744073709551615 1048536 (rowL (cutF (fun j => j) 40) 0 40) (by decide) (by decide) (by rw [rowL_length]; decide)) (Args.cons rfl (Le.refl _) (Args.cons rfl (Le.refl _) (Args.cons rfl (Le.refl _) (Args.cons rfl (Le.refl _) Args.nil))))) ?_
    refine RunK.step rfl rfl (ok_move rfl) ?_
    refine RunK.step rfl rfl (ok_extract rfl rfl) ?_
    refine RunK.step rfl rfl (ok_extract rfl rfl) ?_
    refine RunK.step rfl rfl (ok_assign rfl) ?_
    refine RunK.step rfl rfl (ok_assign rfl) ?_
    refine RunK.nil ?_
    refine A.sub (Sub.cons (t := 1) rfl (Sub.cons (t := 2) rfl (Sub.cons (t := 4) rfl (Sub.cons (t := 5) rfl (Sub.cons (t := 1000001) rfl (Sub.cons (t := 1000002) rfl Sub.nil)))))) ?_
    refine A.regs (by kernel_rfl) (by kernel_rfl) (.inl rfl) ?_
    refine RunTK.last ?_
    refine RunK.step rfl rfl (ok_field field28_0 (by decide) rfl) ?_
    refine RunK.step rfl rfl (ok_loadP (s := 1000001) (by decide) Try.underlying22 rfl size22 rfl rfl (by simp only [List.length_append, rowV_length, List.length_cons, List.length_nil]; decide) (K_key _ _)) ?_
    refine RunK.step rfl rfl (ok_field field28_1 (by decide) rfl) ?_
    refine RunK.step rfl rfl (ok_loadP (s := 1000001) (by decide) Try.underlying26 rfl size26 rfl rfl (by simp only [List.length_append, rowV_length, List.length_cons, List.length_nil]; decide) (K_non _ _ _)) ?_
    refine RunK.step rfl rfl (ok_call (Xor7_fn (lst16 [1, 2, 3]) (by_lst7 (by decide)) 7 18446744073709551615 1048576 [] (by decide) (by decide) (by decide)) (Args.cons rfl (Le.refl _) (Args.cons rfl (Le.refl _) (Args.cons rfl (Le.refl _) (Args.cons rfl byt_nil_le Args.nil))))) ?_
    refine RunK.step rfl rfl (ok_move rfl) ?_
    refine RunK.step rfl rfl (ok_extract rfl rfl) ?_
    refine RunK.step rfl rfl (ok_extract rfl rfl) ?_
    refine RunK.step rfl rfl (ok_assign rfl) ?_
    refine RunK.step rfl rfl (ok_assign rfl) ?_
    refine RunK.nil ?_
    refine A.sub (Sub.cons (t := 1) rfl (Sub.cons (t := 2) rfl (Sub.cons (t := 4) rfl (Sub.cons (t := 5) rfl (Sub.cons (t := 6) rfl (Sub.cons (t := 7) rfl (Sub.cons (t := 1000001) rfl (Sub.cons (t := 1000002) rfl Sub.nil)))))))) ?_
    refine A.regs (by kernel_rfl) (by kernel_rfl) (.inl rfl) ?_
    refine RunTK.last ?_
    refine RunK.step rfl rfl (ok_field field28_0 (by decide) rfl) ?_
    refine RunK.step rfl rfl (ok_loadP (s := 1000001) (by decide) Try.underlying22 rfl size22 rfl rfl (by simp only [List.length_append, rowV_length, List.length_cons, List.length_nil]; decide) (K_key _ _)) ?_
    refine RunK.step rfl rfl (ok_field field28_1 (by decide) rfl) ?_
    refine RunK.step rfl rfl (ok_loadP (s := 1000001) (by decide) Try.underlying26 rfl size26 rfl rfl (by simp only [List.length_append, rowV_length, List.length_cons, List.length_nil]; decide) (K_non _ _ _)) ?_
    refine RunK.step rfl rfl (ok_call (Xor7_big (lst16 [1, 2, 3]) 7 18446744073709551615 1048577 [] (by decide) (by decide) (by decide)) (Args.cons rfl (Le.refl _) (Args.cons rfl (Le.refl _) (Args.cons rfl (Le.refl _) (Args.cons rfl byt_nil_le Args.nil))))) ?_
    refine RunK.step rfl rfl (ok_move rfl) ?_
    refine RunK.step rfl rfl (ok_extract rfl rfl) ?_
    refine RunK.step rfl rfl (ok_extract rfl rfl) ?_
    refine RunK.step rfl rfl (ok_assign rfl) ?_
    refine RunK.step rfl rfl (ok_assign rfl) ?_
    refine RunK.nil ?_
    refine A.sub (Sub.cons (t := 1) rfl (Sub.cons (t := 2) rfl (Sub.cons (t := 4) rfl (Sub.cons (t := 5) rfl (Sub.cons (t := 6) rfl (Sub.cons (t := 7) rfl (Sub.cons (t := 8) rfl (Sub.cons (t := 9) rfl (Sub.cons (t := 1000001) rfl (Sub.cons (t := 1000002) rfl Sub.nil)))))))))) ?_
    refine A.regs (by kernel_rfl) (by kernel_rfl) (.inl rfl) ?_
    refine RunTK.last ?_
    refine RunK.step rfl rfl (ok_move rfl) ?_
    refine RunK.step rfl rfl (ok_move rfl) ?_
    refine RunK.step rfl rfl (ok_field field28_0 (by decide) rfl) ?_
    refine RunK.step rfl rfl (ok_loadP (s := 1000001) (by decide) Try.underlying22 rfl size22 rfl rfl (by simp only [List.length_append, rowV_length, List.length_cons, List.length_nil]; decide) (K_key _ _)) ?_
    refine RunK.step rfl rfl (ok_field field28_1 (by decide) rfl) ?_
    refine RunK.step rfl rfl (ok_loadP (s := 1000001) (by decide) Try.underlying26 rfl size26 rfl rfl (by simp only [List.length_append, rowV_length, List.length_cons, List.length_nil]; decide) (K_non _ _ _)) ?_
    refine RunK.step rfl rfl (ok_moveB (s := 1000002) (rowL (cutF (fun j => j) 40) 0 40) (by decide) rfl rfl (rowL_length _ _ _).symm (by decide) (by decide) (rowL_row (cutid_lt (by decide)) (by decide))) ?_
    refine RunK.step rfl rfl (ok_call (ref7Xor_fn (lst16 [1, 2, 3]) (by_lst7 (by decide)) 7 18446744073709551615 1048536 (rowL (cutF (fun j => j) 40) 0 40) (by decide) (by decide) (by rw [rowL_length]; decide)) (Args.cons rfl (Le.refl _) (Args.cons rfl (Le.refl _) (Args.cons rfl (Le.refl _) (Args.cons rfl (Le.refl _) Args.nil))))) ?_
    refine RunK.step rfl rfl (ok_call (same7_fn (xorK (lst16 [1, 2, 3]) 7 18446744073709551615 1048536 (rowL (cutF (fun j => j) 40) 0 40)) 0) (Args.cons rfl (Le.eq (by rw [xorK_length])) (Args.cons rfl (Le.refl _) (Args.cons rfl (Le.refl _) (Args.cons rfl (Le.refl _) Args.nil))))) ?_
    refine RunK.step rfl rfl (ok_move rfl) ?_
    refine RunK.guarded rfl rfl rfl rfl (ok_move rfl) ?_
    refine RunK.guarded rfl rfl rfl rfl (ok_move rfl) ?_
    refine RunK.guarded rfl rfl rfl rfl (ok_call (same7_fn [] 0) (Args.cons rfl (Le.eq rfl) (Args.cons rfl (Le.refl _) (Args.cons rfl byt_nil_le (Args.cons rfl (Le.refl _) Args.nil))))) ?_
    refine RunK.step rfl rfl (ok_pick rfl rfl) ?_
    refine RunK.step rfl rfl (ok_move rfl) ?_
    refine RunK.guarded rfl rfl rfl rfl (ok_move rfl) ?_
    refine RunK.guarded rfl rfl rfl rfl (ok_move rfl) ?_
    refine RunK.guarded rfl rfl rfl rfl (ok_call (same7_fn [] 3) (Args.cons rfl bytes_nil_le (Args.cons rfl (Le.refl _) (Args.cons rfl byt_nil_le (Args.cons rfl (Le.refl _) Args.nil))))) ?_
    refine RunK.step rfl rfl (ok_pick rfl rfl) ?_
    refine RunK.step rfl rfl (ok_move rfl) ?_
    refine RunK.guarded rfl rfl rfl rfl (ok_loadA (s := 1000001) (by decide) Try.underlying28 rfl (size28.of (K_len _ _ _)) rfl rfl) ?_
    refine RunK.guarded rfl rfl rfl rfl (ok_moveB (s := 1000002) (rowL (cutF (fun j => j) 40) 0 40) (by decide) rfl rfl (rowL_length _ _ _).symm (by decide) (by decide) (rowL_row (cutid_lt (by decide)) (by decide))) ?_
    refine RunK.guarded rfl rfl rfl rfl (ok_call (StreamsXor_fn (lst16 [1, 2, 3]) (by_lst7 (by decide)) 7 18446744073709551615 (by decide) (by decide) 1048537 (rowL (cutF (fun j => j) 40) 0 40) (by decide) (by decide)) (Args.cons rfl (Le.refl _) (Args.cons rfl (Le.refl _) (Args.cons rfl (Le.refl _) Args.nil)))) ?_
    refine RunK.step rfl rfl (ok_pick rfl rfl) ?_
    refine RunK.step rfl rfl (ok_move rfl) ?_
    refine RunK.guarded rfl rfl rfl rfl (ok_field field28_1 (by decide) rfl) ?_
    refine RunK.guarded rfl rfl rfl rfl (ok_loadP (s := 1000001) (by decide) Try.underlying26 rfl size26 rfl rfl (by simp only [List.length_append, rowV_length, List.length_cons, List.length_nil]; decide) (K_non _ _ _)) ?_
    refine RunK.guarded rfl rfl rfl rfl (ok_call (StreamsUsed_fn 7 18446744073709551615 1048576 0 (by decide)) (Args.cons rfl (Le.refl _) (Args.cons rfl (Le.refl _) (Args.cons rfl (Le.refl _) Args.nil)))) ?_
    refine RunK.step rfl rfl (ok_pick rfl rfl) ?_
    refine RunK.step rfl rfl (ok_move rfl) ?_
    refine RunK.guarded rfl rfl rfl rfl (ok_field field28_1 (by decide) rfl) ?_
    refine RunK.guarded rfl rfl rfl rfl (ok_loadP (s := 1000001) (by decide) Try.underlying26 rfl size26 rfl rfl (by simp only [List.length_append, rowV_length, List.length_cons, List.length_nil]; decide) (K_non _ _ _)) ?_
    refine RunK.guarded rfl rfl rfl rfl (ok_call (StreamsUsed_fn 7 18446744073709551615 0 1048576 (by decide)) (Args.cons rfl (Le.refl _) (Args.cons rfl (Le.refl _) (Args.cons rfl (Le.refl _) Args.nil)))) ?_
    refine RunK.step rfl rfl (ok_pick rfl rfl) ?_
    refine RunK.step rfl rfl (ok_move rfl) ?_
    refine RunK.guarded rfl rfl rfl rfl (ok_call lives7_fn Args.nil) ?_
    refine RunK.step rfl rfl (ok_pick rfl rfl) ?_
    refine RunK.step rfl rfl (ok_assign rfl) ?_
    refine RunK.nil ?_
    refine A.sub (Sub.cons (t := 0) rfl (Sub.cons (t := 1000001) rfl (Sub.cons (t := 1000002) rfl Sub.nil))) ?_
    refine A.ret ?_
    exact End.ret1 rfl rfl (by first | exact Le.refl _ | exact Le.old _ _)
end Go.Proofs.Ythggljahgnjcbaa
