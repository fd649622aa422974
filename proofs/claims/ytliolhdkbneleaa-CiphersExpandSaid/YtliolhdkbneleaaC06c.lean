/-
  The laws of caissonlaw06, by facts.
-/
import Derived.Test.YtliolhdkbneleaaC06b
namespace Go.Proofs.Ytliolhdkbneleaa
open Go Go.RowKit
set_option linter.unusedVariables false
set_option maxRecDepth 100000
theorem by_lst {l : List Nat} (h : l.all (fun x => Nat.blt x 256) = true) : By (lst16 l) := fun i => by
  unfold lst16
  rw [List.getD_eq_getElem?_getD]
  cases hi : l[i]? with
  | none => exact Nat.zero_lt_succ _
  | some x => exact Nat.le_of_ble_eq_true (List.all_eq_true.1 h x (List.mem_of_getElem? hi))
theorem by_zero : By fun _ => 0 := fun _ => Nat.zero_lt_succ _
theorem part_key {k : Sta} {j : Nat} {m : List Nat} (hj : j < 11) (h : Eq16 (keyS (expand k) j) (lst16 m)) : ((rowV 176 (expand k)).drop (0 + j * 16)).take 16 = rowV 16 (lst16 m) :=
  rowV_part (by omega) fun i hi => (congrArg (expand k) (by omega)).trans (h i hi)
/-- Bytes that rise. -/
def rise (a : Nat) : Sta := fun i => a * i % 256
theorem rise_by (a : Nat) : By (rise a) := fun _ => Nat.mod_lt _ (by decide)
/-- A block with one bit. -/
def oneB (i : Nat) : Sta := fun j => if j = i then 2 ^ (i % 8) else 0
theorem pow8 (i : Nat) : 2 ^ (i % 8) < 256 := Nat.pow_lt_pow_right (a := 2) (n := 8) (by decide) (Nat.mod_lt _ (by decide))
theorem oneB_by (i : Nat) : By (oneB i) := fun j => by
  unfold oneB; split
  · exact pow8 i
  · decide
/-- Three round keys, the other ones 0. -/
def kn3 (f : Sta) : Nat → Nat := fun j => if j < 16 then f j else if j < 32 then 0 else if j < 48 then f (j - 32) else 0
theorem kn3_lt {f : Sta} (h : By f) (j : Nat) : kn3 f j < 256 := by
  unfold kn3
  split
  · exact h _
  · split
    · decide
    · split
      · exact h _
      · decide
theorem build23 (f : Nat → Nat) : Try.prog.built 23 (([aggV (rowV 16 f), aggV (rowV 16 fun _ => 0), aggV (rowV 16 f)].zipIdx 0).map fun x => (x.2, x.1)) = some (rowV 176 (kn3 f)).toArray := by kernel_rfl

def ksA : List (List Nat) := [[0, 1, 2, 3, 4, 5, 6, 7, 8, 9, 10, 11, 12, 13, 14, 15],
  [214, 170, 116, 253, 210, 175, 114, 250, 218, 166, 120, 241, 214, 171, 118, 254],
  [182, 146, 207, 11, 100, 61, 189, 241, 190, 155, 197, 0, 104, 48, 179, 254],
  [182, 255, 116, 78, 210, 194, 201, 191, 108, 89, 12, 191, 4, 105, 191, 65],
  [71, 247, 247, 188, 149, 53, 62, 3, 249, 108, 50, 188, 253, 5, 141, 253],
  [60, 170, 163, 232, 169, 159, 157, 235, 80, 243, 175, 87, 173, 246, 34, 170],
  [94, 57, 15, 125, 247, 166, 146, 150, 167, 85, 61, 193, 10, 163, 31, 107],
  [20, 249, 112, 26, 227, 95, 226, 140, 68, 10, 223, 77, 78, 169, 192, 38],
  [71, 67, 135, 53, 164, 28, 101, 185, 224, 22, 186, 244, 174, 191, 122, 210],
  [84, 153, 50, 209, 240, 133, 87, 104, 16, 147, 237, 156, 190, 44, 151, 78],
  [19, 17, 29, 127, 227, 148, 74, 23, 243, 7, 167, 139, 77, 43, 48, 197]]
def stA : List (List Nat) := [[0, 16, 32, 48, 64, 80, 96, 112, 128, 144, 160, 176, 192, 208, 224, 240],
  [137, 216, 16, 232, 133, 90, 206, 104, 45, 24, 67, 216, 203, 18, 143, 228],
  [73, 21, 89, 143, 85, 229, 215, 160, 218, 202, 148, 250, 31, 10, 99, 247],
  [250, 99, 106, 40, 37, 179, 57, 201, 64, 102, 138, 49, 87, 36, 77, 23],
  [36, 114, 64, 35, 105, 102, 179, 250, 110, 210, 117, 50, 136, 66, 91, 108],
  [200, 22, 119, 188, 155, 122, 201, 59, 37, 2, 121, 146, 176, 38, 25, 150],
  [198, 47, 225, 9, 247, 94, 237, 195, 204, 121, 57, 93, 132, 249, 207, 93],
  [209, 135, 108, 15, 121, 196, 48, 10, 180, 85, 148, 173, 214, 111, 244, 31],
  [253, 227, 186, 210, 5, 229, 208, 215, 53, 71, 150, 78, 241, 254, 55, 241],
  [189, 110, 124, 61, 242, 181, 119, 158, 11, 97, 33, 110, 139, 16, 182, 137]]
theorem ksA_ok : chainK ksA 0 = true := by kernel_rfl
theorem stA_ok : chainE stA (ksA.drop 1) = true := by kernel_rfl
theorem keyA {k : Sta} (h : Eq16 k (lst16 [0, 1, 2, 3, 4, 5, 6, 7, 8, 9, 10, 11, 12, 13, 14, 15])) {j : Nat} {m : List Nat} (hm : ksA[j]? = some m) : Eq16 (keyS (expand k) j) (lst16 m) := keys_of ksA rfl h ksA_ok hm
theorem encA {k f : Sta} (h : Eq16 k (lst16 [0, 1, 2, 3, 4, 5, 6, 7, 8, 9, 10, 11, 12, 13, 14, 15])) (hf : Eq16 f (lst16 [0, 17, 34, 51, 68, 85, 102, 119, 136, 153, 170, 187, 204, 221, 238, 255])) : Eq16 (enc (expand k) f) (lst16 [105, 196, 224, 216, 106, 123, 4, 48, 216, 205, 183, 128, 112, 180, 197, 90]) :=
  enc_of stA ksA hf rfl rfl (fun j m hm => keyA h hm) (by decide) (by kernel_rfl) stA_ok (s9 := [189, 110, 124, 61, 242, 181, 119, 158, 11, 97, 33, 110, 139, 16, 182, 137]) rfl (k9 := [19, 17, 29, 127, 227, 148, 74, 23, 243, 7, 167, 139, 77, 43, 48, 197]) rfl (by kernel_rfl)
def ksB : List (List Nat) := [[43, 126, 21, 22, 40, 174, 210, 166, 171, 247, 21, 136, 9, 207, 79, 60],
  [160, 250, 254, 23, 136, 84, 44, 177, 35, 163, 57, 57, 42, 108, 118, 5],
  [242, 194, 149, 242, 122, 150, 185, 67, 89, 53, 128, 122, 115, 89, 246, 127],
  [61, 128, 71, 125, 71, 22, 254, 62, 30, 35, 126, 68, 109, 122, 136, 59],
  [239, 68, 165, 65, 168, 82, 91, 127, 182, 113, 37, 59, 219, 11, 173, 0],
  [212, 209, 198, 248, 124, 131, 157, 135, 202, 242, 184, 188, 17, 249, 21, 188],
  [109, 136, 163, 122, 17, 11, 62, 253, 219, 249, 134, 65, 202, 0, 147, 253],
  [78, 84, 247, 14, 95, 95, 201, 243, 132, 166, 79, 178, 78, 166, 220, 79],
  [234, 210, 115, 33, 181, 141, 186, 210, 49, 43, 245, 96, 127, 141, 41, 47],
  [172, 119, 102, 243, 25, 250, 220, 33, 40, 209, 41, 65, 87, 92, 0, 110],
  [208, 20, 249, 168, 201, 238, 37, 137, 225, 63, 12, 200, 182, 99, 12, 166]]
def stB : List (List Nat) := [[25, 61, 227, 190, 160, 244, 226, 43, 154, 198, 141, 42, 233, 248, 72, 8],
  [164, 156, 127, 242, 104, 159, 53, 43, 107, 91, 234, 67, 2, 106, 80, 73],
  [170, 143, 95, 3, 97, 221, 227, 239, 130, 210, 74, 210, 104, 50, 70, 154],
  [72, 108, 78, 238, 103, 29, 157, 13, 77, 227, 177, 56, 214, 95, 88, 231],
  [224, 146, 127, 232, 200, 99, 99, 192, 217, 177, 53, 80, 133, 184, 190, 1],
  [241, 0, 111, 85, 193, 146, 76, 239, 124, 200, 139, 50, 93, 181, 213, 12],
  [38, 14, 46, 23, 61, 65, 183, 125, 232, 100, 114, 169, 253, 210, 139, 37],
  [90, 65, 66, 177, 25, 73, 220, 31, 163, 224, 25, 101, 122, 140, 4, 12],
  [234, 131, 92, 240, 4, 69, 51, 45, 101, 93, 152, 173, 133, 150, 176, 197],
  [235, 64, 242, 30, 89, 46, 56, 132, 139, 161, 19, 231, 27, 195, 66, 210]]
theorem ksB_ok : chainK ksB 0 = true := by kernel_rfl
theorem stB_ok : chainE stB (ksB.drop 1) = true := by kernel_rfl
theorem keyB {k : Sta} (h : Eq16 k (lst16 [43, 126, 21, 22, 40, 174, 210, 166, 171, 247, 21, 136, 9, 207, 79, 60])) {j : Nat} {m : List Nat} (hm : ksB[j]? = some m) : Eq16 (keyS (expand k) j) (lst16 m) := keys_of ksB rfl h ksB_ok hm
theorem encB {k f : Sta} (h : Eq16 k (lst16 [43, 126, 21, 22, 40, 174, 210, 166, 171, 247, 21, 136, 9, 207, 79, 60])) (hf : Eq16 f (lst16 [50, 67, 246, 168, 136, 90, 48, 141, 49, 49, 152, 162, 224, 55, 7, 52])) : Eq16 (enc (expand k) f) (lst16 [57, 37, 132, 29, 2, 220, 9, 251, 220, 17, 133, 151, 25, 106, 11, 50]) :=
  enc_of stB ksB hf rfl rfl (fun j m hm => keyB h hm) (by decide) (by kernel_rfl) stB_ok (s9 := [235, 64, 242, 30, 89, 46, 56, 132, 139, 161, 19, 231, 27, 195, 66, 210]) rfl (k9 := [208, 20, 249, 168, 201, 238, 37, 137, 225, 63, 12, 200, 182, 99, 12, 166]) rfl (by kernel_rfl)
def ksC : List (List Nat) := [[0, 0, 0, 0, 0, 0, 0, 0, 0, 0, 0, 0, 0, 0, 0, 0],
  [98, 99, 99, 99, 98, 99, 99, 99, 98, 99, 99, 99, 98, 99, 99, 99],
  [155, 152, 152, 201, 249, 251, 251, 170, 155, 152, 152, 201, 249, 251, 251, 170],
  [144, 151, 52, 80, 105, 108, 207, 250, 242, 244, 87, 51, 11, 15, 172, 153],
  [238, 6, 218, 123, 135, 106, 21, 129, 117, 158, 66, 178, 126, 145, 238, 43],
  [127, 46, 43, 136, 248, 68, 62, 9, 141, 218, 124, 187, 243, 75, 146, 144],
  [236, 97, 75, 133, 20, 37, 117, 140, 153, 255, 9, 55, 106, 180, 155, 167],
  [33, 117, 23, 135, 53, 80, 98, 11, 172, 175, 107, 60, 198, 27, 240, 155],
  [14, 249, 3, 51, 59, 169, 97, 56, 151, 6, 10, 4, 81, 29, 250, 159],
  [177, 212, 216, 226, 138, 125, 185, 218, 29, 123, 179, 222, 76, 102, 73, 65],
  [180, 239, 91, 203, 62, 146, 226, 17, 35, 233, 81, 207, 111, 143, 24, 142]]
def stC : List (List Nat) := [[0, 0, 0, 0, 0, 0, 0, 0, 0, 0, 0, 0, 0, 0, 0, 0],
  [1, 0, 0, 0, 1, 0, 0, 0, 1, 0, 0, 0, 1, 0, 0, 0],
  [198, 228, 228, 139, 164, 135, 135, 232, 198, 228, 228, 139, 164, 135, 135, 232],
  [40, 45, 243, 196, 106, 243, 134, 37, 74, 78, 144, 167, 8, 144, 229, 70],
  [171, 210, 205, 254, 55, 90, 181, 73, 80, 160, 175, 192, 117, 154, 106, 95],
  [212, 111, 79, 108, 85, 184, 150, 51, 126, 5, 187, 61, 121, 121, 222, 35],
  [4, 242, 202, 151, 7, 120, 40, 69, 226, 47, 1, 150, 73, 197, 215, 16],
  [183, 170, 228, 197, 29, 37, 45, 79, 108, 146, 15, 129, 148, 229, 129, 80],
  [35, 231, 140, 60, 19, 33, 99, 219, 170, 192, 198, 87, 46, 3, 203, 149],
  [127, 254, 14, 149, 81, 165, 102, 53, 14, 52, 124, 71, 41, 41, 236, 203]]
theorem ksC_ok : chainK ksC 0 = true := by kernel_rfl
theorem stC_ok : chainE stC (ksC.drop 1) = true := by kernel_rfl
theorem keyC {k : Sta} (h : Eq16 k (lst16 [0, 0, 0, 0, 0, 0, 0, 0, 0, 0, 0, 0, 0, 0, 0, 0])) {j : Nat} {m : List Nat} (hm : ksC[j]? = some m) : Eq16 (keyS (expand k) j) (lst16 m) := keys_of ksC rfl h ksC_ok hm
theorem encC {k f : Sta} (h : Eq16 k (lst16 [0, 0, 0, 0, 0, 0, 0, 0, 0, 0, 0, 0, 0, 0, 0, 0])) (hf : Eq16 f (lst16 [0, 0, 0, 0, 0, 0, 0, 0, 0, 0, 0, 0, 0, 0, 0, 0])) : Eq16 (enc (expand k) f) (lst16 [102, 233, 75, 212, 239, 138, 44, 59, 136, 76, 250, 89, 202, 52, 43, 46]) :=
  enc_of stC ksC hf rfl rfl (fun j m hm => keyC h hm) (by decide) (by kernel_rfl) stC_ok (s9 := [127, 254, 14, 149, 81, 165, 102, 53, 14, 52, 124, 71, 41, 41, 236, 203]) rfl (k9 := [180, 239, 91, 203, 62, 146, 226, 17, 35, 233, 81, 207, 111, 143, 24, 142]) rfl (by kernel_rfl)
theorem rising_fn (a : Nat) (ha : a < 256) : Fn Try.prog 20 [.v (.int .u8 ((a : Nat) : Int))] (.v (aggV (rowV 16 (rise a)))) := by
  refine Fn.of Try.func20 rfl (by kernel_rfl) Try.ntmps20 (by simp) (fun w => [(0, .v (.int .u8 ((a : Nat) : Int)))]) (fun w => (Start.v rfl Start.nil)) fun w₀ => ?_
  refine A.regs (by kernel_rfl) (by kernel_rfl) (.inl rfl) ?_
  refine RunTK.new 0 (by decide) rfl (.inl rfl) ?_
  refine RunK.nil ?_
  refine ⟨_, _, eff_alloc (n := 16) (d := 2) (k := 1000002) zero22 (by decide), fun b2 hb2 => ?_⟩
  have hBb2 := hb2.1
  refine RunTK.last ?_
  refine RunK.nil ?_
  refine A.sub (Sub.cons (t := 0) rfl (Sub.cons (t := 2) rfl (Sub.cons (t := 1000002) rfl Sub.nil))) ?_
  refine A.regs (by kernel_rfl) (by kernel_rfl) (.inl rfl) ?_
  refine RunTK.new 0 (by decide) rfl (.inl rfl) ?_
  refine RunK.nil ?_
  refine ⟨_, _, eff_alloc (n := 16) (d := 3) (k := 1000003) zero22 (by decide), fun b3 hb3 => ?_⟩
  have hBb3 := hb3.1
  have hlt_b2_b3 : b2 < b3 := hb3.2 1000002 _ _ _ rfl
  refine RunTK.last ?_
  refine RunK.nil ?_
  refine A.sub (Sub.cons (t := 0) rfl (Sub.cons (t := 2) rfl (Sub.cons (t := 3) rfl (Sub.cons (t := 1000002) rfl (Sub.cons (t := 1000003) rfl Sub.nil))))) ?_
  refine A.seq ?_
  refine A.regs (by kernel_rfl) (by kernel_rfl) (.inl rfl) ?_
  refine RunTK.last ?_
  refine RunK.step rfl rfl (ok_assign rfl) ?_
  refine RunK.nil ?_
  refine A.sub (Sub.cons (t := 0) rfl (Sub.cons (t := 2) rfl (Sub.cons (t := 3) rfl (Sub.cons (t := 4) rfl (Sub.cons (t := 1000002) rfl (Sub.cons (t := 1000003) rfl Sub.nil)))))) ?_
  refine A.block ?_
  refine A.loop (ι := Nat) (fun i => i ≤ 16) (fun i => [(2, .v (.pointer (some ⟨b2, 0, none⟩))), (3, .v (.pointer (some ⟨b3, 0, none⟩))), (0, .v (.int .u8 ((a : Nat) : Int))), (4, .v (.int .i64 ((i : Nat) : Int))), (1000002, blk b2 22 (List.replicate 16 (.int .u8 0))), (1000003, blk b3 22 (rowV 16 (cutF (rise a) i)))]) (fun i => 16 - i) 0 ?_ ?_ ?_
  · exact Nat.zero_le _
  · exact (Sub.cons (t := 2) rfl (Sub.cons (t := 3) rfl (Sub.cons (t := 0) rfl (Sub.cons (t := 4) rfl (Sub.cons (t := 1000002) rfl (Sub.eq (t := 1000003) _ rfl (congrArg _ (cutF_zero 16 _)) Sub.nil))))))
  intro i hi'
  refine A.seq ?_
  refine A.regs (by kernel_rfl) (by kernel_rfl) (.inl rfl) ?_
  refine RunTK.last ?_
  refine RunK.step rfl rfl (ok_move rfl) ?_
  refine RunK.step rfl rfl (ok_bin rfl rfl rfl) ?_
  refine RunK.nil ?_
  refine A.sub (Sub.cons (t := 0) rfl (Sub.cons (t := 2) rfl (Sub.cons (t := 3) rfl (Sub.cons (t := 4) rfl (Sub.cons (t := 6) rfl (Sub.cons (t := 1000002) rfl (Sub.cons (t := 1000003) rfl Sub.nil))))))) ?_
  refine A.cond rfl (fun hc6 => ?_) (fun hc6 => ?_)
  · have hi : i < 16 := by simp at hc6; omega
    refine A.skip ?_
    refine End.normal_then (End.code ?_)
    refine A.seq ?_
    refine A.block ?_
    refine A.reg (by kernel_rfl) (by kernel_rfl) (.inl rfl) ?_
    refine RunTK.eff 6 (by decide) rfl (.inl rfl) ?_
    refine RunK.step rfl rfl (ok_move rfl) ?_
    refine RunK.step rfl rfl (ok_move rfl) ?_
    refine RunK.step rfl rfl (ok_move rfl) ?_
    refine RunK.step rfl rfl (ok_conv Try.underlying3 Try.underlying5 rfl) ?_; refine RunK.as (.int .u8 ((i : Nat) : Int)) (by rw [wrapN_u8 (by omega)]) ?_
    refine RunK.step rfl rfl (ok_bin rfl rfl rfl) ?_; refine RunK.as (.int .u8 ((rise a i : Nat) : Int)) (by rw [← Int.natCast_mul, wrap_u8N]; rfl) ?_
    refine RunK.step rfl rfl (ok_index0 _ Try.underlying22 info5 rfl rfl (rfl) (by omega)) ?_
    refine RunK.nil ?_
    refine ⟨_, eff_storeS (n := 16) (s := 1000003) info5 rfl rfl rfl hBb3 rfl (by first | (simp only [rowV_length]; omega) | (simp only [List.length_replicate]; omega)) (LeftS.cons (t := 0) rfl (Surv.v _) (LeftS.cons (t := 2) rfl (Surv.v _) (LeftS.cons (t := 3) rfl (Surv.v _) (LeftS.cons (t := 4) rfl (Surv.v _) (LeftS.cons (t := 6) rfl (Surv.v _) (LeftS.cons (t := 9) rfl (Surv.v _) (LeftS.cons (t := 10) rfl (Surv.v _) (LeftS.cons (t := 11) rfl (Surv.v _) (LeftS.cons (t := 12) rfl (Surv.v _) (LeftS.cons (t := 13) rfl (Surv.v _) (LeftS.cons (t := 14) rfl (Surv.v _) (LeftS.cons (t := 1000002) rfl (Surv.blk (by omega)) LeftS.nil)))))))))))), ?_⟩
    refine RunTK.last ?_
    refine RunK.nil ?_
    refine End.sub (Sub.cons (t := 0) rfl (Sub.cons (t := 2) rfl (Sub.cons (t := 3) rfl (Sub.cons (t := 4) rfl (Sub.cons (t := 1000002) rfl (Sub.cons (t := 1000003) rfl Sub.nil)))))) ?_
    refine End.normal_block ?_
    refine End.normal_then (End.code ?_)
    refine A.reg (by kernel_rfl) (by kernel_rfl) (.inl rfl) ?_
    refine RunTK.last ?_
    refine RunK.step rfl rfl (ok_move rfl) ?_
    refine RunK.step rfl rfl (ok_bin rfl rfl rfl) ?_; refine RunK.as (.int .i64 ((i + 1 : Nat) : Int)) (by rw [wrap_i64 (by omega) (by omega)]; exact congrArg (Value.int .i64) (by omega)) ?_
    refine RunK.step rfl rfl (ok_assign rfl) ?_
    refine RunK.nil ?_
    refine End.sub (Sub.cons (t := 0) rfl (Sub.cons (t := 2) rfl (Sub.cons (t := 3) rfl (Sub.cons (t := 4) rfl (Sub.cons (t := 1000002) rfl (Sub.cons (t := 1000003) rfl Sub.nil)))))) ?_
    refine End.normal_then ?_
    refine End.again (i + 1) ?_ ?_ ?_
    · show _ ≤ _; omega
    · show _ - _ < _ - _; omega
    · exact (Sub.cons (t := 2) rfl (Sub.cons (t := 3) rfl (Sub.cons (t := 0) rfl (Sub.cons (t := 4) rfl (Sub.cons (t := 1000002) rfl (Sub.eq (t := 1000003) _ rfl (congrArg _ (cutF_set rfl rfl)) Sub.nil))))))
  · obtain rfl : i = 16 := by simp at hc6; omega
    refine A.exit ?_
    refine End.exit_then ?_
    refine End.exit_then ?_
    refine End.exit_here ?_
    refine End.normal_then (End.code ?_)
    refine A.regs (by kernel_rfl) (by kernel_rfl) (.inl rfl) ?_
    refine RunTK.eff 1 (by decide) rfl (.inl rfl) ?_
    refine RunK.step rfl rfl (ok_loadA (s := 1000003) (by decide) Try.underlying22 rfl (size22.of (rowV_length _ _)) rfl rfl) ?_
    refine RunK.nil ?_
    refine ⟨_, eff_storeA (n := 16) (s := 1000002) (size22.of (rowV_length _ _)) rfl rfl (rowV_one _ _) hBb2 rfl (by first | (simp only [rowV_length]; done) | simp only [rowV_length, List.length_replicate]) (LeftS.cons (t := 0) rfl (Surv.v _) (LeftS.cons (t := 2) rfl (Surv.v _) (LeftS.cons (t := 3) rfl (Surv.v _) (LeftS.cons (t := 4) rfl (Surv.v _) (LeftS.cons (t := 6) rfl (Surv.v _) (LeftS.cons (t := 15) rfl (Surv.v _) (LeftS.cons (t := 1000003) rfl (Surv.blk (by omega)) LeftS.nil))))))), ?_⟩
    refine RunTK.last ?_
    refine RunK.nil ?_
    refine A.sub (Sub.cons (t := 2) rfl (Sub.cons (t := 1000002) rfl (Sub.cons (t := 1000003) rfl Sub.nil))) ?_
    refine A.ret ?_
    exact End.cell1 (s := 1000002) rfl Try.underlying22 rfl (size22.of (rowV_length _ _)) rfl rfl (Le.v (congrArg aggV (cutF_full 16 _)))
set_option maxHeartbeats 1000000 in
theorem words_fn (s : Nat → Nat) : Fn Try.prog 9 [.v (aggV (rowV 176 (s)))] (.v (aggV (rowV 176 (s)))) := by
  refine Fn.of Try.func9 rfl (by kernel_rfl) Try.ntmps9 (by simp) (fun w => [(0, .v (aggV (rowV 176 (s))))]) (fun w => (Start.v rfl Start.nil)) fun w₀ => ?_
  refine A.regs (by kernel_rfl) (by kernel_rfl) (.inl rfl) ?_
  refine RunTK.new 0 (by decide) rfl (.inl rfl) ?_
  refine RunK.nil ?_
  refine ⟨_, _, eff_box (n := 29) (d := 1) (k := 1000001) rfl (by decide), fun b1 hb1 => ?_⟩
  have hBb1 := hb1.1
  refine RunTK.new 1 (by decide) rfl (.inl rfl) ?_
  refine RunK.nil ?_
  refine ⟨_, _, eff_alloc (n := 29) (d := 2) (k := 1000002) zero27 (by decide), fun b2 hb2 => ?_⟩
  have hBb2 := hb2.1
  have hlt_b1_b2 : b1 < b2 := hb2.2 1000001 _ _ _ rfl
  refine RunTK.last ?_
  refine RunK.nil ?_
  refine A.sub (Sub.cons (t := 1) rfl (Sub.cons (t := 2) rfl (Sub.cons (t := 1000001) rfl (Sub.cons (t := 1000002) rfl Sub.nil)))) ?_
  refine A.regs (by kernel_rfl) (by kernel_rfl) (.inl rfl) ?_
  refine RunTK.new 0 (by decide) rfl (.inl rfl) ?_
  refine RunK.nil ?_
  refine ⟨_, _, eff_alloc (n := 29) (d := 3) (k := 1000003) zero27 (by decide), fun b3 hb3 => ?_⟩
  have hBb3 := hb3.1
  have hlt_b1_b3 : b1 < b3 := hb3.2 1000001 _ _ _ rfl
  have hlt_b2_b3 : b2 < b3 := hb3.2 1000002 _ _ _ rfl
  refine RunTK.last ?_
  refine RunK.nil ?_
  refine A.sub (Sub.cons (t := 1) rfl (Sub.cons (t := 2) rfl (Sub.cons (t := 3) rfl (Sub.cons (t := 1000001) rfl (Sub.cons (t := 1000002) rfl (Sub.cons (t := 1000003) rfl Sub.nil)))))) ?_
  refine A.seq ?_
  refine A.regs (by kernel_rfl) (by kernel_rfl) (.inl rfl) ?_
  refine RunTK.last ?_
  refine RunK.step rfl rfl (ok_assign rfl) ?_
  refine RunK.nil ?_
  refine A.sub (Sub.cons (t := 1) rfl (Sub.cons (t := 2) rfl (Sub.cons (t := 3) rfl (Sub.cons (t := 4) rfl (Sub.cons (t := 1000001) rfl (Sub.cons (t := 1000002) rfl (Sub.cons (t := 1000003) rfl Sub.nil))))))) ?_
  refine A.block ?_
  refine A.loop (ι := Nat) (fun i => i ≤ 44) (fun i => [(1, .v (.pointer (some ⟨b1, 0, none⟩))), (2, .v (.pointer (some ⟨b2, 0, none⟩))), (3, .v (.pointer (some ⟨b3, 0, none⟩))), (4, .v (.int .i64 ((i : Nat) : Int))), (1000001, blk b1 24 (rowV 176 (s))), (1000002, blk b2 27 (List.replicate 176 (.int .u8 0))), (1000003, blk b3 27 (rowV 176 (cutF s (4 * i))))]) (fun i => 44 - i) 0 ?_ ?_ ?_
  · exact Nat.zero_le _
  · exact (Sub.cons (t := 1) rfl (Sub.cons (t := 2) rfl (Sub.cons (t := 3) rfl (Sub.cons (t := 4) rfl (Sub.cons (t := 1000001) rfl (Sub.cons (t := 1000002) rfl (Sub.eq (t := 1000003) _ rfl (congrArg _ (cutF_zero 176 _)) Sub.nil)))))))
  intro i hi
  refine A.seq ?_
  refine A.regs (by kernel_rfl) (by kernel_rfl) (.inl rfl) ?_
  refine RunTK.last ?_
  refine RunK.step rfl rfl (ok_move rfl) ?_
  refine RunK.step rfl rfl (ok_bin rfl rfl rfl) ?_
  refine RunK.nil ?_
  refine A.sub (Sub.cons (t := 1) rfl (Sub.cons (t := 2) rfl (Sub.cons (t := 3) rfl (Sub.cons (t := 4) rfl (Sub.cons (t := 7) rfl (Sub.cons (t := 1000001) rfl (Sub.cons (t := 1000002) rfl (Sub.cons (t := 1000003) rfl Sub.nil)))))))) ?_
  refine A.cond rfl (fun hc7 => ?_) (fun hc7 => ?_)
  · have hi44 : i < 44 := by simp at hc7; omega
    refine A.skip ?_
    refine End.normal_then (End.code ?_)
    refine A.seq ?_
    refine A.block ?_
    refine A.regs (by kernel_rfl) (by kernel_rfl) (.inl rfl) ?_
    refine RunTK.last ?_
    refine RunK.step rfl rfl (ok_assign rfl) ?_
    refine RunK.nil ?_
    refine A.sub (Sub.cons (t := 1) rfl (Sub.cons (t := 2) rfl (Sub.cons (t := 3) rfl (Sub.cons (t := 4) rfl (Sub.cons (t := 5) rfl (Sub.cons (t := 1000001) rfl (Sub.cons (t := 1000002) rfl (Sub.cons (t := 1000003) rfl Sub.nil)))))))) ?_
    refine A.block ?_
    refine A.loop (ι := Nat) (fun q => q ≤ 4) (fun q => [(1, .v (.pointer (some ⟨b1, 0, none⟩))), (2, .v (.pointer (some ⟨b2, 0, none⟩))), (3, .v (.pointer (some ⟨b3, 0, none⟩))), (4, .v (.int .i64 ((i : Nat) : Int))), (5, .v (.int .i64 ((q : Nat) : Int))), (1000001, blk b1 24 (rowV 176 (s))), (1000002, blk b2 27 (List.replicate 176 (.int .u8 0))), (1000003, blk b3 27 (rowV 176 (cutF s (4 * i + q))))]) (fun q => 4 - q) 0 ?_ ?_ ?_
    · exact Nat.zero_le _
    · exact (Sub.cons (t := 1) rfl (Sub.cons (t := 2) rfl (Sub.cons (t := 3) rfl (Sub.cons (t := 4) rfl (Sub.cons (t := 5) rfl (Sub.cons (t := 1000001) rfl (Sub.cons (t := 1000002) rfl (Sub.cons (t := 1000003) rfl Sub.nil))))))))
    intro q hq'
    refine A.seq ?_
    refine A.regs (by kernel_rfl) (by kernel_rfl) (.inl rfl) ?_
    refine RunTK.last ?_
    refine RunK.step rfl rfl (ok_move rfl) ?_
    refine RunK.step rfl rfl (ok_bin rfl rfl rfl) ?_
    refine RunK.nil ?_
    refine A.sub (Sub.cons (t := 1) rfl (Sub.cons (t := 2) rfl (Sub.cons (t := 3) rfl (Sub.cons (t := 4) rfl (Sub.cons (t := 5) rfl (Sub.cons (t := 11) rfl (Sub.cons (t := 1000001) rfl (Sub.cons (t := 1000002) rfl (Sub.cons (t := 1000003) rfl Sub.nil))))))))) ?_
    refine A.cond rfl (fun hc11 => ?_) (fun hc11 => ?_)
    · have hq : q < 4 := by simp at hc11; omega
      refine A.skip ?_
      refine End.normal_then (End.code ?_)
      refine A.seq ?_
      refine A.block ?_
      refine A.reg (by kernel_rfl) (by kernel_rfl) (.inr (by kernel_rfl)) ?_
      refine RunTK.eff 14 (by decide) rfl (.inr (by kernel_rfl)) ?_
      refine RunK.step rfl rfl (ok_move rfl) ?_
      refine RunK.step rfl rfl (ok_move rfl) ?_
      refine RunK.step rfl rfl (ok_move rfl) ?_
      refine RunK.step rfl rfl (ok_div rfl rfl (by decide)) ?_; refine RunK.as (.int .i64 ((i / 4 : Nat) : Int)) (by rw [tdiv_lit _ (by decide), show Int.toNat 4 = 4 from rfl, wrapN_i64 (by omega)]) ?_
      refine RunK.step rfl rfl (ok_move rfl) ?_
      refine RunK.step rfl rfl (ok_rem rfl rfl (by decide)) ?_; refine RunK.as (.int .i64 ((i % 4 : Nat) : Int)) (by rw [tmod_lit _ (by decide)]; rfl) ?_
      refine RunK.step rfl rfl (ok_bin rfl rfl rfl) ?_; refine RunK.as (.int .i64 ((4 * (i % 4) : Nat) : Int)) (by rw [wrap_i64 (by omega) (by omega)]; exact congrArg (Value.int .i64) (by omega)) ?_
      refine RunK.step rfl rfl (ok_move rfl) ?_
      refine RunK.step rfl rfl (ok_bin rfl rfl rfl) ?_; refine RunK.as (.int .i64 ((4 * (i % 4) + q : Nat) : Int)) (by rw [wrap_i64 (by omega) (by omega)]; exact congrArg (Value.int .i64) (by omega)) ?_
      refine RunK.step rfl rfl (ok_indexN _ Try.underlying24 size22 rfl rfl (rfl) (by omega)) ?_
      refine RunK.step rfl rfl (ok_indexA _ Try.underlying22 info5 rfl rfl (rfl) (by omega)) ?_
      refine RunK.step rfl rfl (ok_loadV (s := 1000001) (by decide) Try.underlying5 rfl rfl rfl (rowV_get (by omega))) ?_; refine RunK.as (.int .u8 ((s (4 * i + q) : Nat) : Int)) (v8 (congrArg s (by omega))) ?_
      refine RunK.step rfl rfl (ok_indexN _ Try.underlying27 size26 rfl rfl (rfl) (by omega)) ?_
      refine RunK.step rfl rfl (ok_indexA _ Try.underlying26 info5 rfl rfl (rfl) (by omega)) ?_
      refine RunK.nil ?_
      refine ⟨_, eff_storeS (n := 29) (s := 1000003) info5 rfl rfl rfl hBb3 rfl (by simp only [rowV_length]; omega) (LeftS.cons (t := 1) rfl (Surv.v _) (LeftS.cons (t := 2) rfl (Surv.v _) (LeftS.cons (t := 3) rfl (Surv.v _) (LeftS.cons (t := 4) rfl (Surv.v _) (LeftS.cons (t := 5) rfl (Surv.v _) (LeftS.cons (t := 11) rfl (Surv.v _) (LeftS.cons (t := 14) rfl (Surv.v _) (LeftS.cons (t := 15) rfl (Surv.v _) (LeftS.cons (t := 16) rfl (Surv.v _) (LeftS.cons (t := 17) rfl (Surv.v _) (LeftS.cons (t := 18) rfl (Surv.v _) (LeftS.cons (t := 19) rfl (Surv.v _) (LeftS.cons (t := 20) rfl (Surv.v _) (LeftS.cons (t := 21) rfl (Surv.v _) (LeftS.cons (t := 22) rfl (Surv.v _) (LeftS.cons (t := 23) rfl (Surv.v _) (LeftS.cons (t := 24) rfl (Surv.v _) (LeftS.cons (t := 25) rfl (Surv.v _) (LeftS.cons (t := 26) rfl (Surv.v _) (LeftS.cons (t := 27) rfl (Surv.v _) (LeftS.cons (t := 1000001) rfl (Surv.blkT (by decide)) (LeftS.cons (t := 1000002) rfl (Surv.blk (by omega)) LeftS.nil)))))))))))))))))))))), ?_⟩
      refine RunTK.last ?_
      refine RunK.nil ?_
      refine End.sub (Sub.cons (t := 1) rfl (Sub.cons (t := 2) rfl (Sub.cons (t := 3) rfl (Sub.cons (t := 4) rfl (Sub.cons (t := 5) rfl (Sub.cons (t := 1000001) rfl (Sub.cons (t := 1000002) rfl (Sub.cons (t := 1000003) rfl Sub.nil)))))))) ?_
      refine End.normal_block ?_
      refine End.normal_then (End.code ?_)
      refine A.reg (by kernel_rfl) (by kernel_rfl) (.inl rfl) ?_
      refine RunTK.last ?_
      refine RunK.step rfl rfl (ok_move rfl) ?_
      refine RunK.step rfl rfl (ok_bin rfl rfl rfl) ?_; refine RunK.as (.int .i64 ((q + 1 : Nat) : Int)) (by rw [wrap_i64 (by omega) (by omega)]; exact congrArg (Value.int .i64) (by omega)) ?_
      refine RunK.step rfl rfl (ok_assign rfl) ?_
      refine RunK.nil ?_
      refine End.sub (Sub.cons (t := 1) rfl (Sub.cons (t := 2) rfl (Sub.cons (t := 3) rfl (Sub.cons (t := 4) rfl (Sub.cons (t := 5) rfl (Sub.cons (t := 1000001) rfl (Sub.cons (t := 1000002) rfl (Sub.cons (t := 1000003) rfl Sub.nil)))))))) ?_
      refine End.normal_then ?_
      refine End.again (q + 1) ?_ ?_ ?_
      · show _ ≤ _; omega
      · show _ - _ < _ - _; omega
      · exact (Sub.cons (t := 1) rfl (Sub.cons (t := 2) rfl (Sub.cons (t := 3) rfl (Sub.cons (t := 4) rfl (Sub.cons (t := 5) rfl (Sub.cons (t := 1000001) rfl (Sub.cons (t := 1000002) rfl (Sub.eq (t := 1000003) _ rfl (congrArg _ (cutF_set (by omega) rfl)) Sub.nil))))))))
    · obtain rfl : q = 4 := by simp at hc11; omega
      refine A.exit ?_
      refine End.exit_then ?_
      refine End.exit_then ?_
      refine End.exit_here ?_
      refine End.normal_block ?_
      refine End.normal_then (End.code ?_)
      refine A.reg (by kernel_rfl) (by kernel_rfl) (.inl rfl) ?_
      refine RunTK.last ?_
      refine RunK.step rfl rfl (ok_move rfl) ?_
      refine RunK.step rfl rfl (ok_bin rfl rfl rfl) ?_; refine RunK.as (.int .i64 ((i + 1 : Nat) : Int)) (by rw [wrap_i64 (by omega) (by omega)]; exact congrArg (Value.int .i64) (by omega)) ?_
      refine RunK.step rfl rfl (ok_assign rfl) ?_
      refine RunK.nil ?_
      refine End.sub (Sub.cons (t := 1) rfl (Sub.cons (t := 2) rfl (Sub.cons (t := 3) rfl (Sub.cons (t := 4) rfl (Sub.cons (t := 1000001) rfl (Sub.cons (t := 1000002) rfl (Sub.cons (t := 1000003) rfl Sub.nil))))))) ?_
      refine End.normal_then ?_
      refine End.again (i + 1) ?_ ?_ ?_
      · show _ ≤ _; omega
      · show _ - _ < _ - _; omega
      · exact (Sub.cons (t := 1) rfl (Sub.cons (t := 2) rfl (Sub.cons (t := 3) rfl (Sub.cons (t := 4) rfl (Sub.cons (t := 1000001) rfl (Sub.cons (t := 1000002) rfl (Sub.eq (t := 1000003) _ rfl (by rw [show 4 * (i + 1) = 4 * i + 4 from by omega]) Sub.nil)))))))
  · obtain rfl : i = 44 := by simp at hc7; omega
    refine A.exit ?_
    refine End.exit_then ?_
    refine End.exit_then ?_
    refine End.exit_here ?_
    refine End.normal_then (End.code ?_)
    refine A.regs (by kernel_rfl) (by kernel_rfl) (.inl rfl) ?_
    refine RunTK.eff 1 (by decide) rfl (.inl rfl) ?_
    refine RunK.step rfl rfl (ok_loadA (s := 1000003) (by decide) Try.underlying27 rfl (size27.of (rowV_length _ _)) rfl rfl) ?_
    refine RunK.nil ?_
    refine ⟨_, eff_storeA (n := 29) (s := 1000002) (size27.of (rowV_length _ _)) rfl rfl (rowV_one _ _) hBb2 rfl (by first | (simp only [rowV_length]; done) | simp only [rowV_length, List.length_replicate]) (LeftS.cons (t := 1) rfl (Surv.v _) (LeftS.cons (t := 2) rfl (Surv.v _) (LeftS.cons (t := 3) rfl (Surv.v _) (LeftS.cons (t := 4) rfl (Surv.v _) (LeftS.cons (t := 7) rfl (Surv.v _) (LeftS.cons (t := 28) rfl (Surv.v _) (LeftS.cons (t := 1000001) rfl (Surv.blkT (by decide)) (LeftS.cons (t := 1000003) rfl (Surv.blk (by omega)) LeftS.nil)))))))), ?_⟩
    refine RunTK.last ?_
    refine RunK.nil ?_
    refine A.sub (Sub.cons (t := 2) rfl (Sub.cons (t := 1000001) rfl (Sub.cons (t := 1000002) rfl (Sub.cons (t := 1000003) rfl Sub.nil)))) ?_
    refine A.ret ?_
    exact End.cell1 (s := 1000002) rfl Try.underlying27 rfl (size27.of (rowV_length _ _)) rfl rfl (Le.v (congrArg aggV (cutF_full 176 _)))
set_option maxHeartbeats 2000000 in
theorem lives6_fn  : Fn Try.prog 11 [] (.v (.bool true)) := by
  refine Fn.of Try.func11 rfl (by kernel_rfl) Try.ntmps11 (by simp) (fun w => []) (fun w => Start.nil) fun w₀ => ?_
  refine A.regs (by kernel_rfl) (by kernel_rfl) (.inl rfl) ?_
  refine RunTK.last ?_
  refine RunK.step rfl rfl (ok_assign rfl) ?_
  refine RunK.nil ?_
  refine A.sub Sub.nil ?_
  refine A.regs (by kernel_rfl) (by kernel_rfl) (.inl rfl) ?_
  refine RunTK.new 1 (by decide) rfl (.inl rfl) ?_
  refine RunK.step rfl rfl (ok_litA [_, _, _, _, _, _, _, _, _, _, _, _, _, _, _, _] Try.underlying22 info5 zero22 rfl ⟨rfl, rfl, rfl, rfl, rfl, rfl, rfl, rfl, rfl, rfl, rfl, rfl, rfl, rfl, rfl, rfl, rfl, rfl, rfl, rfl, rfl, rfl, rfl, rfl, rfl, rfl, rfl, rfl, rfl, rfl, rfl, rfl, trivial⟩ rfl) ?_; refine RunK.as (aggV (rowV 16 (lst16 [43, 126, 21, 22, 40, 174, 210, 166, 171, 247, 21, 136, 9, 207, 79, 60]))) (by kernel_rfl) ?_
  refine RunK.nil ?_
  refine ⟨_, _, eff_alloc (n := 27) (d := 1) (k := 1000001) zero22 (by decide), fun b1 hb1 => ?_⟩
  have hBb1 := hb1.1
  refine RunTK.eff 2 (by decide) rfl (.inl rfl) ?_
  refine RunK.nil ?_
  refine ⟨_, eff_storeA (n := 27) (s := 1000001) (size22.of (rowV_length _ _)) rfl rfl (rowV_one _ _) hBb1 rfl (by first | (simp only [rowV_length]; done) | simp only [rowV_length, List.length_replicate]) (LeftS.cons (t := 1) rfl (Surv.v _) (LeftS.cons (t := 3) rfl (Surv.v _) LeftS.nil)), ?_⟩
  refine RunTK.last ?_
  refine RunK.nil ?_
  refine A.sub (Sub.cons (t := 1) rfl (Sub.cons (t := 1000001) rfl Sub.nil)) ?_
  refine A.regs (by kernel_rfl) (by kernel_rfl) (.inl rfl) ?_
  refine RunTK.new 2 (by decide) rfl (.inl rfl) ?_
  refine RunK.step rfl rfl (ok_loadA (s := 1000001) (by decide) Try.underlying22 rfl (size22.of (rowV_length _ _)) rfl rfl) ?_
  refine RunK.step rfl rfl (ok_call (Expand_fn (lst16 [43, 126, 21, 22, 40, 174, 210, 166, 171, 247, 21, 136, 9, 207, 79, 60]) (by_lst (l := [43, 126, 21, 22, 40, 174, 210, 166, 171, 247, 21, 136, 9, 207, 79, 60]) (by decide))) (Args.cons rfl (Le.refl _) Args.nil)) ?_
  refine RunK.nil ?_
  refine ⟨_, _, eff_alloc (n := 27) (d := 2) (k := 1000002) zero24 (by decide), fun b2 hb2 => ?_⟩
  have hBb2 := hb2.1
  have hlt_b1_b2 : b1 < b2 := hb2.2 1000001 _ _ _ rfl
  refine RunTK.eff 3 (by decide) rfl (.inl rfl) ?_
  refine RunK.nil ?_
  refine ⟨_, eff_storeA (n := 27) (s := 1000002) (size24.of (rowV_length _ _)) rfl rfl (rowV_one _ _) hBb2 rfl (by first | (simp only [rowV_length]; done) | simp only [rowV_length, List.length_replicate]) (LeftS.cons (t := 1) rfl (Surv.v _) (LeftS.cons (t := 2) rfl (Surv.v _) (LeftS.cons (t := 4) rfl (Surv.v _) (LeftS.cons (t := 5) rfl (Surv.v _) (LeftS.cons (t := 1000001) rfl (Surv.blkT (by decide)) LeftS.nil))))), ?_⟩
  refine RunTK.last ?_
  refine RunK.nil ?_
  refine A.sub (Sub.cons (t := 2) rfl (Sub.cons (t := 1000001) rfl (Sub.cons (t := 1000002) rfl Sub.nil))) ?_
  refine A.seq ?_
  refine A.regs (by kernel_rfl) (by kernel_rfl) (.inl rfl) ?_
  refine RunTK.last ?_
  refine RunK.step rfl rfl (ok_call (rising_fn 1 (by decide)) (Args.cons rfl (Le.refl _) Args.nil)) ?_
  refine RunK.step rfl rfl (ok_call (Expand_fn (rise 1) (rise_by 1)) (Args.cons rfl (Le.refl _) Args.nil)) ?_
  refine RunK.step rfl rfl (ok_call (rising_fn 17 (by decide)) (Args.cons rfl (Le.refl _) Args.nil)) ?_
  refine RunK.step rfl rfl (ok_call (Encrypt_fn (expand (rise 1)) (rise 17) (expand_lt (rise_by 1)) (rise_by 17)) (Args.cons rfl (Le.refl _) (Args.cons rfl (Le.refl _) Args.nil))) ?_; refine RunK.as (aggV (rowV 16 (lst16 [105, 196, 224, 216, 106, 123, 4, 48, 216, 205, 183, 128, 112, 180, 197, 90]))) (congrArg aggV (row_lst (encA (fun i hi => by revert i; decide) (fun i hi => by revert i; decide)))) ?_
  refine RunK.step rfl rfl (ok_litA [_, _, _, _, _, _, _, _, _, _, _, _, _, _, _, _] Try.underlying22 info5 zero22 rfl ⟨rfl, rfl, rfl, rfl, rfl, rfl, rfl, rfl, rfl, rfl, rfl, rfl, rfl, rfl, rfl, rfl, rfl, rfl, rfl, rfl, rfl, rfl, rfl, rfl, rfl, rfl, rfl, rfl, rfl, rfl, rfl, rfl, trivial⟩ rfl) ?_; refine RunK.as (aggV (rowV 16 (lst16 [105, 196, 224, 216, 106, 123, 4, 48, 216, 205, 183, 128, 112, 180, 197, 90]))) (by kernel_rfl) ?_
  refine RunK.step rfl rfl (ok_neqA Try.underlying22 Try.underlying5 info5 (by kernel_rfl) rfl rfl rfl (rowV_length _ _) (rowV_ints _ _)) ?_
  refine RunK.nil ?_
  refine A.sub (Sub.cons (t := 2) rfl (Sub.cons (t := 11) rfl (Sub.cons (t := 1000001) rfl (Sub.cons (t := 1000002) rfl Sub.nil)))) ?_
  refine A.no rfl ?_
  refine A.skip ?_
  refine End.normal_then (End.code ?_)
  refine A.seq ?_
  refine A.regs (by kernel_rfl) (by kernel_rfl) (.inl rfl) ?_
  refine RunTK.last ?_
  refine RunK.step rfl rfl (ok_indexN (1) Try.underlying24 size22 rfl rfl (rfl) (by decide)) ?_
  refine RunK.step rfl rfl (ok_loadP (s := 1000002) (by decide) Try.underlying22 rfl size22 rfl rfl (by simp only [rowV_length]; omega) (part_key (by decide) (keyB (Eq16.refl _) (m := [160, 250, 254, 23, 136, 84, 44, 177, 35, 163, 57, 57, 42, 108, 118, 5]) rfl))) ?_
  refine RunK.step rfl rfl (ok_litA [_, _, _, _, _, _, _, _, _, _, _, _, _, _, _, _] Try.underlying22 info5 zero22 rfl ⟨rfl, rfl, rfl, rfl, rfl, rfl, rfl, rfl, rfl, rfl, rfl, rfl, rfl, rfl, rfl, rfl, rfl, rfl, rfl, rfl, rfl, rfl, rfl, rfl, rfl, rfl, rfl, rfl, rfl, rfl, rfl, rfl, trivial⟩ rfl) ?_; refine RunK.as (aggV (rowV 16 (lst16 [160, 250, 254, 23, 136, 84, 44, 177, 35, 163, 57, 57, 42, 108, 118, 5]))) (by kernel_rfl) ?_
  refine RunK.step rfl rfl (ok_neqA Try.underlying22 Try.underlying5 info5 (by kernel_rfl) rfl rfl rfl (rowV_length _ _) (rowV_ints _ _)) ?_
  refine RunK.step rfl rfl (ok_move rfl) ?_
  refine RunK.guarded rfl rfl rfl rfl (ok_indexN (10) Try.underlying24 size22 rfl rfl (rfl) (by decide)) ?_
  refine RunK.guarded rfl rfl rfl rfl (ok_loadP (s := 1000002) (by decide) Try.underlying22 rfl size22 rfl rfl (by simp only [rowV_length]; omega) (part_key (by decide) (keyB (Eq16.refl _) (m := [208, 20, 249, 168, 201, 238, 37, 137, 225, 63, 12, 200, 182, 99, 12, 166]) rfl))) ?_
  refine RunK.guarded rfl rfl rfl rfl (ok_litA [_, _, _, _, _, _, _, _, _, _, _, _, _, _, _, _] Try.underlying22 info5 zero22 rfl ⟨rfl, rfl, rfl, rfl, rfl, rfl, rfl, rfl, rfl, rfl, rfl, rfl, rfl, rfl, rfl, rfl, rfl, rfl, rfl, rfl, rfl, rfl, rfl, rfl, rfl, rfl, rfl, rfl, rfl, rfl, rfl, rfl, trivial⟩ rfl) ?_; refine RunK.as (aggV (rowV 16 (lst16 [208, 20, 249, 168, 201, 238, 37, 137, 225, 63, 12, 200, 182, 99, 12, 166]))) (by kernel_rfl) ?_
  refine RunK.guarded rfl rfl rfl rfl (ok_neqA Try.underlying22 Try.underlying5 info5 (by kernel_rfl) rfl rfl rfl (rowV_length _ _) (rowV_ints _ _)) ?_
  refine RunK.step rfl rfl (ok_pick rfl rfl) ?_
  refine RunK.nil ?_
  refine A.sub (Sub.cons (t := 2) rfl (Sub.cons (t := 21) rfl (Sub.cons (t := 1000001) rfl (Sub.cons (t := 1000002) rfl Sub.nil)))) ?_
  refine A.no rfl ?_
  refine A.skip ?_
  refine End.normal_then (End.code ?_)
  refine A.regs (by kernel_rfl) (by kernel_rfl) (.inl rfl) ?_
  refine RunTK.last ?_
  refine RunK.step rfl rfl (ok_loadA (s := 1000002) (by decide) Try.underlying24 rfl (size24.of (rowV_length _ _)) rfl rfl) ?_
  refine RunK.step rfl rfl (ok_litA [_, _, _, _, _, _, _, _, _, _, _, _, _, _, _, _] Try.underlying22 info5 zero22 rfl ⟨rfl, rfl, rfl, rfl, rfl, rfl, rfl, rfl, rfl, rfl, rfl, rfl, rfl, rfl, rfl, rfl, rfl, rfl, rfl, rfl, rfl, rfl, rfl, rfl, rfl, rfl, rfl, rfl, rfl, rfl, rfl, rfl, trivial⟩ rfl) ?_; refine RunK.as (aggV (rowV 16 (lst16 [50, 67, 246, 168, 136, 90, 48, 141, 49, 49, 152, 162, 224, 55, 7, 52]))) (by kernel_rfl) ?_
  refine RunK.step rfl rfl (ok_call (Encrypt_fn (expand (lst16 [43, 126, 21, 22, 40, 174, 210, 166, 171, 247, 21, 136, 9, 207, 79, 60])) (lst16 [50, 67, 246, 168, 136, 90, 48, 141, 49, 49, 152, 162, 224, 55, 7, 52]) (expand_lt (by_lst (l := [43, 126, 21, 22, 40, 174, 210, 166, 171, 247, 21, 136, 9, 207, 79, 60]) (by decide))) (by_lst (l := [50, 67, 246, 168, 136, 90, 48, 141, 49, 49, 152, 162, 224, 55, 7, 52]) (by decide))) (Args.cons rfl (Le.refl _) (Args.cons rfl (Le.refl _) Args.nil))) ?_; refine RunK.as (aggV (rowV 16 (lst16 [57, 37, 132, 29, 2, 220, 9, 251, 220, 17, 133, 151, 25, 106, 11, 50]))) (congrArg aggV (row_lst (encB (Eq16.refl _) (Eq16.refl _)))) ?_
  refine RunK.step rfl rfl (ok_litA [_, _, _, _, _, _, _, _, _, _, _, _, _, _, _, _] Try.underlying22 info5 zero22 rfl ⟨rfl, rfl, rfl, rfl, rfl, rfl, rfl, rfl, rfl, rfl, rfl, rfl, rfl, rfl, rfl, rfl, rfl, rfl, rfl, rfl, rfl, rfl, rfl, rfl, rfl, rfl, rfl, rfl, rfl, rfl, rfl, rfl, trivial⟩ rfl) ?_; refine RunK.as (aggV (rowV 16 (lst16 [57, 37, 132, 29, 2, 220, 9, 251, 220, 17, 133, 151, 25, 106, 11, 50]))) (by kernel_rfl) ?_
  refine RunK.step rfl rfl (ok_eqlA Try.underlying22 Try.underlying5 info5 (by kernel_rfl) rfl rfl rfl (rowV_length _ _) (rowV_ints _ _)) ?_
  refine RunK.step rfl rfl (ok_assign rfl) ?_
  refine RunK.nil ?_
  refine A.sub (Sub.cons (t := 0) rfl (Sub.cons (t := 1000001) rfl (Sub.cons (t := 1000002) rfl Sub.nil))) ?_
  refine A.ret ?_
  exact End.ret1 rfl rfl (by first | exact Le.refl _ | exact Le.old _ _)
set_option maxHeartbeats 2000000 in
theorem CiphersExpand_fn (k : Nat → Nat) (hk : By k) : Fn Try.prog 3 [.v (aggV (rowV 16 (k)))] (.v (.bool true)) := by
  refine Fn.of Try.func3 rfl (by kernel_rfl) Try.ntmps3 (by simp) (fun w => [(0, .v (aggV (rowV 16 (k))))]) (fun w => (Start.v rfl Start.nil)) fun w₀ => ?_
  refine A.regs (by kernel_rfl) (by kernel_rfl) (.inl rfl) ?_
  refine RunTK.new 0 (by decide) rfl (.inl rfl) ?_
  refine RunK.nil ?_
  refine ⟨_, _, eff_box (n := 20) (d := 1) (k := 1000001) rfl (by decide), fun b1 hb1 => ?_⟩
  have hBb1 := hb1.1
  refine RunTK.last ?_
  refine RunK.step rfl rfl (ok_assign rfl) ?_
  refine RunK.nil ?_
  refine A.sub (Sub.cons (t := 1) rfl (Sub.cons (t := 1000001) rfl Sub.nil)) ?_
  refine A.regs (by kernel_rfl) (by kernel_rfl) (.inl rfl) ?_
  refine RunTK.new 2 (by decide) rfl (.inl rfl) ?_
  refine RunK.step rfl rfl (ok_loadA (s := 1000001) (by decide) Try.underlying22 rfl (size22.of (rowV_length _ _)) rfl rfl) ?_
  refine RunK.step rfl rfl (ok_call (Expand_fn (k) hk) (Args.cons rfl (Le.refl _) Args.nil)) ?_
  refine RunK.nil ?_
  refine ⟨_, _, eff_alloc (n := 20) (d := 3) (k := 1000003) zero24 (by decide), fun b3 hb3 => ?_⟩
  have hBb3 := hb3.1
  have hlt_b1_b3 : b1 < b3 := hb3.2 1000001 _ _ _ rfl
  refine RunTK.eff 3 (by decide) rfl (.inl rfl) ?_
  refine RunK.nil ?_
  refine ⟨_, eff_storeA (n := 20) (s := 1000003) (size24.of (rowV_length _ _)) rfl rfl (rowV_one _ _) hBb3 rfl (by first | (simp only [rowV_length]; done) | simp only [rowV_length, List.length_replicate]) (LeftS.cons (t := 1) rfl (Surv.v _) (LeftS.cons (t := 3) rfl (Surv.v _) (LeftS.cons (t := 4) rfl (Surv.v _) (LeftS.cons (t := 5) rfl (Surv.v _) (LeftS.cons (t := 1000001) rfl (Surv.blkT (by decide)) LeftS.nil))))), ?_⟩
  refine RunTK.last ?_
  refine RunK.nil ?_
  refine A.sub (Sub.cons (t := 1) rfl (Sub.cons (t := 3) rfl (Sub.cons (t := 1000001) rfl (Sub.cons (t := 1000003) rfl Sub.nil)))) ?_
  refine A.regs (by kernel_rfl) (by kernel_rfl) (.inr (by kernel_rfl)) ?_
  refine RunTK.last ?_
  refine RunK.step rfl rfl (ok_loadA (s := 1000003) (by decide) Try.underlying24 rfl (size24.of (rowV_length _ _)) rfl rfl) ?_
  refine RunK.step rfl rfl (ok_call (words_fn (expand k)) (Args.cons rfl (Le.refl _) Args.nil)) ?_
  refine RunK.step rfl rfl (ok_loadA (s := 1000001) (by decide) Try.underlying22 rfl (size22.of (rowV_length _ _)) rfl rfl) ?_
  refine RunK.step rfl rfl (ok_call (refExpand_fn k hk) (Args.cons rfl (Le.refl _) Args.nil)) ?_
  refine RunK.step rfl rfl (ok_eqlAA Try.underlying27 Try.underlying26 size26 Try.underlying5 info5 (by kernel_rfl) rfl rfl rfl (rowV_length _ _) (rowV_ints _ _)) ?_
  refine RunK.step rfl rfl (ok_move rfl) ?_
  refine RunK.guarded rfl rfl rfl rfl (ok_indexN (0) Try.underlying24 size22 rfl rfl (rfl) (by decide)) ?_
  refine RunK.guarded rfl rfl rfl rfl (ok_loadP (s := 1000003) (by decide) Try.underlying22 rfl size22 rfl rfl (by simp only [rowV_length]; omega) (rowV_part (g := k) (by decide) (fun i hi => (expand_key k (by omega)).trans (congrArg k (by omega))))) ?_
  refine RunK.guarded rfl rfl rfl rfl (ok_loadA (s := 1000001) (by decide) Try.underlying22 rfl (size22.of (rowV_length _ _)) rfl rfl) ?_
  refine RunK.guarded rfl rfl rfl rfl (ok_eqlA Try.underlying22 Try.underlying5 info5 (by kernel_rfl) rfl rfl rfl (rowV_length _ _) (rowV_ints _ _)) ?_
  refine RunK.step rfl rfl (ok_pick rfl rfl) ?_
  refine RunK.step rfl rfl (ok_move rfl) ?_
  refine RunK.guarded rfl rfl rfl rfl (ok_call lives6_fn Args.nil) ?_
  refine RunK.step rfl rfl (ok_pick rfl rfl) ?_
  refine RunK.step rfl rfl (ok_assign rfl) ?_
  refine RunK.nil ?_
  refine A.sub (Sub.cons (t := 2) rfl (Sub.cons (t := 1000001) rfl (Sub.cons (t := 1000003) rfl Sub.nil))) ?_
  refine A.ret ?_
  exact End.ret1 rfl rfl (by first | exact Le.refl _ | exact Le.old _ _)
set_option maxHeartbeats 1000000 in
theorem CiphersEncrypt_fn (k f : Nat → Nat) (hk : By k) (hf : By f) : Fn Try.prog 4 [.v (aggV (rowV 16 (k))), .v (aggV (rowV 16 (f)))] (.v (.bool true)) := by
  refine Fn.of Try.func4 rfl (by kernel_rfl) Try.ntmps4 (by simp) (fun w => [(0, .v (aggV (rowV 16 (k)))), (1, .v (aggV (rowV 16 (f))))]) (fun w => (Start.v rfl (Start.v rfl Start.nil))) fun w₀ => ?_
  refine A.regs (by kernel_rfl) (by kernel_rfl) (.inl rfl) ?_
  refine RunTK.new 0 (by decide) rfl (.inl rfl) ?_
  refine RunK.nil ?_
  refine ⟨_, _, eff_box (n := 16) (d := 2) (k := 1000002) rfl (by decide), fun b2 hb2 => ?_⟩
  have hBb2 := hb2.1
  refine RunTK.new 1 (by decide) rfl (.inl rfl) ?_
  refine RunK.nil ?_
  refine ⟨_, _, eff_box (n := 16) (d := 3) (k := 1000003) rfl (by decide), fun b3 hb3 => ?_⟩
  have hBb3 := hb3.1
  have hlt_b2_b3 : b2 < b3 := hb3.2 1000002 _ _ _ rfl
  refine RunTK.last ?_
  refine RunK.step rfl rfl (ok_assign rfl) ?_
  refine RunK.nil ?_
  refine A.sub (Sub.cons (t := 2) rfl (Sub.cons (t := 3) rfl (Sub.cons (t := 1000002) rfl (Sub.cons (t := 1000003) rfl Sub.nil)))) ?_
  refine A.regs (by kernel_rfl) (by kernel_rfl) (.inr (by kernel_rfl)) ?_
  refine RunTK.last ?_
  refine RunK.step rfl rfl (ok_loadA (s := 1000002) (by decide) Try.underlying22 rfl (size22.of (rowV_length _ _)) rfl rfl) ?_
  refine RunK.step rfl rfl (ok_call (Expand_fn (k) hk) (Args.cons rfl (Le.refl _) Args.nil)) ?_
  refine RunK.step rfl rfl (ok_loadA (s := 1000003) (by decide) Try.underlying22 rfl (size22.of (rowV_length _ _)) rfl rfl) ?_
  refine RunK.step rfl rfl (ok_call (Encrypt_fn (expand k) (f) (expand_lt hk) hf) (Args.cons rfl (Le.refl _) (Args.cons rfl (Le.refl _) Args.nil))) ?_
  refine RunK.step rfl rfl (ok_loadA (s := 1000002) (by decide) Try.underlying22 rfl (size22.of (rowV_length _ _)) rfl rfl) ?_
  refine RunK.step rfl rfl (ok_loadA (s := 1000003) (by decide) Try.underlying22 rfl (size22.of (rowV_length _ _)) rfl rfl) ?_
  refine RunK.step rfl rfl (ok_call (refEncrypt_fn k f hk hf) (Args.cons rfl (Le.refl _) (Args.cons rfl (Le.refl _) Args.nil))) ?_
  refine RunK.step rfl rfl (ok_eqlA Try.underlying22 Try.underlying5 info5 (by kernel_rfl) rfl rfl rfl (rowV_length _ _) (rowV_ints _ _)) ?_
  refine RunK.step rfl rfl (ok_move rfl) ?_
  refine RunK.guarded rfl rfl rfl rfl (ok_call lives6_fn Args.nil) ?_
  refine RunK.step rfl rfl (ok_pick rfl rfl) ?_
  refine RunK.step rfl rfl (ok_assign rfl) ?_
  refine RunK.nil ?_
  refine A.sub (Sub.cons (t := 4) rfl (Sub.cons (t := 1000002) rfl (Sub.cons (t := 1000003) rfl Sub.nil))) ?_
  refine A.ret ?_
  exact End.ret1 rfl rfl (by first | exact Le.refl _ | exact Le.old _ _)
set_option maxHeartbeats 1000000 in
theorem CiphersRounds_fn (s f : Nat → Nat) (hs : ∀ i, s i < 256) (hf : By f) : Fn Try.prog 5 [.v (aggV (rowV 176 (s))), .v (aggV (rowV 16 (f)))] (.v (.bool true)) := by
  refine Fn.of Try.func5 rfl (by kernel_rfl) Try.ntmps5 (by simp) (fun w => [(0, .v (aggV (rowV 176 (s)))), (1, .v (aggV (rowV 16 (f))))]) (fun w => (Start.v rfl (Start.v rfl Start.nil))) fun w₀ => ?_
  refine A.regs (by kernel_rfl) (by kernel_rfl) (.inl rfl) ?_
  refine RunTK.new 0 (by decide) rfl (.inl rfl) ?_
  refine RunK.nil ?_
  refine ⟨_, _, eff_box (n := 18) (d := 2) (k := 1000002) rfl (by decide), fun b2 hb2 => ?_⟩
  have hBb2 := hb2.1
  refine RunTK.new 1 (by decide) rfl (.inl rfl) ?_
  refine RunK.nil ?_
  refine ⟨_, _, eff_box (n := 18) (d := 3) (k := 1000003) rfl (by decide), fun b3 hb3 => ?_⟩
  have hBb3 := hb3.1
  have hlt_b2_b3 : b2 < b3 := hb3.2 1000002 _ _ _ rfl
  refine RunTK.last ?_
  refine RunK.step rfl rfl (ok_assign rfl) ?_
  refine RunK.nil ?_
  refine A.sub (Sub.cons (t := 2) rfl (Sub.cons (t := 3) rfl (Sub.cons (t := 1000002) rfl (Sub.cons (t := 1000003) rfl Sub.nil)))) ?_
  refine A.regs (by kernel_rfl) (by kernel_rfl) (.inl rfl) ?_
  refine RunTK.new 1 (by decide) rfl (.inl rfl) ?_
  refine RunK.step rfl rfl (ok_loadA (s := 1000002) (by decide) Try.underlying23 rfl (size23.of (rowV_length _ _)) rfl rfl) ?_
  refine RunK.nil ?_
  refine ⟨_, _, eff_alloc (n := 18) (d := 5) (k := 1000005) zero24 (by decide), fun b5 hb5 => ?_⟩
  have hBb5 := hb5.1
  have hlt_b2_b5 : b2 < b5 := hb5.2 1000002 _ _ _ rfl
  have hlt_b3_b5 : b3 < b5 := hb5.2 1000003 _ _ _ rfl
  refine RunTK.eff 2 (by decide) rfl (.inl rfl) ?_
  refine RunK.nil ?_
  refine ⟨_, eff_storeA (n := 18) (s := 1000005) (size24.of (rowV_length _ _)) rfl rfl (rowV_one _ _) hBb5 rfl (by first | (simp only [rowV_length]; done) | simp only [rowV_length, List.length_replicate]) (LeftS.cons (t := 2) rfl (Surv.v _) (LeftS.cons (t := 3) rfl (Surv.v _) (LeftS.cons (t := 5) rfl (Surv.v _) (LeftS.cons (t := 6) rfl (Surv.v _) (LeftS.cons (t := 1000002) rfl (Surv.blkT (by decide)) (LeftS.cons (t := 1000003) rfl (Surv.blkT (by decide)) LeftS.nil)))))), ?_⟩
  refine RunTK.last ?_
  refine RunK.nil ?_
  refine A.sub (Sub.cons (t := 3) rfl (Sub.cons (t := 5) rfl (Sub.cons (t := 1000002) rfl (Sub.cons (t := 1000003) rfl (Sub.cons (t := 1000005) rfl Sub.nil))))) ?_
  refine A.regs (by kernel_rfl) (by kernel_rfl) (.inr (by kernel_rfl)) ?_
  refine RunTK.last ?_
  refine RunK.step rfl rfl (ok_loadA (s := 1000005) (by decide) Try.underlying24 rfl (size24.of (rowV_length _ _)) rfl rfl) ?_
  refine RunK.step rfl rfl (ok_loadA (s := 1000003) (by decide) Try.underlying22 rfl (size22.of (rowV_length _ _)) rfl rfl) ?_
  refine RunK.step rfl rfl (ok_call (Encrypt_fn (s) (f) hs hf) (Args.cons rfl (Le.refl _) (Args.cons rfl (Le.refl _) Args.nil))) ?_
  refine RunK.step rfl rfl (ok_loadA (s := 1000005) (by decide) Try.underlying24 rfl (size24.of (rowV_length _ _)) rfl rfl) ?_
  refine RunK.step rfl rfl (ok_call (words_fn s) (Args.cons rfl (Le.refl _) Args.nil)) ?_
  refine RunK.step rfl rfl (ok_loadA (s := 1000003) (by decide) Try.underlying22 rfl (size22.of (rowV_length _ _)) rfl rfl) ?_
  refine RunK.step rfl rfl (ok_call (refRounds_fn s f hs hf) (Args.cons rfl (Le.refl _) (Args.cons rfl (Le.refl _) Args.nil))) ?_
  refine RunK.step rfl rfl (ok_eqlA Try.underlying22 Try.underlying5 info5 (by kernel_rfl) rfl rfl rfl (rowV_length _ _) (rowV_ints _ _)) ?_
  refine RunK.step rfl rfl (ok_move rfl) ?_
  refine RunK.guarded rfl rfl rfl rfl (ok_call lives6_fn Args.nil) ?_
  refine RunK.step rfl rfl (ok_pick rfl rfl) ?_
  refine RunK.step rfl rfl (ok_assign rfl) ?_
  refine RunK.nil ?_
  refine A.sub (Sub.cons (t := 4) rfl (Sub.cons (t := 1000002) rfl (Sub.cons (t := 1000003) rfl (Sub.cons (t := 1000005) rfl Sub.nil)))) ?_
  refine A.ret ?_
  exact End.ret1 rfl rfl (by first | exact Le.refl _ | exact Le.old _ _)
set_option maxHeartbeats 1000000 in
theorem CiphersBack_fn (s f : Nat → Nat) (hs : ∀ i, s i < 256) (hf : By f) : Fn Try.prog 6 [.v (aggV (rowV 176 (s))), .v (aggV (rowV 16 (f)))] (.v (.bool true)) := by
  refine Fn.of Try.func6 rfl (by kernel_rfl) Try.ntmps6 (by simp) (fun w => [(0, .v (aggV (rowV 176 (s)))), (1, .v (aggV (rowV 16 (f))))]) (fun w => (Start.v rfl (Start.v rfl Start.nil))) fun w₀ => ?_
  refine A.regs (by kernel_rfl) (by kernel_rfl) (.inl rfl) ?_
  refine RunTK.new 0 (by decide) rfl (.inl rfl) ?_
  refine RunK.nil ?_
  refine ⟨_, _, eff_box (n := 26) (d := 2) (k := 1000002) rfl (by decide), fun b2 hb2 => ?_⟩
  have hBb2 := hb2.1
  refine RunTK.new 1 (by decide) rfl (.inl rfl) ?_
  refine RunK.nil ?_
  refine ⟨_, _, eff_box (n := 26) (d := 3) (k := 1000003) rfl (by decide), fun b3 hb3 => ?_⟩
  have hBb3 := hb3.1
  have hlt_b2_b3 : b2 < b3 := hb3.2 1000002 _ _ _ rfl
  refine RunTK.last ?_
  refine RunK.step rfl rfl (ok_assign rfl) ?_
  refine RunK.nil ?_
  refine A.sub (Sub.cons (t := 2) rfl (Sub.cons (t := 3) rfl (Sub.cons (t := 1000002) rfl (Sub.cons (t := 1000003) rfl Sub.nil)))) ?_
  refine A.regs (by kernel_rfl) (by kernel_rfl) (.inl rfl) ?_
  refine RunTK.new 1 (by decide) rfl (.inl rfl) ?_
  refine RunK.step rfl rfl (ok_loadA (s := 1000002) (by decide) Try.underlying23 rfl (size23.of (rowV_length _ _)) rfl rfl) ?_
  refine RunK.nil ?_
  refine ⟨_, _, eff_alloc (n := 26) (d := 5) (k := 1000005) zero24 (by decide), fun b5 hb5 => ?_⟩
  have hBb5 := hb5.1
  have hlt_b2_b5 : b2 < b5 := hb5.2 1000002 _ _ _ rfl
  have hlt_b3_b5 : b3 < b5 := hb5.2 1000003 _ _ _ rfl
  refine RunTK.eff 2 (by decide) rfl (.inl rfl) ?_
  refine RunK.nil ?_
  refine ⟨_, eff_storeA (n := 26) (s := 1000005) (size24.of (rowV_length _ _)) rfl rfl (rowV_one _ _) hBb5 rfl (by first | (simp only [rowV_length]; done) | simp only [rowV_length, List.length_replicate]) (LeftS.cons (t := 2) rfl (Surv.v _) (LeftS.cons (t := 3) rfl (Surv.v _) (LeftS.cons (t := 5) rfl (Surv.v _) (LeftS.cons (t := 6) rfl (Surv.v _) (LeftS.cons (t := 1000002) rfl (Surv.blkT (by decide)) (LeftS.cons (t := 1000003) rfl (Surv.blkT (by decide)) LeftS.nil)))))), ?_⟩
  refine RunTK.last ?_
  refine RunK.nil ?_
  refine A.sub (Sub.cons (t := 3) rfl (Sub.cons (t := 5) rfl (Sub.cons (t := 1000002) rfl (Sub.cons (t := 1000003) rfl (Sub.cons (t := 1000005) rfl Sub.nil))))) ?_
  refine A.regs (by kernel_rfl) (by kernel_rfl) (.inr (by kernel_rfl)) ?_
  refine RunTK.last ?_
  refine RunK.step rfl rfl (ok_loadA (s := 1000005) (by decide) Try.underlying24 rfl (size24.of (rowV_length _ _)) rfl rfl) ?_
  refine RunK.step rfl rfl (ok_loadA (s := 1000005) (by decide) Try.underlying24 rfl (size24.of (rowV_length _ _)) rfl rfl) ?_
  refine RunK.step rfl rfl (ok_loadA (s := 1000003) (by decide) Try.underlying22 rfl (size22.of (rowV_length _ _)) rfl rfl) ?_
  refine RunK.step rfl rfl (ok_call (Encrypt_fn (s) (f) hs hf) (Args.cons rfl (Le.refl _) (Args.cons rfl (Le.refl _) Args.nil))) ?_
  refine RunK.step rfl rfl (ok_call (Decrypt_fn (s) (enc s f) hs (enc_by hs)) (Args.cons rfl (Le.refl _) (Args.cons rfl (Le.refl _) Args.nil))) ?_; refine RunK.as (aggV (rowV 16 f)) (congrArg aggV (rowV_congr (dec_enc hs hf))) ?_
  refine RunK.step rfl rfl (ok_loadA (s := 1000003) (by decide) Try.underlying22 rfl (size22.of (rowV_length _ _)) rfl rfl) ?_
  refine RunK.step rfl rfl (ok_eqlA Try.underlying22 Try.underlying5 info5 (by kernel_rfl) rfl rfl rfl (rowV_length _ _) (rowV_ints _ _)) ?_
  refine RunK.step rfl rfl (ok_move rfl) ?_
  refine RunK.guarded rfl rfl rfl rfl (ok_loadA (s := 1000005) (by decide) Try.underlying24 rfl (size24.of (rowV_length _ _)) rfl rfl) ?_
  refine RunK.guarded rfl rfl rfl rfl (ok_loadA (s := 1000005) (by decide) Try.underlying24 rfl (size24.of (rowV_length _ _)) rfl rfl) ?_
  refine RunK.guarded rfl rfl rfl rfl (ok_loadA (s := 1000003) (by decide) Try.underlying22 rfl (size22.of (rowV_length _ _)) rfl rfl) ?_
  refine RunK.guarded rfl rfl rfl rfl (ok_call (Decrypt_fn (s) (f) hs hf) (Args.cons rfl (Le.refl _) (Args.cons rfl (Le.refl _) Args.nil))) ?_
  refine RunK.guarded rfl rfl rfl rfl (ok_call (Encrypt_fn (s) (dec s f) hs (dec_by hs)) (Args.cons rfl (Le.refl _) (Args.cons rfl (Le.refl _) Args.nil))) ?_; refine RunK.as (aggV (rowV 16 f)) (congrArg aggV (rowV_congr (enc_dec hs hf))) ?_
  refine RunK.guarded rfl rfl rfl rfl (ok_loadA (s := 1000003) (by decide) Try.underlying22 rfl (size22.of (rowV_length _ _)) rfl rfl) ?_
  refine RunK.guarded rfl rfl rfl rfl (ok_eqlA Try.underlying22 Try.underlying5 info5 (by kernel_rfl) rfl rfl rfl (rowV_length _ _) (rowV_ints _ _)) ?_
  refine RunK.step rfl rfl (ok_pick rfl rfl) ?_
  refine RunK.step rfl rfl (ok_move rfl) ?_
  refine RunK.guarded rfl rfl rfl rfl (ok_call lives6_fn Args.nil) ?_
  refine RunK.step rfl rfl (ok_pick rfl rfl) ?_
  refine RunK.step rfl rfl (ok_assign rfl) ?_
  refine RunK.nil ?_
  refine A.sub (Sub.cons (t := 4) rfl (Sub.cons (t := 1000002) rfl (Sub.cons (t := 1000003) rfl (Sub.cons (t := 1000005) rfl Sub.nil)))) ?_
  refine A.ret ?_
  exact End.ret1 rfl rfl (by first | exact Le.refl _ | exact Le.old _ _)
set_option maxHeartbeats 2000000 in
theorem CiphersKnown_fn  : Fn Try.prog 7 [] (.v (.bool true)) := by
  refine Fn.of Try.func7 rfl (by kernel_rfl) Try.ntmps7 (by simp) (fun w => []) (fun w => Start.nil) fun w₀ => ?_
  refine A.regs (by kernel_rfl) (by kernel_rfl) (.inl rfl) ?_
  refine RunTK.last ?_
  refine RunK.step rfl rfl (ok_assign rfl) ?_
  refine RunK.nil ?_
  refine A.sub Sub.nil ?_
  refine A.seq ?_
  refine A.regs (by kernel_rfl) (by kernel_rfl) (.inl rfl) ?_
  refine RunTK.last ?_
  refine RunK.step rfl rfl (ok_assign rfl) ?_
  refine RunK.nil ?_
  refine A.sub (Sub.cons (t := 1) rfl Sub.nil) ?_
  refine A.block ?_
  refine A.loop (ι := Nat) (fun i => i ≤ 16) (fun i => [(1, .v (.int .i64 ((i : Nat) : Int)))]) (fun i => 16 - i) 0 ?_ ?_ ?_
  · exact Nat.zero_le _
  · exact (Sub.cons (t := 1) rfl Sub.nil)
  intro i hi'
  refine A.seq ?_
  refine A.regs (by kernel_rfl) (by kernel_rfl) (.inl rfl) ?_
  refine RunTK.last ?_
  refine RunK.step rfl rfl (ok_move rfl) ?_
  refine RunK.step rfl rfl (ok_bin rfl rfl rfl) ?_
  refine RunK.nil ?_
  refine A.sub (Sub.cons (t := 1) rfl (Sub.cons (t := 4) rfl Sub.nil)) ?_
  refine A.cond rfl (fun hc4 => ?_) (fun hc4 => ?_)
  · have hi : i < 16 := by simp at hc4; omega
    refine A.skip ?_
    refine End.normal_then (End.code ?_)
    refine A.seq ?_
    refine A.block ?_
    refine A.regs (by kernel_rfl) (by kernel_rfl) (.inl rfl) ?_
    refine RunTK.new 0 (by decide) rfl (.inl rfl) ?_
    refine RunK.nil ?_
    refine ⟨_, _, eff_alloc (n := 45) (d := 2) (k := 1000002) zero22 (by decide), fun b2 hb2 => ?_⟩
    have hBb2 := hb2.1
    refine RunTK.last ?_
    refine RunK.nil ?_
    refine A.sub (Sub.cons (t := 1) rfl (Sub.cons (t := 2) rfl (Sub.cons (t := 1000002) rfl Sub.nil))) ?_
    refine A.regs (by kernel_rfl) (by kernel_rfl) (.inl rfl) ?_
    refine RunTK.eff 5 (by decide) rfl (.inl rfl) ?_
    refine RunK.step rfl rfl (ok_move rfl) ?_
    refine RunK.step rfl rfl (ok_move rfl) ?_
    refine RunK.step rfl rfl (ok_rem rfl rfl (by decide)) ?_; refine RunK.as (.int .i64 ((i % 8 : Nat) : Int)) (by rw [tmod_lit _ (by decide)]; rfl) ?_
    refine RunK.step rfl rfl (ok_shl rfl rfl (by omega)) ?_; refine RunK.as (.int .u8 ((2 ^ (i % 8) : Nat) : Int)) (by rw [Int.toNat_natCast, show min (i % 8) IntKind.u8.bits = i % 8 from by simp only [IntKind.bits]; omega, show (1 : Int) * 2 ^ (i % 8) = ((2 ^ (i % 8) : Nat) : Int) from by simp, wrapN_u8 (pow8 i)]) ?_
    refine RunK.step rfl rfl (ok_index0 _ Try.underlying22 info5 rfl rfl (rfl) (by omega)) ?_
    refine RunK.nil ?_
    refine ⟨_, eff_storeS (n := 45) (s := 1000002) info5 rfl rfl rfl hBb2 rfl (by simp only [List.length_replicate]; omega) (LeftS.cons (t := 1) rfl (Surv.v _) (LeftS.cons (t := 2) rfl (Surv.v _) (LeftS.cons (t := 7) rfl (Surv.v _) (LeftS.cons (t := 8) rfl (Surv.v _) (LeftS.cons (t := 9) rfl (Surv.v _) (LeftS.cons (t := 10) rfl (Surv.v _) (LeftS.cons (t := 11) rfl (Surv.v _) LeftS.nil))))))), ?_⟩
    refine RunTK.last ?_
    refine RunK.nil ?_
    refine A.sub (Sub.cons (t := 1) rfl (Sub.cons (t := 2) rfl (Sub.eq (t := 1000002) _ rfl (show blk b2 22 _ = blk b2 22 (rowV 16 (oneB i)) from congrArg _ (by rw [rowV_zero]; exact rowV_set)) Sub.nil))) ?_
    refine A.regs (by kernel_rfl) (by kernel_rfl) (.inl rfl) ?_
    refine RunTK.last ?_
    refine RunK.step rfl rfl (ok_litP [] Try.underlying22 info5 zero22 (by decide) trivial rfl) ?_; refine RunK.as (aggV (rowV 16 fun _ => 0)) (congrArg aggV (rowV_zero 16)) ?_
    refine RunK.step rfl rfl (ok_loadA (s := 1000002) (by decide) Try.underlying22 rfl (size22.of (rowV_length _ _)) rfl rfl) ?_
    refine RunK.step rfl rfl (ok_call (CiphersEncrypt_fn (fun _ => 0) (oneB i) by_zero (oneB_by i)) (Args.cons rfl (Le.refl _) (Args.cons rfl (Le.refl _) Args.nil))) ?_
    refine RunK.step rfl rfl (ok_not rfl) ?_
    refine RunK.step rfl rfl (ok_move rfl) ?_
    refine RunK.guarded rfl rfl rfl rfl (ok_loadA (s := 1000002) (by decide) Try.underlying22 rfl (size22.of (rowV_length _ _)) rfl rfl) ?_
    refine RunK.guarded rfl rfl rfl rfl (ok_litP [] Try.underlying22 info5 zero22 (by decide) trivial rfl) ?_; refine RunK.as (aggV (rowV 16 fun _ => 0)) (congrArg aggV (rowV_zero 16)) ?_
    refine RunK.guarded rfl rfl rfl rfl (ok_call (CiphersEncrypt_fn (oneB i) (fun _ => 0) (oneB_by i) by_zero) (Args.cons rfl (Le.refl _) (Args.cons rfl (Le.refl _) Args.nil))) ?_
    refine RunK.guarded rfl rfl rfl rfl (ok_not rfl) ?_
    refine RunK.step rfl rfl (ok_pick rfl rfl) ?_
    refine RunK.step rfl rfl (ok_move rfl) ?_
    refine RunK.guarded rfl rfl rfl rfl (ok_loadA (s := 1000002) (by decide) Try.underlying22 rfl (size22.of (rowV_length _ _)) rfl rfl) ?_
    refine RunK.guarded rfl rfl rfl rfl (ok_call (CiphersExpand_fn (oneB i) (oneB_by i)) (Args.cons rfl (Le.refl _) Args.nil)) ?_
    refine RunK.guarded rfl rfl rfl rfl (ok_not rfl) ?_
    refine RunK.step rfl rfl (ok_pick rfl rfl) ?_
    refine RunK.step rfl rfl (ok_move rfl) ?_
    refine RunK.guarded rfl rfl rfl rfl (ok_loadA (s := 1000002) (by decide) Try.underlying22 rfl (size22.of (rowV_length _ _)) rfl rfl) ?_
    refine RunK.guarded rfl rfl rfl rfl (ok_litP [] Try.underlying22 info5 zero22 (by decide) trivial rfl) ?_; refine RunK.as (aggV (rowV 16 fun _ => 0)) (congrArg aggV (rowV_zero 16)) ?_
    refine RunK.guarded rfl rfl rfl rfl (ok_loadA (s := 1000002) (by decide) Try.underlying22 rfl (size22.of (rowV_length _ _)) rfl rfl) ?_
    refine RunK.guarded rfl rfl rfl rfl (ok_litU [aggV (rowV 16 (oneB i)), aggV (rowV 16 fun _ => 0), aggV (rowV 16 (oneB i))] _ ⟨rfl, rfl, rfl, rfl, rfl, rfl, trivial⟩ (build23 (oneB i))) ?_
    refine RunK.guarded rfl rfl rfl rfl (ok_loadA (s := 1000002) (by decide) Try.underlying22 rfl (size22.of (rowV_length _ _)) rfl rfl) ?_
    refine RunK.guarded rfl rfl rfl rfl (ok_call (CiphersBack_fn (kn3 (oneB i)) (oneB i) (kn3_lt (oneB_by i)) (oneB_by i)) (Args.cons rfl (Le.refl _) (Args.cons rfl (Le.refl _) Args.nil))) ?_
    refine RunK.guarded rfl rfl rfl rfl (ok_not rfl) ?_
    refine RunK.step rfl rfl (ok_pick rfl rfl) ?_
    refine RunK.nil ?_
    refine A.sub (Sub.cons (t := 1) rfl (Sub.cons (t := 35) rfl (Sub.cons (t := 1000002) rfl Sub.nil))) ?_
    refine A.no rfl ?_
    refine A.skip ?_
    refine End.normal_block ?_
    refine End.normal_then (End.code ?_)
    refine A.reg (by kernel_rfl) (by kernel_rfl) (.inl rfl) ?_
    refine RunTK.last ?_
    refine RunK.step rfl rfl (ok_move rfl) ?_
    refine RunK.step rfl rfl (ok_bin rfl rfl rfl) ?_; refine RunK.as (.int .i64 ((i + 1 : Nat) : Int)) (by rw [wrap_i64 (by omega) (by omega)]; exact congrArg (Value.int .i64) (by omega)) ?_
    refine RunK.step rfl rfl (ok_assign rfl) ?_
    refine RunK.nil ?_
    refine End.sub (Sub.cons (t := 1) rfl (Sub.cons (t := 1000002) rfl Sub.nil)) ?_
    refine End.normal_then ?_
    refine End.again (i + 1) ?_ ?_ ?_
    · show _ ≤ _; omega
    · show _ - _ < _ - _; omega
    · exact (Sub.cons (t := 1) rfl Sub.nil)
  · refine A.exit ?_
    refine End.exit_then ?_
    refine End.exit_then ?_
    refine End.exit_here ?_
    refine End.normal_then (End.code ?_)
    refine A.regs (by kernel_rfl) (by kernel_rfl) (.inl rfl) ?_
    refine RunTK.last ?_
    refine RunK.step rfl rfl (ok_litP [] Try.underlying22 info5 zero22 (by decide) trivial rfl) ?_; refine RunK.as (aggV (rowV 16 fun _ => 0)) (congrArg aggV (rowV_zero 16)) ?_
    refine RunK.step rfl rfl (ok_call (Expand_fn (fun _ => 0) by_zero) (Args.cons rfl (Le.refl _) Args.nil)) ?_
    refine RunK.step rfl rfl (ok_litP [] Try.underlying22 info5 zero22 (by decide) trivial rfl) ?_; refine RunK.as (aggV (rowV 16 fun _ => 0)) (congrArg aggV (rowV_zero 16)) ?_
    refine RunK.step rfl rfl (ok_call (Encrypt_fn (expand fun _ => 0) (fun _ => 0) (expand_lt by_zero) by_zero) (Args.cons rfl (Le.refl _) (Args.cons rfl (Le.refl _) Args.nil))) ?_; refine RunK.as (aggV (rowV 16 (lst16 [102, 233, 75, 212, 239, 138, 44, 59, 136, 76, 250, 89, 202, 52, 43, 46]))) (congrArg aggV (row_lst (encC (fun i hi => by revert i; decide) (fun i hi => by revert i; decide)))) ?_
    refine RunK.step rfl rfl (ok_litA [_, _, _, _, _, _, _, _, _, _, _, _, _, _, _, _] Try.underlying22 info5 zero22 rfl ⟨rfl, rfl, rfl, rfl, rfl, rfl, rfl, rfl, rfl, rfl, rfl, rfl, rfl, rfl, rfl, rfl, rfl, rfl, rfl, rfl, rfl, rfl, rfl, rfl, rfl, rfl, rfl, rfl, rfl, rfl, rfl, rfl, trivial⟩ rfl) ?_; refine RunK.as (aggV (rowV 16 (lst16 [102, 233, 75, 212, 239, 138, 44, 59, 136, 76, 250, 89, 202, 52, 43, 46]))) (by kernel_rfl) ?_
    refine RunK.step rfl rfl (ok_eqlA Try.underlying22 Try.underlying5 info5 (by kernel_rfl) rfl rfl rfl (rowV_length _ _) (rowV_ints _ _)) ?_
    refine RunK.step rfl rfl (ok_move rfl) ?_
    refine RunK.guarded rfl rfl rfl rfl (ok_call lives6_fn Args.nil) ?_
    refine RunK.step rfl rfl (ok_pick rfl rfl) ?_
    refine RunK.step rfl rfl (ok_assign rfl) ?_
    refine RunK.nil ?_
    refine A.sub (Sub.cons (t := 0) rfl Sub.nil) ?_
    refine A.ret ?_
    exact End.ret1 rfl rfl (by first | exact Le.refl _ | exact Le.old _ _)
end Go.Proofs.Ytliolhdkbneleaa
