/-
  OWN TEXTS of this seat, put together, part 7: C16p, Srt, C16w, C16y, SrtD, VarF, C16zd, Law9, Law8, Law4, Law11, Law14.
-/
import Derived.Test.YtmkpekmhhbcifaaGreatDoorQd0
import Derived.Test.YtmkpekmhhbcifaaGreatDoorQd2
import Derived.Test.YtmkpekmhhbcifaaGreatDoorQd6
import Derived.Test.YtmkpekmhhbcifaaGreatDoorQd3
import Derived.Test.YtmkpekmhhbcifaaGreatDoorQd5
import Derived.Test.YtmkpekmhhbcifaaGreatDoorQd1
import Derived.Test.YtmkpekmhhbcifaaGreatDoorQd4
namespace Go.Proofs.YtmkpekmhhbcifaaGreatDoor
set_option linter.unusedVariables false
set_option linter.unusedSimpArgs false
set_option maxRecDepth 20000
open Go Go.RowKit
theorem Le.memNil {d : D} {A₀ : Option Addr} : Le d (memR A₀ []) := fun _ _ _ _ j u hu => by cases hu
def lvR : List RecT := [recOf 1 7, RecT.zero, RecT.zero, RecT.zero, RecT.zero]
def lvS : List Nat := [1,0,0]
def lzR : List RecT := [RecT.zero]
def lzS : List Nat := [0]
theorem lvR_fit : FitR lvR := fun r hr => by
 simp only [lvR, List.mem_cons, List.not_mem_nil, or_false] at hr
 rcases hr with rfl | rfl | rfl | rfl | rfl
 ·exact recOf_fit _ _
 all_goals exact RecT.zero_fit
theorem lvR_ok : OkR lvR := fun r hr => by
 simp only [lvR, List.mem_cons, List.not_mem_nil, or_false] at hr
 rcases hr with rfl | rfl | rfl | rfl | rfl
 ·exact recOf_ok _ _
 all_goals exact RecT.zero_ok
theorem lvS_ok : OkS lvS := fun r hr => by
 simp only [lvS, List.mem_cons, List.not_mem_nil, or_false] at hr
 rcases hr with rfl | rfl | rfl <;> simp
theorem lzR_fit : FitR lzR := fun r hr => by
 simp only [lzR, List.mem_cons, List.not_mem_nil, or_false] at hr
 subst hr; exact RecT.zero_fit
theorem lzR_ok : OkR lzR := fun r hr => by
 simp only [lzR, List.mem_cons, List.not_mem_nil, or_false] at hr
 subst hr; exact RecT.zero_ok
theorem lzS_ok : OkS lzS := fun r hr => by
 simp only [lzS, List.mem_cons, List.not_mem_nil, or_false] at hr
 subst hr; simp
def lvT : List NodT := treR lvR lvS (tot lvR.length (hg lvR.length + 1))
def lzT : List NodT := treR lzR lzS (tot lzR.length (hg lzR.length + 1))
theorem lvT_len : lvT.length = 3 := by unfold lvT; rw [treR_length]; decide
theorem lzT_len : lzT.length = 1 := by unfold lzT; rw [treR_length]; decide
theorem lvT_fit : FitT lvT := treR_fit lvR_fit _ (by decide) (by decide) (Nat.le_refl _)
theorem lzT_fit : FitT lzT := treR_fit lzR_fit _ (by decide) (by decide) (Nat.le_refl _)
theorem lvT_tree : Tree 5 lvT := treR_tree lvR_ok lvS_ok (by decide) (by decide)
theorem lzT_tree : Tree 1 lzT := treR_tree lzR_ok lzS_ok (by decide) (by decide)
theorem lzT_at : ndAt lzT (tot 1 (hg 1)) = NodT.emp 0 0 := by
 have h := treR_at (R := lzR) (S := lzS) (m := tot lzR.length (hg lzR.length + 1)) (l := 0) (j := 0) (by decide) (by decide) (by decide)
 exact h.trans (by rw [nodR_zero]; rfl)
theorem lvT_0 : ndAt lvT 0 = grpR lvR 0 := by
 have h := treR_at (R := lvR) (S := lvS) (m := tot lvR.length (hg lvR.length + 1)) (l := 0) (j := 0) (by decide) (by decide) (by decide)
 rw [nodR_zero] at h; exact h
theorem lvT_1 : ndAt lvT 1 = grpR lvR 1 := by
 have h := treR_at (R := lvR) (S := lvS) (m := tot lvR.length (hg lvR.length + 1)) (l := 0) (j := 1) (by decide) (by decide) (by decide)
 rw [nodR_zero] at h; exact h
theorem lvT_2 : ndAt lvT 2 = nodR lvR lvS 1 0 := treR_at (R := lvR) (S := lvS) (m := tot lvR.length (hg lvR.length + 1)) (l := 1) (j := 0) (by decide) (by decide) (by decide)
def lvE : EntT := ⟨2, sha (grpR lvR 0).bl⟩
theorem lvT_E : (ndAt lvT 2).E = [lvE, EntT.zero, EntT.zero, EntT.zero] := by
 have e0 : emF lvR.length (recAt lvR) 0 (4 * 0 + 0) = false := by decide +kernel
 have e1 : emF lvR.length (recAt lvR) 0 (4 * 0 + 1) = true := by decide +kernel
 rw [lvT_2]
 apply ext4 (by rw [nodR_succ]; exact pg_length _ _ _) rfl EntT.zero
 intro i hi
 show (nodR lvR lvS (0 + 1) 0).e i = _
 rw [nodR_e hi]
 match i, hi with
 | 0, _ => rw [if_pos (by decide), e0]; rfl
 | 1, _ => rw [if_pos (by decide), e1]; rfl
 | 2, _ => rw [if_neg (by decide)]; rfl
 | 3, _ => rw [if_neg (by decide)]; rfl
theorem em_0 : emT 5 lvT 0 0 = false := by
 unfold emT; rw [lvT_0]; decide +kernel
theorem em_1 : emT 5 lvT 0 1 = true := by
 unfold emT; rw [lvT_1]; decide +kernel
theorem mny_0 : mny 5 lvT 0 = 2 := by
 show runTo _ 1 1 = 2
 unfold runTo
 rw [show emT 5 lvT (hg 5 - 1) (pidx 5 0 1) = false from em_0]; rfl
theorem mny_4 : mny 5 lvT 4 = 1 := by
 show runTo _ 1 1 = 1
 unfold runTo
 rw [show emT 5 lvT (hg 5 - 1) (pidx 5 4 1) = true from em_1]; rfl
def pfA : List NodT := pthT 5 lvT 0 2
def pfB : List NodT := pthT 5 lvT 4 1
theorem pfA_len : pfA.length = 2 := pthT_length _ _ _ _
theorem pfB_len : pfB.length = 1 := pthT_length _ _ _ _
theorem pfA_fit : FitT pfA := pthT_fit lvT_fit _ _
theorem pfB_fit : FitT pfB := pthT_fit lvT_fit _ _
def lvD : List UInt8 := sha (ndAt lvT (tot 5 (hg 5))).bl
theorem lvD_len : lvD.length = 32 := sha_length _
theorem lv_rec {n : Nat} {T : List NodT} (h : Tree n T) : ∀ i, i < n → (recT T i).x.toNat = 0 → recT T i = RecT.zero := fun i hi hx => by
 have h1 : i / 4 < un n (0 + 1) := by have := div_lt_un hi 1; simpa using this
 have hf := h.fit (l := 0) (j := i / 4) (Nat.zero_le _) h1
 rw [tot_zero, Nat.zero_add] at hf
 have hb := ((NodT.ck_ok hf.2.2.1).2.1 hf.1).2 (i % 4) (Nat.mod_lt _ (by decide))
 unfold RecT.Bad BadR at hb
 refine RecT.z_iff.1 ⟨hx, Classical.byContradiction fun hh => hb (.inr ⟨hx, hh⟩)⟩
theorem verA : ver 5 lvD 0 pfA = 0 ∧ verR 5 lvD 0 pfA = recOf 1 7 := by
 have h := lvT_tree.prf (x := 0) (by decide)
 have h2 := lvT_tree.prf_rec (x := 0) (by decide) (lv_rec lvT_tree)
 rw [mny_0] at h h2
 refine ⟨h.ver, h2.trans ?_⟩
 unfold recT; rw [show 0 / 4 = 0 from rfl, lvT_0, grpR_r (by decide)]; rfl
theorem verB : ver 5 lvD 4 pfB = 0 ∧ verR 5 lvD 4 pfB = RecT.zero := by
 have h := lvT_tree.prf (x := 4) (by decide)
 have h2 := lvT_tree.prf_rec (x := 4) (by decide) (lv_rec lvT_tree)
 rw [mny_4] at h h2
 refine ⟨h.ver, h2.trans ?_⟩
 unfold recT; rw [show 4 / 4 = 1 from rfl, lvT_1, grpR_r (by decide)]; rfl
theorem verC : ver 5 lvD 0 [] = 1 ∧ verR 5 lvD 0 [] = RecT.zero := by
 have h : ver 5 lvD 0 [] = 1 := ver_len (n := 5) (x := 0) (by decide) (by decide) (by decide) (.inl rfl)
 exact ⟨h, verR_no (by rw [h]; decide)⟩
theorem src5 : srcE 5 [RecT.zero, RecT.zero, RecT.zero, RecT.zero] [0,0,0] = 1 := srcE_no fun h => absurd h.2.2.1 (by decide)
theorem lv_buildR : Tryz.prog.built 52 [(0, aggV (recOf 1 7).v)] = some (recsV [recOf 1 7, RecT.zero, RecT.zero, RecT.zero]).toArray := by kernel_rfl
theorem lv_buildX : Tryz.prog.built 57 [(2, aggV (recsV [recOf 1 7, RecT.zero, RecT.zero, RecT.zero]))] = some (grpR lvR 0).v.toArray := by kernel_rfl
theorem lv_buildE (x : UInt8) (t : List UInt8) (ht : t.length = 32) : Tryz.prog.built 55 [(0, aggV (EntT.v ⟨x, t⟩))] = some (entsV [⟨x, t⟩, EntT.zero, EntT.zero, EntT.zero]).toArray := by
 match t, ht with
 | [a0, a1, a2, a3, a4, a5, a6, a7, a8, a9, b0, b1, b2, b3, b4, b5, b6, b7, b8, b9, c0, c1, c2, c3, c4, c5, c6, c7, c8, c9, d0, d1], _ => show _ = _; kernel_rfl
theorem lv_part (ys : List Value) : ((nodsV lvT ++ ys).drop (0 + 2 * 274 + 142)).take 132 = entsV [lvE, EntT.zero, EntT.zero, EntT.zero] := by
 have h1 := nods_at lvT_fit (i := 2) (by rw [lvT_len]; decide)
 have hl := nods_len lvT_fit
 rw [lvT_len] at hl
 rw [List.drop_append_of_le_length (by omega), List.take_append_of_le_length (by rw [List.length_drop]; omega)]
 have h2 : (((nodsV lvT).drop (2 * 274)).take 274).drop 142 = entsV (ndAt lvT 2).E := by
  rw [h1]
  have hf := lvT_fit.at 2
  show List.drop 142 ([byteV _, .int .u32 _] ++ (recsV (ndAt lvT 2).R ++ entsV (ndAt lvT 2).E)) = _
  rw [← List.append_assoc, List.drop_left']
  rw [List.length_append, recs_len hf.fr, hf.lr]; rfl
 rw [lvT_E] at h2
 rw [← h2, List.drop_take, List.drop_drop]
theorem zr4_fit : FitR [RecT.zero, RecT.zero, RecT.zero, RecT.zero] := fun r hr => by
 simp only [List.mem_cons, List.not_mem_nil, or_false, or_self] at hr
 subst hr; exact RecT.zero_fit
theorem lvE_kin : Kin (fun _ _ => True) (List.replicate 4 (.u8 :: List.replicate 32 .u8)).flatten (entsV [lvE, EntT.zero, EntT.zero, EntT.zero]) := by
 have h := EntT.kins (R := [lvE, EntT.zero, EntT.zero, EntT.zero]) (fun e he => by
  simp only [List.mem_cons, List.not_mem_nil, or_false] at he
  rcases he with rfl | rfl | rfl | rfl
  ·exact ⟨sha_length _⟩
  all_goals exact EntT.zero_fit)
 exact h
theorem flat55e : flat Tryz.prog 5 55 = some (List.replicate 4 (.u8 :: List.replicate 32 .u8)).flatten := by kernel_rfl
set_option maxHeartbeats 16000000 in
theorem lives16_fn  : FnM Tryz.prog 19 tabE [] (.v (.bool true)) := by
 refine FnM.of Tryz.func19 rfl (by kernel_rfl) Tryz.ntmps19 (by simp) (by decide) (fun w => [(1900000, tabH 0 ([errT])), (1900001, tab 1 (sizV)), (1900002, tab 2 (H8.list.map u32V)), (1900003, tab 3 (K64.map u32V))]) (fun w => (StartM.m (by simp [tabE]) (by decide) (StartM.m (by simp [tabE]) (by decide) (StartM.m (by simp [tabE]) (by decide) (StartM.m (by simp [tabE]) (by decide) StartM.nil))))) fun w₀ hM => ?_
 have htab := tabE_hi hM
 refine GV rfl (GS (TN 1 (RS (ok_call (lRecord_fn 1 7) (A2 rfl rfl)) ?_)));refine RN ?_;refine ZN 1000001 zero51 fun b1 ⟨hBb1, hb1⟩ => ?_
 refine TF 2 (RN ?_);refine ⟨_, eff_storeA (n := 149) (s := 1000001) (size51.of ((recOf_fit 1 7).len)) rfl rfl (RecT.one _) hBb1 rfl (by rw [(recOf_fit 1 7).len]; rfl) (LV 1 rfl (LeftS.cons (t := 1900000) rfl (Surv.tabH (by omega)) (LQ 1900001 rfl (LQ 1900002 rfl (LQ 1900003 rfl LN))))), ?_⟩
 refine TL (RN (GS (TN 1 (RS (ok_lit [] (RecT.v RecT.zero) (fun _ _ => rfl) (by kernel_rfl)) ?_))));refine RN ?_;refine ZM 1000019 (fun B' => ok_buildG (m := 1) [(0, aggV RecT.zero.v)] (recsV lzR) U26 infoP51 ⟨rfl, rfl, trivial⟩ (by kernel_rfl) (by decide) (by decide)) rfl fun b19 ⟨hBb19, hb19⟩ => ?_
 have hlt_b1_b19 := hb19 1000001 b1 _ _ rfl
 refine TN 2 (RN ?_);refine ZM 1000020 (fun B' => ok_buildG (m := 1) [(0, nI 0)] (slotV lzS) U27 infoPI ⟨rfl, rfl, trivial⟩ (by kernel_rfl) (by decide) (by decide)) rfl fun b20 ⟨hBb20, hb20⟩ => ?_
 have hlt_b1_b20 := hb20 1000001 b1 _ _ rfl
 have hlt_b19_b20 := hb20 1000019 b19 _ _ rfl
 refine RunTK.newG 3 (by decide) rfl (.inl rfl) ?_;refine RN ?_;refine ⟨_, _, _, eff_nameY (n := 149) (d := 21) (k := 1000021) rfl rfl (fun B' => ok_callMBK (Build_okB lzR lzR_fit (by decide) (by decide) lzR_ok lzS lzS_ok (by decide) ⟨b19,0, none⟩ ⟨b20,0, none⟩ 1 1 (by decide)) newY_mono (SubK.app (SubK.of (Sub.cons rfl (Sub.cons rfl (Sub.cons rfl KN))) tabN_v) (SubK.cons (k := 1000019) (by decide) rfl Le.blkR0 (SubK.cons (k := 1000020) (by decide) rfl Le.blkR0 SubK.nil))) (A3 rfl rfl rfl)) (by decide) (by decide), fun x21 hx21 => ?_⟩
 obtain ⟨g21, y21⟩ := x21
 have hBg21 : w₀.heap.size ≤ g21 := hx21.1
 refine TN 7 (RV 2 rfl ?_);refine RZ (aggV [nI 1, .slice (some ⟨g21,0, none⟩) lzT.length lzT.length]) (by rw [lzT_len]; rfl) ?_;refine RVN 1 rfl ?_;refine ZN 1000002 zero32 fun b2 ⟨hBb2, hb2⟩ => ?_
 refine TF 8 (RN ?_);refine ZA 1000002 (size32.of rfl) hBb2 rfl rfl rfl (LT 1000001 rfl (LT 1000019 rfl (LT 1000020 rfl (LT 1000021 rfl (LeftS.cons (t := 1900000) rfl (Surv.tabH (by omega)) (LQ 1900001 rfl (LQ 1900002 rfl (LQ 1900003 rfl (LW [1,2,23] rfl))))))))) ?_;refine TL (RVN 1 rfl ?_);refine GS (TN 5 (RL 1000002 U32 rfl rfl (size32.of rfl) ?_));refine RS (ok_callMK (Root_ok 1 ⟨g21,0, none⟩ lzT lzT_fit lzT.length lzT_tree) (SubK.app (SubK.of (Sub.cons rfl (Sub.cons rfl (Sub.cons rfl (Sub.cons rfl KN)))) tabE_v) (SubK.cons (k := 1000021) (by decide) rfl Le.blkR SubK.nil)) (A1 rfl)) ?_;refine RVN 3 rfl ?_;refine ZN 1000004 zero40 fun b4 ⟨hBb4, hb4⟩ => ?_
 refine TF 6 (RN ?_);refine ⟨_, eff_storeA (n := 149) (s := 1000004) (size40.of (by rw [List.length_map, sha_length])) rfl rfl (all_bytes _) hBb4 rfl (by rw [List.length_map, sha_length]; rfl) (LT 1000001 rfl (LT 1000002 rfl (LT 1000019 rfl (LT 1000020 rfl (LT 1000021 rfl (LeftS.cons (t := 1900000) rfl (Surv.tabH (by omega)) (LQ 1900001 rfl (LQ 1900002 rfl (LQ 1900003 rfl (LW [1,3,4,28] rfl)))))))))), ?_⟩
 refine TL (RVN 1 rfl ?_);refine GS (TN 5 (RL 1000001 U51 rfl rfl (size51.of ((recOf_fit 1 7).len)) ?_));refine RS (ok_lit [] (RecT.v RecT.zero) (fun _ _ => rfl) (by kernel_rfl)) ?_;refine RS (ok_lit [] (RecT.v RecT.zero) (fun _ _ => rfl) (by kernel_rfl)) ?_;refine RS (ok_lit [] (RecT.v RecT.zero) (fun _ _ => rfl) (by kernel_rfl)) ?_;refine RS (ok_lit [] (RecT.v RecT.zero) (fun _ _ => rfl) (by kernel_rfl)) ?_;refine RN ?_;refine ZM 1000035 (fun B' => ok_buildG (m := 5) [(0, aggV (recOf 1 7).v), (1, aggV RecT.zero.v), (2, aggV RecT.zero.v), (3, aggV RecT.zero.v), (4, aggV RecT.zero.v)] (recsV lvR) U26 infoP51 ⟨rfl, rfl, rfl, rfl, rfl, rfl, rfl, rfl, rfl, rfl, trivial⟩ (by kernel_rfl) (by decide) (by decide)) rfl fun b35 ⟨hBb35, hb35⟩ => ?_
 have hlt_b1_b35 := hb35 1000001 b1 _ _ rfl
 have hlt_b2_b35 := hb35 1000002 b2 _ _ rfl
 have hlt_b4_b35 := hb35 1000004 b4 _ _ rfl
 have hlt_b19_b35 := hb35 1000019 b19 _ _ rfl
 have hlt_b20_b35 := hb35 1000020 b20 _ _ rfl
 have hlt_g21_b35 := hb35 1000021 g21 _ _ rfl
 refine TN 6 (RN ?_);refine ZM 1000036 (fun B' => ok_buildG (m := 3) [(0, nI 1), (1, nI 0), (2, nI 0)] (slotV lvS) U27 infoPI ⟨rfl, rfl, rfl, rfl, rfl, rfl, trivial⟩ (by kernel_rfl) (by decide) (by decide)) rfl fun b36 ⟨hBb36, hb36⟩ => ?_
 have hlt_b1_b36 := hb36 1000001 b1 _ _ rfl
 have hlt_b2_b36 := hb36 1000002 b2 _ _ rfl
 have hlt_b4_b36 := hb36 1000004 b4 _ _ rfl
 have hlt_b19_b36 := hb36 1000019 b19 _ _ rfl
 have hlt_b20_b36 := hb36 1000020 b20 _ _ rfl
 have hlt_g21_b36 := hb36 1000021 g21 _ _ rfl
 have hlt_b35_b36 := hb36 1000035 b35 _ _ rfl
 refine RunTK.newG 7 (by decide) rfl (.inl rfl) ?_;refine RN ?_;refine ⟨_, _, _, eff_nameY (n := 149) (d := 37) (k := 1000037) rfl rfl (fun B' => ok_callMBK (Build_okB lvR lvR_fit (by decide) (by decide) lvR_ok lvS lvS_ok (by decide) ⟨b35,0, none⟩ ⟨b36,0, none⟩ 5 3 (by decide)) newY_mono (SubK.app (SubK.of (Sub.cons rfl (Sub.cons rfl (Sub.cons rfl KN))) tabN_v) (SubK.cons (k := 1000035) (by decide) rfl Le.blkR0 (SubK.cons (k := 1000036) (by decide) rfl Le.blkR0 SubK.nil))) (A3 rfl rfl rfl)) (by decide) (by decide), fun x37 hx37 => ?_⟩
 obtain ⟨g37, y37⟩ := x37
 have hBg37 : w₀.heap.size ≤ g37 := hx37.1
 refine TN 11 (RV 2 rfl ?_);refine RZ (aggV [nI 5, .slice (some ⟨g37,0, none⟩) lvT.length lvT.length]) (by rw [lvT_len]; rfl) ?_;refine RVN 1 rfl ?_;refine ZN 1000006 zero32 fun b6 ⟨hBb6, hb6⟩ => ?_
 have hlt_b2_b6 := hb6 1000002 b2 _ _ rfl
 refine TF 12 (RN ?_);refine ZA 1000006 (size32.of rfl) hBb6 rfl rfl rfl (LT 1000001 rfl (LB 1000002 rfl (LT 1000004 rfl (LT 1000019 rfl (LT 1000020 rfl (LT 1000021 rfl (LT 1000035 rfl (LT 1000036 rfl (LT 1000037 rfl (LeftS.cons (t := 1900000) rfl (Surv.tabH (by omega)) (LQ 1900001 rfl (LQ 1900002 rfl (LQ 1900003 rfl (LW [1,3,4,5,6,39] rfl)))))))))))))) ?_;refine TL (RVN 1 rfl ?_);refine A.sub (Sv [1,3,4,5,6,7,1000001,1000002,1000004,1000006,1000019,1000020,1000021,1000035,1000036,1000037,1900000,1900001,1900002,1900003] rfl) ?_;refine GS (RunTK.newG 1 (by decide) rfl (.inl rfl) ?_);refine RL 1000006 U32 rfl rfl (size32.of rfl) ?_;refine RN ?_;refine ⟨_, _, _, eff_nameY (n := 149) (d := 42) (k := 1000042) rfl rfl (fun B' => ok_callMBK (Prove_okB 5 ⟨g37,0, none⟩ lvT lvT_fit lvT.length lvT_tree 0 (by decide)) newY_mono (SubK.app (SubK.of (Sub.cons rfl (Sub.cons rfl (Sub.cons rfl (Sub.cons rfl KN)))) tabE_v) (SubK.cons (k := 1000037) (by decide) rfl Le.blkR SubK.nil)) (A2 rfl rfl)) (by decide) (by decide), fun x42 hx42 => ?_⟩
 obtain ⟨g42, y42⟩ := x42
 have hBg42 : w₀.heap.size ≤ g42 := hx42.1
 refine TN 5 (RV 2 rfl ?_);refine RZ (aggV [nI 0, .slice (some ⟨g42,0, none⟩) pfA.length pfA.length]) (by rw [pfA_len, mny_0]) ?_;refine RVN 1 rfl ?_;refine ZN 1000008 zero69 fun b8 ⟨hBb8, hb8⟩ => ?_
 refine TF 6 (RN ?_);refine ZA 1000008 (size69.of rfl) hBb8 rfl rfl rfl (LT 1000001 rfl (LT 1000002 rfl (LT 1000004 rfl (LT 1000006 rfl (LT 1000019 rfl (LT 1000020 rfl (LT 1000021 rfl (LT 1000035 rfl (LT 1000036 rfl (LT 1000037 rfl (LT 1000042 rfl (LeftS.cons (t := 1900000) rfl (Surv.tabH (by omega)) (LQ 1900001 rfl (LQ 1900002 rfl (LQ 1900003 rfl (LW [1,3,4,5,6,7,8,44] rfl)))))))))))))))) ?_;refine TL (RVN 1 rfl ?_);refine GS (RunTK.newG 1 (by decide) rfl (.inl rfl) ?_);refine RL 1000006 U32 rfl rfl (size32.of rfl) ?_;refine RN ?_;refine ⟨_, _, _, eff_nameY (n := 149) (d := 47) (k := 1000047) rfl rfl (fun B' => ok_callMBK (Prove_okB 5 ⟨g37,0, none⟩ lvT lvT_fit lvT.length lvT_tree 4 (by decide)) newY_mono (SubK.app (SubK.of (Sub.cons rfl (Sub.cons rfl (Sub.cons rfl (Sub.cons rfl KN)))) tabE_v) (SubK.cons (k := 1000037) (by decide) rfl Le.blkR SubK.nil)) (A2 rfl rfl)) (by decide) (by decide), fun x47 hx47 => ?_⟩
 obtain ⟨g47, y47⟩ := x47
 have hBg47 : w₀.heap.size ≤ g47 := hx47.1
 refine TN 5 (RV 2 rfl ?_);refine RZ (aggV [nI 4, .slice (some ⟨g47,0, none⟩) pfB.length pfB.length]) (by rw [pfB_len, mny_4]) ?_;refine RVN 1 rfl ?_;refine ZN 1000010 zero69 fun b10 ⟨hBb10, hb10⟩ => ?_
 have hlt_b8_b10 := hb10 1000008 b8 _ _ rfl
 refine TF 6 (RN ?_);refine ZA 1000010 (size69.of rfl) hBb10 rfl rfl rfl (LT 1000001 rfl (LT 1000002 rfl (LT 1000004 rfl (LT 1000006 rfl (LB 1000008 rfl (LT 1000019 rfl (LT 1000020 rfl (LT 1000021 rfl (LT 1000035 rfl (LT 1000036 rfl (LT 1000037 rfl (LT 1000042 rfl (LT 1000047 rfl (LeftS.cons (t := 1900000) rfl (Surv.tabH (by omega)) (LQ 1900001 rfl (LQ 1900002 rfl (LQ 1900003 rfl (LW [1,3,4,5,6,7,8,9,10,49] rfl)))))))))))))))))) ?_;refine TL (RVN 1 rfl ?_);refine GS (TN 5 (RL 1000006 U32 rfl rfl (size32.of rfl) ?_));refine RS (ok_callMK (Root_ok 5 ⟨g37,0, none⟩ lvT lvT_fit lvT.length lvT_tree) (SubK.app (SubK.of (Sub.cons rfl (Sub.cons rfl (Sub.cons rfl (Sub.cons rfl KN)))) tabE_v) (SubK.cons (k := 1000037) (by decide) rfl Le.blkR SubK.nil)) (A1 rfl)) ?_;refine RV 2 rfl ?_;refine RZ (aggV (lvD.map byteV)) (by rfl) ?_;refine RVN 1 rfl ?_;refine ZN 1000012 zero40 fun b12 ⟨hBb12, hb12⟩ => ?_
 have hlt_b4_b12 := hb12 1000004 b4 _ _ rfl
 refine TF 6 (RN ?_);refine ⟨_, eff_storeA (n := 149) (s := 1000012) (size40.of (by rw [List.length_map, lvD_len])) rfl rfl (all_bytes _) hBb12 rfl (by rw [List.length_map, lvD_len]; rfl) (LT 1000001 rfl (LT 1000002 rfl (LB 1000004 rfl (LT 1000006 rfl (LT 1000008 rfl (LT 1000010 rfl (LT 1000019 rfl (LT 1000020 rfl (LT 1000021 rfl (LT 1000035 rfl (LT 1000036 rfl (LT 1000037 rfl (LT 1000042 rfl (LT 1000047 rfl (LeftS.cons (t := 1900000) rfl (Surv.tabH (by omega)) (LQ 1900001 rfl (LQ 1900002 rfl (LQ 1900003 rfl (LW [1,3,4,5,6,7,8,9,10,11,12,54] rfl))))))))))))))))))), ?_⟩
 refine TL (RVN 1 rfl ?_);refine QS (GTD (RV 3 rfl ?_));refine RZ (.int .i64 0) (by rfl) ?_;refine RV 2 rfl ?_;refine RZ (.int .i64 0) (by rfl) ?_;refine RV 2 rfl ?_;refine RZ (.int .i64 0) (by rfl) ?_;refine RV 2 rfl ?_;refine RZ (.int .i64 0) (by rfl) ?_;refine RV 2 rfl ?_;refine RZ (.int .i64 0) (by rfl) ?_;refine RB rfl rfl rfl ?_;refine RF ?_;refine RM rfl ?_;refine RQ (ok_loadA (s := 1000004) (by decide) U40 rfl (size40.of (by rw [List.length_map, sha_length])) rfl rfl) ?_;refine RQ (ok_lit [] (NodT.v (NodT.emp 0 0)) (fun _ _ => rfl) (by kernel_rfl)) ?_;refine RQ (ok_call (rDigest_fn (NodT.emp 0 0) (NodT.emp_fit 0 (j := 0) (by decide)) (by decide)) (A1 rfl)) ?_;refine RQ (ok_neqT (n := 4) true flat40r (by decide) (by kernel_rfl) (by kernel_rfl) rfl rfl (kinB (sha_length _)) (kinB (sha_length _)) (iff_of_true rfl (by rw [lzT_at]))) ?_;refine RF ?_;refine RP rfl rfl ?_;refine RF ?_;refine RM rfl ?_;refine RQ (ok_field field32_1 (by decide) rfl) ?_;refine RQ (ok_loadV (s := 1000006) (by decide) U30 rfl rfl rfl (rfl)) ?_;refine RQ (ok_lenV U30 rfl) ?_;refine RQ (ok_bin rfl rfl rfl) ?_;refine RZ (.bool false) (congrArg Value.bool (by rw [lvT_len]; rfl)) ?_;refine RP rfl rfl ?_;refine RF ?_;refine RM rfl ?_;refine RQ (ok_field field69_1 (by decide) rfl) ?_;refine RQ (ok_loadV (s := 1000008) (by decide) U30 rfl rfl rfl (rfl)) ?_;refine RQ (ok_lenV U30 rfl) ?_;refine RQ (ok_bin rfl rfl rfl) ?_;refine RZ (.bool false) (congrArg Value.bool (by rw [pfA_len]; rfl)) ?_;refine RP rfl rfl ?_;refine RF ?_;refine RM rfl ?_;refine RQ (ok_field field69_1 (by decide) rfl) ?_;refine RQ (ok_loadV (s := 1000010) (by decide) U30 rfl rfl rfl (rfl)) ?_;refine RQ (ok_lenV U30 rfl) ?_;refine RQ (ok_bin rfl rfl rfl) ?_;refine RZ (.bool false) (congrArg Value.bool (by rw [pfB_len]; rfl)) ?_;refine RP rfl rfl ?_;refine RF ?_;refine RN (A.sub (Sv [1,6,8,10,12,90,1000001,1000002,1000004,1000006,1000008,1000010,1000012,1000019,1000020,1000021,1000035,1000036,1000037,1000042,1000047,1900000,1900001,1900002,1900003] rfl) ?_);refine A.no rfl ?_;refine QK (QS (GTD (RS (ok_field field32_1 (by decide) rfl) ?_)));refine RLV 1000006 U30 rfl rfl rfl ?_;refine RS (ok_indexS 2 U30 infoN rfl rfl rfl (by rw [lvT_len]; decide)) ?_;refine RS (ok_field field57_3 (by decide) rfl) ?_;refine RS (ok_loadP (s := 1000037) (by decide) U55 rfl size55 rfl rfl (by have hl := nods_len lvT_fit; rw [lvT_len] at hl; rw [List.length_append]; show _ ≤ (nodsV lvT).length + _; omega) (lv_part _)) ?_;refine RL 1000001 U51 rfl rfl (size51.of ((recOf_fit 1 7).len)) ?_;refine RS (ok_litS [(0, aggV (recOf 1 7).v)] (recsV [recOf 1 7, RecT.zero, RecT.zero, RecT.zero]) ⟨rfl, rfl, trivial⟩ lv_buildR) ?_;refine RS (ok_litS [(2, aggV (recsV [recOf 1 7, RecT.zero, RecT.zero, RecT.zero]))] (grpR lvR 0).v ⟨rfl, rfl, trivial⟩ lv_buildX) ?_;refine RS (ok_call (rDigest_fn (grpR lvR 0) (grpR_fit lvR_fit (by decide)) (by decide)) (A1 rfl)) ?_
 refine RS (ok_litS [(0, byteV 2), (1, aggV ((sha (grpR lvR 0).bl).map byteV))] (EntT.v lvE) ⟨rfl, rfl, rfl, rfl, trivial⟩ (buildEntB _ _ (sha_length _))) ?_;refine RS (ok_litS [(0, aggV lvE.v)] (entsV [lvE, EntT.zero, EntT.zero, EntT.zero]) ⟨rfl, rfl, trivial⟩ (lv_buildE _ _ (sha_length _))) ?_;refine RS (ok_neqT (n := 5) true flat55e (by decide) (by kernel_rfl) (by kernel_rfl) rfl rfl lvE_kin lvE_kin (iff_of_true rfl rfl)) ?_;refine RF ?_;refine RN (A.no rfl ?_);refine QK (GS (TN 6 (RL 1000012 U40 rfl rfl (size40.of (by rw [List.length_map, lvD_len])) ?_)));refine RL 1000008 U69 rfl rfl (size69.of rfl) ?_;refine RS (ok_callMK (Verify_fn 5 0 lvD lvD_len (some ⟨g42,0, none⟩) pfA pfA_fit pfA.length) (SubK.app (SubK.of (Sub.cons rfl (Sub.cons rfl (Sub.cons rfl (Sub.cons rfl KN)))) tabE_v) (SubK.cons (k := 1000042) (by decide) rfl Le.blkR SubK.nil)) (A3 rfl rfl rfl)) ?_;refine RV 2 rfl ?_;refine RZ (aggV (recOf 1 7).v) (by rw [verA.2]) ?_;refine RS (ok_extractV rfl rfl) ?_;refine RZ (.int .i64 0) (by rw [verA.1]) ?_;refine RN ?_;refine ZN 1000014 zero51 fun b14 ⟨hBb14, hb14⟩ => ?_
 have hlt_b1_b14 := hb14 1000001 b1 _ _ rfl
 have hlt_b19_b14 := hb14 1000019 b19 _ _ rfl
 have hlt_b35_b14 := hb14 1000035 b35 _ _ rfl
 refine TF 7 (RN ?_);refine ⟨_, eff_storeA (n := 149) (s := 1000014) (size51.of ((recOf_fit 1 7).len)) rfl rfl (RecT.one _) hBb14 rfl (by rw [(recOf_fit 1 7).len]; rfl) (LB 1000001 rfl (LT 1000002 rfl (LT 1000004 rfl (LT 1000006 rfl (LT 1000008 rfl (LT 1000010 rfl (LT 1000012 rfl (LB 1000019 rfl (LT 1000020 rfl (LT 1000021 rfl (LB 1000035 rfl (LT 1000036 rfl (LT 1000037 rfl (LT 1000042 rfl (LT 1000047 rfl (LeftS.cons (t := 1900000) rfl (Surv.tabH (by omega)) (LQ 1900001 rfl (LQ 1900002 rfl (LQ 1900003 rfl (LW [1,10,12,14,108] rfl)))))))))))))))))))), ?_⟩
 refine TL (RVN 1 rfl ?_);refine GS (TN 6 (RL 1000012 U40 rfl rfl (size40.of (by rw [List.length_map, lvD_len])) ?_));refine RL 1000010 U69 rfl rfl (size69.of rfl) ?_;refine RS (ok_callMK (Verify_fn 5 4 lvD lvD_len (some ⟨g47,0, none⟩) pfB pfB_fit pfB.length) (SubK.app (SubK.of (Sub.cons rfl (Sub.cons rfl (Sub.cons rfl (Sub.cons rfl KN)))) tabE_v) (SubK.cons (k := 1000047) (by decide) rfl Le.blkR SubK.nil)) (A3 rfl rfl rfl)) ?_;refine RV 2 rfl ?_;refine RZ (aggV RecT.zero.v) (by rw [verB.2]) ?_;refine RS (ok_extractV rfl rfl) ?_;refine RZ (.int .i64 0) (by rw [verB.1]) ?_;refine RN ?_;refine ZN 1000015 zero51 fun b15 ⟨hBb15, hb15⟩ => ?_
 have hlt_b1_b15 := hb15 1000001 b1 _ _ rfl
 have hlt_b14_b15 := hb15 1000014 b14 _ _ rfl
 have hlt_b19_b15 := hb15 1000019 b19 _ _ rfl
 have hlt_b35_b15 := hb15 1000035 b35 _ _ rfl
 refine TF 7 (RN ?_);refine ⟨_, eff_storeA (n := 149) (s := 1000015) (size51.of (RecT.zero_fit.len)) rfl rfl (RecT.one _) hBb15 rfl (by rw [RecT.zero_fit.len]; rfl) (LB 1000001 rfl (LT 1000002 rfl (LT 1000004 rfl (LT 1000006 rfl (LT 1000008 rfl (LT 1000010 rfl (LT 1000012 rfl (LB 1000014 rfl (LB 1000019 rfl (LT 1000020 rfl (LT 1000021 rfl (LB 1000035 rfl (LT 1000036 rfl (LT 1000037 rfl (LT 1000042 rfl (LT 1000047 rfl (LeftS.cons (t := 1900000) rfl (Surv.tabH (by omega)) (LQ 1900001 rfl (LQ 1900002 rfl (LQ 1900003 rfl (LW [1,3,12,14,15,114] rfl))))))))))))))))))))), ?_⟩
 refine TL (RVN 1 rfl ?_);refine A.sub (Sv [1,3,5,12,14,15,1000001,1000002,1000004,1000006,1000008,1000010,1000012,1000014,1000015,1000019,1000020,1000021,1000035,1000036,1000037,1000042,1000047,1900000,1900001,1900002,1900003] rfl) ?_;refine GS (TN 0 (RN ?_));refine ZM 1000116 (fun B' => ok_makeK 4 U26 infoP51 (by decide) rfl rfl (by decide)) rfl fun b116 ⟨hBb116, hb116⟩ => ?_
 have hlt_b1_b116 := hb116 1000001 b1 _ _ rfl
 have hlt_b2_b116 := hb116 1000002 b2 _ _ rfl
 have hlt_b4_b116 := hb116 1000004 b4 _ _ rfl
 have hlt_b6_b116 := hb116 1000006 b6 _ _ rfl
 have hlt_b8_b116 := hb116 1000008 b8 _ _ rfl
 have hlt_b10_b116 := hb116 1000010 b10 _ _ rfl
 have hlt_b12_b116 := hb116 1000012 b12 _ _ rfl
 have hlt_b14_b116 := hb116 1000014 b14 _ _ rfl
 have hlt_b15_b116 := hb116 1000015 b15 _ _ rfl
 have hlt_b19_b116 := hb116 1000019 b19 _ _ rfl
 have hlt_b20_b116 := hb116 1000020 b20 _ _ rfl
 have hlt_g21_b116 := hb116 1000021 g21 _ _ rfl
 have hlt_b35_b116 := hb116 1000035 b35 _ _ rfl
 have hlt_b36_b116 := hb116 1000036 b36 _ _ rfl
 have hlt_g37_b116 := hb116 1000037 g37 _ _ rfl
 have hlt_g42_b116 := hb116 1000042 g42 _ _ rfl
 have hlt_g47_b116 := hb116 1000047 g47 _ _ rfl
 refine TN 1 (RN ?_);refine ZM 1000117 (fun B' => ok_buildG (m := 3) [(0, nI 0), (1, nI 0), (2, nI 0)] (intL [0,0,0]) U27 infoPI ⟨rfl, rfl, rfl, rfl, rfl, rfl, trivial⟩ (by kernel_rfl) (by decide) (by decide)) rfl fun b117 ⟨hBb117, hb117⟩ => ?_
 have hlt_b1_b117 := hb117 1000001 b1 _ _ rfl
 have hlt_b2_b117 := hb117 1000002 b2 _ _ rfl
 have hlt_b4_b117 := hb117 1000004 b4 _ _ rfl
 have hlt_b6_b117 := hb117 1000006 b6 _ _ rfl
 have hlt_b8_b117 := hb117 1000008 b8 _ _ rfl
 have hlt_b10_b117 := hb117 1000010 b10 _ _ rfl
 have hlt_b12_b117 := hb117 1000012 b12 _ _ rfl
 have hlt_b14_b117 := hb117 1000014 b14 _ _ rfl
 have hlt_b15_b117 := hb117 1000015 b15 _ _ rfl
 have hlt_b19_b117 := hb117 1000019 b19 _ _ rfl
 have hlt_b20_b117 := hb117 1000020 b20 _ _ rfl
 have hlt_g21_b117 := hb117 1000021 g21 _ _ rfl
 have hlt_b35_b117 := hb117 1000035 b35 _ _ rfl
 have hlt_b36_b117 := hb117 1000036 b36 _ _ rfl
 have hlt_g37_b117 := hb117 1000037 g37 _ _ rfl
 have hlt_g42_b117 := hb117 1000042 g42 _ _ rfl
 have hlt_g47_b117 := hb117 1000047 g47 _ _ rfl
 have hlt_b116_b117 := hb117 1000116 b116 _ _ rfl
 refine TL (RS (ok_callMK (Build_bad 5 [RecT.zero, RecT.zero, RecT.zero, RecT.zero] zr4_fit [0,0,0] (some ⟨b116,0, none⟩) (some ⟨b117,0, none⟩) 4 3 src5) (SubK.cons (k := 1000116) (by decide) rfl ((Le.eq (congrArg (blk b116 51) (made_rec 4 (fun _ => RecT.zero)))).trans Le.blkR0) (SubK.cons (k := 1000117) (by decide) rfl Le.blkR0 SubK.nil)) (A3 rfl rfl rfl)) ?_);refine RVN 4 rfl ?_;refine GT (RL 1000012 U40 rfl rfl (size40.of (by rw [List.length_map, lvD_len])) ?_);refine RS (ok_lit [] ([.int .i64 0] ++ [.slice none 0 0]) (fun _ _ => rfl) (by kernel_rfl)) ?_;refine RS (ok_callMK (Verify_fn 5 0 lvD lvD_len none [] FitT.nil 0) (SubK.app (SubK.of (Sub.cons rfl (Sub.cons rfl (Sub.cons rfl (Sub.cons rfl KN)))) tabE_v) (SubK.cons (k := 1000037) (by decide) rfl Le.memNil SubK.nil)) (A3 rfl rfl rfl)) ?_;refine RV 2 rfl ?_;refine RZ (aggV RecT.zero.v) (by rw [verC.2]) ?_;refine RS (ok_extractV rfl rfl) ?_;refine RZ (.int .i64 1) (by rw [verC.1]) ?_;refine RVN 1 rfl ?_;refine GT (RV 3 rfl ?_);refine RZ (.int .i64 0) (by rfl) ?_;refine RB rfl rfl rfl ?_;refine RT ?_;refine RM rfl ?_;refine RQ (ok_loadA (s := 1000014) (by decide) U51 rfl (size51.of ((recOf_fit 1 7).len)) rfl rfl) ?_;refine RQ (ok_loadA (s := 1000001) (by decide) U51 rfl (size51.of ((recOf_fit 1 7).len)) rfl rfl) ?_;refine RQ (ok_eqlT (n := 4) true flat51 (by decide) (by kernel_rfl) (by kernel_rfl) rfl rfl (recOf_fit 1 7).kin (recOf_fit 1 7).kin (iff_of_true rfl rfl)) ?_;refine RP rfl rfl ?_;refine RT ?_;refine RM rfl ?_;refine RQ (ok_loadA (s := 1000015) (by decide) U51 rfl (size51.of (RecT.zero_fit.len)) rfl rfl) ?_;refine RQ (ok_lit [] (RecT.v RecT.zero) (fun _ _ => rfl) (by kernel_rfl)) ?_;refine RQ (ok_eqlT (n := 4) true flat51 (by decide) (by kernel_rfl) (by kernel_rfl) rfl rfl RecT.zero_fit.kin RecT.zero_fit.kin (iff_of_true rfl rfl)) ?_;refine RP rfl rfl ?_;refine RT ?_;refine RV 3 rfl ?_;refine RT ?_;refine RP rfl rfl ?_;refine RT ?_;refine RV 3 rfl ?_;refine RT ?_;refine RP rfl rfl ?_;refine RT ?_;refine RVN 1 rfl ?_;refine A.sub (Sv [0,1000001,1000002,1000004,1000006,1000008,1000010,1000012,1000014,1000015,1000019,1000020,1000021,1000035,1000036,1000037,1000042,1000047,1000116,1000117,1900000,1900001,1900002,1900003] rfl) ?_;refine A.ret ?_;exact ER rfl rfl
def swT (W : List NodT) (i j : Nat) : List NodT := (W.set i (ndAt W j)).set j (ndAt W i)
theorem swT_len (W : List NodT) (i j : Nat) : (swT W i j).length = W.length := by simp [swT]
theorem swT_fit {W : List NodT} (h : FitT W) (i j : Nat) : FitT (swT W i j) := FitT.set (FitT.set h i (h.at j)) j (h.at i)
theorem nods_set1 {T : List NodT} (hT : FitT T) {i : Nat} (hi : i < T.length) {x : NodT} (hx : x.Fit) (ys : List Value) : (nodsV T ++ ys).take (0 + i * 274) ++ x.v ++ (nodsV T ++ ys).drop (0 + i * 274 + x.v.length) = nodsV (T.set i x) ++ ys := by
 have hl := nods_len hT
 rw [hx.len, Nat.zero_add, List.take_append_of_le_length (by omega), List.drop_append_of_le_length (by omega), ← nods_set hT hi hx]
 simp only [List.append_assoc]
theorem nods_sw {T : List NodT} (hT : FitT T) {i j : Nat} (hi : i < T.length) (hj : j < T.length) (ys zs : List Value) (hz : zs = (nodsV T ++ ys).take (0 + i * 274) ++ (ndAt T j).v ++ (nodsV T ++ ys).drop (0 + i * 274 + (ndAt T j).v.length)) : zs.take (0 + j * 274) ++ (ndAt T i).v ++ zs.drop (0 + j * 274 + (ndAt T i).v.length) = nodsV (swT T i j) ++ ys := by
 subst hz
 rw [nods_set1 hT hi (hT.at j) ys, nods_set1 (FitT.set hT i (hT.at j)) (by rw [List.length_set]; exact hj) (hT.at i) ys]
 rfl
def cp8 (a b : UInt8) : Int := if a.toNat < b.toNat then -1 else if b.toNat < a.toNat then 1 else 0
def ltN (x y : NodT) : Bool := decide (y.l.toNat < x.l.toNat)
theorem cp8_neg {a b : UInt8} : decide (cp8 a b < 0) = decide (a.toNat < b.toNat) := by
 unfold cp8
 by_cases h : a.toNat < b.toNat
 ·simp [h]
 ·rw [if_neg h]
  by_cases h2 : b.toNat < a.toNat <;> simp [h, h2]
def insD (a : Nat) : Nat → List NodT → List NodT
 | 0, W => W
 | d + 1, W => if ltN (ndAt W (a + d + 1)) (ndAt W (a + d)) then insD a d (swT W (a + d + 1) (a + d)) else W
def insO (a : Nat) : Nat → List NodT → List NodT
 | 0, W => W
 | k + 1, W => insD a (k + 1) (insO a k W)
theorem insD_len (a : Nat) : ∀ (d : Nat) (W : List NodT), (insD a d W).length = W.length
 | 0, _ => rfl
 | d + 1, W => by
  unfold insD
  split
  ·rw [insD_len a d, swT_len]
  ·rfl
theorem insD_fit {a : Nat} : ∀ {d : Nat} {W : List NodT}, FitT W → FitT (insD a d W)
 | 0, _, h => h
 | d + 1, W, h => by
  unfold insD
  split
  ·exact insD_fit (swT_fit h _ _)
  ·exact h
theorem insO_len (a : Nat) : ∀ (k : Nat) (W : List NodT), (insO a k W).length = W.length
 | 0, _ => rfl
 | k + 1, W => by unfold insO; rw [insD_len, insO_len a k]
theorem insO_fit {a : Nat} : ∀ {k : Nat} {W : List NodT}, FitT W → FitT (insO a k W)
 | 0, _, h => h
 | k + 1, W, h => by unfold insO; exact insD_fit (insO_fit h)
def swR (a b : Nat) : Nat → List NodT → List NodT
 | 0, W => W
 | n + 1, W => swT (swR a b n W) (a + n) (b + n)
theorem swR_len (a b : Nat) : ∀ (n : Nat) (W : List NodT), (swR a b n W).length = W.length
 | 0, _ => rfl
 | n + 1, W => by unfold swR; rw [swT_len, swR_len a b n]
theorem swR_fit {a b : Nat} : ∀ {n : Nat} {W : List NodT}, FitT W → FitT (swR a b n W)
 | 0, _, h => h
 | n + 1, W, h => by unfold swR; exact swT_fit (swR_fit h) _ _
def rotL (m : Nat) : Nat → Nat → Nat → List NodT → Nat × List NodT
 | 0, i, _, W => (i, W)
 | f + 1, i, j, W => if i = j then (i, W) else if j < i then rotL m f (i - j) j (swR (m - i) m j W) else rotL m f i (j - i) (swR (m - i) (m + j - i) i W)
def rotF (a m b : Nat) (W : List NodT) : List NodT := swR (m - (rotL m (b - a) (m - a) (b - m) W).1) m (rotL m (b - a) (m - a) (b - m) W).1 (rotL m (b - a) (m - a) (b - m) W).2
theorem rotL_fit {m : Nat} : ∀ {f i j : Nat} {W : List NodT}, FitT W → FitT (rotL m f i j W).2
 | 0, _, _, _, h => h
 | f + 1, i, j, W, h => by
  unfold rotL
  split
  ·exact h
  ·split
   ·exact rotL_fit (swR_fit h)
   ·exact rotL_fit (swR_fit h)
theorem rotL_len {m : Nat} : ∀ {f i j : Nat} {W : List NodT}, (rotL m f i j W).2.length = W.length
 | 0, _, _, _ => rfl
 | f + 1, i, j, W => by
  unfold rotL
  split
  ·rfl
  ·split
   ·rw [rotL_len, swR_len]
   ·rw [rotL_len, swR_len]
theorem rotF_fit {a m b : Nat} {W : List NodT} (h : FitT W) : FitT (rotF a m b W) := swR_fit (rotL_fit h)
theorem rotF_len (a m b : Nat) (W : List NodT) : (rotF a m b W).length = W.length := by unfold rotF; rw [swR_len, rotL_len]
def bsr (p : Nat → Bool) : Nat → Nat → Nat → Nat
 | 0, i, _ => i
 | f + 1, i, j => if i < j then (if p ((i + j) / 2) then bsr p f ((i + j) / 2 + 1) j else bsr p f i ((i + j) / 2)) else i
def mvU (a : Nat) : Nat → List NodT → List NodT
 | 0, W => W
 | n + 1, W => swT (mvU a n W) (a + n) (a + n + 1)
def mvD (m : Nat) : Nat → List NodT → List NodT
 | 0, W => W
 | n + 1, W => swT (mvD m n W) (m - n) (m - n - 1)
theorem mvU_len (a : Nat) : ∀ (n : Nat) (W : List NodT), (mvU a n W).length = W.length
 | 0, _ => rfl
 | n + 1, W => by unfold mvU; rw [swT_len, mvU_len a n]
theorem mvU_fit {a : Nat} : ∀ {n : Nat} {W : List NodT}, FitT W → FitT (mvU a n W)
 | 0, _, h => h
 | n + 1, W, h => by unfold mvU; exact swT_fit (mvU_fit h) _ _
theorem mvD_len (m : Nat) : ∀ (n : Nat) (W : List NodT), (mvD m n W).length = W.length
 | 0, _ => rfl
 | n + 1, W => by unfold mvD; rw [swT_len, mvD_len m n]
theorem mvD_fit {m : Nat} : ∀ {n : Nat} {W : List NodT}, FitT W → FitT (mvD m n W)
 | 0, _, h => h
 | n + 1, W, h => by unfold mvD; exact swT_fit (mvD_fit h) _ _
def pUp (W : List NodT) (a h : Nat) : Bool := ltN (ndAt W h) (ndAt W a)
def pDn (W : List NodT) (m h : Nat) : Bool := !ltN (ndAt W m) (ndAt W h)
def pMd (W : List NodT) (p c : Nat) : Bool := !ltN (ndAt W (p - c)) (ndAt W c)
def smI (W : List NodT) (a m b : Nat) : Nat := bsr (pUp W a) (b - m) m b
def smJ (W : List NodT) (a m : Nat) : Nat := bsr (pDn W m) (m - a) a m
def smM (a b : Nat) : Nat := (a + b) / 2
def smS0 (a m b : Nat) : Nat := if smM a b < m then smM a b + m - b else a
def smR0 (a m b : Nat) : Nat := if smM a b < m then smM a b else m
def smS (W : List NodT) (a m b : Nat) : Nat := bsr (pMd W (smM a b + m - 1)) (smR0 a m b - smS0 a m b) (smS0 a m b) (smR0 a m b)
def smZ (W : List NodT) (a m b : Nat) : Nat := smM a b + m - smS W a m b
def smW1 (W : List NodT) (a m b : Nat) : List NodT := if smS W a m b < m ∧ m < smZ W a m b then rotF (smS W a m b) m (smZ W a m b) W else W
def smF : Nat → Nat → Nat → Nat → List NodT → List NodT
 | 0, _, _, _, W => W
 | f + 1, a, m, b, W =>
  if m - a = 1 then mvU a (smI W a m b - 1 - a) W
  else if b - m = 1 then mvD m (m - smJ W a m) W
  else
   let V := if a < smS W a m b ∧ smS W a m b < smM a b then smF f a (smS W a m b) (smM a b) (smW1 W a m b) else smW1 W a m b
   if smM a b < smZ W a m b ∧ smZ W a m b < b then smF f (smM a b) (smZ W a m b) b V else V
def smW2 (f : Nat) (W : List NodT) (a m b : Nat) : List NodT := if a < smS W a m b ∧ smS W a m b < smM a b then smF f a (smS W a m b) (smM a b) (smW1 W a m b) else smW1 W a m b
theorem smF_1 {f a m b : Nat} {W : List NodT} (h : m - a = 1) : smF (f + 1) a m b W = mvU a (smI W a m b - 1 - a) W := by
 rw [smF, if_pos h]
theorem smF_2 {f a m b : Nat} {W : List NodT} (h : ¬ m - a = 1) (h2 : b - m = 1) : smF (f + 1) a m b W = mvD m (m - smJ W a m) W := by
 rw [smF, if_neg h, if_pos h2]
theorem smF_3 {f a m b : Nat} {W : List NodT} (h : ¬ m - a = 1) (h2 : ¬ b - m = 1) : smF (f + 1) a m b W = if smM a b < smZ W a m b ∧ smZ W a m b < b then smF f (smM a b) (smZ W a m b) b (smW2 f W a m b) else smW2 f W a m b := by
 rw [smF, if_neg h, if_neg h2]; rfl
theorem smW1_fit {W : List NodT} (h : FitT W) (a m b : Nat) : FitT (smW1 W a m b) := by
 unfold smW1; split
 ·exact rotF_fit h
 ·exact h
theorem smW1_len (W : List NodT) (a m b : Nat) : (smW1 W a m b).length = W.length := by
 unfold smW1; split
 ·exact rotF_len _ _ _ _
 ·rfl
theorem smF_fit : ∀ {f a m b : Nat} {W : List NodT}, FitT W → FitT (smF f a m b W)
 | 0, _, _, _, _, h => h
 | f + 1, a, m, b, W, h => by
  by_cases h1 : m - a = 1
  ·rw [smF_1 h1]; exact mvU_fit h
  ·by_cases h2 : b - m = 1
   ·rw [smF_2 h1 h2]; exact mvD_fit h
   ·have hw : FitT (smW2 f W a m b) := by
     unfold smW2; split
     ·exact smF_fit (smW1_fit h _ _ _)
     ·exact smW1_fit h _ _ _
    rw [smF_3 h1 h2]
    split
    ·exact smF_fit hw
    ·exact hw
theorem smF_len : ∀ {f a m b : Nat} {W : List NodT}, (smF f a m b W).length = W.length
 | 0, _, _, _, _ => rfl
 | f + 1, a, m, b, W => by
  by_cases h1 : m - a = 1
  ·rw [smF_1 h1]; exact mvU_len _ _ _
  ·by_cases h2 : b - m = 1
   ·rw [smF_2 h1 h2]; exact mvD_len _ _ _
   ·have hw : (smW2 f W a m b).length = W.length := by
     unfold smW2; split
     ·rw [smF_len, smW1_len]
     ·rw [smW1_len]
    rw [smF_3 h1 h2]
    split
    ·rw [smF_len, hw]
    ·exact hw
def sfI (n : Nat) : Nat → Nat → List NodT → Nat × List NodT
 | 0, a, W => (a, W)
 | f + 1, a, W => if a + 20 ≤ n then sfI n f (a + 20) (insO a (a + 20 - a - 1) W) else (a, W)
def sfM (n c : Nat) : Nat → Nat → List NodT → Nat × List NodT
 | 0, a, W => (a, W)
 | f + 1, a, W => if a + 2 * c ≤ n then sfM n c f (a + 2 * c) (smF (a + 2 * c - a) a (a + c) (a + 2 * c) W) else (a, W)
def sfE (n c : Nat) (p : Nat × List NodT) : List NodT := if p.1 + c < n then smF (n - p.1) p.1 (p.1 + c) n p.2 else p.2
def sfO (n : Nat) : Nat → Nat → List NodT → List NodT
 | 0, _, W => W
 | f + 1, c, W => if c < n then sfO n f (c * 2) (sfE n c (sfM n c n 0 W)) else W
def sfA (n : Nat) (W : List NodT) : List NodT := insO (sfI n n 0 W).1 (n - (sfI n n 0 W).1 - 1) (sfI n n 0 W).2
def sfF (n : Nat) (W : List NodT) : List NodT := sfO n n 20 (sfA n W)
theorem sfI_go {n f a : Nat} {W : List NodT} (hf : n ≤ a + f) (h : a + 20 ≤ n) : sfI n f a W = sfI n (f - 1) (a + 20) (insO a (a + 20 - a - 1) W) := by
 obtain ⟨f, rfl⟩ : ∃ g, f = g + 1 := ⟨f - 1, by omega⟩
 rw [show f + 1 - 1 = f from rfl]
 conv => lhs; unfold sfI
 rw [if_pos h]
theorem sfI_end {n f a : Nat} {W : List NodT} (h : ¬ a + 20 ≤ n) : sfI n f a W = (a, W) := by
 cases f with
 | zero => rfl
 | succ f => unfold sfI; rw [if_neg h]
theorem sfM_go {n c f a : Nat} {W : List NodT} (hc : 0 < c) (hf : n ≤ a + f) (h : a + 2 * c ≤ n) : sfM n c f a W = sfM n c (f - 1) (a + 2 * c) (smF (a + 2 * c - a) a (a + c) (a + 2 * c) W) := by
 obtain ⟨f, rfl⟩ : ∃ g, f = g + 1 := ⟨f - 1, by omega⟩
 rw [show f + 1 - 1 = f from rfl]
 conv => lhs; unfold sfM
 rw [if_pos h]
theorem sfM_end {n c f a : Nat} {W : List NodT} (h : ¬ a + 2 * c ≤ n) : sfM n c f a W = (a, W) := by
 cases f with
 | zero => rfl
 | succ f => unfold sfM; rw [if_neg h]
theorem sfO_go {n f c : Nat} {W : List NodT} (hf : n ≤ c + f) (h : c < n) : sfO n f c W = sfO n (f - 1) (c * 2) (sfE n c (sfM n c n 0 W)) := by
 obtain ⟨f, rfl⟩ : ∃ g, f = g + 1 := ⟨f - 1, by omega⟩
 rw [show f + 1 - 1 = f from rfl]
 conv => lhs; unfold sfO
 rw [if_pos h]
theorem sfO_end {n f c : Nat} {W : List NodT} (h : ¬ c < n) : sfO n f c W = W := by
 cases f with
 | zero => rfl
 | succ f => unfold sfO; rw [if_neg h]
theorem sfF_small {n : Nat} {W : List NodT} (h : n < 20) : sfF n W = insO 0 (n - 1) W := by
 have h1 : sfI n n 0 W = (0, W) := sfI_end (by omega)
 have h2 : sfA n W = insO 0 (n - 1) W := by unfold sfA; rw [h1]; rfl
 unfold sfF
 rw [sfO_end (by omega), h2]
theorem sfI_fit {n : Nat} : ∀ {f a : Nat} {W : List NodT}, FitT W → FitT (sfI n f a W).2
 | 0, _, _, h => h
 | f + 1, a, W, h => by
  unfold sfI; split
  ·exact sfI_fit (insO_fit h)
  ·exact h
theorem sfI_len {n : Nat} : ∀ {f a : Nat} {W : List NodT}, (sfI n f a W).2.length = W.length
 | 0, _, _ => rfl
 | f + 1, a, W => by
  unfold sfI; split
  ·rw [sfI_len, insO_len]
  ·rfl
theorem sfM_fit {n c : Nat} : ∀ {f a : Nat} {W : List NodT}, FitT W → FitT (sfM n c f a W).2
 | 0, _, _, h => h
 | f + 1, a, W, h => by
  unfold sfM; split
  ·exact sfM_fit (smF_fit h)
  ·exact h
theorem sfM_len {n c : Nat} : ∀ {f a : Nat} {W : List NodT}, (sfM n c f a W).2.length = W.length
 | 0, _, _ => rfl
 | f + 1, a, W => by
  unfold sfM; split
  ·rw [sfM_len, smF_len]
  ·rfl
theorem sfE_fit {n c : Nat} {p : Nat × List NodT} (h : FitT p.2) : FitT (sfE n c p) := by
 unfold sfE; split
 ·exact smF_fit h
 ·exact h
theorem sfE_len (n c : Nat) (p : Nat × List NodT) : (sfE n c p).length = p.2.length := by
 unfold sfE; split
 ·exact smF_len
 ·rfl
theorem sfA_fit {n : Nat} {W : List NodT} (h : FitT W) : FitT (sfA n W) := insO_fit (sfI_fit h)
theorem sfA_len (n : Nat) (W : List NodT) : (sfA n W).length = W.length := by unfold sfA; rw [insO_len, sfI_len]
theorem End.retRow {P : Program} {n : Nat} {E : Env} {w₀ : World} {fn : Func} {r k g m q : Nat} {e : TypeId} {xs zs : List Value} (hr : fn.results = #[.tmp r]) (h1 : E.look r = some (.v (.slice (some ⟨g, 0, none⟩) m q))) (h2 : E.look k = some (blk g e (xs ++ zs))) : End Cx.top w₀ n E (BP P fn (PostOf w₀ (rowD m xs)) .ret) := fun a w gr hs => by
 obtain ⟨hlt, hh⟩ := hs.of k _ h2
 have hv : a.tmps.getD r undef = .slice (some ⟨g, 0, none⟩) m q := hs.of r _ h1
 refine BP.ret hs.defers ⟨a.tmps.getD r undef, by simp [results, hr], _, rfl, gr, ?_⟩
 refine ⟨some ⟨g, 0, none⟩, q, hv, fun j u hu => ⟨_, rfl, hlt, ?_⟩⟩
 rw [show (⟨g, 0, none⟩ : Addr).add j = ⟨g, j, none⟩ from by unfold Addr.add; split <;> simp_all]
 simp only [World.cell?, hh]
 have : (xs ++ zs)[j]? = some u := by rw [List.getElem?_append_left (List.getElem?_eq_some_iff.1 hu).1]; exact hu
 simpa using this
theorem ok_eqNilS {P : Program} {B : Nat} {E : Env} {dst : Option Tmp} {ty : TypeId} {pos : String} {after : Array Edge} {guard : Option (Nat × Bool)} {t t' e : TypeId} {x : Operand} {A : Addr} {m q : Nat} (ht : P.underlying t = some (.slice e)) (hx : E.at x = some (.v (.slice (some A) m q))) :
  OpOk P B ⟨dst, .binOp .eql t x (.const (.slice none 0 0)) t', ty, pos, after, guard⟩ E (.v (.bool false)) := fun ρ w _ hv hρ => by
 have h1 : ρ x = .slice (some A) m q := hρ x (by simp [Op.operands]) _ hx
 have h0 : ρ (.const (.slice none 0 0)) = .slice none 0 0 := hρ (.const (.slice none 0 0)) (by simp [Op.operands]) _ rfl
 have h2 : (Op.equalIn 10000 t (.slice (some A) m q) (.slice none 0 0)).run P w = .ok false w := by
  rw [show 10000 = 9999 + 1 from rfl, Op.equalIn]
  simp [run_underlying ht]
 have h4 : (binOp .eql t (.slice (some A) m q) (.slice none 0 0)).run P w = .ok (.bool false) w := by
  simp only [binOp, Op.equal, Op.maxDepth, Sem.run_bind, h2, Result.andThen_ok, Sem.run_pure]
 exact out_val (w' := w) (by simp [execOp, h0, h1, h4, eqGuard]) ⟨Grow.refl w, rfl⟩
section
theorem nodsY_len {W : List NodT} (h : FitT W) (ys : List Value) {i : Nat} (hi : i < W.length) : 0 + i * 274 + 274 ≤ (nodsV W ++ ys).length := by
 rw [List.length_append, nods_len h]; omega
theorem nodsY_at {W : List NodT} (h : FitT W) (ys : List Value) {i : Nat} (hi : i < W.length) : ((nodsV W ++ ys).drop (0 + i * 274)).take 274 = (ndAt W i).v := by
 have hl := nods_len h
 rw [Nat.zero_add, List.drop_append_of_le_length (by omega), List.take_append_of_le_length (by rw [List.length_drop]; omega), nods_at h hi]
theorem nf1 {W : List NodT} (h : FitT W) {ys : List Value} {i : Nat} {x : NodT} (hx : x.Fit) (hi : i < W.length) : 0 + i * 274 + x.v.length ≤ (nodsV W ++ ys).length := by rw [List.length_append, nods_len h, hx.len]; omega
theorem nf2 {W : List NodT} (h : FitT W) {ys : List Value} {i j : Nat} {x y : NodT} (hx : x.Fit) (hy : y.Fit) (hi : i < W.length) (hj : j < W.length) : 0 + j * 274 + y.v.length ≤ ((nodsV W ++ ys).take (0 + i * 274) ++ x.v ++ (nodsV W ++ ys).drop (0 + i * 274 + x.v.length)).length := by
 rw [hy.len]; simp only [List.length_append, List.length_take, List.length_drop, nods_len h, hx.len]; omega
theorem insNext {a k : Nat} {W : List NodT} {p : Nat × List NodT} (hz : 0 < p.1) (hG : p.1 ≤ k + 1 ∧ p.2.length = W.length ∧ FitT p.2 ∧ insO a (k + 1) W = insD a p.1 p.2) (hlt : ltN (ndAt p.2 (a + p.1)) (ndAt p.2 (a + (p.1 - 1))) = true) :
  p.1 - 1 ≤ k + 1 ∧ (swT p.2 (a + p.1) (a + (p.1 - 1))).length = W.length ∧ FitT (swT p.2 (a + p.1) (a + (p.1 - 1))) ∧ insO a (k + 1) W = insD a (p.1 - 1) (swT p.2 (a + p.1) (a + (p.1 - 1))) := by
 obtain ⟨d, V⟩ := p
 obtain ⟨d, rfl⟩ : ∃ e, d = e + 1 := ⟨d - 1, by simp at hz; omega⟩
 refine ⟨by simp at hG ⊢; omega, by rw [swT_len]; exact hG.2.1, swT_fit hG.2.2.1 _ _, ?_⟩
 rw [hG.2.2.2]
 show insD a (d + 1) V = insD a d (swT V (a + d + 1) (a + d))
 have hlt' : ltN (ndAt V (a + d + 1)) (ndAt V (a + d)) = true := hlt
 rw [show insD a (d + 1) V = if ltN (ndAt V (a + d + 1)) (ndAt V (a + d)) then insD a d (swT V (a + d + 1) (a + d)) else V from rfl, if_pos hlt']
theorem insStop {a d : Nat} {V : List NodT} (h : d = 0 ∨ ltN (ndAt V (a + d)) (ndAt V (a + (d - 1))) = false) : insD a d V = V := by
 cases d with
 | zero => rfl
 | succ d =>
  rcases h with h | h
  ·cases h
  ·have h' : ltN (ndAt V (a + d + 1)) (ndAt V (a + d)) = false := h
   rw [show insD a (d + 1) V = if ltN (ndAt V (a + d + 1)) (ndAt V (a + d)) then insD a d (swT V (a + d + 1) (a + d)) else V from rfl, if_neg (by rw [h']; decide)]
theorem isNaN_fn (a : UInt8)  : Fn Tryz.prog 140 [.v (byteV a)] (.v (.bool false)) := by
 refine FV Tryz.func140 rfl Tryz.ntmps140 rfl fun w₀ => ?_
 refine GV rfl (GT (RV 3 rfl ?_));refine RZ (.bool false) (congrArg Value.bool (bne_eq_false_iff_eq.2 rfl)) ?_;refine RVN 1 rfl ?_;refine A.ret ?_;exact ER rfl rfl
theorem Cmp8_fn (a b : UInt8)  : Fn Tryz.prog 123 [.v (byteV a), .v (byteV b)] (.v (.int .i64 (cp8 a b))) := by
 refine FV Tryz.func123 rfl Tryz.ntmps123 rfl fun w₀ => ?_
 refine GV rfl (GT (RM rfl ?_));refine RS (ok_call (isNaN_fn a) (A1 rfl)) ?_;refine RVN 1 rfl ?_;refine GT (RM rfl ?_);refine RS (ok_call (isNaN_fn b) (A1 rfl)) ?_;refine RVN 1 rfl ?_;refine QS (GV rfl (A.no rfl ?_));refine QK (QS (GV rfl (A.no rfl ?_)));refine QK (QS (GT (RV 3 rfl ?_)));refine RZ (.bool (decide (a.toNat < b.toNat))) (congrArg Value.bool (decide_eq_decide.2 (by omega))) ?_;refine RN ?_;refine A.cond rfl (fun hc16 => ?_) (fun hc16 => ?_)
 ·have h1 : a.toNat < b.toNat := by simpa using hc16
  have hres : (-1 : Int) = cp8 a b := (if_pos h1).symm
  refine GV rfl (A.ret (End.ret_then ?_));exact End.ret1 rfl rfl (Le.v (congrArg (Value.int .i64) hres))
 ·have h1 : ¬ a.toNat < b.toNat := by simpa using hc16
  refine QK (QS (GT (RV 3 rfl ?_)));refine RZ (.bool (decide (b.toNat < a.toNat))) (congrArg Value.bool (decide_eq_decide.2 (by omega))) ?_;refine RN ?_;refine A.cond rfl (fun hc19 => ?_) (fun hc19 => ?_)
  ·have h2 : b.toNat < a.toNat := by simpa using hc19
   have hres : (1 : Int) = cp8 a b := by unfold cp8; rw [if_neg h1, if_pos h2]
   refine GV rfl (A.ret (End.ret_then ?_));exact End.ret1 rfl rfl (Le.v (congrArg (Value.int .i64) hres))
  ·have h2 : ¬ b.toNat < a.toNat := by simpa using hc19
   have hres : (0 : Int) = cp8 a b := by unfold cp8; rw [if_neg h1, if_neg h2]
   refine QK (GV rfl (A.ret ?_));exact End.ret1 rfl rfl (Le.v (congrArg (Value.int .i64) hres))
theorem dcmp_fn (x y : NodT) (hx : x.Fit) (hy : y.Fit)  : Fn Tryz.prog 122 [.v (aggV x.v), .v (aggV y.v)] (.v (.int .i64 (cp8 y.l x.l))) := by
 refine FV Tryz.func122 rfl Tryz.ntmps122 rfl fun w₀ => ?_
 refine GS (TN 0 (RN ?_));refine ZB 1000002 rfl fun b2 ⟨hBb2, hb2⟩ => ?_
 refine TN 1 (RN ?_);refine ZB 1000003 rfl fun b3 ⟨hBb3, hb3⟩ => ?_
 have hlt_b2_b3 := hb3 1000002 b2 _ _ rfl
 refine TL (RVN 1 rfl ?_);refine GT (RS (ok_field field57_0 (by decide) rfl) ?_);refine RLV 1000003 U5 rfl rfl rfl ?_;refine RS (ok_field field57_0 (by decide) rfl) ?_;refine RLV 1000002 U5 rfl rfl rfl ?_;refine RS (ok_call (Cmp8_fn y.l x.l) (A2 rfl rfl)) ?_;refine RVN 1 rfl ?_;refine A.ret ?_;exact ER rfl rfl
set_option maxHeartbeats 8000000 in
theorem Ins_fnW (g q : Nat) (ys : List Value) (a b : Nat) (W : List NodT) (hW : FitT W) (hab : a ≤ b) (hb : b ≤ W.length) (hsm : W.length ≤ 1000000)  : FnW Tryz.prog 152 [] 57 g (nodsV W ++ ys) (nodsV (insO a (b - a - 1) W) ++ ys) ([.slice (some ⟨g, 0, none⟩) W.length q, nI a, nI b, .func (.func 122) #[] #[]].map D.v) := by
 refine FnW.of (n := 53) (kb := 1000801) (kw := 1000802) Tryz.func152 rfl (by kernel_rfl) Tryz.ntmps152 (by simp) (by decide) (fun p hp => by cases hp) (by decide) (by decide) [(0, .v (.slice (some ⟨g, 0, none⟩) W.length q)), (1, .v (nI a)), (2, .v (nI b)), (3, .v (.func (.func 122) #[] #[]))]
  (fun p hp => by simp only [List.mem_cons, List.not_mem_nil, or_false] at hp; rcases hp with rfl | rfl | rfl | rfl <;> exact ⟨_, rfl, rfl⟩) fun w₀ w₁ hw hM => ?_
 have hBg : w₀.heap.size ≤ g := Nat.le_of_eq hw
 refine GT (RV 2 rfl ?_);refine RZ (nI (a + 1 + 0)) (wrap_eq (by omega) (by omega)) ?_;refine RVN 1 rfl ?_;refine A.block ?_;refine A.loop (ι := Nat) (fun k => k ≤ b - a - 1) (fun k => [(0, .v (.slice (some ⟨g, 0, none⟩) W.length q)), (1, .v (nI (a))), (2, .v (nI (b))), (3, .v (.func (.func 122) #[] #[])), (8, .v (nI (a + 1 + k))), (1000801, blk g 57 (nodsV (insO a k W) ++ ys)), (1000802, wroteD 57 g w₁)]) (fun k => b - a - 1 - k) 0 ?_ ?_ ?_
 ·exact Nat.zero_le _
 ·exact (KC 0 rfl (KC 1 rfl (KC 2 rfl (KC 3 rfl (KC 8 rfl (KE 1000801 rfl (by rfl) (KC 1000802 rfl KN)))))))
 intro k hk'
 refine QS (GV rfl ?_);refine A.cond rfl (fun hc14 => ?_) (fun hc14 => ?_)
 ·have hk : a + 1 + k < b := by simp at hc14; omega
  refine QK (QSB (GV rfl (A.block ?_)));refine A.loop (ι := Nat × List NodT) (fun p => p.1 ≤ k + 1 ∧ p.2.length = W.length ∧ FitT p.2 ∧ insO a (k + 1) W = insD a p.1 p.2) (fun p => [(0, .v (.slice (some ⟨g, 0, none⟩) W.length q)), (1, .v (nI (a))), (2, .v (nI (b))), (3, .v (.func (.func 122) #[] #[])), (8, .v (nI (a + 1 + k))), (9, .v (nI ((a + p.1)))), (1000801, blk g 57 (nodsV p.2 ++ ys)), (1000802, wroteD 57 g w₁)]) (fun p => p.1) (k + 1, insO a k W) ?_ ?_ ?_
  ·exact ⟨Nat.le_refl _, insO_len _ _ _, insO_fit hW, rfl⟩
  ·exact (KC 0 rfl (KC 1 rfl (KC 2 rfl (KC 3 rfl (KC 8 rfl (KE 9 rfl (congrArg (fun n : Nat => D.v (nI n)) (by omega)) (KC 1000801 rfl (KC 1000802 rfl KN))))))))
  intro p hG
  have hj : a + p.1 < W.length := by omega
  have hjl : a + p.1 < p.2.length := by omega
  have hj1 : a + (p.1 - 1) < W.length := by omega
  have hj1l : a + (p.1 - 1) < p.2.length := by omega
  refine QS ?_
  rcases Nat.eq_zero_or_pos p.1 with hz | hz
  ·refine GTD (RV 3 rfl ?_);refine RZ (.bool false) (congrArg Value.bool (decide_eq_false (by omega))) ?_;refine RV 14 rfl ?_;refine RF ?_;refine RN (A.no rfl ?_);refine A.exit (End.exit_then (End.exit_then (End.exit_here (End.normal_block (EN (GTE (RV 2 rfl ?_)))))));refine RZ (nI (a + 1 + (k + 1))) (wrap_eq (by omega) (by omega)) ?_;refine RVN 1 rfl ?_;refine End.normal_then ?_;refine End.again (k + 1) ?_ ?_ ?_
   ·show _ ≤ _; omega
   ·show _ - _ < _ - _; omega
   ·exact (KC 0 rfl (KC 1 rfl (KC 2 rfl (KC 3 rfl (KC 8 rfl (KE 1000801 rfl (by first | (rw [hG.2.2.2, insStop (.inr hlt)]; done) | (rw [hG.2.2.2, insStop (.inl hz)]; done)) (KC 1000802 rfl KN)))))))
  ·refine GTD (RV 3 rfl ?_);refine RZ (.bool true) (congrArg Value.bool (decide_eq_true (by omega))) ?_;refine RV 4 rfl ?_;refine RQ (ok_indexS ((a + p.1)) U30 infoN rfl rfl rfl hj) ?_;refine RQ (ok_loadP (s := 1000801) (by decide) U57 rfl size57 rfl rfl (nodsY_len hG.2.2.1 ys hjl) (nodsY_at hG.2.2.1 ys hjl)) ?_;refine RV 3 rfl ?_;refine RZ (nI ((a + (p.1 - 1)))) (wrap_eq (by omega) (by omega)) ?_;refine RQ (ok_indexS ((a + (p.1 - 1))) U30 infoN rfl rfl rfl hj1) ?_;refine RQ (ok_loadP (s := 1000801) (by decide) U57 rfl size57 rfl rfl (nodsY_len hG.2.2.1 ys hj1l) (nodsY_at hG.2.2.1 ys hj1l)) ?_;refine RQ (ok_callV0 (dcmp_fn (ndAt p.2 (a + p.1)) (ndAt p.2 (a + (p.1 - 1))) (hG.2.2.1.at _) (hG.2.2.1.at _)) rfl (A2 rfl rfl)) ?_;refine RQ (ok_bin rfl rfl rfl) ?_;refine RZ (.bool (ltN (ndAt p.2 (a + p.1)) (ndAt p.2 (a + (p.1 - 1))))) (congrArg Value.bool cp8_neg) ?_;refine RVN 1 rfl ?_;refine A.cond rfl (fun hc34 => ?_) (fun hc34 => ?_)
   ·have hlt : ltN (ndAt p.2 (a + p.1)) (ndAt p.2 (a + (p.1 - 1))) = true := by simpa using hc34
    refine QK (QSB ?_);refine A.regL0 15 [2,3,4] (by kernel_rfl) (by kernel_rfl) (by kernel_rfl) (by kernel_rfl) [(0, .v (.slice (some ⟨g, 0, none⟩) W.length q)), (1, .v (nI (a))), (2, .v (nI (b))), (3, .v (.func (.func 122) #[] #[])), (8, .v (nI (a + 1 + k))), (9, .v (nI ((a + p.1)))), (1000801, blk g 57 (nodsV (swT p.2 (a + p.1) (a + (p.1 - 1))) ++ ys)), (1000802, wroteD 57 g w₁)] ?_ ?_
    ·refine RV 5 rfl ?_;refine RZ (nI ((a + (p.1 - 1)))) (wrap_eq (by omega) (by omega)) ?_;refine RV 3 rfl ?_;refine RZ (nI ((a + (p.1 - 1)))) (wrap_eq (by omega) (by omega)) ?_;refine RS (ok_indexS ((a + (p.1 - 1))) U30 infoN rfl rfl rfl hj1) ?_;refine RS (ok_loadP (s := 1000801) (by decide) U57 rfl size57 rfl rfl (nodsY_len hG.2.2.1 ys hj1l) (nodsY_at hG.2.2.1 ys hj1l)) ?_;refine RV 2 rfl ?_;refine RS (ok_indexS ((a + p.1)) U30 infoN rfl rfl rfl hj) ?_;refine RS (ok_loadP (s := 1000801) (by decide) U57 rfl size57 rfl rfl (nodsY_len hG.2.2.1 ys hjl) (nodsY_at hG.2.2.1 ys hjl)) ?_;refine RS (ok_indexS ((a + p.1)) U30 infoN rfl rfl rfl hj) ?_;refine RN ?_
     intro S hS
     simp only [subs, List.map_cons, List.map_nil, List.cons_append, List.nil_append, List.mem_cons, List.not_mem_nil, or_false] at hS
     rcases hS with rfl | rfl | rfl | rfl | rfl | rfl | rfl | rfl
     ·refine ⟨2, Nat.le_of_ble_eq_true (by kernel_rfl), _, (Sv [0,1,2,3,8,9,34,37,38,39,40,41,42,43,44,45,46,47,48,49,50,51,1000801,1000802] rfl), by kernel_rfl, _, rfl, _, eff_storeP (n := 53) (s := 1000801) (size57.of ((hG.2.2.1.at _).len)) rfl rfl (NodT.one _) hBg rfl (by first | exact nf1 hG.2.2.1 (hG.2.2.1.at _) (by omega) | exact nf2 hG.2.2.1 (hG.2.2.1.at _) (hG.2.2.1.at _) (by omega) (by omega)) (LV 0 rfl (LV 1 rfl (LV 2 rfl (LV 3 rfl (LV 8 rfl (LV 9 rfl (LV 34 rfl (LV 37 rfl (LV 38 rfl (LV 39 rfl (LV 40 rfl (LV 41 rfl (LV 42 rfl (LV 43 rfl (LV 44 rfl (LV 45 rfl (LV 46 rfl (LV 47 rfl (LV 48 rfl (LV 49 rfl (LV 50 rfl (LV 51 rfl (LeftS.cons (t := 1000802) rfl (Surv.wrote) LN))))))))))))))))))))))), ?_⟩
      refine AnyT.step 16 [] (by kernel_rfl) ?_;refine NextT.pure (by kernel_rfl) rfl rfl rfl (ok_indexS ((a + (p.1 - 1))) U30 infoN rfl rfl rfl hj1) ?_ ?_
      ·refine AnyT.step 17 [] (by kernel_rfl) ?_;refine NextT.eff rfl (eff_storeP (n := 53) (s := 1000801) (size57.of ((hG.2.2.1.at _).len)) rfl rfl (NodT.one _) hBg rfl (by first | exact nf1 hG.2.2.1 (hG.2.2.1.at _) (by omega) | exact nf2 hG.2.2.1 (hG.2.2.1.at _) (hG.2.2.1.at _) (by omega) (by omega)) (LV 0 rfl (LV 1 rfl (LV 2 rfl (LV 3 rfl (LV 8 rfl (LV 9 rfl (LV 34 rfl (LV 37 rfl (LV 38 rfl (LV 39 rfl (LV 40 rfl (LV 41 rfl (LV 42 rfl (LV 43 rfl (LV 44 rfl (LV 45 rfl (LV 46 rfl (LV 47 rfl (LV 48 rfl (LV 49 rfl (LV 50 rfl (LV 51 rfl (LV 52 rfl (LeftS.cons (t := 1000802) rfl (Surv.wrote) LN))))))))))))))))))))))))) ?_ ?_
       ·refine AnyT.last (by kernel_rfl) ?_;exact (QC 0 rfl (QC 1 rfl (QC 2 rfl (QC 3 rfl (QC 8 rfl (QC 9 rfl (QX 1000801 rfl (Le.eq (congrArg (blk g 57) (nods_sw hG.2.2.1 hjl hj1l ys _ rfl))) (QC 1000802 rfl SubL.nil))))))))
       exact trivial
      exact trivial
     ·refine ⟨3, Nat.le_of_ble_eq_true (by kernel_rfl), _, (Sv [0,1,2,3,8,9,34,37,38,39,40,42,43,44,45,46,47,48,49,50,51,1000801,1000802] rfl), by kernel_rfl, _, rfl, _, eff_storeP (n := 53) (s := 1000801) (size57.of ((hG.2.2.1.at _).len)) rfl rfl (NodT.one _) hBg rfl (by first | exact nf1 hG.2.2.1 (hG.2.2.1.at _) (by omega) | exact nf2 hG.2.2.1 (hG.2.2.1.at _) (hG.2.2.1.at _) (by omega) (by omega)) (LV 0 rfl (LV 1 rfl (LV 2 rfl (LV 3 rfl (LV 8 rfl (LV 9 rfl (LV 34 rfl (LV 37 rfl (LV 38 rfl (LV 39 rfl (LV 40 rfl (LV 42 rfl (LV 43 rfl (LV 44 rfl (LV 45 rfl (LV 46 rfl (LV 47 rfl (LV 48 rfl (LV 49 rfl (LV 50 rfl (LV 51 rfl (LeftS.cons (t := 1000802) rfl (Surv.wrote) LN)))))))))))))))))))))), ?_⟩
      refine AnyT.step 4 [] (by kernel_rfl) ?_;refine NextT.pure (by kernel_rfl) rfl rfl rfl (OpOk.asV (nI ((a + (p.1 - 1)))) (wrap_eq (by omega) (by omega)) (ok_bin rfl rfl rfl)) ?_ ?_
      ·refine AnyT.step 16 [] (by kernel_rfl) ?_;refine NextT.pure (by kernel_rfl) rfl rfl rfl (ok_indexS ((a + (p.1 - 1))) U30 infoN rfl rfl rfl hj1) ?_ ?_
       ·refine AnyT.step 17 [] (by kernel_rfl) ?_;refine NextT.eff rfl (eff_storeP (n := 53) (s := 1000801) (size57.of ((hG.2.2.1.at _).len)) rfl rfl (NodT.one _) hBg rfl (by first | exact nf1 hG.2.2.1 (hG.2.2.1.at _) (by omega) | exact nf2 hG.2.2.1 (hG.2.2.1.at _) (hG.2.2.1.at _) (by omega) (by omega)) (LV 0 rfl (LV 1 rfl (LV 2 rfl (LV 3 rfl (LV 8 rfl (LV 9 rfl (LV 34 rfl (LV 37 rfl (LV 38 rfl (LV 39 rfl (LV 40 rfl (LV 41 rfl (LV 42 rfl (LV 43 rfl (LV 44 rfl (LV 45 rfl (LV 46 rfl (LV 47 rfl (LV 48 rfl (LV 49 rfl (LV 50 rfl (LV 51 rfl (LV 52 rfl (LeftS.cons (t := 1000802) rfl (Surv.wrote) LN))))))))))))))))))))))))) ?_ ?_
        ·refine AnyT.last (by kernel_rfl) ?_;exact (QC 0 rfl (QC 1 rfl (QC 2 rfl (QC 3 rfl (QC 8 rfl (QC 9 rfl (QX 1000801 rfl (Le.eq (congrArg (blk g 57) (nods_sw hG.2.2.1 hjl hj1l ys _ rfl))) (QC 1000802 rfl SubL.nil))))))))
        exact trivial
       exact trivial
      exact trivial
     ·refine ⟨3, Nat.le_of_ble_eq_true (by kernel_rfl), _, (Sv [0,1,2,3,8,9,34,37,38,39,41,42,43,44,45,46,47,48,49,50,51,1000801,1000802] rfl), by kernel_rfl, _, rfl, _, eff_storeP (n := 53) (s := 1000801) (size57.of ((hG.2.2.1.at _).len)) rfl rfl (NodT.one _) hBg rfl (by first | exact nf1 hG.2.2.1 (hG.2.2.1.at _) (by omega) | exact nf2 hG.2.2.1 (hG.2.2.1.at _) (hG.2.2.1.at _) (by omega) (by omega)) (LV 0 rfl (LV 1 rfl (LV 2 rfl (LV 3 rfl (LV 8 rfl (LV 9 rfl (LV 34 rfl (LV 37 rfl (LV 38 rfl (LV 39 rfl (LV 41 rfl (LV 42 rfl (LV 43 rfl (LV 44 rfl (LV 45 rfl (LV 46 rfl (LV 47 rfl (LV 48 rfl (LV 49 rfl (LV 50 rfl (LV 51 rfl (LeftS.cons (t := 1000802) rfl (Surv.wrote) LN)))))))))))))))))))))), ?_⟩
      refine AnyT.step 3 [] (by kernel_rfl) ?_;refine NextT.pure (by kernel_rfl) rfl rfl rfl (ok_move rfl) ?_ ?_
      ·refine AnyT.step 16 [] (by kernel_rfl) ?_;refine NextT.pure (by kernel_rfl) rfl rfl rfl (ok_indexS ((a + (p.1 - 1))) U30 infoN rfl rfl rfl hj1) ?_ ?_
       ·refine AnyT.step 17 [] (by kernel_rfl) ?_;refine NextT.eff rfl (eff_storeP (n := 53) (s := 1000801) (size57.of ((hG.2.2.1.at _).len)) rfl rfl (NodT.one _) hBg rfl (by first | exact nf1 hG.2.2.1 (hG.2.2.1.at _) (by omega) | exact nf2 hG.2.2.1 (hG.2.2.1.at _) (hG.2.2.1.at _) (by omega) (by omega)) (LV 0 rfl (LV 1 rfl (LV 2 rfl (LV 3 rfl (LV 8 rfl (LV 9 rfl (LV 34 rfl (LV 37 rfl (LV 38 rfl (LV 39 rfl (LV 40 rfl (LV 41 rfl (LV 42 rfl (LV 43 rfl (LV 44 rfl (LV 45 rfl (LV 46 rfl (LV 47 rfl (LV 48 rfl (LV 49 rfl (LV 50 rfl (LV 51 rfl (LV 52 rfl (LeftS.cons (t := 1000802) rfl (Surv.wrote) LN))))))))))))))))))))))))) ?_ ?_
        ·refine AnyT.last (by kernel_rfl) ?_;exact (QC 0 rfl (QC 1 rfl (QC 2 rfl (QC 3 rfl (QC 8 rfl (QC 9 rfl (QX 1000801 rfl (Le.eq (congrArg (blk g 57) (nods_sw hG.2.2.1 hjl hj1l ys _ rfl))) (QC 1000802 rfl SubL.nil))))))))
        exact trivial
       exact trivial
      exact trivial
     ·refine ⟨4, Nat.le_of_ble_eq_true (by kernel_rfl), _, (Sv [0,1,2,3,8,9,34,37,38,39,42,43,44,45,46,47,48,49,50,51,1000801,1000802] rfl), by kernel_rfl, _, rfl, _, eff_storeP (n := 53) (s := 1000801) (size57.of ((hG.2.2.1.at _).len)) rfl rfl (NodT.one _) hBg rfl (by first | exact nf1 hG.2.2.1 (hG.2.2.1.at _) (by omega) | exact nf2 hG.2.2.1 (hG.2.2.1.at _) (hG.2.2.1.at _) (by omega) (by omega)) (LV 0 rfl (LV 1 rfl (LV 2 rfl (LV 3 rfl (LV 8 rfl (LV 9 rfl (LV 34 rfl (LV 37 rfl (LV 38 rfl (LV 39 rfl (LV 42 rfl (LV 43 rfl (LV 44 rfl (LV 45 rfl (LV 46 rfl (LV 47 rfl (LV 48 rfl (LV 49 rfl (LV 50 rfl (LV 51 rfl (LeftS.cons (t := 1000802) rfl (Surv.wrote) LN))))))))))))))))))))), ?_⟩
      refine AnyT.step 3 [] (by kernel_rfl) ?_;refine NextT.pure (by kernel_rfl) rfl rfl rfl (ok_move rfl) ?_ ?_
      ·refine AnyT.step 4 [] (by kernel_rfl) ?_;refine NextT.pure (by kernel_rfl) rfl rfl rfl (OpOk.asV (nI ((a + (p.1 - 1)))) (wrap_eq (by omega) (by omega)) (ok_bin rfl rfl rfl)) ?_ ?_
       ·refine AnyT.step 16 [] (by kernel_rfl) ?_;refine NextT.pure (by kernel_rfl) rfl rfl rfl (ok_indexS ((a + (p.1 - 1))) U30 infoN rfl rfl rfl hj1) ?_ ?_
        ·refine AnyT.step 17 [] (by kernel_rfl) ?_;refine NextT.eff rfl (eff_storeP (n := 53) (s := 1000801) (size57.of ((hG.2.2.1.at _).len)) rfl rfl (NodT.one _) hBg rfl (by first | exact nf1 hG.2.2.1 (hG.2.2.1.at _) (by omega) | exact nf2 hG.2.2.1 (hG.2.2.1.at _) (hG.2.2.1.at _) (by omega) (by omega)) (LV 0 rfl (LV 1 rfl (LV 2 rfl (LV 3 rfl (LV 8 rfl (LV 9 rfl (LV 34 rfl (LV 37 rfl (LV 38 rfl (LV 39 rfl (LV 40 rfl (LV 41 rfl (LV 42 rfl (LV 43 rfl (LV 44 rfl (LV 45 rfl (LV 46 rfl (LV 47 rfl (LV 48 rfl (LV 49 rfl (LV 50 rfl (LV 51 rfl (LV 52 rfl (LeftS.cons (t := 1000802) rfl (Surv.wrote) LN))))))))))))))))))))))))) ?_ ?_
         ·refine AnyT.last (by kernel_rfl) ?_;exact (QC 0 rfl (QC 1 rfl (QC 2 rfl (QC 3 rfl (QC 8 rfl (QC 9 rfl (QX 1000801 rfl (Le.eq (congrArg (blk g 57) (nods_sw hG.2.2.1 hjl hj1l ys _ rfl))) (QC 1000802 rfl SubL.nil))))))))
         exact trivial
        exact trivial
       exact trivial
      exact trivial
     ·refine ⟨3, Nat.le_of_ble_eq_true (by kernel_rfl), _, (Sv [0,1,2,3,8,9,34,37,38,40,41,42,43,44,45,46,47,48,49,50,51,1000801,1000802] rfl), by kernel_rfl, _, rfl, _, eff_storeP (n := 53) (s := 1000801) (size57.of ((hG.2.2.1.at _).len)) rfl rfl (NodT.one _) hBg rfl (by first | exact nf1 hG.2.2.1 (hG.2.2.1.at _) (by omega) | exact nf2 hG.2.2.1 (hG.2.2.1.at _) (hG.2.2.1.at _) (by omega) (by omega)) (LV 0 rfl (LV 1 rfl (LV 2 rfl (LV 3 rfl (LV 8 rfl (LV 9 rfl (LV 34 rfl (LV 37 rfl (LV 38 rfl (LV 40 rfl (LV 41 rfl (LV 42 rfl (LV 43 rfl (LV 44 rfl (LV 45 rfl (LV 46 rfl (LV 47 rfl (LV 48 rfl (LV 49 rfl (LV 50 rfl (LV 51 rfl (LeftS.cons (t := 1000802) rfl (Surv.wrote) LN)))))))))))))))))))))), ?_⟩
      refine AnyT.step 2 [] (by kernel_rfl) ?_;refine NextT.pure (by kernel_rfl) rfl rfl rfl (ok_move rfl) ?_ ?_
      ·refine AnyT.step 16 [] (by kernel_rfl) ?_;refine NextT.pure (by kernel_rfl) rfl rfl rfl (ok_indexS ((a + (p.1 - 1))) U30 infoN rfl rfl rfl hj1) ?_ ?_
       ·refine AnyT.step 17 [] (by kernel_rfl) ?_;refine NextT.eff rfl (eff_storeP (n := 53) (s := 1000801) (size57.of ((hG.2.2.1.at _).len)) rfl rfl (NodT.one _) hBg rfl (by first | exact nf1 hG.2.2.1 (hG.2.2.1.at _) (by omega) | exact nf2 hG.2.2.1 (hG.2.2.1.at _) (hG.2.2.1.at _) (by omega) (by omega)) (LV 0 rfl (LV 1 rfl (LV 2 rfl (LV 3 rfl (LV 8 rfl (LV 9 rfl (LV 34 rfl (LV 37 rfl (LV 38 rfl (LV 39 rfl (LV 40 rfl (LV 41 rfl (LV 42 rfl (LV 43 rfl (LV 44 rfl (LV 45 rfl (LV 46 rfl (LV 47 rfl (LV 48 rfl (LV 49 rfl (LV 50 rfl (LV 51 rfl (LV 52 rfl (LeftS.cons (t := 1000802) rfl (Surv.wrote) LN))))))))))))))))))))))))) ?_ ?_
        ·refine AnyT.last (by kernel_rfl) ?_;exact (QC 0 rfl (QC 1 rfl (QC 2 rfl (QC 3 rfl (QC 8 rfl (QC 9 rfl (QX 1000801 rfl (Le.eq (congrArg (blk g 57) (nods_sw hG.2.2.1 hjl hj1l ys _ rfl))) (QC 1000802 rfl SubL.nil))))))))
        exact trivial
       exact trivial
      exact trivial
     ·refine ⟨4, Nat.le_of_ble_eq_true (by kernel_rfl), _, (Sv [0,1,2,3,8,9,34,37,38,40,42,43,44,45,46,47,48,49,50,51,1000801,1000802] rfl), by kernel_rfl, _, rfl, _, eff_storeP (n := 53) (s := 1000801) (size57.of ((hG.2.2.1.at _).len)) rfl rfl (NodT.one _) hBg rfl (by first | exact nf1 hG.2.2.1 (hG.2.2.1.at _) (by omega) | exact nf2 hG.2.2.1 (hG.2.2.1.at _) (hG.2.2.1.at _) (by omega) (by omega)) (LV 0 rfl (LV 1 rfl (LV 2 rfl (LV 3 rfl (LV 8 rfl (LV 9 rfl (LV 34 rfl (LV 37 rfl (LV 38 rfl (LV 40 rfl (LV 42 rfl (LV 43 rfl (LV 44 rfl (LV 45 rfl (LV 46 rfl (LV 47 rfl (LV 48 rfl (LV 49 rfl (LV 50 rfl (LV 51 rfl (LeftS.cons (t := 1000802) rfl (Surv.wrote) LN))))))))))))))))))))), ?_⟩
      refine AnyT.step 2 [4] (by kernel_rfl) ?_;refine NextT.pure (by kernel_rfl) rfl rfl rfl (ok_move rfl) ?_ ?_
      ·refine AnyT.step 4 [] (by kernel_rfl) ?_;refine NextT.pure (by kernel_rfl) rfl rfl rfl (OpOk.asV (nI ((a + (p.1 - 1)))) (wrap_eq (by omega) (by omega)) (ok_bin rfl rfl rfl)) ?_ ?_
       ·refine AnyT.step 16 [] (by kernel_rfl) ?_;refine NextT.pure (by kernel_rfl) rfl rfl rfl (ok_indexS ((a + (p.1 - 1))) U30 infoN rfl rfl rfl hj1) ?_ ?_
        ·refine AnyT.step 17 [] (by kernel_rfl) ?_;refine NextT.eff rfl (eff_storeP (n := 53) (s := 1000801) (size57.of ((hG.2.2.1.at _).len)) rfl rfl (NodT.one _) hBg rfl (by first | exact nf1 hG.2.2.1 (hG.2.2.1.at _) (by omega) | exact nf2 hG.2.2.1 (hG.2.2.1.at _) (hG.2.2.1.at _) (by omega) (by omega)) (LV 0 rfl (LV 1 rfl (LV 2 rfl (LV 3 rfl (LV 8 rfl (LV 9 rfl (LV 34 rfl (LV 37 rfl (LV 38 rfl (LV 39 rfl (LV 40 rfl (LV 41 rfl (LV 42 rfl (LV 43 rfl (LV 44 rfl (LV 45 rfl (LV 46 rfl (LV 47 rfl (LV 48 rfl (LV 49 rfl (LV 50 rfl (LV 51 rfl (LV 52 rfl (LeftS.cons (t := 1000802) rfl (Surv.wrote) LN))))))))))))))))))))))))) ?_ ?_
         ·refine AnyT.last (by kernel_rfl) ?_;exact (QC 0 rfl (QC 1 rfl (QC 2 rfl (QC 3 rfl (QC 8 rfl (QC 9 rfl (QX 1000801 rfl (Le.eq (congrArg (blk g 57) (nods_sw hG.2.2.1 hjl hj1l ys _ rfl))) (QC 1000802 rfl SubL.nil))))))))
         exact trivial
        exact trivial
       exact trivial
      refine NextT.pure (by kernel_rfl) rfl rfl rfl (OpOk.asV (nI ((a + (p.1 - 1)))) (wrap_eq (by omega) (by omega)) (ok_bin rfl rfl rfl)) ?_ ?_
      ·refine AnyT.step 2 [] (by kernel_rfl) ?_;refine NextT.pure (by kernel_rfl) rfl rfl rfl (ok_move rfl) ?_ ?_
       ·refine AnyT.step 16 [] (by kernel_rfl) ?_;refine NextT.pure (by kernel_rfl) rfl rfl rfl (ok_indexS ((a + (p.1 - 1))) U30 infoN rfl rfl rfl hj1) ?_ ?_
        ·refine AnyT.step 17 [] (by kernel_rfl) ?_;refine NextT.eff rfl (eff_storeP (n := 53) (s := 1000801) (size57.of ((hG.2.2.1.at _).len)) rfl rfl (NodT.one _) hBg rfl (by first | exact nf1 hG.2.2.1 (hG.2.2.1.at _) (by omega) | exact nf2 hG.2.2.1 (hG.2.2.1.at _) (hG.2.2.1.at _) (by omega) (by omega)) (LV 0 rfl (LV 1 rfl (LV 2 rfl (LV 3 rfl (LV 8 rfl (LV 9 rfl (LV 34 rfl (LV 37 rfl (LV 38 rfl (LV 39 rfl (LV 40 rfl (LV 41 rfl (LV 42 rfl (LV 43 rfl (LV 44 rfl (LV 45 rfl (LV 46 rfl (LV 47 rfl (LV 48 rfl (LV 49 rfl (LV 50 rfl (LV 51 rfl (LV 52 rfl (LeftS.cons (t := 1000802) rfl (Surv.wrote) LN))))))))))))))))))))))))) ?_ ?_
         ·refine AnyT.last (by kernel_rfl) ?_;exact (QC 0 rfl (QC 1 rfl (QC 2 rfl (QC 3 rfl (QC 8 rfl (QC 9 rfl (QX 1000801 rfl (Le.eq (congrArg (blk g 57) (nods_sw hG.2.2.1 hjl hj1l ys _ rfl))) (QC 1000802 rfl SubL.nil))))))))
         exact trivial
        exact trivial
       exact trivial
      exact trivial
     ·refine ⟨4, Nat.le_of_ble_eq_true (by kernel_rfl), _, (Sv [0,1,2,3,8,9,34,37,38,41,42,43,44,45,46,47,48,49,50,51,1000801,1000802] rfl), by kernel_rfl, _, rfl, _, eff_storeP (n := 53) (s := 1000801) (size57.of ((hG.2.2.1.at _).len)) rfl rfl (NodT.one _) hBg rfl (by first | exact nf1 hG.2.2.1 (hG.2.2.1.at _) (by omega) | exact nf2 hG.2.2.1 (hG.2.2.1.at _) (hG.2.2.1.at _) (by omega) (by omega)) (LV 0 rfl (LV 1 rfl (LV 2 rfl (LV 3 rfl (LV 8 rfl (LV 9 rfl (LV 34 rfl (LV 37 rfl (LV 38 rfl (LV 41 rfl (LV 42 rfl (LV 43 rfl (LV 44 rfl (LV 45 rfl (LV 46 rfl (LV 47 rfl (LV 48 rfl (LV 49 rfl (LV 50 rfl (LV 51 rfl (LeftS.cons (t := 1000802) rfl (Surv.wrote) LN))))))))))))))))))))), ?_⟩
      refine AnyT.step 2 [3] (by kernel_rfl) ?_;refine NextT.pure (by kernel_rfl) rfl rfl rfl (ok_move rfl) ?_ ?_
      ·refine AnyT.step 3 [] (by kernel_rfl) ?_;refine NextT.pure (by kernel_rfl) rfl rfl rfl (ok_move rfl) ?_ ?_
       ·refine AnyT.step 16 [] (by kernel_rfl) ?_;refine NextT.pure (by kernel_rfl) rfl rfl rfl (ok_indexS ((a + (p.1 - 1))) U30 infoN rfl rfl rfl hj1) ?_ ?_
        ·refine AnyT.step 17 [] (by kernel_rfl) ?_;refine NextT.eff rfl (eff_storeP (n := 53) (s := 1000801) (size57.of ((hG.2.2.1.at _).len)) rfl rfl (NodT.one _) hBg rfl (by first | exact nf1 hG.2.2.1 (hG.2.2.1.at _) (by omega) | exact nf2 hG.2.2.1 (hG.2.2.1.at _) (hG.2.2.1.at _) (by omega) (by omega)) (LV 0 rfl (LV 1 rfl (LV 2 rfl (LV 3 rfl (LV 8 rfl (LV 9 rfl (LV 34 rfl (LV 37 rfl (LV 38 rfl (LV 39 rfl (LV 40 rfl (LV 41 rfl (LV 42 rfl (LV 43 rfl (LV 44 rfl (LV 45 rfl (LV 46 rfl (LV 47 rfl (LV 48 rfl (LV 49 rfl (LV 50 rfl (LV 51 rfl (LV 52 rfl (LeftS.cons (t := 1000802) rfl (Surv.wrote) LN))))))))))))))))))))))))) ?_ ?_
         ·refine AnyT.last (by kernel_rfl) ?_;exact (QC 0 rfl (QC 1 rfl (QC 2 rfl (QC 3 rfl (QC 8 rfl (QC 9 rfl (QX 1000801 rfl (Le.eq (congrArg (blk g 57) (nods_sw hG.2.2.1 hjl hj1l ys _ rfl))) (QC 1000802 rfl SubL.nil))))))))
         exact trivial
        exact trivial
       exact trivial
      refine NextT.pure (by kernel_rfl) rfl rfl rfl (ok_move rfl) ?_ ?_
      ·refine AnyT.step 2 [] (by kernel_rfl) ?_;refine NextT.pure (by kernel_rfl) rfl rfl rfl (ok_move rfl) ?_ ?_
       ·refine AnyT.step 16 [] (by kernel_rfl) ?_;refine NextT.pure (by kernel_rfl) rfl rfl rfl (ok_indexS ((a + (p.1 - 1))) U30 infoN rfl rfl rfl hj1) ?_ ?_
        ·refine AnyT.step 17 [] (by kernel_rfl) ?_;refine NextT.eff rfl (eff_storeP (n := 53) (s := 1000801) (size57.of ((hG.2.2.1.at _).len)) rfl rfl (NodT.one _) hBg rfl (by first | exact nf1 hG.2.2.1 (hG.2.2.1.at _) (by omega) | exact nf2 hG.2.2.1 (hG.2.2.1.at _) (hG.2.2.1.at _) (by omega) (by omega)) (LV 0 rfl (LV 1 rfl (LV 2 rfl (LV 3 rfl (LV 8 rfl (LV 9 rfl (LV 34 rfl (LV 37 rfl (LV 38 rfl (LV 39 rfl (LV 40 rfl (LV 41 rfl (LV 42 rfl (LV 43 rfl (LV 44 rfl (LV 45 rfl (LV 46 rfl (LV 47 rfl (LV 48 rfl (LV 49 rfl (LV 50 rfl (LV 51 rfl (LV 52 rfl (LeftS.cons (t := 1000802) rfl (Surv.wrote) LN))))))))))))))))))))))))) ?_ ?_
         ·refine AnyT.last (by kernel_rfl) ?_;exact (QC 0 rfl (QC 1 rfl (QC 2 rfl (QC 3 rfl (QC 8 rfl (QC 9 rfl (QX 1000801 rfl (Le.eq (congrArg (blk g 57) (nods_sw hG.2.2.1 hjl hj1l ys _ rfl))) (QC 1000802 rfl SubL.nil))))))))
         exact trivial
        exact trivial
       exact trivial
      exact trivial
     ·refine ⟨5, Nat.le_of_ble_eq_true (by kernel_rfl), _, (Sv [0,1,2,3,8,9,34,37,38,42,43,44,45,46,47,48,49,50,51,1000801,1000802] rfl), by kernel_rfl, _, rfl, _, eff_storeP (n := 53) (s := 1000801) (size57.of ((hG.2.2.1.at _).len)) rfl rfl (NodT.one _) hBg rfl (by first | exact nf1 hG.2.2.1 (hG.2.2.1.at _) (by omega) | exact nf2 hG.2.2.1 (hG.2.2.1.at _) (hG.2.2.1.at _) (by omega) (by omega)) (LV 0 rfl (LV 1 rfl (LV 2 rfl (LV 3 rfl (LV 8 rfl (LV 9 rfl (LV 34 rfl (LV 37 rfl (LV 38 rfl (LV 42 rfl (LV 43 rfl (LV 44 rfl (LV 45 rfl (LV 46 rfl (LV 47 rfl (LV 48 rfl (LV 49 rfl (LV 50 rfl (LV 51 rfl (LeftS.cons (t := 1000802) rfl (Surv.wrote) LN)))))))))))))))))))), ?_⟩
      refine AnyT.step 2 [3] (by kernel_rfl) ?_;refine NextT.pure (by kernel_rfl) rfl rfl rfl (ok_move rfl) ?_ ?_
      ·refine AnyT.step 3 [] (by kernel_rfl) ?_;refine NextT.pure (by kernel_rfl) rfl rfl rfl (ok_move rfl) ?_ ?_
       ·refine AnyT.step 4 [] (by kernel_rfl) ?_;refine NextT.pure (by kernel_rfl) rfl rfl rfl (OpOk.asV (nI ((a + (p.1 - 1)))) (wrap_eq (by omega) (by omega)) (ok_bin rfl rfl rfl)) ?_ ?_
        ·refine AnyT.step 16 [] (by kernel_rfl) ?_;refine NextT.pure (by kernel_rfl) rfl rfl rfl (ok_indexS ((a + (p.1 - 1))) U30 infoN rfl rfl rfl hj1) ?_ ?_
         ·refine AnyT.step 17 [] (by kernel_rfl) ?_;refine NextT.eff rfl (eff_storeP (n := 53) (s := 1000801) (size57.of ((hG.2.2.1.at _).len)) rfl rfl (NodT.one _) hBg rfl (by first | exact nf1 hG.2.2.1 (hG.2.2.1.at _) (by omega) | exact nf2 hG.2.2.1 (hG.2.2.1.at _) (hG.2.2.1.at _) (by omega) (by omega)) (LV 0 rfl (LV 1 rfl (LV 2 rfl (LV 3 rfl (LV 8 rfl (LV 9 rfl (LV 34 rfl (LV 37 rfl (LV 38 rfl (LV 39 rfl (LV 40 rfl (LV 41 rfl (LV 42 rfl (LV 43 rfl (LV 44 rfl (LV 45 rfl (LV 46 rfl (LV 47 rfl (LV 48 rfl (LV 49 rfl (LV 50 rfl (LV 51 rfl (LV 52 rfl (LeftS.cons (t := 1000802) rfl (Surv.wrote) LN))))))))))))))))))))))))) ?_ ?_
          ·refine AnyT.last (by kernel_rfl) ?_;exact (QC 0 rfl (QC 1 rfl (QC 2 rfl (QC 3 rfl (QC 8 rfl (QC 9 rfl (QX 1000801 rfl (Le.eq (congrArg (blk g 57) (nods_sw hG.2.2.1 hjl hj1l ys _ rfl))) (QC 1000802 rfl SubL.nil))))))))
          exact trivial
         exact trivial
        exact trivial
       exact trivial
      refine NextT.pure (by kernel_rfl) rfl rfl rfl (ok_move rfl) ?_ ?_
      ·refine AnyT.step 2 [4] (by kernel_rfl) ?_;refine NextT.pure (by kernel_rfl) rfl rfl rfl (ok_move rfl) ?_ ?_
       ·refine AnyT.step 4 [] (by kernel_rfl) ?_;refine NextT.pure (by kernel_rfl) rfl rfl rfl (OpOk.asV (nI ((a + (p.1 - 1)))) (wrap_eq (by omega) (by omega)) (ok_bin rfl rfl rfl)) ?_ ?_
        ·refine AnyT.step 16 [] (by kernel_rfl) ?_;refine NextT.pure (by kernel_rfl) rfl rfl rfl (ok_indexS ((a + (p.1 - 1))) U30 infoN rfl rfl rfl hj1) ?_ ?_
         ·refine AnyT.step 17 [] (by kernel_rfl) ?_;refine NextT.eff rfl (eff_storeP (n := 53) (s := 1000801) (size57.of ((hG.2.2.1.at _).len)) rfl rfl (NodT.one _) hBg rfl (by first | exact nf1 hG.2.2.1 (hG.2.2.1.at _) (by omega) | exact nf2 hG.2.2.1 (hG.2.2.1.at _) (hG.2.2.1.at _) (by omega) (by omega)) (LV 0 rfl (LV 1 rfl (LV 2 rfl (LV 3 rfl (LV 8 rfl (LV 9 rfl (LV 34 rfl (LV 37 rfl (LV 38 rfl (LV 39 rfl (LV 40 rfl (LV 41 rfl (LV 42 rfl (LV 43 rfl (LV 44 rfl (LV 45 rfl (LV 46 rfl (LV 47 rfl (LV 48 rfl (LV 49 rfl (LV 50 rfl (LV 51 rfl (LV 52 rfl (LeftS.cons (t := 1000802) rfl (Surv.wrote) LN))))))))))))))))))))))))) ?_ ?_
          ·refine AnyT.last (by kernel_rfl) ?_;exact (QC 0 rfl (QC 1 rfl (QC 2 rfl (QC 3 rfl (QC 8 rfl (QC 9 rfl (QX 1000801 rfl (Le.eq (congrArg (blk g 57) (nods_sw hG.2.2.1 hjl hj1l ys _ rfl))) (QC 1000802 rfl SubL.nil))))))))
          exact trivial
         exact trivial
        exact trivial
       refine NextT.pure (by kernel_rfl) rfl rfl rfl (OpOk.asV (nI ((a + (p.1 - 1)))) (wrap_eq (by omega) (by omega)) (ok_bin rfl rfl rfl)) ?_ ?_
       ·refine AnyT.step 2 [] (by kernel_rfl) ?_;refine NextT.pure (by kernel_rfl) rfl rfl rfl (ok_move rfl) ?_ ?_
        ·refine AnyT.step 16 [] (by kernel_rfl) ?_;refine NextT.pure (by kernel_rfl) rfl rfl rfl (ok_indexS ((a + (p.1 - 1))) U30 infoN rfl rfl rfl hj1) ?_ ?_
         ·refine AnyT.step 17 [] (by kernel_rfl) ?_;refine NextT.eff rfl (eff_storeP (n := 53) (s := 1000801) (size57.of ((hG.2.2.1.at _).len)) rfl rfl (NodT.one _) hBg rfl (by first | exact nf1 hG.2.2.1 (hG.2.2.1.at _) (by omega) | exact nf2 hG.2.2.1 (hG.2.2.1.at _) (hG.2.2.1.at _) (by omega) (by omega)) (LV 0 rfl (LV 1 rfl (LV 2 rfl (LV 3 rfl (LV 8 rfl (LV 9 rfl (LV 34 rfl (LV 37 rfl (LV 38 rfl (LV 39 rfl (LV 40 rfl (LV 41 rfl (LV 42 rfl (LV 43 rfl (LV 44 rfl (LV 45 rfl (LV 46 rfl (LV 47 rfl (LV 48 rfl (LV 49 rfl (LV 50 rfl (LV 51 rfl (LV 52 rfl (LeftS.cons (t := 1000802) rfl (Surv.wrote) LN))))))))))))))))))))))))) ?_ ?_
          ·refine AnyT.last (by kernel_rfl) ?_;exact (QC 0 rfl (QC 1 rfl (QC 2 rfl (QC 3 rfl (QC 8 rfl (QC 9 rfl (QX 1000801 rfl (Le.eq (congrArg (blk g 57) (nods_sw hG.2.2.1 hjl hj1l ys _ rfl))) (QC 1000802 rfl SubL.nil))))))))
          exact trivial
         exact trivial
        exact trivial
       exact trivial
      exact trivial
    ·refine End.normal_block (EN (GTE (RV 2 rfl ?_)));refine RZ (nI (a + (p.1 - 1))) (wrap_eq (by omega) (by omega)) ?_;refine RVN 1 rfl ?_;refine End.normal_then ?_;refine End.again (p.1 - 1, swT p.2 (a + p.1) (a + (p.1 - 1))) ?_ ?_ ?_
     ·exact insNext hz hG hlt
     ·show p.1 - 1 < p.1; omega
     ·exact (Sv [0,1,2,3,8,9,1000801,1000802] rfl)
   ·have hlt : ltN (ndAt p.2 (a + p.1)) (ndAt p.2 (a + (p.1 - 1))) = false := by simpa using hc34
    refine A.exit (End.exit_then (End.exit_then (End.exit_here (End.normal_block (EN (GTE (RV 2 rfl ?_)))))));refine RZ (nI (a + 1 + (k + 1))) (wrap_eq (by omega) (by omega)) ?_;refine RVN 1 rfl ?_;refine End.normal_then ?_;refine End.again (k + 1) ?_ ?_ ?_
    ·show _ ≤ _; omega
    ·show _ - _ < _ - _; omega
    ·exact (KC 0 rfl (KC 1 rfl (KC 2 rfl (KC 3 rfl (KC 8 rfl (KE 1000801 rfl (by first | (rw [hG.2.2.2, insStop (.inr hlt)]; done) | (rw [hG.2.2.2, insStop (.inl hz)]; done)) (KC 1000802 rfl KN)))))))
 ·have hk2 : k = b - a - 1 := by simp at hc14; omega
  refine A.exit (End.exit_then (End.exit_then (End.exit_here ?_)));exact End.wrote (kb := 1000801) (kw := 1000802) rfl rfl (by rw [hk2]) rfl
end
section
def MergesT (k : Nat) : Prop := ∀ (g q : Nat) (ys : List Value) (a m b : Nat) (W : List NodT), FitT W → W.length = k → k ≤ 1000000 → a < m → m < b → b ≤ k → FnW Tryz.prog 153 [] 57 g (nodsV W ++ ys) (nodsV (smF (b - a) a m b W) ++ ys) ([.slice (some ⟨g, 0, none⟩) k q, nI a, nI m, nI b, .func (.func 122) #[] #[]].map D.v)
theorem Ins_len (g q : Nat) (ys : List Value) (a b k : Nat) (W : List NodT) (hW : FitT W) (hk : W.length = k) (hab : a ≤ b) (hb : b ≤ k) (hsm : k ≤ 1000000) : FnW Tryz.prog 152 [] 57 g (nodsV W ++ ys) (nodsV (insO a (b - a - 1) W) ++ ys) ([.slice (some ⟨g, 0, none⟩) k q, nI a, nI b, .func (.func 122) #[] #[]].map D.v) := by
 subst hk; exact Ins_fnW g q ys a b W hW hab hb hsm
set_option maxHeartbeats 8000000 in
theorem Stable_fnW (g q : Nat) (ys : List Value) (W : List NodT) (hW : FitT W) (hsm : W.length ≤ 1000000) (SM : 20 < W.length → MergesT W.length)  : FnW Tryz.prog 139 [] 57 g (nodsV W ++ ys) (nodsV (sfF W.length W) ++ ys) ([.slice (some ⟨g, 0, none⟩) W.length q, nI W.length, .func (.func 122) #[] #[]].map D.v) := by
 refine FnW.of (n := 63) (kb := 1000801) (kw := 1000802) Tryz.func139 rfl (by kernel_rfl) Tryz.ntmps139 (by simp) (by decide) (fun p hp => by cases hp) (by decide) (by decide) [(0, .v (.slice (some ⟨g, 0, none⟩) W.length q)), (1, .v (nI W.length)), (2, .v (.func (.func 122) #[] #[]))]
  (fun p hp => by simp only [List.mem_cons, List.not_mem_nil, or_false] at hp; rcases hp with rfl | rfl | rfl <;> exact ⟨_, rfl, rfl⟩) fun w₀ w₁ hw hM => ?_
 have hBg : w₀.heap.size ≤ g := Nat.le_of_eq hw
 refine GV rfl (GV rfl (QSB ?_));refine A.loop (ι := Nat × Nat × List NodT) (fun p => p.2.1 ≤ W.length ∧ W.length ≤ p.2.1 + p.1 ∧ FitT p.2.2 ∧ p.2.2.length = W.length ∧ sfI W.length W.length 0 W = sfI W.length p.1 p.2.1 p.2.2) (fun p => [(0, .v (.slice (some ⟨g, 0, none⟩) W.length q)), (1, .v (nI (W.length))), (2, .v (.func (.func 122) #[] #[])), (6, .v (nI (20))), (7, .v (nI (p.2.1))), (8, .v (nI (p.2.1 + 20))), (1000801, blk g 57 (nodsV p.2.2 ++ ys)), (1000802, wroteD 57 g w₁)]) (fun p => p.1) (W.length, 0, W) ?_ ?_ ?_
 ·exact ⟨Nat.zero_le _, by show W.length ≤ 0 + W.length; omega, hW, rfl, rfl⟩
 ·exact (KC 0 rfl (KC 1 rfl (KC 2 rfl (KE 6 rfl (by rfl) (KE 7 rfl (by rfl) (KE 8 rfl (by rfl) (KE 1000801 rfl (by rfl) (KC 1000802 rfl KN))))))))
 intro p hG
 refine QS (GV rfl ?_);refine A.cond rfl (fun hc13 => ?_) (fun hc13 => ?_)
 ·have hp : p.2.1 + 20 ≤ W.length := by simp at hc13; omega
  refine QK (A.block (GS (TF 4 (RVN 4 rfl ?_))));refine ⟨_, eff_callW (n := 63) (s := 1000801) (Ins_len g q ys p.2.1 (p.2.1 + 20) W.length p.2.2 hG.2.2.1 hG.2.2.2.1 (by omega) (by omega) hsm) (fun p hp => by cases hp) (Args.cons rfl LA (Args.cons rfl LA (Args.cons rfl LA (Args.cons rfl LA Args.nil)))) hBg rfl (by decide) (LeftS.cons (t := 1000802) rfl (Surv.wrote) (LW [0,1,2,6,8] rfl)), ?_⟩
  refine TL (RN (GV rfl (GTE (RV 3 rfl ?_))));refine RZ (nI (p.2.1 + 20 + 20)) (wrap_eq (by omega) (by omega)) ?_;refine RVN 1 rfl ?_;refine End.normal_block (End.normal_then ?_);refine End.again (p.1 - 1, p.2.1 + 20, insO p.2.1 (p.2.1 + 20 - p.2.1 - 1) p.2.2) ?_ ?_ ?_
  ·exact ⟨by show p.2.1 + 20 ≤ W.length; omega, by show W.length ≤ p.2.1 + 20 + (p.1 - 1); omega, insO_fit hG.2.2.1, by show (insO _ _ _).length = _; rw [insO_len]; exact hG.2.2.2.1, hG.2.2.2.2.trans (sfI_go hG.2.1 hp)⟩
  ·show p.1 - 1 < p.1; omega
  ·exact (KC 0 rfl (KC 1 rfl (KC 2 rfl (KC 6 rfl (KE 7 rfl (by rfl) (KE 8 rfl (by rfl) (KE 1000801 rfl (by rfl) (KC 1000802 rfl KN))))))))
 ·have hp : ¬ p.2.1 + 20 ≤ W.length := by simp at hc13; omega
  have hA : insO p.2.1 (W.length - p.2.1 - 1) p.2.2 = sfA W.length W := by unfold sfA; rw [hG.2.2.2.2, sfI_end hp]
  refine A.exit (End.exit_then (End.exit_then (End.exit_here (EN (GS (TF 4 (RVN 4 rfl ?_)))))));refine ⟨_, eff_callW (n := 63) (s := 1000801) (Ins_len g q ys p.2.1 W.length W.length p.2.2 hG.2.2.1 hG.2.2.2.1 (by omega) (by omega) hsm) (fun p hp => by cases hp) (Args.cons rfl LA (Args.cons rfl LA (Args.cons rfl LA (Args.cons rfl LA Args.nil)))) hBg rfl (by decide) (LeftS.cons (t := 1000802) rfl (Surv.wrote) (LW [0,1,2,6] rfl)), ?_⟩
  refine TL (RN (A.block ?_));refine A.loop (ι := Nat × Nat × List NodT) (fun z => 20 ≤ z.2.1 ∧ W.length ≤ z.2.1 + z.1 ∧ FitT z.2.2 ∧ z.2.2.length = W.length ∧ sfF W.length W = sfO W.length z.1 z.2.1 z.2.2) (fun z => [(0, .v (.slice (some ⟨g, 0, none⟩) W.length q)), (1, .v (nI (W.length))), (2, .v (.func (.func 122) #[] #[])), (6, .v (nI (z.2.1))), (1000801, blk g 57 (nodsV z.2.2 ++ ys)), (1000802, wroteD 57 g w₁)]) (fun z => z.1) (W.length, 20, sfA W.length W) ?_ ?_ ?_
  ·exact ⟨Nat.le_refl _, by show W.length ≤ 20 + W.length; omega, sfA_fit hW, sfA_len _ _, rfl⟩
  ·exact (KC 0 rfl (KC 1 rfl (KC 2 rfl (KE 6 rfl (by rfl) (KE 1000801 rfl (by rw [hA]) (KC 1000802 rfl KN))))))
  intro z hG
  refine QS (GV rfl ?_);refine A.cond rfl (fun hc30 => ?_) (fun hc30 => ?_)
  ·have hz : z.2.1 < W.length := by simp at hc30; omega
   refine QK (A.block (GT (RV 2 rfl ?_)));refine RZ (nI (2 * z.2.1)) (wrap_eq (by omega) (by omega)) ?_;refine RVN 2 rfl ?_;refine QSB ?_;refine A.loop (ι := Nat × Nat × List NodT) (fun x => x.2.1 ≤ W.length ∧ W.length ≤ x.2.1 + x.1 ∧ FitT x.2.2 ∧ x.2.2.length = W.length ∧ sfM W.length z.2.1 W.length 0 z.2.2 = sfM W.length z.2.1 x.1 x.2.1 x.2.2) (fun x => [(0, .v (.slice (some ⟨g, 0, none⟩) W.length q)), (1, .v (nI (W.length))), (2, .v (.func (.func 122) #[] #[])), (6, .v (nI (z.2.1))), (7, .v (nI (x.2.1))), (8, .v (nI (x.2.1 + 2 * z.2.1))), (1000801, blk g 57 (nodsV x.2.2 ++ ys)), (1000802, wroteD 57 g w₁)]) (fun x => x.1) (W.length, 0, z.2.2) ?_ ?_ ?_
   ·exact ⟨Nat.zero_le _, by show W.length ≤ 0 + W.length; omega, hG.2.2.1, hG.2.2.2.1, rfl⟩
   ·exact (KC 0 rfl (KC 1 rfl (KC 2 rfl (KC 6 rfl (KE 7 rfl (by rfl) (KE 8 rfl (congrArg (fun k : Nat => D.v (nI k)) (by show 2 * z.2.1 = 0 + 2 * z.2.1; omega)) (KE 1000801 rfl (by rfl) (KC 1000802 rfl KN))))))))
   intro x hx
   refine QS (GV rfl ?_);refine A.cond rfl (fun hc35 => ?_) (fun hc35 => ?_)
   ·have hx1 : x.2.1 + 2 * z.2.1 ≤ W.length := by simp at hc35; omega
    refine QK (A.block (GS (TF 7 (RV 5 rfl ?_))));refine RZ (nI (x.2.1 + z.2.1)) (wrap_eq (by omega) (by omega)) ?_;refine RVN 2 rfl ?_;refine ⟨_, eff_callW (n := 63) (s := 1000801) (SM (by omega) g q ys x.2.1 (x.2.1 + z.2.1) (x.2.1 + 2 * z.2.1) x.2.2 hx.2.2.1 hx.2.2.2.1 hsm (by omega) (by omega) (by omega)) (fun p hp => by cases hp) (Args.cons rfl LA (Args.cons rfl LA (Args.cons rfl LA (Args.cons rfl LA (Args.cons rfl LA Args.nil))))) hBg rfl (by decide) (LeftS.cons (t := 1000802) rfl (Surv.wrote) (LW [0,1,2,6,8] rfl)), ?_⟩
    refine TL (RN (GV rfl (GTE (RV 3 rfl ?_))));refine RZ (nI (2 * z.2.1)) (wrap_eq (by omega) (by omega)) ?_;refine RB rfl rfl rfl ?_;refine RZ (nI (x.2.1 + 2 * z.2.1 + 2 * z.2.1)) (wrap_eq (by omega) (by omega)) ?_;refine RVN 1 rfl ?_;refine End.normal_block (End.normal_then ?_);refine End.again (x.1 - 1, x.2.1 + 2 * z.2.1, smF (x.2.1 + 2 * z.2.1 - x.2.1) x.2.1 (x.2.1 + z.2.1) (x.2.1 + 2 * z.2.1) x.2.2) ?_ ?_ ?_
    ·exact ⟨by show x.2.1 + 2 * z.2.1 ≤ W.length; omega, by show W.length ≤ x.2.1 + 2 * z.2.1 + (x.1 - 1); omega, smF_fit hx.2.2.1, by show (smF _ _ _ _ _).length = _; rw [smF_len]; exact hx.2.2.2.1, hx.2.2.2.2.trans (sfM_go (by omega) hx.2.1 hx1)⟩
    ·show x.1 - 1 < x.1; omega
    ·exact (KC 0 rfl (KC 1 rfl (KC 2 rfl (KC 6 rfl (KE 7 rfl (by rfl) (KE 8 rfl (by rfl) (KE 1000801 rfl (by rfl) (KC 1000802 rfl KN))))))))
   ·have hx1 : ¬ x.2.1 + 2 * z.2.1 ≤ W.length := by simp at hc35; omega
    have hM2 : sfM W.length z.2.1 W.length 0 z.2.2 = (x.2.1, x.2.2) := by rw [hx.2.2.2.2, sfM_end hx1]
    refine A.exit (End.exit_then (End.exit_then (End.exit_here (EN (QS (GT (RV 3 rfl ?_)))))));refine RZ (nI (x.2.1 + z.2.1)) (wrap_eq (by omega) (by omega)) ?_;refine RVN 1 rfl ?_;refine GV rfl ?_;refine A.cond rfl (fun hc54 => ?_) (fun hc54 => ?_)
    ·have hr : x.2.1 + z.2.1 < W.length := by simp at hc54; omega
     have hE : sfE W.length z.2.1 (sfM W.length z.2.1 W.length 0 z.2.2) = smF (W.length - x.2.1) x.2.1 (x.2.1 + z.2.1) W.length x.2.2 := by rw [hM2]; unfold sfE; rw [if_pos hr]
     refine GE (TF 5 (RVN 5 rfl ?_));refine ⟨_, eff_callW (n := 63) (s := 1000801) (SM (by omega) g q ys x.2.1 (x.2.1 + z.2.1) W.length x.2.2 hx.2.2.1 hx.2.2.2.1 hsm (by omega) (by omega) (by omega)) (fun p hp => by cases hp) (Args.cons rfl LA (Args.cons rfl LA (Args.cons rfl LA (Args.cons rfl LA (Args.cons rfl LA Args.nil))))) hBg rfl (by decide) (LeftS.cons (t := 1000802) rfl (Surv.wrote) (LW [0,1,2,6] rfl)), ?_⟩
     refine TL (RN (EN (GTE (RV 2 rfl ?_))));refine RZ (nI (z.2.1 * 2)) (wrap_eq (by omega) (by omega)) ?_;refine RVN 1 rfl ?_;refine End.normal_block (End.normal_then ?_);refine End.again (z.1 - 1, z.2.1 * 2, sfE W.length z.2.1 (sfM W.length z.2.1 W.length 0 z.2.2)) ?_ ?_ ?_
     ·exact ⟨by show 20 ≤ z.2.1 * 2; omega, by show W.length ≤ z.2.1 * 2 + (z.1 - 1); omega, sfE_fit (sfM_fit hG.2.2.1), by show (sfE _ _ _).length = _; rw [sfE_len, sfM_len]; exact hG.2.2.2.1, hG.2.2.2.2.trans (sfO_go hG.2.1 hz)⟩
     ·show z.1 - 1 < z.1; omega
     ·exact (KC 0 rfl (KC 1 rfl (KC 2 rfl (KE 6 rfl (by rfl) (KE 1000801 rfl (by show blk g _ _ = blk g _ (nodsV (sfE _ _ _) ++ ys); rw [hE]) (KC 1000802 rfl KN))))))
    ·have hr : ¬ x.2.1 + z.2.1 < W.length := by simp at hc54; omega
     have hE : sfE W.length z.2.1 (sfM W.length z.2.1 W.length 0 z.2.2) = x.2.2 := by rw [hM2]; unfold sfE; rw [if_neg hr]
     refine QK (GTE (RV 2 rfl ?_));refine RZ (nI (z.2.1 * 2)) (wrap_eq (by omega) (by omega)) ?_;refine RVN 1 rfl ?_;refine End.normal_block (End.normal_then ?_);refine End.again (z.1 - 1, z.2.1 * 2, sfE W.length z.2.1 (sfM W.length z.2.1 W.length 0 z.2.2)) ?_ ?_ ?_
     ·exact ⟨by show 20 ≤ z.2.1 * 2; omega, by show W.length ≤ z.2.1 * 2 + (z.1 - 1); omega, sfE_fit (sfM_fit hG.2.2.1), by show (sfE _ _ _).length = _; rw [sfE_len, sfM_len]; exact hG.2.2.2.1, hG.2.2.2.2.trans (sfO_go hG.2.1 hz)⟩
     ·show z.1 - 1 < z.1; omega
     ·exact (KC 0 rfl (KC 1 rfl (KC 2 rfl (KE 6 rfl (by rfl) (KE 1000801 rfl (by show blk g _ _ = blk g _ (nodsV (sfE _ _ _) ++ ys); rw [hE]) (KC 1000802 rfl KN))))))
  ·have hz : ¬ z.2.1 < W.length := by simp at hc30; omega
   refine A.exit (End.exit_then (End.exit_then (End.exit_here ?_)));exact End.wrote (kb := 1000801) (kw := 1000802) rfl rfl (by rw [hG.2.2.2.2, sfO_end hz]) rfl
theorem Sort_fnW (g q : Nat) (ys : List Value) (W : List NodT) (hW : FitT W) (hsm : W.length ≤ 1000000) (SM : 20 < W.length → MergesT W.length)  : FnW Tryz.prog 121 [] 57 g (nodsV W ++ ys) (nodsV (sfF W.length W) ++ ys) ([.slice (some ⟨g, 0, none⟩) W.length q, .func (.func 122) #[] #[]].map D.v) := by
 refine FnW.of (n := 9) (kb := 1000801) (kw := 1000802) Tryz.func121 rfl (by kernel_rfl) Tryz.ntmps121 (by simp) (by decide) (fun p hp => by cases hp) (by decide) (by decide) [(0, .v (.slice (some ⟨g, 0, none⟩) W.length q)), (1, .v (.func (.func 122) #[] #[]))]
  (fun p hp => by simp only [List.mem_cons, List.not_mem_nil, or_false] at hp; rcases hp with rfl | rfl <;> exact ⟨_, rfl, rfl⟩) fun w₀ w₁ hw hM => ?_
 have hBg : w₀.heap.size ≤ g := Nat.le_of_eq hw
 refine GE (TF 4 (RV 2 rfl ?_));refine RS (ok_lenV U30 rfl) ?_;refine RVN 1 rfl ?_;refine ⟨_, eff_callW (n := 9) (s := 1000801) (Stable_fnW g q ys W hW hsm SM) (fun p hp => by cases hp) (Args.cons rfl LA (Args.cons rfl LA (Args.cons rfl LA Args.nil))) hBg rfl (by decide) (LeftS.cons (t := 1000802) rfl (Surv.wrote) LN), ?_⟩
 refine TL (RN ?_);exact End.wrote (kb := 1000801) (kw := 1000802) rfl rfl (rfl) rfl
theorem CloneN_fnB (ad : Addr) (T : List NodT) (hT : FitT T) (c : Nat) (hsm : T.length ≤ 1000000)  : FnMB Tryz.prog 120 (trO (some ad) T) [.v (.slice (some ad) T.length c)] (fun B => ownP B 57 274 T.length (nodsV T)) := by
 refine FnMB.ofO Tryz.func120 rfl (by kernel_rfl) Tryz.ntmps120 (by simp) (by decide) (fun w => [(0, .v (.slice (some ad) T.length c)), (1000501, old w.heap.size (memR (some ad) (nodsV T)))]) (fun w => (StartMO.v rfl (StartMO.mo (by simp [trO]) (by decide) StartMO.nil))) fun w₀ hM => ?_
 skip
 refine GV rfl (QS (GT (RM rfl ?_)));refine RS (ok_eqNilS U30 rfl) ?_;refine RF ?_;refine RN (A.no rfl ?_);refine QK (GT (RS (ok_build0P U30 infoN) ?_));refine RS (OpOk.rowO (ok_move rfl) (k := 1000501) (by decide) rfl) ?_;refine RS (ok_append0G U30 infoN (by decide) (by decide) rfl rfl rfl (Le.old _ _) (nods_len hT) (by omega)) ?_;refine RVN 1 rfl ?_;refine A.ret ?_;exact End.ret1 rfl rfl (Le.refl _)
theorem down_fn (x : Int) (ad : Addr) (T : List NodT) (hT : FitT T) (c : Nat) (hsm : T.length ≤ 1000000) (hp : 0 < T.length) (SM : 20 < T.length → MergesT T.length)  : FnM Tryz.prog 94 (trO (some ad) T) [.v (aggV [.int .i64 x, .slice (some ad) T.length c])] (rowD T.length (nodsV (sfF T.length T))) := by
 refine FnM.ofO Tryz.func94 rfl (by kernel_rfl) Tryz.ntmps94 (by simp) (by decide) (fun w => [(0, .v (aggV [.int .i64 x, .slice (some ad) T.length c])), (1000501, old w.heap.size (memR (some ad) (nodsV T)))]) (fun w => (StartMO.v rfl (StartMO.mo (by simp [trO]) (by decide) StartMO.nil))) fun w₀ hM => ?_
 skip
 refine GS (TN 0 (RN ?_));refine ZB 1000001 rfl fun b1 ⟨hBb1, hb1⟩ => ?_
 refine TL (RVN 1 rfl ?_);refine GT (RS (ok_field field32_1 (by decide) rfl) ?_);refine RLV 1000001 U30 rfl rfl rfl ?_;refine RS (ok_callMBK (CloneN_fnB ad T hT c hsm) (fun _ _ h => ownP_mono h) (SubK.cons (k := 1000501) (by decide) rfl Le.unold SubK.nil) (A1 rfl)) ?_;refine RVN 1 rfl ?_;refine A.nameP (t := 3) (k := 1000951) rfl (fun w y h => ownP_one h) fun v3 hv3 => ?_
 refine A.openRowY (k := 1000951) (k' := 1000801) rfl (by rw [nods_len hT]; omega) fun g q y hBg hq e => ?_
 subst e
 refine GS (TF 1 (RVN 1 rfl ?_));refine ⟨_, eff_callW (n := 10) (s := 1000801) (Sort_fnW g q y T hT hsm SM) (fun p hp => by cases hp) (Args.cons rfl LA (Args.cons rfl LA Args.nil)) hBg rfl (by decide) (LV 3 rfl (LT 1000001 rfl (LO 1000501 rfl LN))), ?_⟩
 refine TL (RN (GV rfl (A.ret ?_)));exact End.retRow (k := 1000801) rfl rfl rfl
theorem fdr_no (T W : List NodT) (hT : FitT T) (hW : FitT W) (hsm : T.length ≤ 1000000) (h : ∀ i, i < T.length → i < W.length → ndAt T i = ndAt W i)  : FnM Tryz.prog 93 tabS [rowD T.length (nodsV T), rowD W.length (nodsV W)] (.v (.tuple #[.slice none 0 0, .slice none 0 0, .int .i64 11])) := by
 refine FnM.of Tryz.func93 rfl (by kernel_rfl) Tryz.ntmps93 (by simp) (by decide) (fun w => [(0, old w.heap.size (rowD T.length (nodsV T))), (1, old w.heap.size (rowD W.length (nodsV W))), (1900001, tab 1 (sizV))]) (fun w => (StartM.old rfl (StartM.old rfl (StartM.m (by simp [tabS]) (by decide) StartM.nil)))) fun w₀ hM => ?_
 skip
 refine A.nameR (t := 0) (k := 1000501) rfl fun A₀ c => ?_
 refine A.nameR (t := 1) (k := 1000502) rfl fun B₀ c' => ?_
 refine GV rfl (QS (GT (RM rfl ?_)));refine RS (ok_lenV U30 rfl) ?_;refine RM rfl ?_;refine RS (ok_lenV U30 rfl) ?_;refine RS (ok_min rfl rfl) ?_;refine RZ (nI (min T.length W.length)) (congrArg (Value.int .i64) (by omega)) ?_;refine RVN 1 rfl ?_;refine A.block ?_;refine A.loop (ι := Nat) (fun i => i ≤ min T.length W.length) (fun i => [(0, .v (.slice A₀ T.length c)), (1, .v (.slice B₀ W.length c')), (12, .v (nI (min T.length W.length))), (13, .v (nI (i))), (1000501, old w₀.heap.size (memR A₀ (nodsV T))), (1000502, old w₀.heap.size (memR B₀ (nodsV W))), (1900001, tab 1 (sizV))]) (fun i => min T.length W.length - i) 0 ?_ ?_ ?_
 ·exact Nat.zero_le _
 ·exact (KC 0 rfl (KC 1 rfl (KC 12 rfl (KE 13 rfl (by rfl) (KC 1000501 rfl (KC 1000502 rfl (KC 1900001 rfl KN)))))))
 intro i hG
 refine GV rfl (QS ?_);refine A.cond rfl (fun hc14 => ?_) (fun hc14 => ?_)
 ·have hi : i < min T.length W.length := by simp at hc14; omega
  refine QK (QSB (GV rfl (GTD (RV 2 rfl ?_))));refine RS (ok_indexR (s := 1000501) i U30 infoN rfl rfl (by decide) rfl (by omega : i < T.length) (by rw [nods_len hT]; omega)) ?_;refine RS (ok_loadElemT 274 U57 rfl size57 (by rw [nods_at hT (by omega : i < T.length), (hT.at _).len]; exact Nat.le_refl _) rfl) ?_;refine RZ (aggV (ndAt T i).v) (congrArg aggV (by rw [nods_at hT (by omega : i < T.length)]; exact List.take_of_length_le (Nat.le_of_eq (hT.at _).len))) ?_;refine RV 2 rfl ?_;refine RS (ok_indexR (s := 1000502) i U30 infoN rfl rfl (by decide) rfl (by omega : i < W.length) (by rw [nods_len hW]; omega)) ?_;refine RS (ok_loadElemT 274 U57 rfl size57 (by rw [nods_at hW (by omega : i < W.length), (hW.at _).len]; exact Nat.le_refl _) rfl) ?_;refine RZ (aggV (ndAt W i).v) (congrArg aggV (by rw [nods_at hW (by omega : i < W.length)]; exact List.take_of_length_le (Nat.le_of_eq (hW.at _).len))) ?_;refine RS (ok_neqT (n := 6) (decide (ndAt T i = ndAt W i)) flat57 (by decide) (by kernel_rfl) (by kernel_rfl) rfl rfl (hT.at _).kin (hW.at _).kin (by rw [decide_eq_true_iff]; exact (nodV_eq_iff (hT.at _) (hW.at _)).symm)) ?_;refine RZ (.bool false) (by rw [decide_eq_true (h i (by omega) (by omega))]; rfl) ?_;refine RN (A.no rfl ?_);refine A.skip (End.normal_block (EN (GTE (RB rfl rfl rfl ?_))));refine RZ (nI (i + 1)) (wrap_eq (by omega) (by omega)) ?_;refine RVN 1 rfl ?_;refine End.normal_then ?_;refine End.again (i + 1) ?_ ?_ ?_
  ·exact (by omega : i + 1 ≤ min T.length W.length)
  ·show _ - _ < _ - _; omega
  ·exact (Sv [0,1,12,13,1000501,1000502,1900001] rfl)
 ·skip
  refine A.exit (End.exit_then (End.exit_then (End.exit_here (EN (GV rfl (A.ret ?_))))));exact End.ret3V rfl rfl rfl rfl
theorem fdr_at (T W : List NodT) (hT : FitT T) (hW : FitT W) (hsm : T.length ≤ 1000000) (k : Nat) (hk1 : k < T.length) (hk2 : k < W.length) (h : ∀ i, i < k → ndAt T i = ndAt W i) (hne : ndAt T k ≠ ndAt W k) (hcT : (ndAt T k).ck = 0) (hcW : (ndAt W k).ck = 0)  : FnM Tryz.prog 93 tabS [rowD T.length (nodsV T), rowD W.length (nodsV W)] (tup [bytes (ndAt T k).bl (NodT.sz (ndAt T k).l.toNat), bytes (ndAt W k).bl (NodT.sz (ndAt W k).l.toNat), .v (.int .i64 0)]) := by
 refine FnM.of Tryz.func93 rfl (by kernel_rfl) Tryz.ntmps93 (by simp) (by decide) (fun w => [(0, old w.heap.size (rowD T.length (nodsV T))), (1, old w.heap.size (rowD W.length (nodsV W))), (1900001, tab 1 (sizV))]) (fun w => (StartM.old rfl (StartM.old rfl (StartM.m (by simp [tabS]) (by decide) StartM.nil)))) fun w₀ hM => ?_
 skip
 refine A.nameR (t := 0) (k := 1000501) rfl fun A₀ c => ?_
 refine A.nameR (t := 1) (k := 1000502) rfl fun B₀ c' => ?_
 refine GV rfl (QS (GT (RM rfl ?_)));refine RS (ok_lenV U30 rfl) ?_;refine RM rfl ?_;refine RS (ok_lenV U30 rfl) ?_;refine RS (ok_min rfl rfl) ?_;refine RZ (nI (min T.length W.length)) (congrArg (Value.int .i64) (by omega)) ?_;refine RVN 1 rfl ?_;refine A.block ?_;refine A.loop (ι := Nat) (fun i => i ≤ k) (fun i => [(0, .v (.slice A₀ T.length c)), (1, .v (.slice B₀ W.length c')), (12, .v (nI (min T.length W.length))), (13, .v (nI (i))), (1000501, old w₀.heap.size (memR A₀ (nodsV T))), (1000502, old w₀.heap.size (memR B₀ (nodsV W))), (1900001, tab 1 (sizV))]) (fun i => min T.length W.length - i) 0 ?_ ?_ ?_
 ·exact Nat.zero_le _
 ·exact (KC 0 rfl (KC 1 rfl (KC 12 rfl (KE 13 rfl (by rfl) (KC 1000501 rfl (KC 1000502 rfl (KC 1900001 rfl KN)))))))
 intro i hG
 have hik0 : i ≤ k := hG
 have hi : i < min T.length W.length := by omega
 refine GT (RB rfl rfl rfl ?_);refine RZ (.bool true) (congrArg Value.bool (decide_eq_true (by omega))) ?_;refine RN (QS (A.yes rfl ?_));refine QK (QSB (GV rfl (GTD (RV 2 rfl ?_))));refine RS (ok_indexR (s := 1000501) i U30 infoN rfl rfl (by decide) rfl (by omega : i < T.length) (by rw [nods_len hT]; omega)) ?_;refine RS (ok_loadElemT 274 U57 rfl size57 (by rw [nods_at hT (by omega : i < T.length), (hT.at _).len]; exact Nat.le_refl _) rfl) ?_;refine RZ (aggV (ndAt T i).v) (congrArg aggV (by rw [nods_at hT (by omega : i < T.length)]; exact List.take_of_length_le (Nat.le_of_eq (hT.at _).len))) ?_;refine RV 2 rfl ?_;refine RS (ok_indexR (s := 1000502) i U30 infoN rfl rfl (by decide) rfl (by omega : i < W.length) (by rw [nods_len hW]; omega)) ?_;refine RS (ok_loadElemT 274 U57 rfl size57 (by rw [nods_at hW (by omega : i < W.length), (hW.at _).len]; exact Nat.le_refl _) rfl) ?_;refine RZ (aggV (ndAt W i).v) (congrArg aggV (by rw [nods_at hW (by omega : i < W.length)]; exact List.take_of_length_le (Nat.le_of_eq (hW.at _).len))) ?_;refine RS (ok_neqT (n := 6) (decide (ndAt T i = ndAt W i)) flat57 (by decide) (by kernel_rfl) (by kernel_rfl) rfl rfl (hT.at _).kin (hW.at _).kin (by rw [decide_eq_true_iff]; exact (nodV_eq_iff (hT.at _) (hW.at _)).symm)) ?_;refine RN ?_;refine A.cond rfl (fun hc24 => ?_) (fun hc24 => ?_)
 ·have hik : i = k := by
   have hd : ndAt T i ≠ ndAt W i := by simpa using hc24
   exact Classical.byContradiction fun hn => hd (h i (by omega))
  refine GT (RV 2 rfl ?_);refine RS (ok_indexR (s := 1000501) i U30 infoN rfl rfl (by decide) rfl (by omega : i < T.length) (by rw [nods_len hT]; omega)) ?_;refine RS (ok_loadElemT 274 U57 rfl size57 (by rw [nods_at hT (by omega : i < T.length), (hT.at _).len]; exact Nat.le_refl _) rfl) ?_;refine RZ (aggV (ndAt T i).v) (congrArg aggV (by rw [nods_at hT (by omega : i < T.length)]; exact List.take_of_length_le (Nat.le_of_eq (hT.at _).len))) ?_;refine RS (ok_callM (nPut_ok (ndAt T i) (hT.at i) (by rw [hik]; exact hcT)) (Sub.cons rfl KN) tabS_v (A1 rfl)) ?_;refine RM rfl ?_;refine RS (ok_extract rfl rfl) ?_;refine RS (ok_extract rfl rfl) ?_;refine RVN 1 rfl ?_;refine GT (RV 2 rfl ?_);refine RS (ok_indexR (s := 1000502) i U30 infoN rfl rfl (by decide) rfl (by omega : i < W.length) (by rw [nods_len hW]; omega)) ?_;refine RS (ok_loadElemT 274 U57 rfl size57 (by rw [nods_at hW (by omega : i < W.length), (hW.at _).len]; exact Nat.le_refl _) rfl) ?_;refine RZ (aggV (ndAt W i).v) (congrArg aggV (by rw [nods_at hW (by omega : i < W.length)]; exact List.take_of_length_le (Nat.le_of_eq (hW.at _).len))) ?_;refine RS (ok_callM (nPut_ok (ndAt W i) (hW.at i) (by rw [hik]; exact hcW)) (Sub.cons rfl KN) tabS_v (A1 rfl)) ?_;refine RM rfl ?_;refine RS (ok_extract rfl rfl) ?_;refine RS (ok_extract rfl rfl) ?_;refine RVN 1 rfl ?_;refine A.sub (Sv [4,5,1000501,1000502,1900001] rfl) ?_;refine GV rfl (A.ret (End.ret_block (End.ret_then (End.ret_then (End.ret_block (End.ret_then ?_))))))
  subst hik; exact End.ret3 rfl rfl (Le.refl _) rfl (Le.refl _) rfl (Le.refl _)
 ·have hd : ndAt T i = ndAt W i := by simpa using hc24
  have hik : i ≠ k := fun e => hne (by rw [← e]; exact hd)
  refine A.skip (End.normal_block (EN (GTE (RB rfl rfl rfl ?_))));refine RZ (nI (i + 1)) (wrap_eq (by omega) (by omega)) ?_;refine RVN 1 rfl ?_;refine End.normal_then ?_;refine End.again (i + 1) ?_ ?_ ?_
  ·exact (by omega : i + 1 ≤ k)
  ·show _ - _ < _ - _; omega
  ·exact (Sv [0,1,12,13,1000501,1000502,1900001] rfl)
theorem bytesV_inj {r s : List UInt8} (h : r.map byteV = s.map byteV) : r = s := List.map_inj_right (fun a b h => by first | exact byteV_inj h | (simp [byteV] at h; exact UInt8.toNat_inj.1 (by omega))) |>.1 h
theorem diff_arg (x y : Int) (A₀ B₀ : Option Addr) (T W : List NodT) (c c' : Nat) (r s : List UInt8) (hr : r.length = 32) (hs : s.length = 32) (h : x ≠ y)  : FnM Tryz.prog 61 (tabS ++ twoM A₀ T B₀ W) [.v (aggV [.int .i64 x, .slice A₀ T.length c]), .v (aggV [.int .i64 y, .slice B₀ W.length c']), .v (aggV (r.map byteV)), .v (aggV (s.map byteV))] (.v (.tuple #[.slice none 0 0, .slice none 0 0, .int .i64 1])) := by
 refine FnM.ofO Tryz.func61 rfl (by kernel_rfl) Tryz.ntmps61 (by simp) (by decide) (fun w => [(0, .v (aggV [.int .i64 x, .slice A₀ T.length c])), (1, .v (aggV [.int .i64 y, .slice B₀ W.length c'])), (2, .v (aggV (r.map byteV))), (3, .v (aggV (s.map byteV))), (1900001, tab 1 (sizV)), (1000501, old w.heap.size (memR A₀ (nodsV T))), (1000502, old w.heap.size (memR B₀ (nodsV W)))]) (fun w => (StartMO.v rfl (StartMO.v rfl (StartMO.v rfl (StartMO.v rfl (StartMO.m (by simp [tabS]) (by decide) (StartMO.mo (by simp [tabS]) (by decide) (StartMO.mo (by simp [tabS]) (by decide) StartMO.nil)))))))) fun w₀ hM => ?_
 skip
 refine GS (TN 0 (RN ?_));refine ZB 1000004 rfl fun b4 ⟨hBb4, hb4⟩ => ?_
 refine TN 1 (RN ?_);refine ZB 1000005 rfl fun b5 ⟨hBb5, hb5⟩ => ?_
 have hlt_b4_b5 := hb5 1000004 b4 _ _ rfl
 refine TN 2 (RN ?_);refine ZB 1000006 rfl fun b6 ⟨hBb6, hb6⟩ => ?_
 refine TN 3 (RN ?_);refine ZB 1000007 rfl fun b7 ⟨hBb7, hb7⟩ => ?_
 have hlt_b6_b7 := hb7 1000006 b6 _ _ rfl
 refine TL (RVN 3 rfl ?_);refine QSB (GT (RS (ok_field field32_0 (by decide) rfl) ?_));refine RLV 1000004 U3 rfl rfl rfl ?_;refine RS (ok_field field32_0 (by decide) rfl) ?_;refine RLV 1000005 U3 rfl rfl rfl ?_;refine RB rfl rfl rfl ?_;refine RZ (.bool true) (congrArg Value.bool (by simp [h])) ?_;refine RVN 1 rfl ?_;refine A.yes rfl ?_;refine GV rfl (A.ret (End.ret_block (End.ret_then ?_)));exact End.ret3V rfl rfl rfl rfl
theorem diff_none (x : Int) (A₀ B₀ : Option Addr) (T W : List NodT) (c c' : Nat) (r s : List UInt8) (hr : r.length = 32) (hs : s.length = 32) (h2 : r ≠ s)  : FnM Tryz.prog 61 (tabS ++ twoM A₀ T B₀ W) [.v (aggV [.int .i64 x, .slice A₀ T.length c]), .v (aggV [.int .i64 x, .slice B₀ W.length c']), .v (aggV (r.map byteV)), .v (aggV (s.map byteV))] (.v (.tuple #[.slice none 0 0, .slice none 0 0, .int .i64 11])) := by
 refine FnM.ofO Tryz.func61 rfl (by kernel_rfl) Tryz.ntmps61 (by simp) (by decide) (fun w => [(0, .v (aggV [.int .i64 x, .slice A₀ T.length c])), (1, .v (aggV [.int .i64 x, .slice B₀ W.length c'])), (2, .v (aggV (r.map byteV))), (3, .v (aggV (s.map byteV))), (1900001, tab 1 (sizV)), (1000501, old w.heap.size (memR A₀ (nodsV T))), (1000502, old w.heap.size (memR B₀ (nodsV W)))]) (fun w => (StartMO.v rfl (StartMO.v rfl (StartMO.v rfl (StartMO.v rfl (StartMO.m (by simp [tabS]) (by decide) (StartMO.mo (by simp [tabS]) (by decide) (StartMO.mo (by simp [tabS]) (by decide) StartMO.nil)))))))) fun w₀ hM => ?_
 skip
 refine GS (TN 0 (RN ?_));refine ZB 1000004 rfl fun b4 ⟨hBb4, hb4⟩ => ?_
 refine TN 1 (RN ?_);refine ZB 1000005 rfl fun b5 ⟨hBb5, hb5⟩ => ?_
 have hlt_b4_b5 := hb5 1000004 b4 _ _ rfl
 refine TN 2 (RN ?_);refine ZB 1000006 rfl fun b6 ⟨hBb6, hb6⟩ => ?_
 refine TN 3 (RN ?_);refine ZB 1000007 rfl fun b7 ⟨hBb7, hb7⟩ => ?_
 have hlt_b6_b7 := hb7 1000006 b6 _ _ rfl
 refine TL (RVN 3 rfl ?_);refine QSB (GT (RS (ok_field field32_0 (by decide) rfl) ?_));refine RLV 1000004 U3 rfl rfl rfl ?_;refine RS (ok_field field32_0 (by decide) rfl) ?_;refine RLV 1000005 U3 rfl rfl rfl ?_;refine RB rfl rfl rfl ?_;refine RZ (.bool false) (congrArg Value.bool (by simp)) ?_;refine RVN 1 rfl ?_;refine A.no rfl ?_;refine GT (RL 1000006 U40 rfl rfl (size40.of (by rw [List.length_map, hr])) ?_);refine RL 1000007 U40 rfl rfl (size40.of (by rw [List.length_map, hs])) ?_;refine RS (ok_neqT (n := 4) (decide (r = s)) flat40r (by decide) (by kernel_rfl) (by kernel_rfl) rfl rfl (kinB hr) (kinB hs) (by rw [decide_eq_true_iff]; exact ⟨fun e => by rw [e], bytesV_inj⟩)) ?_;refine RZ (.bool true) (by rw [decide_eq_false h2]; rfl) ?_;refine RVN 1 rfl ?_;refine A.yes rfl ?_;refine GV rfl (A.ret (End.ret_block (End.ret_then ?_)));exact End.ret3V rfl rfl rfl rfl
theorem diff_no (x : Int) (A₀ B₀ : Option Addr) (T W : List NodT) (c c' : Nat) (r : List UInt8) (hr : r.length = 32) (V₁ V₂ : List NodT) (hV₁ : FitT V₁) (hV₂ : FitT V₂) (hsm : V₁.length ≤ 1000000) (D1 : FnM Tryz.prog 94 (trO A₀ T) [.v (aggV [.int .i64 x, .slice A₀ T.length c])] (rowD V₁.length (nodsV V₁))) (D2 : FnM Tryz.prog 94 (trO B₀ W) [.v (aggV [.int .i64 x, .slice B₀ W.length c'])] (rowD V₂.length (nodsV V₂))) (h : ∀ i, i < V₁.length → i < V₂.length → ndAt V₁ i = ndAt V₂ i)  : FnM Tryz.prog 61 (tabS ++ twoM A₀ T B₀ W) [.v (aggV [.int .i64 x, .slice A₀ T.length c]), .v (aggV [.int .i64 x, .slice B₀ W.length c']), .v (aggV (r.map byteV)), .v (aggV (r.map byteV))] (.v (.tuple #[.slice none 0 0, .slice none 0 0, .int .i64 11])) := by
 refine FnM.ofO Tryz.func61 rfl (by kernel_rfl) Tryz.ntmps61 (by simp) (by decide) (fun w => [(0, .v (aggV [.int .i64 x, .slice A₀ T.length c])), (1, .v (aggV [.int .i64 x, .slice B₀ W.length c'])), (2, .v (aggV (r.map byteV))), (3, .v (aggV (r.map byteV))), (1900001, tab 1 (sizV)), (1000501, old w.heap.size (memR A₀ (nodsV T))), (1000502, old w.heap.size (memR B₀ (nodsV W)))]) (fun w => (StartMO.v rfl (StartMO.v rfl (StartMO.v rfl (StartMO.v rfl (StartMO.m (by simp [tabS]) (by decide) (StartMO.mo (by simp [tabS]) (by decide) (StartMO.mo (by simp [tabS]) (by decide) StartMO.nil)))))))) fun w₀ hM => ?_
 skip
 refine GS (TN 0 (RN ?_));refine ZB 1000004 rfl fun b4 ⟨hBb4, hb4⟩ => ?_
 refine TN 1 (RN ?_);refine ZB 1000005 rfl fun b5 ⟨hBb5, hb5⟩ => ?_
 have hlt_b4_b5 := hb5 1000004 b4 _ _ rfl
 refine TN 2 (RN ?_);refine ZB 1000006 rfl fun b6 ⟨hBb6, hb6⟩ => ?_
 refine TN 3 (RN ?_);refine ZB 1000007 rfl fun b7 ⟨hBb7, hb7⟩ => ?_
 have hlt_b6_b7 := hb7 1000006 b6 _ _ rfl
 refine TL (RVN 3 rfl ?_);refine QSB (GT (RS (ok_field field32_0 (by decide) rfl) ?_));refine RLV 1000004 U3 rfl rfl rfl ?_;refine RS (ok_field field32_0 (by decide) rfl) ?_;refine RLV 1000005 U3 rfl rfl rfl ?_;refine RB rfl rfl rfl ?_;refine RZ (.bool false) (congrArg Value.bool (by simp)) ?_;refine RVN 1 rfl ?_;refine A.no rfl ?_;refine GT (RL 1000006 U40 rfl rfl (size40.of (by rw [List.length_map, hr])) ?_);refine RL 1000007 U40 rfl rfl (size40.of (by rw [List.length_map, hr])) ?_;refine RS (ok_neqT (n := 4) true flat40r (by decide) (by kernel_rfl) (by kernel_rfl) rfl rfl (kinB hr) (kinB hr) (iff_of_true rfl rfl)) ?_;refine RF ?_;refine RVN 1 rfl ?_;refine A.no rfl ?_;refine A.skip (End.normal_block (EN (GTD (RL 1000004 U32 rfl rfl (size32.of rfl) ?_))));refine RS (ok_callMK D1 (SubK.cons (k := 1000501) (by decide) rfl Le.unold SubK.nil) (A1 rfl)) ?_;refine RL 1000005 U32 rfl rfl (size32.of rfl) ?_;refine RS (ok_callMK D2 (SubK.cons (k := 1000502) (by decide) rfl Le.unold SubK.nil) (A1 rfl)) ?_;refine RS (ok_callMK (fdr_no V₁ V₂ hV₁ hV₂ hsm h) (SubK.of (Sub.cons rfl KN) tabS_v) (A2 rfl rfl)) ?_;refine RVN 6 rfl ?_;refine A.sub (Sv [8,9,10,1000004,1000005,1000006,1000007,1000501,1000502,1900001] rfl) ?_;refine A.ret ?_;exact End.ret3V rfl rfl rfl rfl
theorem diff_at (x : Int) (A₀ B₀ : Option Addr) (T W : List NodT) (c c' : Nat) (r : List UInt8) (hr : r.length = 32) (V₁ V₂ : List NodT) (hV₁ : FitT V₁) (hV₂ : FitT V₂) (hsm : V₁.length ≤ 1000000) (D1 : FnM Tryz.prog 94 (trO A₀ T) [.v (aggV [.int .i64 x, .slice A₀ T.length c])] (rowD V₁.length (nodsV V₁))) (D2 : FnM Tryz.prog 94 (trO B₀ W) [.v (aggV [.int .i64 x, .slice B₀ W.length c'])] (rowD V₂.length (nodsV V₂))) (k : Nat) (hk1 : k < V₁.length) (hk2 : k < V₂.length) (h : ∀ i, i < k → ndAt V₁ i = ndAt V₂ i) (hne : ndAt V₁ k ≠ ndAt V₂ k) (hcT : (ndAt V₁ k).ck = 0) (hcW : (ndAt V₂ k).ck = 0)  : FnM Tryz.prog 61 (tabS ++ twoM A₀ T B₀ W) [.v (aggV [.int .i64 x, .slice A₀ T.length c]), .v (aggV [.int .i64 x, .slice B₀ W.length c']), .v (aggV (r.map byteV)), .v (aggV (r.map byteV))] (tup [bytes (ndAt V₁ k).bl (NodT.sz (ndAt V₁ k).l.toNat), bytes (ndAt V₂ k).bl (NodT.sz (ndAt V₂ k).l.toNat), .v (.int .i64 0)]) := by
 refine FnM.ofO Tryz.func61 rfl (by kernel_rfl) Tryz.ntmps61 (by simp) (by decide) (fun w => [(0, .v (aggV [.int .i64 x, .slice A₀ T.length c])), (1, .v (aggV [.int .i64 x, .slice B₀ W.length c'])), (2, .v (aggV (r.map byteV))), (3, .v (aggV (r.map byteV))), (1900001, tab 1 (sizV)), (1000501, old w.heap.size (memR A₀ (nodsV T))), (1000502, old w.heap.size (memR B₀ (nodsV W)))]) (fun w => (StartMO.v rfl (StartMO.v rfl (StartMO.v rfl (StartMO.v rfl (StartMO.m (by simp [tabS]) (by decide) (StartMO.mo (by simp [tabS]) (by decide) (StartMO.mo (by simp [tabS]) (by decide) StartMO.nil)))))))) fun w₀ hM => ?_
 skip
 refine GS (TN 0 (RN ?_));refine ZB 1000004 rfl fun b4 ⟨hBb4, hb4⟩ => ?_
 refine TN 1 (RN ?_);refine ZB 1000005 rfl fun b5 ⟨hBb5, hb5⟩ => ?_
 have hlt_b4_b5 := hb5 1000004 b4 _ _ rfl
 refine TN 2 (RN ?_);refine ZB 1000006 rfl fun b6 ⟨hBb6, hb6⟩ => ?_
 refine TN 3 (RN ?_);refine ZB 1000007 rfl fun b7 ⟨hBb7, hb7⟩ => ?_
 have hlt_b6_b7 := hb7 1000006 b6 _ _ rfl
 refine TL (RVN 3 rfl ?_);refine QSB (GT (RS (ok_field field32_0 (by decide) rfl) ?_));refine RLV 1000004 U3 rfl rfl rfl ?_;refine RS (ok_field field32_0 (by decide) rfl) ?_;refine RLV 1000005 U3 rfl rfl rfl ?_;refine RB rfl rfl rfl ?_;refine RZ (.bool false) (congrArg Value.bool (by simp)) ?_;refine RVN 1 rfl ?_;refine A.no rfl ?_;refine GT (RL 1000006 U40 rfl rfl (size40.of (by rw [List.length_map, hr])) ?_);refine RL 1000007 U40 rfl rfl (size40.of (by rw [List.length_map, hr])) ?_;refine RS (ok_neqT (n := 4) true flat40r (by decide) (by kernel_rfl) (by kernel_rfl) rfl rfl (kinB hr) (kinB hr) (iff_of_true rfl rfl)) ?_;refine RF ?_;refine RVN 1 rfl ?_;refine A.no rfl ?_;refine A.skip (End.normal_block (EN (GTD (RL 1000004 U32 rfl rfl (size32.of rfl) ?_))));refine RS (ok_callMK D1 (SubK.cons (k := 1000501) (by decide) rfl Le.unold SubK.nil) (A1 rfl)) ?_;refine RL 1000005 U32 rfl rfl (size32.of rfl) ?_;refine RS (ok_callMK D2 (SubK.cons (k := 1000502) (by decide) rfl Le.unold SubK.nil) (A1 rfl)) ?_;refine RS (ok_callMK (fdr_at V₁ V₂ hV₁ hV₂ hsm k hk1 hk2 h hne hcT hcW) (SubK.of (Sub.cons rfl KN) tabS_v) (A2 rfl rfl)) ?_;refine RS (ok_extract rfl rfl) ?_;refine RS (ok_extract rfl rfl) ?_;refine RS (ok_extract rfl rfl) ?_;refine RVN 3 rfl ?_;refine A.sub (Sv [8,9,10,1000004,1000005,1000006,1000007,1000501,1000502,1900001] rfl) ?_;refine A.ret ?_;exact End.ret3 rfl rfl (Le.refl _) rfl (Le.refl _) rfl (Le.refl _)
set_option maxHeartbeats 1000000 in
theorem Differ_arg (n : Nat) (ad : Addr) (T : List NodT) (hT : FitT T) (c : Nat) (ht : Tree n T) (m : Nat) (bd : Addr) (W : List NodT) (hW : FitT W) (c' : Nat) (hw : Tree m W) (h : n ≠ m)  : FnM Tryz.prog 34 (tabE ++ twoM (some ad) T (some bd) W) [.v (aggV [nI n, .slice (some ad) T.length c]), .v (aggV [nI m, .slice (some bd) W.length c'])] (.v (.tuple #[.slice none 0 0, .slice none 0 0, .int .i64 1])) := by
 refine FnM.ofO Tryz.func34 rfl (by kernel_rfl) Tryz.ntmps34 (by simp) (by decide) (fun w => [(0, .v (aggV [nI n, .slice (some ad) T.length c])), (1, .v (aggV [nI m, .slice (some bd) W.length c'])), (1900000, tabH 0 ([errT])), (1900001, tab 1 (sizV)), (1900002, tab 2 (H8.list.map u32V)), (1900003, tab 3 (K64.map u32V)), (1000501, old w.heap.size (memR (some ad) (nodsV T))), (1000502, old w.heap.size (memR (some bd) (nodsV W)))]) (fun w => (StartMO.v rfl (StartMO.v rfl (StartMO.m (by simp [tabE]) (by decide) (StartMO.m (by simp [tabE]) (by decide) (StartMO.m (by simp [tabE]) (by decide) (StartMO.m (by simp [tabE]) (by decide) (StartMO.mo (by simp [tabE]) (by decide) (StartMO.mo (by simp [tabE]) (by decide) StartMO.nil))))))))) fun w₀ hM => ?_
 have htab := tabE_hi fun p hp => hM p (List.mem_append_left _ hp)
 refine GS (TN 0 (RN ?_));refine ZB 1000002 rfl fun b2 ⟨hBb2, hb2⟩ => ?_
 refine TN 1 (RN ?_);refine ZB 1000003 rfl fun b3 ⟨hBb3, hb3⟩ => ?_
 have hlt_b2_b3 := hb3 1000002 b2 _ _ rfl
 refine TL (RVN 3 rfl ?_);refine GS (TN 5 (RL 1000002 U32 rfl rfl (size32.of rfl) ?_));refine RS (ok_callMK (Root_ok n ad T hT c ht) (SubK.app (SubK.of (Sub.cons rfl (Sub.cons rfl (Sub.cons rfl (Sub.cons rfl KN)))) tabE_v) (SubK.cons (k := 1000501) (by decide) rfl Le.unold SubK.nil)) (A1 rfl)) ?_;refine RVN 3 rfl ?_;refine ZN 1000007 zero40 fun b7 ⟨hBb7, hb7⟩ => ?_
 refine TF 6 (RN ?_);refine ⟨_, eff_storeA (n := 34) (s := 1000007) (size40.of (by rw [List.length_map, sha_length])) rfl rfl (all_bytes _) hBb7 rfl (by rw [List.length_map, sha_length]; rfl) (LT 1000002 rfl (LT 1000003 rfl (LO 1000501 rfl (LO 1000502 rfl (LeftS.cons (t := 1900000) rfl (Surv.tabH (by omega)) (LQ 1900001 rfl (LQ 1900002 rfl (LQ 1900003 rfl (LW [2,3,7,14] rfl))))))))), ?_⟩
 refine TL (RVN 1 rfl ?_);refine QS (GT (RV 2 rfl ?_));refine RF ?_;refine RN (A.no rfl ?_);refine QK (GS (TN 5 (RL 1000003 U32 rfl rfl (size32.of rfl) ?_)));refine RS (ok_callMK (Root_ok m bd W hW c' hw) (SubK.app (SubK.of (Sub.cons rfl (Sub.cons rfl (Sub.cons rfl (Sub.cons rfl KN)))) tabE_v) (SubK.cons (k := 1000502) (by decide) rfl Le.unold SubK.nil)) (A1 rfl)) ?_;refine RVN 3 rfl ?_;refine ZN 1000009 zero40 fun b9 ⟨hBb9, hb9⟩ => ?_
 have hlt_b7_b9 := hb9 1000007 b7 _ _ rfl
 refine TF 6 (RN ?_);refine ⟨_, eff_storeA (n := 34) (s := 1000009) (size40.of (by rw [List.length_map, sha_length])) rfl rfl (all_bytes _) hBb9 rfl (by rw [List.length_map, sha_length]; rfl) (LT 1000002 rfl (LT 1000003 rfl (LB 1000007 rfl (LO 1000501 rfl (LO 1000502 rfl (LeftS.cons (t := 1900000) rfl (Surv.tabH (by omega)) (LQ 1900001 rfl (LQ 1900002 rfl (LQ 1900003 rfl (LW [2,3,7,9,22] rfl)))))))))), ?_⟩
 refine TL (RVN 1 rfl ?_);refine QS (GT (RV 2 rfl ?_));refine RF ?_;refine RN (A.sub (Sv [2,3,7,8,9,24,1000002,1000003,1000007,1000009,1000501,1000502,1900000,1900001,1900002,1900003] rfl) ?_);refine A.no rfl ?_;refine QK (GT (RL 1000002 U32 rfl rfl (size32.of rfl) ?_));refine RL 1000003 U32 rfl rfl (size32.of rfl) ?_;refine RL 1000007 U40 rfl rfl (size40.of (by rw [List.length_map, sha_length])) ?_;refine RL 1000009 U40 rfl rfl (size40.of (by rw [List.length_map, sha_length])) ?_;refine RS (ok_callMK (diff_arg n m (some ad) (some bd) T W c c' (sha (ndAt T (tot n (hg n))).bl) (sha (ndAt W (tot m (hg m))).bl) (sha_length _) (sha_length _) (by omega)) (SubK.app (SubK.of (Sub.cons rfl KN) tabS_v) (SubK.cons (k := 1000501) (by decide) rfl Le.unold (SubK.cons (k := 1000502) (by decide) rfl Le.unold SubK.nil))) (Args.cons rfl (Le.refl _) (A3 rfl rfl rfl))) ?_;refine RVN 6 rfl ?_;refine A.ret ?_;exact End.ret3V rfl rfl rfl rfl
set_option maxHeartbeats 1000000 in
theorem Differ_none (n : Nat) (ad : Addr) (T : List NodT) (hT : FitT T) (c : Nat) (ht : Tree n T) (bd : Addr) (W : List NodT) (hW : FitT W) (c' : Nat) (hw : Tree n W) (h : (sha (ndAt T (tot n (hg n))).bl) ≠ (sha (ndAt W (tot n (hg n))).bl))  : FnM Tryz.prog 34 (tabE ++ twoM (some ad) T (some bd) W) [.v (aggV [nI n, .slice (some ad) T.length c]), .v (aggV [nI n, .slice (some bd) W.length c'])] (.v (.tuple #[.slice none 0 0, .slice none 0 0, .int .i64 11])) := by
 refine FnM.ofO Tryz.func34 rfl (by kernel_rfl) Tryz.ntmps34 (by simp) (by decide) (fun w => [(0, .v (aggV [nI n, .slice (some ad) T.length c])), (1, .v (aggV [nI n, .slice (some bd) W.length c'])), (1900000, tabH 0 ([errT])), (1900001, tab 1 (sizV)), (1900002, tab 2 (H8.list.map u32V)), (1900003, tab 3 (K64.map u32V)), (1000501, old w.heap.size (memR (some ad) (nodsV T))), (1000502, old w.heap.size (memR (some bd) (nodsV W)))]) (fun w => (StartMO.v rfl (StartMO.v rfl (StartMO.m (by simp [tabE]) (by decide) (StartMO.m (by simp [tabE]) (by decide) (StartMO.m (by simp [tabE]) (by decide) (StartMO.m (by simp [tabE]) (by decide) (StartMO.mo (by simp [tabE]) (by decide) (StartMO.mo (by simp [tabE]) (by decide) StartMO.nil))))))))) fun w₀ hM => ?_
 have htab := tabE_hi fun p hp => hM p (List.mem_append_left _ hp)
 refine GS (TN 0 (RN ?_));refine ZB 1000002 rfl fun b2 ⟨hBb2, hb2⟩ => ?_
 refine TN 1 (RN ?_);refine ZB 1000003 rfl fun b3 ⟨hBb3, hb3⟩ => ?_
 have hlt_b2_b3 := hb3 1000002 b2 _ _ rfl
 refine TL (RVN 3 rfl ?_);refine GS (TN 5 (RL 1000002 U32 rfl rfl (size32.of rfl) ?_));refine RS (ok_callMK (Root_ok n ad T hT c ht) (SubK.app (SubK.of (Sub.cons rfl (Sub.cons rfl (Sub.cons rfl (Sub.cons rfl KN)))) tabE_v) (SubK.cons (k := 1000501) (by decide) rfl Le.unold SubK.nil)) (A1 rfl)) ?_;refine RVN 3 rfl ?_;refine ZN 1000007 zero40 fun b7 ⟨hBb7, hb7⟩ => ?_
 refine TF 6 (RN ?_);refine ⟨_, eff_storeA (n := 34) (s := 1000007) (size40.of (by rw [List.length_map, sha_length])) rfl rfl (all_bytes _) hBb7 rfl (by rw [List.length_map, sha_length]; rfl) (LT 1000002 rfl (LT 1000003 rfl (LO 1000501 rfl (LO 1000502 rfl (LeftS.cons (t := 1900000) rfl (Surv.tabH (by omega)) (LQ 1900001 rfl (LQ 1900002 rfl (LQ 1900003 rfl (LW [2,3,7,14] rfl))))))))), ?_⟩
 refine TL (RVN 1 rfl ?_);refine QS (GT (RV 2 rfl ?_));refine RF ?_;refine RN (A.no rfl ?_);refine QK (GS (TN 5 (RL 1000003 U32 rfl rfl (size32.of rfl) ?_)));refine RS (ok_callMK (Root_ok n bd W hW c' hw) (SubK.app (SubK.of (Sub.cons rfl (Sub.cons rfl (Sub.cons rfl (Sub.cons rfl KN)))) tabE_v) (SubK.cons (k := 1000502) (by decide) rfl Le.unold SubK.nil)) (A1 rfl)) ?_;refine RVN 3 rfl ?_;refine ZN 1000009 zero40 fun b9 ⟨hBb9, hb9⟩ => ?_
 have hlt_b7_b9 := hb9 1000007 b7 _ _ rfl
 refine TF 6 (RN ?_);refine ⟨_, eff_storeA (n := 34) (s := 1000009) (size40.of (by rw [List.length_map, sha_length])) rfl rfl (all_bytes _) hBb9 rfl (by rw [List.length_map, sha_length]; rfl) (LT 1000002 rfl (LT 1000003 rfl (LB 1000007 rfl (LO 1000501 rfl (LO 1000502 rfl (LeftS.cons (t := 1900000) rfl (Surv.tabH (by omega)) (LQ 1900001 rfl (LQ 1900002 rfl (LQ 1900003 rfl (LW [2,3,7,9,22] rfl)))))))))), ?_⟩
 refine TL (RVN 1 rfl ?_);refine QS (GT (RV 2 rfl ?_));refine RF ?_;refine RN (A.sub (Sv [2,3,7,8,9,24,1000002,1000003,1000007,1000009,1000501,1000502,1900000,1900001,1900002,1900003] rfl) ?_);refine A.no rfl ?_;refine QK (GT (RL 1000002 U32 rfl rfl (size32.of rfl) ?_));refine RL 1000003 U32 rfl rfl (size32.of rfl) ?_;refine RL 1000007 U40 rfl rfl (size40.of (by rw [List.length_map, sha_length])) ?_;refine RL 1000009 U40 rfl rfl (size40.of (by rw [List.length_map, sha_length])) ?_;refine RS (ok_callMK (diff_none n (some ad) (some bd) T W c c' (sha (ndAt T (tot n (hg n))).bl) (sha (ndAt W (tot n (hg n))).bl) (sha_length _) (sha_length _) h) (SubK.app (SubK.of (Sub.cons rfl KN) tabS_v) (SubK.cons (k := 1000501) (by decide) rfl Le.unold (SubK.cons (k := 1000502) (by decide) rfl Le.unold SubK.nil))) (Args.cons rfl (Le.refl _) (A3 rfl rfl rfl))) ?_;refine RVN 6 rfl ?_;refine A.ret ?_;exact End.ret3V rfl rfl rfl rfl
set_option maxHeartbeats 1000000 in
theorem Differ_no (n : Nat) (ad : Addr) (T : List NodT) (hT : FitT T) (c : Nat) (ht : Tree n T) (bd : Addr) (W : List NodT) (hW : FitT W) (c' : Nat) (hw : Tree n W) (hr : (sha (ndAt T (tot n (hg n))).bl) = (sha (ndAt W (tot n (hg n))).bl)) (V₁ V₂ : List NodT) (hV₁ : FitT V₁) (hV₂ : FitT V₂) (hsm : V₁.length ≤ 1000000) (D1 : FnM Tryz.prog 94 (trO (some ad) T) [.v (aggV [.int .i64 (n : Int), .slice (some ad) T.length c])] (rowD V₁.length (nodsV V₁))) (D2 : FnM Tryz.prog 94 (trO (some bd) W) [.v (aggV [.int .i64 (n : Int), .slice (some bd) W.length c'])] (rowD V₂.length (nodsV V₂))) (h : ∀ i, i < V₁.length → i < V₂.length → ndAt V₁ i = ndAt V₂ i)  : FnM Tryz.prog 34 (tabE ++ twoM (some ad) T (some bd) W) [.v (aggV [nI n, .slice (some ad) T.length c]), .v (aggV [nI n, .slice (some bd) W.length c'])] (.v (.tuple #[.slice none 0 0, .slice none 0 0, .int .i64 11])) := by
 refine FnM.ofO Tryz.func34 rfl (by kernel_rfl) Tryz.ntmps34 (by simp) (by decide) (fun w => [(0, .v (aggV [nI n, .slice (some ad) T.length c])), (1, .v (aggV [nI n, .slice (some bd) W.length c'])), (1900000, tabH 0 ([errT])), (1900001, tab 1 (sizV)), (1900002, tab 2 (H8.list.map u32V)), (1900003, tab 3 (K64.map u32V)), (1000501, old w.heap.size (memR (some ad) (nodsV T))), (1000502, old w.heap.size (memR (some bd) (nodsV W)))]) (fun w => (StartMO.v rfl (StartMO.v rfl (StartMO.m (by simp [tabE]) (by decide) (StartMO.m (by simp [tabE]) (by decide) (StartMO.m (by simp [tabE]) (by decide) (StartMO.m (by simp [tabE]) (by decide) (StartMO.mo (by simp [tabE]) (by decide) (StartMO.mo (by simp [tabE]) (by decide) StartMO.nil))))))))) fun w₀ hM => ?_
 have htab := tabE_hi fun p hp => hM p (List.mem_append_left _ hp)
 refine GS (TN 0 (RN ?_));refine ZB 1000002 rfl fun b2 ⟨hBb2, hb2⟩ => ?_
 refine TN 1 (RN ?_);refine ZB 1000003 rfl fun b3 ⟨hBb3, hb3⟩ => ?_
 have hlt_b2_b3 := hb3 1000002 b2 _ _ rfl
 refine TL (RVN 3 rfl ?_);refine GS (TN 5 (RL 1000002 U32 rfl rfl (size32.of rfl) ?_));refine RS (ok_callMK (Root_ok n ad T hT c ht) (SubK.app (SubK.of (Sub.cons rfl (Sub.cons rfl (Sub.cons rfl (Sub.cons rfl KN)))) tabE_v) (SubK.cons (k := 1000501) (by decide) rfl Le.unold SubK.nil)) (A1 rfl)) ?_;refine RVN 3 rfl ?_;refine ZN 1000007 zero40 fun b7 ⟨hBb7, hb7⟩ => ?_
 refine TF 6 (RN ?_);refine ⟨_, eff_storeA (n := 34) (s := 1000007) (size40.of (by rw [List.length_map, sha_length])) rfl rfl (all_bytes _) hBb7 rfl (by rw [List.length_map, sha_length]; rfl) (LT 1000002 rfl (LT 1000003 rfl (LO 1000501 rfl (LO 1000502 rfl (LeftS.cons (t := 1900000) rfl (Surv.tabH (by omega)) (LQ 1900001 rfl (LQ 1900002 rfl (LQ 1900003 rfl (LW [2,3,7,14] rfl))))))))), ?_⟩
 refine TL (RVN 1 rfl ?_);refine QS (GT (RV 2 rfl ?_));refine RF ?_;refine RN (A.no rfl ?_);refine QK (GS (TN 5 (RL 1000003 U32 rfl rfl (size32.of rfl) ?_)));refine RS (ok_callMK (Root_ok n bd W hW c' hw) (SubK.app (SubK.of (Sub.cons rfl (Sub.cons rfl (Sub.cons rfl (Sub.cons rfl KN)))) tabE_v) (SubK.cons (k := 1000502) (by decide) rfl Le.unold SubK.nil)) (A1 rfl)) ?_;refine RV 2 rfl ?_;refine RZ (aggV ((sha (ndAt T (tot n (hg n))).bl).map byteV)) (by rw [hr]) ?_;refine RVN 1 rfl ?_;refine ZN 1000009 zero40 fun b9 ⟨hBb9, hb9⟩ => ?_
 have hlt_b7_b9 := hb9 1000007 b7 _ _ rfl
 refine TF 6 (RN ?_);refine ⟨_, eff_storeA (n := 34) (s := 1000009) (size40.of (by rw [List.length_map, sha_length])) rfl rfl (all_bytes _) hBb9 rfl (by rw [List.length_map, sha_length]; rfl) (LT 1000002 rfl (LT 1000003 rfl (LB 1000007 rfl (LO 1000501 rfl (LO 1000502 rfl (LeftS.cons (t := 1900000) rfl (Surv.tabH (by omega)) (LQ 1900001 rfl (LQ 1900002 rfl (LQ 1900003 rfl (LW [2,3,7,9,22] rfl)))))))))), ?_⟩
 refine TL (RVN 1 rfl ?_);refine QS (GT (RV 2 rfl ?_));refine RF ?_;refine RN (A.sub (Sv [2,3,7,8,9,24,1000002,1000003,1000007,1000009,1000501,1000502,1900000,1900001,1900002,1900003] rfl) ?_);refine A.no rfl ?_;refine QK (GT (RL 1000002 U32 rfl rfl (size32.of rfl) ?_));refine RL 1000003 U32 rfl rfl (size32.of rfl) ?_;refine RL 1000007 U40 rfl rfl (size40.of (by rw [List.length_map, sha_length])) ?_;refine RL 1000009 U40 rfl rfl (size40.of (by rw [List.length_map, sha_length])) ?_;refine RS (ok_callMK (diff_no n (some ad) (some bd) T W c c' (sha (ndAt T (tot n (hg n))).bl) (sha_length _) V₁ V₂ hV₁ hV₂ hsm D1 D2 h) (SubK.app (SubK.of (Sub.cons rfl KN) tabS_v) (SubK.cons (k := 1000501) (by decide) rfl Le.unold (SubK.cons (k := 1000502) (by decide) rfl Le.unold SubK.nil))) (Args.cons rfl (Le.refl _) (A3 rfl rfl rfl))) ?_;refine RVN 6 rfl ?_;refine A.ret ?_;exact End.ret3V rfl rfl rfl rfl
set_option maxHeartbeats 1000000 in
theorem Differ_at (n : Nat) (ad : Addr) (T : List NodT) (hT : FitT T) (c : Nat) (ht : Tree n T) (bd : Addr) (W : List NodT) (hW : FitT W) (c' : Nat) (hw : Tree n W) (hr : (sha (ndAt T (tot n (hg n))).bl) = (sha (ndAt W (tot n (hg n))).bl)) (V₁ V₂ : List NodT) (hV₁ : FitT V₁) (hV₂ : FitT V₂) (hsm : V₁.length ≤ 1000000) (D1 : FnM Tryz.prog 94 (trO (some ad) T) [.v (aggV [.int .i64 (n : Int), .slice (some ad) T.length c])] (rowD V₁.length (nodsV V₁))) (D2 : FnM Tryz.prog 94 (trO (some bd) W) [.v (aggV [.int .i64 (n : Int), .slice (some bd) W.length c'])] (rowD V₂.length (nodsV V₂))) (k : Nat) (hk1 : k < V₁.length) (hk2 : k < V₂.length) (h : ∀ i, i < k → ndAt V₁ i = ndAt V₂ i) (hne : ndAt V₁ k ≠ ndAt V₂ k) (hcT : (ndAt V₁ k).ck = 0) (hcW : (ndAt V₂ k).ck = 0)  : FnM Tryz.prog 34 (tabE ++ twoM (some ad) T (some bd) W) [.v (aggV [nI n, .slice (some ad) T.length c]), .v (aggV [nI n, .slice (some bd) W.length c'])] (tup [bytes (ndAt V₁ k).bl (NodT.sz (ndAt V₁ k).l.toNat), bytes (ndAt V₂ k).bl (NodT.sz (ndAt V₂ k).l.toNat), .v (.int .i64 0)]) := by
 refine FnM.ofO Tryz.func34 rfl (by kernel_rfl) Tryz.ntmps34 (by simp) (by decide) (fun w => [(0, .v (aggV [nI n, .slice (some ad) T.length c])), (1, .v (aggV [nI n, .slice (some bd) W.length c'])), (1900000, tabH 0 ([errT])), (1900001, tab 1 (sizV)), (1900002, tab 2 (H8.list.map u32V)), (1900003, tab 3 (K64.map u32V)), (1000501, old w.heap.size (memR (some ad) (nodsV T))), (1000502, old w.heap.size (memR (some bd) (nodsV W)))]) (fun w => (StartMO.v rfl (StartMO.v rfl (StartMO.m (by simp [tabE]) (by decide) (StartMO.m (by simp [tabE]) (by decide) (StartMO.m (by simp [tabE]) (by decide) (StartMO.m (by simp [tabE]) (by decide) (StartMO.mo (by simp [tabE]) (by decide) (StartMO.mo (by simp [tabE]) (by decide) StartMO.nil))))))))) fun w₀ hM => ?_
 have htab := tabE_hi fun p hp => hM p (List.mem_append_left _ hp)
 refine GS (TN 0 (RN ?_));refine ZB 1000002 rfl fun b2 ⟨hBb2, hb2⟩ => ?_
 refine TN 1 (RN ?_);refine ZB 1000003 rfl fun b3 ⟨hBb3, hb3⟩ => ?_
 have hlt_b2_b3 := hb3 1000002 b2 _ _ rfl
 refine TL (RVN 3 rfl ?_);refine GS (TN 5 (RL 1000002 U32 rfl rfl (size32.of rfl) ?_));refine RS (ok_callMK (Root_ok n ad T hT c ht) (SubK.app (SubK.of (Sub.cons rfl (Sub.cons rfl (Sub.cons rfl (Sub.cons rfl KN)))) tabE_v) (SubK.cons (k := 1000501) (by decide) rfl Le.unold SubK.nil)) (A1 rfl)) ?_;refine RVN 3 rfl ?_;refine ZN 1000007 zero40 fun b7 ⟨hBb7, hb7⟩ => ?_
 refine TF 6 (RN ?_);refine ⟨_, eff_storeA (n := 34) (s := 1000007) (size40.of (by rw [List.length_map, sha_length])) rfl rfl (all_bytes _) hBb7 rfl (by rw [List.length_map, sha_length]; rfl) (LT 1000002 rfl (LT 1000003 rfl (LO 1000501 rfl (LO 1000502 rfl (LeftS.cons (t := 1900000) rfl (Surv.tabH (by omega)) (LQ 1900001 rfl (LQ 1900002 rfl (LQ 1900003 rfl (LW [2,3,7,14] rfl))))))))), ?_⟩
 refine TL (RVN 1 rfl ?_);refine QS (GT (RV 2 rfl ?_));refine RF ?_;refine RN (A.no rfl ?_);refine QK (GS (TN 5 (RL 1000003 U32 rfl rfl (size32.of rfl) ?_)));refine RS (ok_callMK (Root_ok n bd W hW c' hw) (SubK.app (SubK.of (Sub.cons rfl (Sub.cons rfl (Sub.cons rfl (Sub.cons rfl KN)))) tabE_v) (SubK.cons (k := 1000502) (by decide) rfl Le.unold SubK.nil)) (A1 rfl)) ?_;refine RV 2 rfl ?_;refine RZ (aggV ((sha (ndAt T (tot n (hg n))).bl).map byteV)) (by rw [hr]) ?_;refine RVN 1 rfl ?_;refine ZN 1000009 zero40 fun b9 ⟨hBb9, hb9⟩ => ?_
 have hlt_b7_b9 := hb9 1000007 b7 _ _ rfl
 refine TF 6 (RN ?_);refine ⟨_, eff_storeA (n := 34) (s := 1000009) (size40.of (by rw [List.length_map, sha_length])) rfl rfl (all_bytes _) hBb9 rfl (by rw [List.length_map, sha_length]; rfl) (LT 1000002 rfl (LT 1000003 rfl (LB 1000007 rfl (LO 1000501 rfl (LO 1000502 rfl (LeftS.cons (t := 1900000) rfl (Surv.tabH (by omega)) (LQ 1900001 rfl (LQ 1900002 rfl (LQ 1900003 rfl (LW [2,3,7,9,22] rfl)))))))))), ?_⟩
 refine TL (RVN 1 rfl ?_);refine QS (GT (RV 2 rfl ?_));refine RF ?_;refine RN (A.sub (Sv [2,3,7,8,9,24,1000002,1000003,1000007,1000009,1000501,1000502,1900000,1900001,1900002,1900003] rfl) ?_);refine A.no rfl ?_;refine QK (GT (RL 1000002 U32 rfl rfl (size32.of rfl) ?_));refine RL 1000003 U32 rfl rfl (size32.of rfl) ?_;refine RL 1000007 U40 rfl rfl (size40.of (by rw [List.length_map, sha_length])) ?_;refine RL 1000009 U40 rfl rfl (size40.of (by rw [List.length_map, sha_length])) ?_;refine RS (ok_callMK (diff_at n (some ad) (some bd) T W c c' (sha (ndAt T (tot n (hg n))).bl) (sha_length _) V₁ V₂ hV₁ hV₂ hsm D1 D2 k hk1 hk2 h hne hcT hcW) (SubK.app (SubK.of (Sub.cons rfl KN) tabS_v) (SubK.cons (k := 1000501) (by decide) rfl Le.unold (SubK.cons (k := 1000502) (by decide) rfl Le.unold SubK.nil))) (Args.cons rfl (Le.refl _) (A3 rfl rfl rfl))) ?_;refine RS (ok_extract rfl rfl) ?_;refine RS (ok_extract rfl rfl) ?_;refine RS (ok_extract rfl rfl) ?_;refine RVN 3 rfl ?_;refine A.ret ?_;exact End.ret3 rfl rfl (Le.refl _) rfl (Le.refl _) rfl (Le.refl _)
end
theorem ndAt_mid (P R : List NodT) (x : NodT) : ndAt (P ++ x :: R) P.length = x := by
 have := ndAt_app2 (T := P) (U := x :: R) (i := 0)
 rw [Nat.add_zero] at this
 rw [this]; rfl
theorem ndAt_mid1 (P R : List NodT) (x y : NodT) : ndAt (P ++ y :: x :: R) (P.length + 1) = x := by
 rw [ndAt_app2]; rfl
theorem swT_mid (P R : List NodT) (x y : NodT) : swT (P ++ y :: x :: R) (P.length + 1) P.length = P ++ x :: y :: R := by
 unfold swT
 rw [ndAt_mid, ndAt_mid1]
 rw [List.set_append_right _ _ (by omega), Nat.add_sub_cancel_left, List.set_append_right _ _ (Nat.le_refl _), Nat.sub_self]
 rfl
theorem insD_move {x : NodT} {A : List NodT} (hA : ∀ y, y ∈ A → ltN x y = false) : ∀ (e : Nat) (B R : List NodT), B.length = e → (∀ y, y ∈ B → ltN x y = true) → insD 0 (A.length + e) (A ++ B ++ x :: R) = A ++ x :: B ++ R
 | 0, B, R, hB, _ => by
  obtain rfl : B = [] := List.length_eq_zero_iff.1 hB
  rw [List.append_nil, Nat.add_zero]
  rcases List.eq_nil_or_concat A with rfl | ⟨A', y, rfl⟩
  ·simp [insD]
  ·rw [List.concat_eq_append, List.length_append, List.length_singleton, List.append_assoc A' [y], List.singleton_append]
   unfold insD
   rw [Nat.zero_add, ndAt_mid1, ndAt_mid, if_neg (by rw [hA y (by simp [List.concat_eq_append])]; decide)]
   simp
 | e + 1, B, R, hB, h => by
  rcases List.eq_nil_or_concat B with rfl | ⟨B', y, rfl⟩
  ·cases hB
  ·rw [List.concat_eq_append] at hB h ⊢
   rw [List.length_append, List.length_singleton] at hB
   have hl : (A ++ B').length = A.length + e := by rw [List.length_append]; omega
   rw [show A ++ (B' ++ [y]) ++ x :: R = (A ++ B') ++ y :: x :: R from by simp, ← Nat.add_assoc]
   unfold insD
   rw [Nat.zero_add, ← hl, ndAt_mid1, ndAt_mid, if_pos (h y (by simp)), swT_mid]
   rw [hl]
   have := insD_move hA e B' (y :: R) (by omega) fun z hz => h z (by simp [hz])
   rw [show A ++ B' ++ x :: y :: R = A ++ B' ++ x :: (y :: R) from rfl, this]
   simp
theorem lvlT_mem {n l k : Nat} {T : List NodT} {y : NodT} (h : y ∈ lvlT n T l k) : ∃ j, j < k ∧ y = ndAt T (tot n l + j) := by
 unfold lvlT at h
 obtain ⟨j, hj, rfl⟩ := List.mem_map.1 h
 exact ⟨j, List.mem_range.1 hj, rfl⟩
theorem dwn_mem {n : Nat} {T : List NodT} {y : NodT} : ∀ {m : Nat}, y ∈ dwn n T m → ∃ l j, l < m ∧ j < un n (l + 1) ∧ y = ndAt T (tot n l + j)
 | 0, h => by cases h
 | m + 1, h => by
  rcases List.mem_append.1 (show y ∈ lvlT n T m (un n (m + 1)) ++ dwn n T m from h) with h | h
  ·obtain ⟨j, hj, e⟩ := lvlT_mem h
   exact ⟨m, j, by omega, hj, e⟩
  ·obtain ⟨l, j, h1, h2, h3⟩ := dwn_mem h
   exact ⟨l, j, by omega, h2, h3⟩
def Lev (n : Nat) (T : List NodT) : Prop := ∀ l j, l ≤ hg n → j < un n (l + 1) → (ndAt T (tot n l + j)).l.toNat = l
theorem insO_lvl {n : Nat} {T : List NodT} (hv : Lev n T) (hT : T.length = tot n (hg n + 1)) {l : Nat} (hl : l ≤ hg n) (h0 : 1 ≤ tot n l → insO 0 (tot n l - 1) T = dwn n T l ++ T.drop (tot n l)) :
  ∀ j, j ≤ un n (l + 1) → 1 ≤ tot n l + j → insO 0 (tot n l + j - 1) T = lvlT n T l j ++ dwn n T l ++ T.drop (tot n l + j)
 | 0, _, h1 => by
  rw [Nat.add_zero] at h1 ⊢
  rw [h0 h1]; rfl
 | j + 1, hj, _ => by
  have hlt : tot n l + j < T.length := by
   rw [hT]
   have h2 : tot n (l + 1) ≤ tot n (hg n + 1) := tot_mono (by omega)
   rw [tot_succ] at h2; omega
  have hd : T.drop (tot n l + j) = ndAt T (tot n l + j) :: T.drop (tot n l + j + 1) := by
   rw [List.drop_eq_getElem_cons hlt]; congr 1
   unfold ndAt; rw [List.getD_eq_getElem?_getD, List.getElem?_eq_getElem hlt]; rfl
  have hx := hv l j hl (by omega)
  rw [show tot n l + (j + 1) - 1 = tot n l + j from by omega, ← lvlT_step, show tot n l + (j + 1) = tot n l + j + 1 from rfl]
  rcases Nat.eq_zero_or_pos (tot n l + j) with hz | hz
  ·have hj0 : j = 0 := by omega
   have ht0 : tot n l = 0 := by omega
   have hl0 : dwn n T l = [] := List.length_eq_zero_iff.1 (by rw [dwn_length]; exact ht0)
   have hd' : T = ndAt T 0 :: T.drop 1 := by rw [hz] at hd; exact hd
   rw [hz, hl0, hj0]
   show T = lvlT n T l 0 ++ [ndAt T 0] ++ [] ++ T.drop 1
   rw [List.append_nil, show lvlT n T l 0 = [] from rfl, List.nil_append, List.singleton_append]
   exact hd'
  ·have ih := insO_lvl hv hT hl h0 j (by omega) (by omega)
   obtain ⟨k, hk⟩ : ∃ k, tot n l + j = k + 1 := ⟨tot n l + j - 1, by omega⟩
   have hs : insO 0 (k + 1) T = insD 0 (k + 1) (insO 0 k T) := rfl
   rw [hk, Nat.add_sub_cancel] at ih
   rw [hk, hs, ih, ← hk, hd]
   have hm := insD_move (x := ndAt T (tot n l + j)) (A := lvlT n T l j) (fun y hy => by
    obtain ⟨j', hj', rfl⟩ := lvlT_mem hy
    have := hv l j' hl (by omega)
    unfold ltN; rw [this, hx]; simp) (tot n l) (dwn n T l) (T.drop (tot n l + j + 1)) (dwn_length n T l) (fun y hy => by
    obtain ⟨l', j', h1, h2, rfl⟩ := dwn_mem hy
    have := hv l' j' (by omega) h2
    unfold ltN; rw [this, hx]; simpa using h1)
   rw [lvlT_length] at hm
   rw [Nat.add_comm (tot n l) j]
   rw [Nat.add_comm j (tot n l)] at hm ⊢
   rw [hm]
   simp
theorem insO_dwn {n : Nat} {T : List NodT} (hv : Lev n T) (hT : T.length = tot n (hg n + 1)) : ∀ l, l ≤ hg n + 1 → 1 ≤ tot n l → insO 0 (tot n l - 1) T = dwn n T l ++ T.drop (tot n l)
 | 0, _, h => by rw [tot_zero] at h; omega
 | l + 1, hl, h => by
  have := insO_lvl hv hT (l := l) (by omega) (insO_dwn hv hT l (by omega)) (un n (l + 1)) (Nat.le_refl _) (by rw [tot_succ] at h; exact h)
  rw [tot_succ]
  exact this
theorem sfF_dwn {n : Nat} {T : List NodT} (hv : Lev n T) (hT : T.length = tot n (hg n + 1)) (h1 : 1 ≤ T.length) (h20 : T.length < 20) : sfF T.length T = dwn n T (hg n + 1) := by
 rw [sfF_small h20]
 have := insO_dwn hv hT (hg n + 1) (Nat.le_refl _) (by omega)
 rw [← hT] at this
 rw [this, List.drop_of_length_le (Nat.le_refl _), List.append_nil]
theorem Tree.lev {n : Nat} {T : List NodT} (h : Tree n T) : Lev n T := fun _ _ hl hj => (h.fit hl hj).1
theorem dif_first {V₁ V₂ : List NodT} : ∀ (n : Nat), (∀ i, i < n → ndAt V₁ i = ndAt V₂ i) ∨ ∃ k, k < n ∧ ndAt V₁ k ≠ ndAt V₂ k ∧ ∀ i, i < k → ndAt V₁ i = ndAt V₂ i
 | 0 => .inl fun i hi => absurd hi (Nat.not_lt_zero _)
 | n + 1 => by
  rcases dif_first (V₁ := V₁) (V₂ := V₂) n with h | ⟨k, h1, h2, h3⟩
  ·by_cases he : ndAt V₁ n = ndAt V₂ n
   ·exact .inl fun i hi => (Nat.lt_or_ge i n).elim (h i) fun hn => by rw [show i = n from by omega]; exact he
   ·exact .inr ⟨n, by omega, he, h⟩
  ·exact .inr ⟨k, by omega, h2, h3⟩
theorem Surv.newQ {B T g base m : Nat} {e : TypeId} {val : Nat → Nat → Value} {xs : List Value} (h : e ≠ T) : Surv B T g (Go.Proofs.YtmkpekmhhbcifaaGreatDoor.newQ base e val m xs) := fun w w' x k ⟨b, q, ys, h1, hm, h2, h3, h4⟩ => by
 refine ⟨b, q, ys, h1, hm, h2, Nat.lt_of_lt_of_le h3 k.size, ?_⟩
 by_cases hb : b = g
 ·subst hb; exact absurd (k.row _ _ _ h4) h
 ·exact (k.other b h3 hb).trans h4
theorem Agg.newQ {base m z : Nat} {e : TypeId} {val : Nat → Nat → Value} {xs : List Value} (h : ∀ b q, ∃ cs : List Value, val b q = aggV cs ∧ cs.length = z ∧ cs.all (·.oneCell') = true) : Agg z (Go.Proofs.YtmkpekmhhbcifaaGreatDoor.newQ base e val m xs) := fun B w x ⟨b, q, ys, h1, _⟩ => by
 obtain ⟨cs, h2, h3, h4⟩ := h b q
 exact ⟨cs, h1.trans h2, h3, h4⟩
theorem A.openVarQ {κ : Cx} {P : Program} {w₀ : World} {n : Nat} {c : Code} {E : Env} {Q : Exit → Act → World → Prop} {k k' B' b m : Nat} {T e : TypeId} {v : Value} {xs : List Value} (hk : E.look k = some (varK b T 2 (Go.Proofs.YtmkpekmhhbcifaaGreatDoor.newQ B' e (fun g q => aggV [v, .slice (some ⟨g, 0, none⟩) m q]) m xs)))
  (h : ∀ (g q : Nat) (ys : List Value), B' ≤ g → m ≤ q → A κ P w₀ n c ((k, blk b T [v, .slice (some ⟨g, 0, none⟩) m q]) :: (k', blk g e (xs ++ ys)) :: E) Q) : A κ P w₀ n c E Q := fun a w gr hs => by
 obtain ⟨h1, cs, h2, h3, h4, g, q, ys, h5, hm, hb, hlt, hh⟩ := hs.of k _ hk
 have hcs : cs = [v, .slice (some ⟨g, 0, none⟩) m q] := by
  have := h5
  simp only [aggV, Value.agg.injEq] at this
  exact List.toArray_inj this
 subst hcs
 exact h g q ys hb hm a w gr ((hs.push (t := k') (d := blk g e (xs ++ ys)) ⟨hlt, hh⟩).push (t := k) (d := blk b T _) ⟨h1, h4⟩)
theorem ok_slice3N {P : Program} {B : Nat} {E : Env} {dst : Option Tmp} {ty : TypeId} {pos : String} {after : Array Edge} {guard : Option (Nat × Bool)} {t e : TypeId} {z : Value} {nb sz b : Nat} {x ho mo : Operand} {len c : Nat} {k2 k3 : IntKind} (h m : Nat) (ht : P.underlying t = some (.slice e)) (hs : InfoP P e z sz nb) (hx : E.at x = some (.v (.slice (some ⟨b, 0, none⟩) len c))) (hho : E.at ho = some (.v (.int k2 (h : Int)))) (hmo : E.at mo = some (.v (.int k3 (m : Int))))
  (hhm : h ≤ m) (hlm : 0 < m) (hmc : m ≤ c) : OpOk P B ⟨dst, .slice t x none (some ho) (some mo), ty, pos, after, guard⟩ E (.v (.slice (some ⟨b, 0, none⟩) h m)) := fun ρ w _ _ hρ => by
 have h1 : ρ x = _ := hρ x (by simp [Op.operands]) _ hx
 have h3 : ρ ho = .int k2 (h : Int) := hρ ho (by simp [Op.operands]) _ hho
 have h4 : ρ mo = .int k3 (m : Int) := hρ mo (by simp [Op.operands]) _ hmo
 obtain ⟨info, hinfo, _, hsize, _⟩ := hs.get
 have hm : ¬ m = 0 := by omega
 have ha : (⟨b, 0, none⟩ : Addr).add 0 = ⟨b, 0, none⟩ := by unfold Addr.add; simp
 refine out_val (w' := w) ?_ ⟨Grow.refl w, rfl⟩
 simp [execOp, h1, h3, h4, Instr.sliceAt, Instr.slice, run_underlying ht, Instr.sliceBounds, Instr.sliceBound, asIntOf, sizeOf, typeInfo, hinfo, hsize, hhm, hmc, hm, ha]
section
structure VarF where
 a : Nat
 t : Nat
 T : TypeId
 zs : List Value
 s : Nat
 m : Nat
 f : D
inductive FromF (ops : Array Oper) (vals : List (Option D)) (E0 : Env) (o : Oper) : Env → Prop
 | nil : FromF ops vals E0 o []
 | all : FromF ops vals E0 o E0
 | op {t : Nat} {v : D} {E : Env} (j : Nat) (he : (o.after.any fun e => Region.binds .any e && e.on == j) = true) (hd : (ops[j]?).bind (·.dst) = some t) (hv : vals[j]? = some (some v)) (hr : FromF ops vals E0 o E) : FromF ops vals E0 o ((t, v) :: E)
inductive FromFW (ops : Array Oper) (vals : List (Option D)) (E0 : Env) : Env → Prop
 | all : FromFW ops vals E0 E0
 | op {t : Nat} {v : D} {E : Env} (j : Nat) (hd : (ops[j]?).bind (·.dst) = some t) (hv : vals[j]? = some (some v)) (hr : FromFW ops vals E0 E) : FromFW ops vals E0 ((t, v) :: E)
def SurvF (vs : List VarF) (B : Nat) (d : D) : Prop := ∀ V ∈ vs, ∀ B' g, B ≤ g → Surv B' V.T g d
inductive KofOk (P : Program) (B : Nat) (ops : Array Oper) (vals : List (Option D)) (vs : List VarF) (E0 : Env) (i : Nat) : Oper → Prop
 | pure {o : Oper} {t : Nat} {v : D} (E : Env) (hv : vals[i]? = some (some v)) (hd : o.dst = some t) (h0 : E0.look t = none) (hf : FromF ops vals E0 o E) (hs : SurvF vs B v) (hok : OpOk P B o E v) : KofOk P B ops vals vs E0 i o
 | alloc {t : Tmp} {T ty : TypeId} {pos : String} {after : Array Edge} {V : VarF} (j : Nat) (hV : vs[j]? = some V) (ha : V.a = i) (hT : V.T = T) (ht : V.t = t) (hz : ZeroIs P T V.zs) (h0 : E0.look t = none) : KofOk P B ops vals vs E0 i ⟨some t, .alloc T, ty, pos, after, none⟩
 | store {t T ty : TypeId} {x : Operand} {pos : String} {after : Array Edge} {V : VarF} {dx : D} (j : Nat) (E : Env) (hV : vs[j]? = some V) (hs : V.s = i) (hT : V.T = T) (ht : V.t = t) (he : (after.any fun e => Region.binds .any e && e.on == V.a) = true) (hf : FromF ops vals E0 ⟨none, .store T (.tmp t) x, ty, pos, after, none⟩ E) (hx : E.at x = some dx) (hle : Le dx V.f)
   (hsz : SizeIs P T V.m) (hl : V.zs.length = V.m) (h1 : Agg V.m V.f) : KofOk P B ops vals vs E0 i ⟨none, .store T (.tmp t) x, ty, pos, after, none⟩
inductive Kofs (P : Program) (B : Nat) (ops : Array Oper) (vals : List (Option D)) (vs : List VarF) (E0 : Env) : Nat → List Oper → Prop
 | nil {i : Nat} : Kofs P B ops vals vs E0 i []
 | cons {i : Nat} {o : Oper} {rest : List Oper} (h : KofOk P B ops vals vs E0 i o) (hr : Kofs P B ops vals vs E0 (i + 1) rest) : Kofs P B ops vals vs E0 i (o :: rest)
def varsOkF (ops : Array Oper) (vals : List (Option D)) (vs : List VarF) : Bool := (List.range vs.length).all fun j => match vs[j]? with
 | none => false
 | some V => ((ops[V.a]?).bind (·.dst) == some V.t) && (match vals[V.a]? with | some none => true | _ => false) && (match vals[V.s]? with | some none => true | _ => false) && decide (V.a < ops.size) && decide (V.s < ops.size) && V.a != V.s && (List.range vs.length).all fun j' => match vs[j']? with
  | none => false
  | some V' => j == j' || (V.a != V'.a && V.s != V'.s && V.a != V'.s && V.s != V'.a)
section
variable {P : Program} {n B : Nat} {ops : Array Oper} {κ : Cx} {Q : Exit → Act → World → Prop} {vals : List (Option D)} {vs : List VarF} {E0 : Env}
theorem Kofs.nth {k : Nat} {l : List Oper} (h : Kofs P B ops vals vs E0 k l) : ∀ {i : Nat} {o : Oper}, l[i]? = some o → KofOk P B ops vals vs E0 (k + i) o := by
 induction h with
 | nil => intro i o hi; simp at hi
 | @cons k o0 rest h _ ih =>
  intro i o hi
  cases i with
  | zero => simp at hi; subst hi; exact h
  | succ i =>
   have := ih (i := i) (by simpa using hi)
   rwa [show k + (i + 1) = k + 1 + i from by omega]
theorem varsOkF_get (h : varsOkF ops vals vs = true) {j : Nat} {V : VarF} (hj : vs[j]? = some V) : (ops[V.a]?).bind (·.dst) = some V.t ∧ vals[V.a]? = some none ∧ vals[V.s]? = some none ∧ V.a < ops.size ∧ V.s < ops.size ∧ V.a ≠ V.s ∧ ∀ j' V', vs[j']? = some V' → j ≠ j' → V.a ≠ V'.a ∧ V.s ≠ V'.s ∧ V.a ≠ V'.s ∧ V.s ≠ V'.a := by
 have hlt : j < vs.length := (List.getElem?_eq_some_iff.1 hj).1
 have h1 := List.all_eq_true.1 h j (List.mem_range.2 hlt)
 simp only [hj, Bool.and_eq_true] at h1
 obtain ⟨⟨⟨⟨⟨⟨h2, h3⟩, h4⟩, h5⟩, h6⟩, h7⟩, h8⟩ := h1
 refine ⟨by simpa using h2, ?_, ?_, by simpa using h5, by simpa using h6, by simpa using h7, fun j' V' hj' hne => ?_⟩
 ·cases hx : vals[V.a]? with
  | none => rw [hx] at h3; cases h3
  | some x => rw [hx] at h3; cases x with
   | none => rfl
   | some _ => cases h3
 ·cases hx : vals[V.s]? with
  | none => rw [hx] at h4; cases h4
  | some x => rw [hx] at h4; cases x with
   | none => rfl
   | some _ => cases h4
 ·have h9 := List.all_eq_true.1 h8 j' (List.mem_range.2 (List.getElem?_eq_some_iff.1 hj').1)
  simp only [hj', Bool.or_eq_true, beq_iff_eq, Bool.and_eq_true, bne_iff_ne, ne_eq] at h9
  rcases h9 with h9 | h9
  ·exact absurd h9 hne
  ·exact ⟨h9.1.1.1, h9.1.1.2, h9.1.2, h9.2⟩
def VarF.At (V : VarF) (b : Nat) (w : World) : Bool → Prop
 | true => ∃ cs : List Value, cs.length = V.m ∧ cs.all (·.oneCell') = true ∧ w.heap[b]? = some (.cells cs.toArray V.T (0,0)) ∧ V.f.Of w (aggV cs)
 | false => w.heap[b]? = some (.cells V.zs.toArray V.T (0,0))
theorem VarF.At.grow {V : VarF} {b : Nat} {w w' : World} {done : Bool} (h : V.At b w done) (hb : b < w.heap.size) (g : Grow w w') : V.At b w' done := by
 cases done with
 | true => obtain ⟨cs, h1, h2, h3, h4⟩ := h; exact ⟨cs, h1, h2, by rw [g.block _ hb]; exact h3, h4.grow g⟩
 | false => exact (g.block _ hb).trans h
theorem VarF.At.wrote {V : VarF} {b B' T g : Nat} {w w' : World} {done : Bool} (h : V.At b w done) (hne : b ≠ g) (hb : b < w.heap.size) (k : Wrote B' T g w w') (hs : Surv B' T g V.f) : V.At b w' done := by
 cases done with
 | true => obtain ⟨cs, h1, h2, h3, h4⟩ := h; exact ⟨cs, h1, h2, (k.other b hb hne).trans h3, hs _ _ _ k h4⟩
 | false => exact (k.other b hb hne).trans h
structure InvF (κ : Cx) (n B : Nat) (ops : Array Oper) (vals : List (Option D)) (vs : List VarF) (E0 : Env) (w1 : World) (listed : Array Bool) (a : Act) (w : World) : Prop where
 base : B ≤ w1.heap.size
 bel : Below w1.heap.size w1 w
 defers : a.defers = κ.df
 size : a.tmps.size = n
 facts : ∀ t d, E0.look t = some d → d.OfB w1.heap.size w (a.tmps.getD t undef)
 lsize : listed.size = ops.size
 got : ∀ (i : Nat) (o : Oper) (t : Nat) (v : D), ops[i]? = some o → listed.getD i false = true → o.dst = some t → vals[i]? = some (some v) → v.Of w (a.tmps.getD t undef) ∧ SurvF vs B v
 cl : ∀ (j : Nat) (V : VarF), vs[j]? = some V → listed.getD V.s false = true → listed.getD V.a false = true
 var : ∃ bs : Nat → Nat, (∀ (j : Nat) (V : VarF), vs[j]? = some V → listed.getD V.a false = true → w1.heap.size ≤ bs j ∧ bs j < w.heap.size ∧ a.tmps.getD V.t undef = .pointer (some ⟨bs j, 0, none⟩) ∧ V.At (bs j) w (listed.getD V.s false)) ∧
  ∀ (j j' : Nat) (V V' : VarF), vs[j]? = some V → vs[j']? = some V' → listed.getD V.a false = true → listed.getD V'.a false = true → j ≠ j' → bs j ≠ bs j'
theorem InvF.st {w1 : World} {listed : Array Bool} {a : Act} {w : World} (I : InvF κ n B ops vals vs E0 w1 listed a w) : St κ n B E0 a w :=
 ⟨Nat.le_trans I.base I.bel.size, I.defers, I.size, fun t d hl => D.OfB.up (I.facts t d hl) I.bel.size⟩
theorem setF_self {listed : Array Bool} {i : Nat} (h : i < listed.size) : (listed.setIfInBounds i true).getD i false = true := by simp [h]
theorem wp_varsF (hn0 : n ≤ vbase) (hfit : fits n ops = true) (hd : downsN ops = true) (hv : varsOkF ops vals vs = true) (hn : Kofs P B ops vals vs E0 0 ops.toList) (hsv : ∀ V ∈ vs, SurvF vs B V.f) {w1 : World}
  (hQ : ∀ l a' w', InvF κ n B ops vals vs E0 w1 l a' w' → (∀ i, i < ops.size → l.getD i false = true) → Q .normal a' w') :
  ∀ (fuel : Nat) (listed : Array Bool) (a : Act) (w : World), unlisted ops listed ≤ fuel → InvF κ n B ops vals vs E0 w1 listed a w → wpAnyIn (FR κ.rd) 0 P .any ops Q fuel listed a w := by
 have hmin : ∀ (listed : Array Bool), listed.size = ops.size → Region.ready .any ops listed = [] → ∀ i, i < ops.size → listed.getD i false = true := by
  intro listed hl hr i
  induction i using Nat.strongRecOn with
  | _ i ih =>
   intro hi
   rcases hb : listed.getD i false with _ | _
   ·exfalso
    have hdi := (downs_get hd (Array.getElem?_eq_getElem hi)).2.1
    have : i ∈ Region.ready .any ops listed := by
     rw [mem_ready]
     refine ⟨?_, ops[i], Array.getElem?_eq_getElem hi, fun e he hbd => ih e.on (hdi e he hbd) (Nat.lt_trans (hdi e he hbd) hi)⟩
     have : i < listed.size := by rw [hl]; exact hi
     simp [this] at hb ⊢
     exact hb
    rw [hr] at this
    cases this
   ·rfl
 intro fuel
 induction fuel with
 | zero =>
  intro listed a w hc I
  have hr : Region.ready .any ops listed = [] := by
   rcases hr : Region.ready .any ops listed with _ | ⟨i, l⟩
   ·rfl
   ·exfalso
    have hi : i ∈ Region.ready .any ops listed := by rw [hr]; exact List.mem_cons_self
    obtain ⟨hu, o, ho, _⟩ := mem_ready.1 hi
    have hpos : 0 < unlisted ops listed := List.countP_pos_iff.2 ⟨i, List.mem_range.2 (Array.getElem?_eq_some_iff.1 ho).1, by simp only [hu]; rfl⟩
    omega
  exact ⟨hr, hQ listed a w I (hmin listed I.lsize hr)⟩
 | succ fuel ih =>
  intro listed a w hc I
  refine ⟨fun hr => hQ listed a w I (hmin listed I.lsize hr), fun i hi => ?_⟩
  obtain ⟨hu, o, ho, hall⟩ := mem_ready.1 hi
  have hlt : i < ops.size := (Array.getElem?_eq_some_iff.1 ho).1
  have hli : i < listed.size := by rw [I.lsize]; exact hlt
  have huf : listed.getD i false = false := by
   have h1 : listed.getD i true = false := hu
   simp [hli] at h1 ⊢
   exact h1
  have hk := hn.nth (i := i) (o := o) (by simpa using ho)
  rw [Nat.zero_add] at hk
  obtain ⟨hg, _, hdis⟩ := downs_get hd ho
  have hst : ∀ {E : Env}, FromF ops vals E0 o E → ∀ t d, E.look t = some d → d.Of w (a.tmps.getD t undef) := fun {E} h => by
   induction h with
   | nil => intro t d hl; cases hl
   | all => exact fun t d hl => D.OfB.up (I.facts t d hl) I.bel.size
   | @op s v E j he hdj hvj _ ih =>
    intro t d hl
    by_cases hts : s = t
    ·subst hts; rw [look_here] at hl; injection hl with hl; subst hl
     obtain ⟨e, he1, he2⟩ := Array.any_eq_true'.1 he
     simp only [Bool.and_eq_true, beq_iff_eq] at he2
     have hl := hall e he1 he2.1
     rw [he2.2] at hl
     cases hq : ops[j]? with
     | none => rw [hq] at hdj; cases hdj
     | some q =>
      rw [hq] at hdj
      exact (I.got j q _ _ hq hl hdj hvj).1
    ·rw [look_past _ _ hts] at hl; exact ih t d hl
  have hE : ∀ {E : Env}, FromF ops vals E0 o E → St κ n B E a w := fun h => ⟨Nat.le_trans I.base I.bel.size, I.defers, I.size, fun t d hl => hst h t d hl⟩
  refine wpOpR_step ho fun K hK => ?_
  rw [if_pos (by simp [Region.wanted, hg])]
  have hcl : unlisted ops (listed.setIfInBounds i true) ≤ fuel := by
   have : unlisted ops (listed.setIfInBounds i true) < unlisted ops listed := by
    refine countP_lt (x := i) (fun y hy => ?_) (List.mem_range.2 hlt) (by simp only [hu]; rfl) ?_
    ·by_cases hyi : i = y
     ·subst hyi
      simp [hli] at hy
     ·rw [getD_set_ne true hyi] at hy; exact hy
    ·simp [hli]
   omega
  have hset : ∀ j, (listed.setIfInBounds i true).getD j false = true → j = i ∨ listed.getD j false = true := fun j hj => by
   by_cases hji : i = j
   ·exact .inl hji.symm
   ·rw [getD_set_ne false hji] at hj; exact .inr hj
  have hfar : ∀ j, j ≠ i → (listed.setIfInBounds i true).getD j false = listed.getD j false := fun j hj => getD_set_ne false (fun h => hj h.symm)
  obtain ⟨bs, hb1, hb2⟩ := I.var
  cases hk with
  | @pure _ t v E hvi hdt h0 hf hsd hok =>
   have htn : t < n := (fits_mem hfit (o := o) (by simpa using Array.mem_of_getElem? ho)).2 t hdt
   have hnot : ∀ (j : Nat) (V : VarF), vs[j]? = some V → V.a ≠ i ∧ V.s ≠ i ∧ V.t ≠ t := fun j V hj => by
    obtain ⟨h1, h2, h3, _⟩ := varsOkF_get hv hj
    have hai : V.a ≠ i := fun e => by rw [e, hvi] at h2; cases h2
    refine ⟨hai, fun e => (by rw [e, hvi] at h3; cases h3), fun e => ?_⟩
    cases hq : ops[V.a]? with
    | none => rw [hq] at h1; cases h1
    | some q =>
     rw [hq] at h1
     exact hdis V.a q hq hai (by rw [hdt]; simp) (by rw [hdt, show q.dst = some V.t from h1, e])
   have hs := hE hf
   refine wp_of_out hdt ((hok a.eval w hs.base (hs.virt hn0) fun x _ u hu => hs.at_ x _ hu).mono ?_)
   rintro x w' ⟨hgr, hx⟩
   refine hK _ _ (ih _ _ _ hcl ⟨I.base, I.bel.trans (Below.mono hgr I.bel.size), I.defers, by simp [Act.put, I.size], fun s d hs' => ?_, by simp [I.lsize], fun j q s u hj hl hds hvs => ?_, fun j V hj hl => ?_, bs, fun j V hj hl => ?_, fun j j' V V' hj hj' hl hl' => ?_⟩)
   ·have hts : t ≠ s := fun e => by subst e; rw [h0] at hs'; cases hs'
    rw [getD_put_past _ _ hts]; exact (I.facts s d hs').keep (Below.mono hgr I.bel.size)
   ·by_cases hji : j = i
    ·subst hji
     rw [ho] at hj; injection hj with hj; subst hj
     rw [hdt] at hds; injection hds with hds; subst hds
     rw [hvi] at hvs; injection hvs with hvs; injection hvs with hvs; subst hvs
     rw [getD_put_here _ _ (by rw [I.size]; exact htn)]
     exact ⟨hx, hsd⟩
    ·rw [hfar _ hji] at hl
     have hne : t ≠ s := fun he => hdis j q hj hji (by rw [hdt]; simp) (by rw [hdt, hds, he])
     rw [getD_put_past _ _ hne]
     obtain ⟨g1, g2⟩ := I.got j q s u hj hl hds hvs
     exact ⟨g1.grow hgr, g2⟩
   ·obtain ⟨h1, h2, _⟩ := hnot j V hj
    rw [hfar _ h2] at hl
    rw [hfar _ h1]; exact I.cl j V hj hl
   ·obtain ⟨h1, h2, h3⟩ := hnot j V hj
    rw [hfar _ h1] at hl
    obtain ⟨g1, g2, g3, g4⟩ := hb1 j V hj hl
    rw [hfar _ h2]
    exact ⟨g1, Nat.lt_of_lt_of_le g2 hgr.size, by rw [getD_put_past _ _ (fun e => h3 e.symm)]; exact g3, g4.grow g2 hgr⟩
   ·rw [hfar _ (hnot j V hj).1] at hl
    rw [hfar _ (hnot j' V' hj').1] at hl'
    exact hb2 j j' V V' hj hj' hl hl'
  | @alloc t T ty pos after V j0 hV ha hT ht hz h0 =>
   subst ha hT ht
   have hds := (varsOkF_get hv hV).2.2.2.2.2.2
   have hns : V.s ≠ V.a := fun e => (varsOkF_get hv hV).2.2.2.2.2.1 e.symm
   have htn : V.t < n := (fits_mem hfit (o := ⟨some V.t, .alloc V.T, ty, pos, after, none⟩) (by simpa using Array.mem_of_getElem? ho)).2 V.t rfl
   have hrun : (execOp a.eval ⟨some V.t, .alloc V.T, ty, pos, after, none⟩).run P w = .ok (.value (.pointer (some ⟨w.heap.size, 0, none⟩))) (w.alloc (.cells V.zs.toArray V.T)) := by
    obtain ⟨i, z, hi, hz, hc⟩ := hz.get
    simp [execOp, Instr.alloc, zeroValue, typeInfo, hi, hz, newVar, newRow, hc]
   refine opR (not_defer hrun) ?_
   unfold Oper.wp
   rw [hrun, Oper.upon_value]
   have hgr : Grow w (w.alloc (.cells V.zs.toArray V.T)) := Grow.alloc w _
   have hlt1 : w.heap.size < (w.alloc (.cells V.zs.toArray V.T)).heap.size := by simp
   have hother : ∀ (j : Nat) (V' : VarF), vs[j]? = some V' → j ≠ j0 → V'.a ≠ V.a ∧ V'.s ≠ V.a ∧ V'.t ≠ V.t := fun j V' hj hne => by
    obtain ⟨h1, h2, h3, h4⟩ := hds j V' hj (fun e => hne e.symm)
    refine ⟨fun e => h1 e.symm, fun e => h3 e.symm, fun e => ?_⟩
    obtain ⟨g1, _⟩ := varsOkF_get hv hj
    cases hq : ops[V'.a]? with
    | none => rw [hq] at g1; cases g1
    | some q =>
     rw [hq] at g1
     exact hdis V'.a q hq (fun e => h1 e.symm) (by simp) (by rw [show q.dst = some V'.t from g1, e])
   have hsu : listed.getD V.s false = false := by
    rcases hb : listed.getD V.s false with _ | _
    ·rfl
    ·rw [I.cl j0 V hV hb] at huf; cases huf
   refine hK _ _ (ih _ _ _ hcl ⟨I.base, I.bel.trans (Below.mono hgr I.bel.size), I.defers, by simp [Act.put, I.size], fun s d hs' => ?_, by simp [I.lsize], fun j q s u hj hl hds hvs => ?_, fun j V' hj hl => ?_, fun j => if j = j0 then w.heap.size else bs j, fun j V' hj hl => ?_, fun j j' V' V'' hj hj' hl hl' hne => ?_⟩)
   ·have hts : V.t ≠ s := fun e => by subst e; rw [h0] at hs'; cases hs'
    rw [getD_put_past _ _ hts]; exact (I.facts s d hs').keep (Below.mono hgr I.bel.size)
   ·have hji : j ≠ V.a := fun e => by
     subst e
     rw [(varsOkF_get hv hV).2.1] at hvs; cases hvs
    rw [hfar _ hji] at hl
    have hne : V.t ≠ s := fun he => hdis j q hj hji (by simp) (by rw [hds, he])
    rw [getD_put_past _ _ hne]
    obtain ⟨g1, g2⟩ := I.got j q s u hj hl hds hvs
    exact ⟨g1.grow hgr, g2⟩
   ·by_cases hj0 : j = j0
    ·subst hj0; rw [hV] at hj; injection hj with hj; subst hj
     exact setF_self hli
    ·obtain ⟨h1, h2, _⟩ := hother j V' hj hj0
     rw [hfar _ h2] at hl
     rw [hfar _ h1]; exact I.cl j V' hj hl
   ·by_cases hj0 : j = j0
    ·subst hj0; rw [hV] at hj; injection hj with hj; subst hj
     dsimp only
     rw [if_pos rfl, hfar _ hns, hsu]
     exact ⟨I.bel.size, hlt1, by rw [getD_put_here _ _ (by rw [I.size]; exact htn)], by simpa [VarF.At] using heap_alloc_new w _⟩
    ·obtain ⟨h1, h2, h3⟩ := hother j V' hj hj0
     rw [hfar _ h1] at hl
     obtain ⟨g1, g2, g3, g4⟩ := hb1 j V' hj hl
     dsimp only
     rw [if_neg hj0, hfar _ h2]
     exact ⟨g1, Nat.lt_of_lt_of_le g2 hgr.size, by rw [getD_put_past _ _ (fun e => h3 e.symm)]; exact g3, g4.grow g2 hgr⟩
   ·show (if j = j0 then w.heap.size else bs j) ≠ if j' = j0 then w.heap.size else bs j'
    by_cases hj0 : j = j0
    ·rw [if_pos hj0, if_neg (fun e => hne (by rw [hj0, e]))]
     rw [hfar _ (hother j' V'' hj' (fun e => hne (by rw [hj0, e]))).1] at hl'
     have := (hb1 j' V'' hj' hl').2.1
     omega
    ·rw [if_neg hj0]
     rw [hfar _ (hother j V' hj hj0).1] at hl
     by_cases hj0' : j' = j0
     ·rw [if_pos hj0']
      have := (hb1 j V' hj hl).2.1
      omega
     ·rw [if_neg hj0']
      rw [hfar _ (hother j' V'' hj' hj0').1] at hl'
      exact hb2 j j' V' V'' hj hj' hl hl' hne
  | @store t T ty x pos after V dx j0 E hV hs hT ht he hf hx hle hsz hl0 hag =>
   subst hs hT ht
   have hds := (varsOkF_get hv hV).2.2.2.2.2.2
   have hna : V.a ≠ V.s := (varsOkF_get hv hV).2.2.2.2.2.1
   have hla : listed.getD V.a false = true := by
    obtain ⟨e, he1, he2⟩ := Array.any_eq_true'.1 he
    simp only [Bool.and_eq_true, beq_iff_eq] at he2
    have hl := hall e he1 he2.1
    rwa [he2.2] at hl
   obtain ⟨g1, g2, g3, g4⟩ := hb1 j0 V hV hla
   rw [huf] at g4
   have g4 : w.heap[bs j0]? = some (.cells V.zs.toArray V.T (0,0)) := g4
   have hp' : a.eval (.tmp V.t) = .pointer (some ⟨bs j0,0, none⟩) := g3
   have hfx := hle.of ((hE hf).at_ x _ hx)
   obtain ⟨cs, hx', hcm, h1⟩ := hag _ _ _ hfx
   have hVm : V ∈ vs := List.mem_of_getElem? hV
   have hrun : (execOp a.eval ⟨none, .store V.T (.tmp V.t) x, ty, pos, after, none⟩).run P w = .ok .skip (w.setRow (bs j0) cs.toArray) := by
    have := run_storeVar_row (P := P) w (bs j0) V.T V.T V.zs.toArray cs.toArray g4 (by simpa [SizeIs, hcm] using hsz) (by simpa [hcm] using hl0) (by simpa using h1)
    simp [execOp, hp', hx', Instr.storeAt, Instr.sureAddr, aggV, this]
   refine opR (by nofun) ?_
   unfold Oper.wp
   rw [hrun, Oper.upon_skip]
   have hput : a.put (none : Option Tmp) undef = a := rfl
   try rw [hput]
   have hwr := Wrote.setRow (B := w1.heap.size) g1 g4 cs.toArray
   have hbw : Below w1.heap.size w (w.setRow (bs j0) cs.toArray) := hwr.below I.bel.size
   have hsame : ∀ k, k ≠ bs j0 → (w.setRow (bs j0) cs.toArray).heap[k]? = w.heap[k]? := fun k hk => setRow_other w (bs j0) k cs.toArray hk
   have hhere : (w.setRow (bs j0) cs.toArray).heap[bs j0]? = some (.cells cs.toArray V.T (0,0)) := by simp [World.setRow, Array.getElem?_modify, g4]
   have hsz' : (w.setRow (bs j0) cs.toArray).heap.size = w.heap.size := by simp [World.setRow]
   have hother : ∀ (j : Nat) (V' : VarF), vs[j]? = some V' → j ≠ j0 → V'.a ≠ V.s ∧ V'.s ≠ V.s := fun j V' hj hne => by
    obtain ⟨h1, h2, h3, h4⟩ := hds j V' hj (fun e => hne e.symm)
    exact ⟨fun e => h4 e.symm, fun e => h2 e.symm⟩
   refine hK _ _ (ih _ _ _ hcl ⟨I.base, I.bel.trans hbw, I.defers, I.size, fun s d hs' => (I.facts s d hs').keep hbw, by simp [I.lsize], fun j q s u hj hl hds hvs => ?_, fun j V' hj hl => ?_, bs, fun j V' hj hl => ?_, fun j j' V' V'' hj hj' hl hl' hne => ?_⟩)
   ·have hji : j ≠ V.s := fun e => by
     subst e
     rw [(varsOkF_get hv hV).2.2.1] at hvs; cases hvs
    rw [hfar _ hji] at hl
    obtain ⟨k1, k2⟩ := I.got j q s u hj hl hds hvs
    exact ⟨k2 V hVm w1.heap.size (bs j0) (Nat.le_trans I.base g1) _ _ _ hwr k1, k2⟩
   ·by_cases hj0 : j = j0
    ·subst hj0; rw [hV] at hj; injection hj with hj; subst hj
     rw [hfar _ hna]; exact hla
    ·obtain ⟨h1, h2⟩ := hother j V' hj hj0
     rw [hfar _ h2] at hl
     rw [hfar _ h1]; exact I.cl j V' hj hl
   ·by_cases hj0 : j = j0
    ·subst hj0; rw [hV] at hj; injection hj with hj; subst hj
     rw [setF_self hli]
     rw [hx'] at hfx
     exact ⟨g1, by rw [hsz']; exact g2, g3, cs, hcm, h1, hhere, hsv V hVm V hVm w1.heap.size _ (Nat.le_trans I.base g1) _ _ _ hwr hfx⟩
    ·obtain ⟨h1, h2⟩ := hother j V' hj hj0
     rw [hfar _ h1] at hl
     obtain ⟨k1, k2, k3, k4⟩ := hb1 j V' hj hl
     rw [hfar _ h2]
     exact ⟨k1, by rw [hsz']; exact k2, k3, k4.wrote (hb2 j j0 V' V hj hV hl hla hj0) k2 hwr (hsv V' (List.mem_of_getElem? hj) V hVm w1.heap.size (bs j0) (Nat.le_trans I.base g1))⟩
   ·have e1 : ∀ {j : Nat} {V' : VarF}, vs[j]? = some V' → (listed.setIfInBounds V.s true).getD V'.a false = true → listed.getD V'.a false = true := fun {j V'} hj hl => by
     by_cases hj0 : j = j0
     ·subst hj0; rw [hV] at hj; injection hj with hj; subst hj; exact hla
     ·rwa [hfar _ (hother j V' hj hj0).1] at hl
    exact hb2 j j' V' V'' hj hj' (e1 hj hl) (e1 hj' hl') hne
def varEnvF (bs : Nat → Nat) : Nat → List VarF → Env → Env
 | _, [], E => E
 | j, V :: r, E => (V.t, .v (.pointer (some ⟨bs j, 0, none⟩))) :: (1000000 + V.t, varK (bs j) V.T V.m V.f) :: varEnvF bs (j + 1) r E
theorem varEnvF_look {bs : Nat → Nat} {E : Env} {t : Nat} {d : D} : ∀ {l : List VarF} {j : Nat}, (varEnvF bs j l E).look t = some d → (∃ k V, l[k]? = some V ∧ ((t = V.t ∧ d = .v (.pointer (some ⟨bs (j + k), 0, none⟩))) ∨ (t = 1000000 + V.t ∧ d = varK (bs (j + k)) V.T V.m V.f))) ∨ E.look t = some d
 | [], _, h => .inr h
 | V :: r, j, h => by
  unfold varEnvF at h
  by_cases h1 : V.t = t
  ·subst h1; rw [look_here] at h; injection h with h
   exact .inl ⟨0, V, rfl, .inl ⟨rfl, h.symm⟩⟩
  ·rw [look_past _ _ h1] at h
   by_cases h2 : 1000000 + V.t = t
   ·subst h2; rw [look_here] at h; injection h with h
    exact .inl ⟨0, V, rfl, .inr ⟨rfl, h.symm⟩⟩
   ·rw [look_past _ _ h2] at h
    rcases varEnvF_look h with ⟨k, V', h3, h4⟩ | h3
    ·exact .inl ⟨k + 1, V', by simpa using h3, by rw [show j + (k + 1) = j + 1 + k from by omega]; exact h4⟩
    ·exact .inr h3
theorem A.regsVF {w₀ : World} {y : Code} {E1 : Env} {id : Nat} (vals : List (Option D)) (vs : List VarF) (hm : P.follows .mixedOrders = true) (hfit : fits n ops = true) (hd : downsN ops = true) (hv : varsOkF ops vals vs = true) (hn : Kofs P w₀.heap.size ops vals vs E0 0 ops.toList) (hsv : ∀ V ∈ vs, SurvF vs w₀.heap.size V.f) (hf : FromFW ops vals E0 E1)
  (h : ∀ bs : Nat → Nat, (∀ j, j < vs.length → NewK w₀.heap.size E0 (bs j)) → (∀ j j', j < vs.length → j' < vs.length → j ≠ j' → bs j ≠ bs j') → A κ P w₀ n y (varEnvF bs 0 vs E1) Q) : A κ P w₀ n (.seq (.region id ops true) y) E0 Q := A.seq fun a w hg hst => by
 have hdr : Below w₀.heap.size w w.drew := (Below.refl _ w).drew
 have hn0 := fits_base hfit
 have hst' := hst.grow (Grow.refl w).drew
 have hfin : ∀ l a' w', InvF κ n w₀.heap.size ops vals vs E0 w.drew l a' w' → (∀ i, i < ops.size → l.getD i false = true) → Exit.then (y.wpIn (FR κ.rd) 0 P Q) Q .normal a' w' := fun l a' w' I hall => by
  have key : ∀ t d, E1.look t = some d → d.Of w' (a'.tmps.getD t undef) := by
   clear h
   induction hf with
   | all => exact I.st.of
   | @op s v E j hdj hvj _ ih =>
    intro t d hl
    by_cases hts : s = t
    ·subst hts; rw [look_here] at hl; injection hl with hl; subst hl
     cases hq : ops[j]? with
     | none => rw [hq] at hdj; cases hdj
     | some q =>
      rw [hq] at hdj
      exact (I.got j q _ _ hq (hall j (Array.getElem?_eq_some_iff.1 hq).1) hdj hvj).1
    ·rw [look_past _ _ hts] at hl; exact ih t d hl
  obtain ⟨bs, hb1, hb2⟩ := I.var
  have hla : ∀ (j : Nat) (V : VarF), vs[j]? = some V → l.getD V.a false = true := fun j V hj => hall _ (varsOkF_get hv hj).2.2.2.1
  have hls : ∀ (j : Nat) (V : VarF), vs[j]? = some V → l.getD V.s false = true := fun j V hj => hall _ (varsOkF_get hv hj).2.2.2.2.1
  refine h bs (fun j hj => ?_) (fun j j' hj hj' hne => hb2 j j' _ _ (List.getElem?_eq_getElem hj) (List.getElem?_eq_getElem hj') (hla _ _ (List.getElem?_eq_getElem hj)) (hla _ _ (List.getElem?_eq_getElem hj')) hne) a' w' (hg.trans (hdr.trans (Below.mono I.bel I.base))) ⟨Nat.le_trans I.base I.bel.size, I.defers, I.size, fun t d hl => ?_⟩
  ·have hk := (hb1 j _ (List.getElem?_eq_getElem hj) (hla _ _ (List.getElem?_eq_getElem hj))).1
   exact ⟨Nat.le_trans I.base hk, fun s b' e xs hs => Nat.lt_of_lt_of_le (hst'.of s _ hs).1 hk, fun s b' e m d hs => Nat.lt_of_lt_of_le (hst'.of s _ hs).1 hk⟩
  ·rcases varEnvF_look hl with ⟨k, V, hk, hd'⟩ | hl
   ·rw [Nat.zero_add] at hd'
    obtain ⟨g1, g2, g3, g4⟩ := hb1 k V hk (hla k V hk)
    rw [hls k V hk] at g4
    rcases hd' with ⟨rfl, rfl⟩ | ⟨rfl, rfl⟩
    ·exact g3
    ·exact ⟨g2, g4⟩
   ·exact key t d hl
 refine wpIn_region_any hm (wp_varsF hn0 hfit hd hv hn hsv hfin _ _ _ _ ?_ ⟨hst'.base, Below.refl _ _, hst'.defers, hst'.size, fun t d hl => hst'.of t d hl, by simp, fun i o t v hi hl => ?_, fun j V hj hl => ?_, fun _ => 0, fun j V hj hl => ?_, fun j j' V V' hj _ hl => ?_⟩)
 ·refine Nat.le_trans List.countP_le_length ?_
  simp
 ·simp [(Array.getElem?_eq_some_iff.1 hi).1] at hl
 ·simp [(varsOkF_get hv hj).2.2.2.2.1] at hl
 ·simp [(varsOkF_get hv hj).2.2.2.1] at hl
 ·simp [(varsOkF_get hv hj).2.2.2.1] at hl
theorem FromF.more {vals : List (Option D)} {o : Oper} {E : Env} {pre : List (Option D)} (hp : ∀ (j : Nat) (v : Option D), pre[j]? = some v → vals[j]? = some v) (h : FromF ops pre E0 o E) : FromF ops vals E0 o E := by
 induction h with
 | nil => exact .nil
 | all => exact .all
 | op j he hd hv _ ih => exact .op j he hd (hp _ _ hv) ih
def KofsK (P : Program) (B : Nat) (ops : Array Oper) (vs : List VarF) (E0 : Env) (rest : List Oper) (pre : List (Option D)) (C : List (Option D) → Prop) : Prop :=
 ∃ vals : List (Option D), (∀ (j : Nat) (v : Option D), pre[j]? = some v → vals[j]? = some v) ∧ Kofs P B ops vals vs E0 pre.length rest ∧ C vals
theorem KofsK.nil {pre : List (Option D)} {C : List (Option D) → Prop} (h : C pre) : KofsK P B ops vs E0 [] pre C := ⟨pre, fun _ _ h => h, .nil, h⟩
theorem KofsK.pure {o : Oper} {rest : List Oper} {pre : List (Option D)} {C : List (Option D) → Prop} {t : Nat} {v : D} (E : Env) (hd : o.dst = some t) (h0 : E0.look t = none) (hf : FromF ops pre E0 o E) (hok : OpOk P B o E v) (hs : SurvF vs B v)
  (hr : KofsK P B ops vs E0 rest (pre ++ [some v]) C) : KofsK P B ops vs E0 (o :: rest) pre C := by
 obtain ⟨vals, h1, h2, h3⟩ := hr
 obtain ⟨h4, h5⟩ := pre_snoc h1
 exact ⟨vals, h4, .cons (.pure E h5 hd h0 (hf.more h4) hs hok) (by simpa using h2), h3⟩
theorem KofsK.alloc {rest : List Oper} {pre : List (Option D)} {C : List (Option D) → Prop} {t : Tmp} {T ty : TypeId} {pos : String} {after : Array Edge} {V : VarF} (j : Nat) (hV : vs[j]? = some V) (ha : V.a = pre.length) (hT : V.T = T) (ht : V.t = t) (hz : ZeroIs P T V.zs) (h0 : E0.look t = none)
  (hr : KofsK P B ops vs E0 rest (pre ++ [none]) C) : KofsK P B ops vs E0 (⟨some t, .alloc T, ty, pos, after, none⟩ :: rest) pre C := by
 obtain ⟨vals, h1, h2, h3⟩ := hr
 obtain ⟨h4, _⟩ := pre_snoc h1
 exact ⟨vals, h4, .cons (.alloc j hV ha hT ht hz h0) (by simpa using h2), h3⟩
theorem KofsK.store {rest : List Oper} {pre : List (Option D)} {C : List (Option D) → Prop} {t T ty : TypeId} {x : Operand} {pos : String} {after : Array Edge} {V : VarF} {dx : D} (j : Nat) (E : Env) (hV : vs[j]? = some V) (hs : V.s = pre.length) (hT : V.T = T) (ht : V.t = t) (he : (after.any fun e => Region.binds .any e && e.on == V.a) = true)
  (hf : FromF ops pre E0 ⟨none, .store T (.tmp t) x, ty, pos, after, none⟩ E) (hx : E.at x = some dx) (hle : Le dx V.f) (hsz : SizeIs P T V.m) (hl : V.zs.length = V.m) (h1 : Agg V.m V.f)
  (hr : KofsK P B ops vs E0 rest (pre ++ [none]) C) : KofsK P B ops vs E0 (⟨none, .store T (.tmp t) x, ty, pos, after, none⟩ :: rest) pre C := by
 obtain ⟨vals, g1, g2, g3⟩ := hr
 obtain ⟨g4, _⟩ := pre_snoc g1
 exact ⟨vals, g4, .cons (.store j E hV hs hT ht he (hf.more g4) hx hle hsz hl h1) (by simpa using g2), g3⟩
theorem SurvF.nil {vs : List VarF} {P : VarF → Prop} (h : vs = []) : ∀ V ∈ vs, P V := fun V hV => by subst h; cases hV
theorem SurvF.cons {V : VarF} {vs : List VarF} {Q : VarF → Prop} (h : Q V) (hr : ∀ W ∈ vs, Q W) : ∀ W ∈ V :: vs, Q W := fun W hW => by
 rcases List.mem_cons.1 hW with rfl | hW
 ·exact h
 ·exact hr W hW
theorem A.regsF {w₀ : World} {y : Code} {id : Nat} (vs : List VarF) (hm : P.follows .mixedOrders = true) (hfit : fits n ops = true) (hd : downsN ops = true) (hsv : ∀ V ∈ vs, SurvF vs w₀.heap.size V.f)
  (h : KofsK P w₀.heap.size ops vs E0 ops.toList [] fun vals => varsOkF ops vals vs = true ∧ ∃ E1, FromFW ops vals E0 E1 ∧ ∀ bs : Nat → Nat, (∀ j, j < vs.length → NewK w₀.heap.size E0 (bs j)) → (∀ j j', j < vs.length → j' < vs.length → j ≠ j' → bs j ≠ bs j') → A κ P w₀ n y (varEnvF bs 0 vs E1) Q) : A κ P w₀ n (.seq (.region id ops true) y) E0 Q := by
 obtain ⟨vals, _, h2, h3, E1, h4, h5⟩ := h
 exact A.regsVF vals vs hm hfit hd h3 h2 hsv h4 h5
end
end
section
theorem tot24 : ∀ n, n < 25 → tot n (hg n + 1) < 20 := by decide
theorem mT_20 (k : UInt8) (q : List P2) (S : List UInt8) : (mT k q S).length < 20 := by rw [mT_len]; exact tot24 _ (by have := mN2 k; omega)
theorem down_dwn (x : Int) (n : Nat) (ad : Addr) (T : List NodT) (hT : FitT T) (c : Nat) (ht : Tree n T) (h20 : T.length < 20) : FnM Tryz.prog 94 (trO (some ad) T) [.v (aggV [.int .i64 x, .slice (some ad) T.length c])] (rowD (dwn n T (hg n + 1)).length (nodsV (dwn n T (hg n + 1)))) := by
 have hp : 0 < T.length := by rw [ht.len]; exact tot_pos ht.h1
 have h := down_fn x ad T hT c (by omega) hp (fun h => absurd h (by omega))
 rw [sfF_dwn ht.lev ht.len hp h20] at h
 have e : (dwn n T (hg n + 1)).length = T.length := by rw [dwn_length, ht.len]
 rw [e]; exact h
theorem mT_last (k : UInt8) (q : List P2) (S : List UInt8) : (mT k q S).length = tot (mN k) (hg (mN k)) + 1 := by
 rw [mT_len, un_top (mN1 k) (mN4 k)]
set_option maxHeartbeats 4000000 in
theorem MDif_a (k : UInt8) (q : List P2) (S : List UInt8) (k' : UInt8) (q' : List P2) (S' : List UInt8) (hk : mN k ≠ mN k')  : FnM Tryz.prog 8 tabE [mD k q S, mD k' q' S'] (.v (.bool true)) := by
 refine FnM.of Tryz.func8 rfl (by kernel_rfl) Tryz.ntmps8 (by simp) (by decide) (fun w => [(0, old w.heap.size (mD k q S)), (1, old w.heap.size (mD k' q' S')), (1900000, tabH 0 ([errT])), (1900001, tab 1 (sizV)), (1900002, tab 2 (H8.list.map u32V)), (1900003, tab 3 (K64.map u32V))]) (fun w => (StartM.old rfl (StartM.old rfl (StartM.m (by simp [tabE]) (by decide) (StartM.m (by simp [tabE]) (by decide) (StartM.m (by simp [tabE]) (by decide) (StartM.m (by simp [tabE]) (by decide) StartM.nil))))))) fun w₀ hM => ?_
 have htab := tabE_hi hM
 refine A.openM (t := 0) (k₁ := 1000721) (k₂ := 1000722) rfl fun A₁ c₁ A₂ c₂ => ?_
 refine A.openM (t := 1) (k₁ := 1000711) (k₂ := 1000712) rfl fun B₁ d₁ B₂ d₂ => ?_
 have hTl := mT_len k q S
 have hWl := mT_len k' q' S'
 have hT20 := mT_20 k q S
 have hW20 := mT_20 k' q' S'
 have hTz := mT_last k q S
 have hWz := mT_last k' q' S'
 refine GS (TN 0 (RN ?_));refine ZB 1000002 rfl fun b2 ⟨hBb2, hb2⟩ => ?_
 refine TN 1 (RN ?_);refine ZB 1000003 rfl fun b3 ⟨hBb3, hb3⟩ => ?_
 have hlt_b2_b3 := hb3 1000002 b2 _ _ rfl
 refine TL (RVN 1 rfl ?_);refine A.regsF [⟨4,5,32, [.int .i64 0] ++ [.slice none 0 0], 6,2, newQ w₀.heap.size 57 (fun b c => aggV [nI (mN k), .slice (some ⟨b, 0, none⟩) (tot (mN k) (hg (mN k) + 1)) c]) (tot (mN k) (hg (mN k) + 1)) (nodsV (mT k q S))⟩, ⟨5,6,32, [.int .i64 0] ++ [.slice none 0 0], 7,2, newQ w₀.heap.size 57 (fun b c => aggV [nI (mN k'), .slice (some ⟨b, 0, none⟩) (tot (mN k') (hg (mN k') + 1)) c]) (tot (mN k') (hg (mN k') + 1)) (nodsV (mT k' q' S'))⟩] (by kernel_rfl) (by kernel_rfl) (by kernel_rfl) (SurvF.cons (SurvF.cons (fun B' g hg => (show Surv B' 32 g _ from Surv.newQ (by decide))) (SurvF.cons (fun B' g hg => (show Surv B' 32 g _ from Surv.newQ (by decide))) (SurvF.nil rfl))) (SurvF.cons (SurvF.cons (fun B' g hg => (show Surv B' 32 g _ from Surv.newQ (by decide))) (SurvF.cons (fun B' g hg => (show Surv B' 32 g _ from Surv.newQ (by decide))) (SurvF.nil rfl))) (SurvF.nil rfl))) ?_;refine KofsK.pure (_) rfl rfl FromF.all (ok_loadA (s := 1000002) (by decide) U25 rfl (size25.of (rfl)) rfl rfl) (SurvF.cons (fun B' g hg => (show Surv B' 32 g _ from Surv.v _)) (SurvF.cons (fun B' g hg => (show Surv B' 32 g _ from Surv.v _)) (SurvF.nil rfl))) ?_;refine KofsK.pure ((11, _) :: _) rfl rfl (FromF.op 0 (by kernel_rfl) rfl rfl FromF.all) (ok_callMBK (MTree_fnB k q S A₁ A₂ c₁ c₂) newQ_mono (SubK.cons (k := 1000721) (by decide) rfl Le.unold (SubK.cons (k := 1000722) (by decide) rfl Le.unold SubK.nil)) (A1 rfl)) (SurvF.cons (fun B' g hg => (show Surv B' 32 g _ from Surv.newQ (by decide))) (SurvF.cons (fun B' g hg => (show Surv B' 32 g _ from Surv.newQ (by decide))) (SurvF.nil rfl))) ?_;refine KofsK.pure (_) rfl rfl FromF.all (ok_loadA (s := 1000003) (by decide) U25 rfl (size25.of (rfl)) rfl rfl) (SurvF.cons (fun B' g hg => (show Surv B' 32 g _ from Surv.v _)) (SurvF.cons (fun B' g hg => (show Surv B' 32 g _ from Surv.v _)) (SurvF.nil rfl))) ?_;refine KofsK.pure ((13, _) :: _) rfl rfl (FromF.op 2 (by kernel_rfl) rfl rfl FromF.all) (ok_callMBK (MTree_fnB k' q' S' B₁ B₂ d₁ d₂) newQ_mono (SubK.cons (k := 1000711) (by decide) rfl Le.unold (SubK.cons (k := 1000712) (by decide) rfl Le.unold SubK.nil)) (A1 rfl)) (SurvF.cons (fun B' g hg => (show Surv B' 32 g _ from Surv.newQ (by decide))) (SurvF.cons (fun B' g hg => (show Surv B' 32 g _ from Surv.newQ (by decide))) (SurvF.nil rfl))) ?_;refine KofsK.alloc 0 rfl rfl rfl rfl zero32 rfl ?_;refine KofsK.alloc 1 rfl rfl rfl rfl zero32 rfl ?_;refine KofsK.store 0 ((12, _) :: _) rfl rfl rfl rfl (by kernel_rfl) (FromF.op 1 (by kernel_rfl) rfl rfl FromF.all) rfl (Le.refl _) size32 rfl (Agg.newQ fun _ _ => ⟨_, rfl, rfl, rfl⟩) ?_;refine KofsK.store 1 ((14, _) :: _) rfl rfl rfl rfl (by kernel_rfl) (FromF.op 3 (by kernel_rfl) rfl rfl FromF.all) rfl (Le.refl _) size32 rfl (Agg.newQ fun _ _ => ⟨_, rfl, rfl, rfl⟩) ?_;refine KofsK.nil ⟨by kernel_rfl, _, FromFW.all, fun bs hbs hds => ?_⟩
 have hb5 := hbs 0 (by simp)
 have hb6 := hbs 1 (by simp)
 have hne_b5_b6 := hds 0 1 (by simp) (by simp) (by decide)
 dsimp only [varEnvF]
 generalize bs 0 = b5 at *
 generalize bs (0 + 1) = b6 at *
 have hBb5 := hb5.1
 have hlt_b2_b5 : b2 < b5 := hb5.2.1 1000002 _ _ _ rfl
 have hlt_b3_b5 : b3 < b5 := hb5.2.1 1000003 _ _ _ rfl
 have hBb6 := hb6.1
 have hlt_b2_b6 : b2 < b6 := hb6.2.1 1000002 _ _ _ rfl
 have hlt_b3_b6 : b3 < b6 := hb6.2.1 1000003 _ _ _ rfl
 refine A.sub (Sv [5,6,1000002,1000003,1000005,1000006,1000711,1000712,1000721,1000722,1900000,1900001,1900002,1900003] rfl) ?_;refine A.openVarQ (k := 1000005) (k' := 1000905) rfl fun g5 q5 y5 hBg5 hq5 => ?_
 refine A.openVarQ (k := 1000006) (k' := 1000906) rfl fun g6 q6 y6 hBg6 hq6 => ?_
 refine GT (RL 1000005 U32 rfl rfl (size32.of (rfl)) ?_);refine RZ (aggV [nI (mN k), .slice (some ⟨g5,0, none⟩) (mT k q S).length q5]) (by rw [hTl]) ?_;refine RL 1000006 U32 rfl rfl (size32.of (rfl)) ?_;refine RZ (aggV [nI (mN k'), .slice (some ⟨g6,0, none⟩) (mT k' q' S').length q6]) (by rw [hWl]) ?_;refine RS (ok_callMK (Differ_arg (mN k) ⟨g5,0, none⟩ (mT k q S) (mT_fit k q S) q5 (mT_tree k q S) (mN k') ⟨g6,0, none⟩ (mT k' q' S') (mT_fit k' q' S') q6  (mT_tree k' q' S') hk) (SubK.app (SubK.of (Sub.cons rfl (Sub.cons rfl (Sub.cons rfl (Sub.cons rfl KN)))) tabE_v) (SubK.cons (k := 1000905) (by decide) rfl Le.blkR (SubK.cons (k := 1000906) (by decide) rfl Le.blkR SubK.nil))) (A2 rfl rfl)) ?_;refine RVN 7 rfl ?_;refine QS (GT (RS (ok_field field32_0 (by decide) rfl) ?_));refine RLV 1000005 U3 rfl rfl rfl ?_;refine RS (ok_field field32_0 (by decide) rfl) ?_;refine RLV 1000006 U3 rfl rfl rfl ?_;refine RB rfl rfl rfl ?_;refine RZ (.bool true) (congrArg Value.bool (by simp; omega)) ?_;refine RN (A.yes rfl ?_);refine GT (RV 2 rfl ?_);refine RT ?_;refine RV 2 rfl ?_;refine RQ (ok_lenV U23 rfl) ?_;refine RQ (ok_move rfl) ?_;refine RQ (ok_lenV U23 rfl) ?_;refine RV 2 rfl ?_;refine RT ?_;refine RP rfl rfl ?_;refine RT ?_;refine RM rfl ?_;refine RQ (ok_callMK lives16_fn (SubK.of (Sub.cons rfl (Sub.cons rfl (Sub.cons rfl (Sub.cons rfl KN)))) tabE_v) Args.nil) ?_;refine RP rfl rfl ?_;refine RT ?_;refine RVN 1 rfl ?_;refine A.sub (Sv [4,1000002,1000003,1000005,1000006,1000711,1000712,1000721,1000722,1000905,1000906,1900000,1900001,1900002,1900003] rfl) ?_;refine A.ret (End.ret_then ?_);exact End.ret1 rfl rfl (Le.refl _)
set_option maxHeartbeats 4000000 in
theorem MDif_b (k : UInt8) (q : List P2) (S : List UInt8) (k' : UInt8) (q' : List P2) (S' : List UInt8) (hk : mN k' = mN k) (he : (mT k q S) = (mT k' q' S'))  : FnM Tryz.prog 8 tabE [mD k q S, mD k' q' S'] (.v (.bool true)) := by
 refine FnM.of Tryz.func8 rfl (by kernel_rfl) Tryz.ntmps8 (by simp) (by decide) (fun w => [(0, old w.heap.size (mD k q S)), (1, old w.heap.size (mD k' q' S')), (1900000, tabH 0 ([errT])), (1900001, tab 1 (sizV)), (1900002, tab 2 (H8.list.map u32V)), (1900003, tab 3 (K64.map u32V))]) (fun w => (StartM.old rfl (StartM.old rfl (StartM.m (by simp [tabE]) (by decide) (StartM.m (by simp [tabE]) (by decide) (StartM.m (by simp [tabE]) (by decide) (StartM.m (by simp [tabE]) (by decide) StartM.nil))))))) fun w₀ hM => ?_
 have htab := tabE_hi hM
 refine A.openM (t := 0) (k₁ := 1000721) (k₂ := 1000722) rfl fun A₁ c₁ A₂ c₂ => ?_
 refine A.openM (t := 1) (k₁ := 1000711) (k₂ := 1000712) rfl fun B₁ d₁ B₂ d₂ => ?_
 have hTl := mT_len k q S
 have hWl := mT_len k' q' S'
 have hT20 := mT_20 k q S
 have hW20 := mT_20 k' q' S'
 have hTz := mT_last k q S
 have hWz := mT_last k' q' S'
 have hh := hg_le (mN k)
 have hTot := hTl.symm.trans hTz
 have hwt := (hk ▸ mT_tree k' q' S' : Tree (mN k) (mT k' q' S'))
 have hWn : (mT k' q' S').length = tot (mN k) (hg (mN k)) + 1 := by rw [hWz, hk]
 have hl1 := ((mT_tree k q S).fit (l := hg (mN k)) (j := 0) (Nat.le_refl _) (un_pos (mN1 k) _)).1
 have hl2 := (hwt.fit (l := hg (mN k)) (j := 0) (Nat.le_refl _) (un_pos (mN1 k) _)).1
 rw [Nat.add_zero] at hl1 hl2
 refine GS (TN 0 (RN ?_));refine ZB 1000002 rfl fun b2 ⟨hBb2, hb2⟩ => ?_
 refine TN 1 (RN ?_);refine ZB 1000003 rfl fun b3 ⟨hBb3, hb3⟩ => ?_
 have hlt_b2_b3 := hb3 1000002 b2 _ _ rfl
 refine TL (RVN 1 rfl ?_);refine A.regsF [⟨4,5,32, [.int .i64 0] ++ [.slice none 0 0], 6,2, newQ w₀.heap.size 57 (fun b c => aggV [nI (mN k), .slice (some ⟨b, 0, none⟩) (tot (mN k) (hg (mN k) + 1)) c]) (tot (mN k) (hg (mN k) + 1)) (nodsV (mT k q S))⟩, ⟨5,6,32, [.int .i64 0] ++ [.slice none 0 0], 7,2, newQ w₀.heap.size 57 (fun b c => aggV [nI (mN k'), .slice (some ⟨b, 0, none⟩) (tot (mN k') (hg (mN k') + 1)) c]) (tot (mN k') (hg (mN k') + 1)) (nodsV (mT k' q' S'))⟩] (by kernel_rfl) (by kernel_rfl) (by kernel_rfl) (SurvF.cons (SurvF.cons (fun B' g hg => (show Surv B' 32 g _ from Surv.newQ (by decide))) (SurvF.cons (fun B' g hg => (show Surv B' 32 g _ from Surv.newQ (by decide))) (SurvF.nil rfl))) (SurvF.cons (SurvF.cons (fun B' g hg => (show Surv B' 32 g _ from Surv.newQ (by decide))) (SurvF.cons (fun B' g hg => (show Surv B' 32 g _ from Surv.newQ (by decide))) (SurvF.nil rfl))) (SurvF.nil rfl))) ?_;refine KofsK.pure (_) rfl rfl FromF.all (ok_loadA (s := 1000002) (by decide) U25 rfl (size25.of (rfl)) rfl rfl) (SurvF.cons (fun B' g hg => (show Surv B' 32 g _ from Surv.v _)) (SurvF.cons (fun B' g hg => (show Surv B' 32 g _ from Surv.v _)) (SurvF.nil rfl))) ?_;refine KofsK.pure ((11, _) :: _) rfl rfl (FromF.op 0 (by kernel_rfl) rfl rfl FromF.all) (ok_callMBK (MTree_fnB k q S A₁ A₂ c₁ c₂) newQ_mono (SubK.cons (k := 1000721) (by decide) rfl Le.unold (SubK.cons (k := 1000722) (by decide) rfl Le.unold SubK.nil)) (A1 rfl)) (SurvF.cons (fun B' g hg => (show Surv B' 32 g _ from Surv.newQ (by decide))) (SurvF.cons (fun B' g hg => (show Surv B' 32 g _ from Surv.newQ (by decide))) (SurvF.nil rfl))) ?_;refine KofsK.pure (_) rfl rfl FromF.all (ok_loadA (s := 1000003) (by decide) U25 rfl (size25.of (rfl)) rfl rfl) (SurvF.cons (fun B' g hg => (show Surv B' 32 g _ from Surv.v _)) (SurvF.cons (fun B' g hg => (show Surv B' 32 g _ from Surv.v _)) (SurvF.nil rfl))) ?_;refine KofsK.pure ((13, _) :: _) rfl rfl (FromF.op 2 (by kernel_rfl) rfl rfl FromF.all) (ok_callMBK (MTree_fnB k' q' S' B₁ B₂ d₁ d₂) newQ_mono (SubK.cons (k := 1000711) (by decide) rfl Le.unold (SubK.cons (k := 1000712) (by decide) rfl Le.unold SubK.nil)) (A1 rfl)) (SurvF.cons (fun B' g hg => (show Surv B' 32 g _ from Surv.newQ (by decide))) (SurvF.cons (fun B' g hg => (show Surv B' 32 g _ from Surv.newQ (by decide))) (SurvF.nil rfl))) ?_;refine KofsK.alloc 0 rfl rfl rfl rfl zero32 rfl ?_;refine KofsK.alloc 1 rfl rfl rfl rfl zero32 rfl ?_;refine KofsK.store 0 ((12, _) :: _) rfl rfl rfl rfl (by kernel_rfl) (FromF.op 1 (by kernel_rfl) rfl rfl FromF.all) rfl (Le.refl _) size32 rfl (Agg.newQ fun _ _ => ⟨_, rfl, rfl, rfl⟩) ?_;refine KofsK.store 1 ((14, _) :: _) rfl rfl rfl rfl (by kernel_rfl) (FromF.op 3 (by kernel_rfl) rfl rfl FromF.all) rfl (Le.refl _) size32 rfl (Agg.newQ fun _ _ => ⟨_, rfl, rfl, rfl⟩) ?_;refine KofsK.nil ⟨by kernel_rfl, _, FromFW.all, fun bs hbs hds => ?_⟩
 have hb5 := hbs 0 (by simp)
 have hb6 := hbs 1 (by simp)
 have hne_b5_b6 := hds 0 1 (by simp) (by simp) (by decide)
 dsimp only [varEnvF]
 generalize bs 0 = b5 at *
 generalize bs (0 + 1) = b6 at *
 have hBb5 := hb5.1
 have hlt_b2_b5 : b2 < b5 := hb5.2.1 1000002 _ _ _ rfl
 have hlt_b3_b5 : b3 < b5 := hb5.2.1 1000003 _ _ _ rfl
 have hBb6 := hb6.1
 have hlt_b2_b6 : b2 < b6 := hb6.2.1 1000002 _ _ _ rfl
 have hlt_b3_b6 : b3 < b6 := hb6.2.1 1000003 _ _ _ rfl
 refine A.sub (Sv [5,6,1000002,1000003,1000005,1000006,1000711,1000712,1000721,1000722,1900000,1900001,1900002,1900003] rfl) ?_;refine A.openVarQ (k := 1000005) (k' := 1000905) rfl fun g5 q5 y5 hBg5 hq5 => ?_
 refine A.openVarQ (k := 1000006) (k' := 1000906) rfl fun g6 q6 y6 hBg6 hq6 => ?_
 refine GT (RL 1000005 U32 rfl rfl (size32.of (rfl)) ?_);refine RZ (aggV [nI (mN k), .slice (some ⟨g5,0, none⟩) (mT k q S).length q5]) (by rw [hTl]) ?_;refine RL 1000006 U32 rfl rfl (size32.of (rfl)) ?_;refine RZ (aggV [nI (mN k), .slice (some ⟨g6,0, none⟩) (mT k' q' S').length q6]) (by rw [hWl, hk]) ?_;refine RS (ok_callMK (Differ_no (mN k) ⟨g5,0, none⟩ (mT k q S) (mT_fit k q S) q5 (mT_tree k q S) ⟨g6,0, none⟩ (mT k' q' S') (mT_fit k' q' S') q6  (hk ▸ mT_tree k' q' S' : Tree (mN k) (mT k' q' S')) (by rw [he]) (dwn (mN k) (mT k q S) (hg (mN k) + 1)) (dwn (mN k) (mT k' q' S') (hg (mN k) + 1)) (dwn_fit (mT_fit k q S) _) (dwn_fit (mT_fit k' q' S') _) (by rw [dwn_length, ← hTl]; omega) (down_dwn _ (mN k) _ _ (mT_fit k q S) _ (mT_tree k q S) (mT_20 k q S)) (down_dwn _ (mN k) _ _ (mT_fit k' q' S') _ (hk ▸ mT_tree k' q' S' : Tree (mN k) (mT k' q' S')) (mT_20 k' q' S')) (fun i _ _ => by rw [he])) (SubK.app (SubK.of (Sub.cons rfl (Sub.cons rfl (Sub.cons rfl (Sub.cons rfl KN)))) tabE_v) (SubK.cons (k := 1000905) (by decide) rfl Le.blkR (SubK.cons (k := 1000906) (by decide) rfl Le.blkR SubK.nil))) (A2 rfl rfl)) ?_;refine RVN 7 rfl ?_;refine QS (GT (RS (ok_field field32_0 (by decide) rfl) ?_));refine RLV 1000005 U3 rfl rfl rfl ?_;refine RS (ok_field field32_0 (by decide) rfl) ?_;refine RLV 1000006 U3 rfl rfl rfl ?_;refine RB rfl rfl rfl ?_;refine RZ (.bool false) (congrArg Value.bool (by simp [hk])) ?_;refine RN (A.no rfl ?_);refine QK (GT (RS (ok_field field32_1 (by decide) rfl) ?_));refine RLV 1000005 U30 rfl rfl rfl ?_;refine RS (ok_lenV U30 rfl) ?_;refine RB rfl rfl rfl ?_;refine RZ (nI (tot (mN k) (hg (mN k)))) (wrap_eq (by omega) (by omega)) ?_;refine RVN 1 rfl ?_;refine QS (GTD (RS (ok_field field32_1 (by decide) rfl) ?_));refine RLV 1000005 U30 rfl rfl rfl ?_;refine RS (ok_field field32_1 (by decide) rfl) ?_;refine RLV 1000005 U30 rfl rfl rfl ?_;refine RS (ok_lenV U30 rfl) ?_;refine RS (ok_field field32_1 (by decide) rfl) ?_;refine RLV 1000005 U30 rfl rfl rfl ?_;refine RS (ok_lenV U30 rfl) ?_;refine RS (ok_slice3N (tot (mN k) (hg (mN k) + 1)) (tot (mN k) (hg (mN k) + 1)) U30 infoN rfl rfl rfl (Nat.le_refl _) (by omega) (by omega)) ?_;refine RZ (.slice (some ⟨g5,0, none⟩) (mT k q S).length (mT k q S).length) (by rw [hTl]) ?_;refine RS (ok_field field32_1 (by decide) rfl) ?_;refine RS (ok_loadV (s := 1000006) (by decide) U30 rfl rfl rfl (rfl)) ?_;refine RZ (.slice (some ⟨g6,0, none⟩) (mT k' q' S').length q6) (by rw [hWl]) ?_;refine RS (ok_callMK (same16_fn (some ⟨g5,0, none⟩) (some ⟨g6,0, none⟩) (mT k q S) (mT k' q' S') (mT_fit k q S) (mT_fit k' q' S') (mT k q S).length q6 (by omega)) (SubK.cons (k := 1000905) (by decide) rfl Le.blkR (SubK.cons (k := 1000906) (by decide) rfl Le.blkR SubK.nil)) (A2 rfl rfl)) ?_;refine RZ (.int .i64 1) (congrArg (Value.int .i64) (smE_y (by rw [he]) rfl fun _ _ => by rw [he])) ?_;refine RB rfl rfl rfl ?_;refine RT ?_;refine RV 15 rfl ?_;refine RT ?_
 refine RN (A.sub (Sv [7,8,9,71,1000002,1000003,1000005,1000006,1000711,1000712,1000721,1000722,1000905,1000906,1900000,1900001,1900002,1900003] rfl) ?_);refine A.yes rfl ?_;refine GT (RV 2 rfl ?_);refine RT ?_;refine RV 2 rfl ?_;refine RQ (ok_lenV U23 rfl) ?_;refine RQ (ok_move rfl) ?_;refine RQ (ok_lenV U23 rfl) ?_;refine RV 2 rfl ?_;refine RT ?_;refine RP rfl rfl ?_;refine RT ?_;refine RM rfl ?_;refine RQ (ok_callMK lives16_fn (SubK.of (Sub.cons rfl (Sub.cons rfl (Sub.cons rfl (Sub.cons rfl KN)))) tabE_v) Args.nil) ?_;refine RP rfl rfl ?_;refine RT ?_;refine RVN 1 rfl ?_;refine A.ret (End.ret_then ?_);exact End.ret1 rfl rfl (Le.refl _)
set_option maxHeartbeats 4000000 in
theorem MDif_c (k : UInt8) (q : List P2) (S : List UInt8) (k' : UInt8) (q' : List P2) (S' : List UInt8) (hk : mN k' = mN k) (he : (mT k q S) ≠ (mT k' q' S')) (hr : (sha (ndAt (mT k q S) (tot (mN k) (hg (mN k)))).bl) ≠ (sha (ndAt (mT k' q' S') (tot (mN k) (hg (mN k)))).bl))  : FnM Tryz.prog 8 tabE [mD k q S, mD k' q' S'] (.v (.bool true)) := by
 refine FnM.of Tryz.func8 rfl (by kernel_rfl) Tryz.ntmps8 (by simp) (by decide) (fun w => [(0, old w.heap.size (mD k q S)), (1, old w.heap.size (mD k' q' S')), (1900000, tabH 0 ([errT])), (1900001, tab 1 (sizV)), (1900002, tab 2 (H8.list.map u32V)), (1900003, tab 3 (K64.map u32V))]) (fun w => (StartM.old rfl (StartM.old rfl (StartM.m (by simp [tabE]) (by decide) (StartM.m (by simp [tabE]) (by decide) (StartM.m (by simp [tabE]) (by decide) (StartM.m (by simp [tabE]) (by decide) StartM.nil))))))) fun w₀ hM => ?_
 have htab := tabE_hi hM
 refine A.openM (t := 0) (k₁ := 1000721) (k₂ := 1000722) rfl fun A₁ c₁ A₂ c₂ => ?_
 refine A.openM (t := 1) (k₁ := 1000711) (k₂ := 1000712) rfl fun B₁ d₁ B₂ d₂ => ?_
 have hTl := mT_len k q S
 have hWl := mT_len k' q' S'
 have hT20 := mT_20 k q S
 have hW20 := mT_20 k' q' S'
 have hTz := mT_last k q S
 have hWz := mT_last k' q' S'
 have hh := hg_le (mN k)
 have hTot := hTl.symm.trans hTz
 have hwt := (hk ▸ mT_tree k' q' S' : Tree (mN k) (mT k' q' S'))
 have hWn : (mT k' q' S').length = tot (mN k) (hg (mN k)) + 1 := by rw [hWz, hk]
 have hl1 := ((mT_tree k q S).fit (l := hg (mN k)) (j := 0) (Nat.le_refl _) (un_pos (mN1 k) _)).1
 have hl2 := (hwt.fit (l := hg (mN k)) (j := 0) (Nat.le_refl _) (un_pos (mN1 k) _)).1
 rw [Nat.add_zero] at hl1 hl2
 refine GS (TN 0 (RN ?_));refine ZB 1000002 rfl fun b2 ⟨hBb2, hb2⟩ => ?_
 refine TN 1 (RN ?_);refine ZB 1000003 rfl fun b3 ⟨hBb3, hb3⟩ => ?_
 have hlt_b2_b3 := hb3 1000002 b2 _ _ rfl
 refine TL (RVN 1 rfl ?_);refine A.regsF [⟨4,5,32, [.int .i64 0] ++ [.slice none 0 0], 6,2, newQ w₀.heap.size 57 (fun b c => aggV [nI (mN k), .slice (some ⟨b, 0, none⟩) (tot (mN k) (hg (mN k) + 1)) c]) (tot (mN k) (hg (mN k) + 1)) (nodsV (mT k q S))⟩, ⟨5,6,32, [.int .i64 0] ++ [.slice none 0 0], 7,2, newQ w₀.heap.size 57 (fun b c => aggV [nI (mN k'), .slice (some ⟨b, 0, none⟩) (tot (mN k') (hg (mN k') + 1)) c]) (tot (mN k') (hg (mN k') + 1)) (nodsV (mT k' q' S'))⟩] (by kernel_rfl) (by kernel_rfl) (by kernel_rfl) (SurvF.cons (SurvF.cons (fun B' g hg => (show Surv B' 32 g _ from Surv.newQ (by decide))) (SurvF.cons (fun B' g hg => (show Surv B' 32 g _ from Surv.newQ (by decide))) (SurvF.nil rfl))) (SurvF.cons (SurvF.cons (fun B' g hg => (show Surv B' 32 g _ from Surv.newQ (by decide))) (SurvF.cons (fun B' g hg => (show Surv B' 32 g _ from Surv.newQ (by decide))) (SurvF.nil rfl))) (SurvF.nil rfl))) ?_;refine KofsK.pure (_) rfl rfl FromF.all (ok_loadA (s := 1000002) (by decide) U25 rfl (size25.of (rfl)) rfl rfl) (SurvF.cons (fun B' g hg => (show Surv B' 32 g _ from Surv.v _)) (SurvF.cons (fun B' g hg => (show Surv B' 32 g _ from Surv.v _)) (SurvF.nil rfl))) ?_;refine KofsK.pure ((11, _) :: _) rfl rfl (FromF.op 0 (by kernel_rfl) rfl rfl FromF.all) (ok_callMBK (MTree_fnB k q S A₁ A₂ c₁ c₂) newQ_mono (SubK.cons (k := 1000721) (by decide) rfl Le.unold (SubK.cons (k := 1000722) (by decide) rfl Le.unold SubK.nil)) (A1 rfl)) (SurvF.cons (fun B' g hg => (show Surv B' 32 g _ from Surv.newQ (by decide))) (SurvF.cons (fun B' g hg => (show Surv B' 32 g _ from Surv.newQ (by decide))) (SurvF.nil rfl))) ?_;refine KofsK.pure (_) rfl rfl FromF.all (ok_loadA (s := 1000003) (by decide) U25 rfl (size25.of (rfl)) rfl rfl) (SurvF.cons (fun B' g hg => (show Surv B' 32 g _ from Surv.v _)) (SurvF.cons (fun B' g hg => (show Surv B' 32 g _ from Surv.v _)) (SurvF.nil rfl))) ?_;refine KofsK.pure ((13, _) :: _) rfl rfl (FromF.op 2 (by kernel_rfl) rfl rfl FromF.all) (ok_callMBK (MTree_fnB k' q' S' B₁ B₂ d₁ d₂) newQ_mono (SubK.cons (k := 1000711) (by decide) rfl Le.unold (SubK.cons (k := 1000712) (by decide) rfl Le.unold SubK.nil)) (A1 rfl)) (SurvF.cons (fun B' g hg => (show Surv B' 32 g _ from Surv.newQ (by decide))) (SurvF.cons (fun B' g hg => (show Surv B' 32 g _ from Surv.newQ (by decide))) (SurvF.nil rfl))) ?_;refine KofsK.alloc 0 rfl rfl rfl rfl zero32 rfl ?_;refine KofsK.alloc 1 rfl rfl rfl rfl zero32 rfl ?_;refine KofsK.store 0 ((12, _) :: _) rfl rfl rfl rfl (by kernel_rfl) (FromF.op 1 (by kernel_rfl) rfl rfl FromF.all) rfl (Le.refl _) size32 rfl (Agg.newQ fun _ _ => ⟨_, rfl, rfl, rfl⟩) ?_;refine KofsK.store 1 ((14, _) :: _) rfl rfl rfl rfl (by kernel_rfl) (FromF.op 3 (by kernel_rfl) rfl rfl FromF.all) rfl (Le.refl _) size32 rfl (Agg.newQ fun _ _ => ⟨_, rfl, rfl, rfl⟩) ?_;refine KofsK.nil ⟨by kernel_rfl, _, FromFW.all, fun bs hbs hds => ?_⟩
 have hb5 := hbs 0 (by simp)
 have hb6 := hbs 1 (by simp)
 have hne_b5_b6 := hds 0 1 (by simp) (by simp) (by decide)
 dsimp only [varEnvF]
 generalize bs 0 = b5 at *
 generalize bs (0 + 1) = b6 at *
 have hBb5 := hb5.1
 have hlt_b2_b5 : b2 < b5 := hb5.2.1 1000002 _ _ _ rfl
 have hlt_b3_b5 : b3 < b5 := hb5.2.1 1000003 _ _ _ rfl
 have hBb6 := hb6.1
 have hlt_b2_b6 : b2 < b6 := hb6.2.1 1000002 _ _ _ rfl
 have hlt_b3_b6 : b3 < b6 := hb6.2.1 1000003 _ _ _ rfl
 refine A.sub (Sv [5,6,1000002,1000003,1000005,1000006,1000711,1000712,1000721,1000722,1900000,1900001,1900002,1900003] rfl) ?_;refine A.openVarQ (k := 1000005) (k' := 1000905) rfl fun g5 q5 y5 hBg5 hq5 => ?_
 refine A.openVarQ (k := 1000006) (k' := 1000906) rfl fun g6 q6 y6 hBg6 hq6 => ?_
 refine GT (RL 1000005 U32 rfl rfl (size32.of (rfl)) ?_);refine RZ (aggV [nI (mN k), .slice (some ⟨g5,0, none⟩) (mT k q S).length q5]) (by rw [hTl]) ?_;refine RL 1000006 U32 rfl rfl (size32.of (rfl)) ?_;refine RZ (aggV [nI (mN k), .slice (some ⟨g6,0, none⟩) (mT k' q' S').length q6]) (by rw [hWl, hk]) ?_;refine RS (ok_callMK (Differ_none (mN k) ⟨g5,0, none⟩ (mT k q S) (mT_fit k q S) q5 (mT_tree k q S) ⟨g6,0, none⟩ (mT k' q' S') (mT_fit k' q' S') q6  (hk ▸ mT_tree k' q' S' : Tree (mN k) (mT k' q' S')) hr) (SubK.app (SubK.of (Sub.cons rfl (Sub.cons rfl (Sub.cons rfl (Sub.cons rfl KN)))) tabE_v) (SubK.cons (k := 1000905) (by decide) rfl Le.blkR (SubK.cons (k := 1000906) (by decide) rfl Le.blkR SubK.nil))) (A2 rfl rfl)) ?_;refine RVN 7 rfl ?_;refine QS (GT (RS (ok_field field32_0 (by decide) rfl) ?_));refine RLV 1000005 U3 rfl rfl rfl ?_;refine RS (ok_field field32_0 (by decide) rfl) ?_;refine RLV 1000006 U3 rfl rfl rfl ?_;refine RB rfl rfl rfl ?_;refine RZ (.bool false) (congrArg Value.bool (by simp [hk])) ?_;refine RN (A.no rfl ?_);refine QK (GT (RS (ok_field field32_1 (by decide) rfl) ?_));refine RLV 1000005 U30 rfl rfl rfl ?_;refine RS (ok_lenV U30 rfl) ?_;refine RB rfl rfl rfl ?_;refine RZ (nI (tot (mN k) (hg (mN k)))) (wrap_eq (by omega) (by omega)) ?_;refine RVN 1 rfl ?_;refine QS (GTD (RS (ok_field field32_1 (by decide) rfl) ?_));refine RLV 1000005 U30 rfl rfl rfl ?_;refine RS (ok_field field32_1 (by decide) rfl) ?_;refine RLV 1000005 U30 rfl rfl rfl ?_;refine RS (ok_lenV U30 rfl) ?_;refine RS (ok_field field32_1 (by decide) rfl) ?_;refine RLV 1000005 U30 rfl rfl rfl ?_;refine RS (ok_lenV U30 rfl) ?_;refine RS (ok_slice3N (tot (mN k) (hg (mN k) + 1)) (tot (mN k) (hg (mN k) + 1)) U30 infoN rfl rfl rfl (Nat.le_refl _) (by omega) (by omega)) ?_;refine RZ (.slice (some ⟨g5,0, none⟩) (mT k q S).length (mT k q S).length) (by rw [hTl]) ?_;refine RS (ok_field field32_1 (by decide) rfl) ?_;refine RS (ok_loadV (s := 1000006) (by decide) U30 rfl rfl rfl (rfl)) ?_;refine RZ (.slice (some ⟨g6,0, none⟩) (mT k' q' S').length q6) (by rw [hWl]) ?_;refine RS (ok_callMK (same16_fn (some ⟨g5,0, none⟩) (some ⟨g6,0, none⟩) (mT k q S) (mT k' q' S') (mT_fit k q S) (mT_fit k' q' S') (mT k q S).length q6 (by omega)) (SubK.cons (k := 1000905) (by decide) rfl Le.blkR (SubK.cons (k := 1000906) (by decide) rfl Le.blkR SubK.nil)) (A2 rfl rfl)) ?_;refine RZ (.int .i64 0) (congrArg (Value.int .i64) (if_neg fun hh => he hh.2)) ?_;refine RB rfl rfl rfl ?_;refine RF ?_;refine RM rfl ?_;refine RQ (ok_field field32_1 (by decide) rfl) ?_;refine RQ (ok_loadV (s := 1000005) (by decide) U30 rfl rfl rfl (rfl)) ?_;refine RQ (ok_move rfl) ?_;refine RQ (ok_indexS (tot (mN k) (hg (mN k))) U30 infoN rfl rfl rfl (by omega)) ?_;refine RQ (ok_loadP (s := 1000905) (by decide) U57 rfl size57 rfl rfl (by rw [List.length_append, nods_len (mT_fit k q S)]; omega) (nodsY_at (mT_fit k q S) _ (by omega))) ?_;refine RZ (aggV (ndAt (mT k q S) (tot (mN k) (hg (mN k)))).v) (by rfl) ?_
 refine RQ (ok_call (rDigest_fn (ndAt (mT k q S) (tot (mN k) (hg (mN k)))) ((mT_fit k q S).at _) (by rw [hl1]; omega)) (A1 rfl)) ?_;refine RQ (ok_field field32_1 (by decide) rfl) ?_;refine RQ (ok_loadV (s := 1000006) (by decide) U30 rfl rfl rfl (rfl)) ?_;refine RQ (ok_move rfl) ?_;refine RQ (ok_indexS (tot (mN k) (hg (mN k))) U30 infoN rfl rfl rfl (by omega)) ?_;refine RQ (ok_loadP (s := 1000906) (by decide) U57 rfl size57 rfl rfl (by rw [List.length_append, nods_len (mT_fit k' q' S')]; omega) (nodsY_at (mT_fit k' q' S') _ (by omega))) ?_;refine RZ (aggV (ndAt (mT k' q' S') (tot (mN k) (hg (mN k)))).v) (by rfl) ?_;refine RQ (ok_call (rDigest_fn (ndAt (mT k' q' S') (tot (mN k) (hg (mN k)))) ((mT_fit k' q' S').at _) (by rw [hl2]; omega)) (A1 rfl)) ?_;refine RQ (ok_neqT (n := 4) (decide ((sha (ndAt (mT k q S) (tot (mN k) (hg (mN k)))).bl) = (sha (ndAt (mT k' q' S') (tot (mN k) (hg (mN k)))).bl))) flat40r (by decide) (by kernel_rfl) (by kernel_rfl) rfl rfl (kinB (sha_length _)) (kinB (sha_length _)) (by rw [decide_eq_true_iff]; exact ⟨fun e => by rw [e], bytesV_inj⟩)) ?_;refine RZ (.bool true) (by rw [decide_eq_false hr]; rfl) ?_;refine RP rfl rfl ?_;refine RT ?_;refine RN (A.sub (Sv [7,8,9,71,1000002,1000003,1000005,1000006,1000711,1000712,1000721,1000722,1000905,1000906,1900000,1900001,1900002,1900003] rfl) ?_);refine A.yes rfl ?_;refine GT (RV 2 rfl ?_);refine RT ?_;refine RV 2 rfl ?_;refine RQ (ok_lenV U23 rfl) ?_;refine RQ (ok_move rfl) ?_;refine RQ (ok_lenV U23 rfl) ?_;refine RV 2 rfl ?_;refine RT ?_;refine RP rfl rfl ?_;refine RT ?_;refine RM rfl ?_;refine RQ (ok_callMK lives16_fn (SubK.of (Sub.cons rfl (Sub.cons rfl (Sub.cons rfl (Sub.cons rfl KN)))) tabE_v) Args.nil) ?_;refine RP rfl rfl ?_;refine RT ?_;refine RVN 1 rfl ?_;refine A.ret (End.ret_then ?_);exact End.ret1 rfl rfl (Le.refl _)
set_option maxHeartbeats 4000000 in
theorem MDif_d (k : UInt8) (q : List P2) (S : List UInt8) (k' : UInt8) (q' : List P2) (S' : List UInt8) (hk : mN k' = mN k) (he : (mT k q S) ≠ (mT k' q' S')) (hr : (sha (ndAt (mT k q S) (tot (mN k) (hg (mN k)))).bl) = (sha (ndAt (mT k' q' S') (tot (mN k) (hg (mN k)))).bl)) (j : Nat) (hj1 : j < (dwn (mN k) (mT k q S) (hg (mN k) + 1)).length) (hj2 : j < (dwn (mN k) (mT k' q' S') (hg (mN k) + 1)).length) (hj : ∀ i, i < j → ndAt (dwn (mN k) (mT k q S) (hg (mN k) + 1)) i = ndAt (dwn (mN k) (mT k' q' S') (hg (mN k) + 1)) i) (hne : (ndAt (dwn (mN k) (mT k q S) (hg (mN k) + 1)) j) ≠ (ndAt (dwn (mN k) (mT k' q' S') (hg (mN k) + 1)) j)) (hcT : (ndAt (dwn (mN k) (mT k q S) (hg (mN k) + 1)) j).ck = 0) (hcW : (ndAt (dwn (mN k) (mT k' q' S') (hg (mN k) + 1)) j).ck = 0) (hs : sha (ndAt (dwn (mN k) (mT k q S) (hg (mN k) + 1)) j).bl = sha (ndAt (dwn (mN k) (mT k' q' S') (hg (mN k) + 1)) j).bl)  : FnM Tryz.prog 8 tabE [mD k q S, mD k' q' S'] (.v (.bool true)) := by
 refine FnM.of Tryz.func8 rfl (by kernel_rfl) Tryz.ntmps8 (by simp) (by decide) (fun w => [(0, old w.heap.size (mD k q S)), (1, old w.heap.size (mD k' q' S')), (1900000, tabH 0 ([errT])), (1900001, tab 1 (sizV)), (1900002, tab 2 (H8.list.map u32V)), (1900003, tab 3 (K64.map u32V))]) (fun w => (StartM.old rfl (StartM.old rfl (StartM.m (by simp [tabE]) (by decide) (StartM.m (by simp [tabE]) (by decide) (StartM.m (by simp [tabE]) (by decide) (StartM.m (by simp [tabE]) (by decide) StartM.nil))))))) fun w₀ hM => ?_
 have htab := tabE_hi hM
 refine A.openM (t := 0) (k₁ := 1000721) (k₂ := 1000722) rfl fun A₁ c₁ A₂ c₂ => ?_
 refine A.openM (t := 1) (k₁ := 1000711) (k₂ := 1000712) rfl fun B₁ d₁ B₂ d₂ => ?_
 have hTl := mT_len k q S
 have hWl := mT_len k' q' S'
 have hT20 := mT_20 k q S
 have hW20 := mT_20 k' q' S'
 have hTz := mT_last k q S
 have hWz := mT_last k' q' S'
 have hh := hg_le (mN k)
 have hTot := hTl.symm.trans hTz
 have hwt := (hk ▸ mT_tree k' q' S' : Tree (mN k) (mT k' q' S'))
 have hWn : (mT k' q' S').length = tot (mN k) (hg (mN k)) + 1 := by rw [hWz, hk]
 have hl1 := ((mT_tree k q S).fit (l := hg (mN k)) (j := 0) (Nat.le_refl _) (un_pos (mN1 k) _)).1
 have hl2 := (hwt.fit (l := hg (mN k)) (j := 0) (Nat.le_refl _) (un_pos (mN1 k) _)).1
 rw [Nat.add_zero] at hl1 hl2
 refine GS (TN 0 (RN ?_));refine ZB 1000002 rfl fun b2 ⟨hBb2, hb2⟩ => ?_
 refine TN 1 (RN ?_);refine ZB 1000003 rfl fun b3 ⟨hBb3, hb3⟩ => ?_
 have hlt_b2_b3 := hb3 1000002 b2 _ _ rfl
 refine TL (RVN 1 rfl ?_);refine A.regsF [⟨4,5,32, [.int .i64 0] ++ [.slice none 0 0], 6,2, newQ w₀.heap.size 57 (fun b c => aggV [nI (mN k), .slice (some ⟨b, 0, none⟩) (tot (mN k) (hg (mN k) + 1)) c]) (tot (mN k) (hg (mN k) + 1)) (nodsV (mT k q S))⟩, ⟨5,6,32, [.int .i64 0] ++ [.slice none 0 0], 7,2, newQ w₀.heap.size 57 (fun b c => aggV [nI (mN k'), .slice (some ⟨b, 0, none⟩) (tot (mN k') (hg (mN k') + 1)) c]) (tot (mN k') (hg (mN k') + 1)) (nodsV (mT k' q' S'))⟩] (by kernel_rfl) (by kernel_rfl) (by kernel_rfl) (SurvF.cons (SurvF.cons (fun B' g hg => (show Surv B' 32 g _ from Surv.newQ (by decide))) (SurvF.cons (fun B' g hg => (show Surv B' 32 g _ from Surv.newQ (by decide))) (SurvF.nil rfl))) (SurvF.cons (SurvF.cons (fun B' g hg => (show Surv B' 32 g _ from Surv.newQ (by decide))) (SurvF.cons (fun B' g hg => (show Surv B' 32 g _ from Surv.newQ (by decide))) (SurvF.nil rfl))) (SurvF.nil rfl))) ?_;refine KofsK.pure (_) rfl rfl FromF.all (ok_loadA (s := 1000002) (by decide) U25 rfl (size25.of (rfl)) rfl rfl) (SurvF.cons (fun B' g hg => (show Surv B' 32 g _ from Surv.v _)) (SurvF.cons (fun B' g hg => (show Surv B' 32 g _ from Surv.v _)) (SurvF.nil rfl))) ?_;refine KofsK.pure ((11, _) :: _) rfl rfl (FromF.op 0 (by kernel_rfl) rfl rfl FromF.all) (ok_callMBK (MTree_fnB k q S A₁ A₂ c₁ c₂) newQ_mono (SubK.cons (k := 1000721) (by decide) rfl Le.unold (SubK.cons (k := 1000722) (by decide) rfl Le.unold SubK.nil)) (A1 rfl)) (SurvF.cons (fun B' g hg => (show Surv B' 32 g _ from Surv.newQ (by decide))) (SurvF.cons (fun B' g hg => (show Surv B' 32 g _ from Surv.newQ (by decide))) (SurvF.nil rfl))) ?_;refine KofsK.pure (_) rfl rfl FromF.all (ok_loadA (s := 1000003) (by decide) U25 rfl (size25.of (rfl)) rfl rfl) (SurvF.cons (fun B' g hg => (show Surv B' 32 g _ from Surv.v _)) (SurvF.cons (fun B' g hg => (show Surv B' 32 g _ from Surv.v _)) (SurvF.nil rfl))) ?_;refine KofsK.pure ((13, _) :: _) rfl rfl (FromF.op 2 (by kernel_rfl) rfl rfl FromF.all) (ok_callMBK (MTree_fnB k' q' S' B₁ B₂ d₁ d₂) newQ_mono (SubK.cons (k := 1000711) (by decide) rfl Le.unold (SubK.cons (k := 1000712) (by decide) rfl Le.unold SubK.nil)) (A1 rfl)) (SurvF.cons (fun B' g hg => (show Surv B' 32 g _ from Surv.newQ (by decide))) (SurvF.cons (fun B' g hg => (show Surv B' 32 g _ from Surv.newQ (by decide))) (SurvF.nil rfl))) ?_;refine KofsK.alloc 0 rfl rfl rfl rfl zero32 rfl ?_;refine KofsK.alloc 1 rfl rfl rfl rfl zero32 rfl ?_;refine KofsK.store 0 ((12, _) :: _) rfl rfl rfl rfl (by kernel_rfl) (FromF.op 1 (by kernel_rfl) rfl rfl FromF.all) rfl (Le.refl _) size32 rfl (Agg.newQ fun _ _ => ⟨_, rfl, rfl, rfl⟩) ?_;refine KofsK.store 1 ((14, _) :: _) rfl rfl rfl rfl (by kernel_rfl) (FromF.op 3 (by kernel_rfl) rfl rfl FromF.all) rfl (Le.refl _) size32 rfl (Agg.newQ fun _ _ => ⟨_, rfl, rfl, rfl⟩) ?_;refine KofsK.nil ⟨by kernel_rfl, _, FromFW.all, fun bs hbs hds => ?_⟩
 have hb5 := hbs 0 (by simp)
 have hb6 := hbs 1 (by simp)
 have hne_b5_b6 := hds 0 1 (by simp) (by simp) (by decide)
 dsimp only [varEnvF]
 generalize bs 0 = b5 at *
 generalize bs (0 + 1) = b6 at *
 have hBb5 := hb5.1
 have hlt_b2_b5 : b2 < b5 := hb5.2.1 1000002 _ _ _ rfl
 have hlt_b3_b5 : b3 < b5 := hb5.2.1 1000003 _ _ _ rfl
 have hBb6 := hb6.1
 have hlt_b2_b6 : b2 < b6 := hb6.2.1 1000002 _ _ _ rfl
 have hlt_b3_b6 : b3 < b6 := hb6.2.1 1000003 _ _ _ rfl
 refine A.sub (Sv [5,6,1000002,1000003,1000005,1000006,1000711,1000712,1000721,1000722,1900000,1900001,1900002,1900003] rfl) ?_;refine A.openVarQ (k := 1000005) (k' := 1000905) rfl fun g5 q5 y5 hBg5 hq5 => ?_
 refine A.openVarQ (k := 1000006) (k' := 1000906) rfl fun g6 q6 y6 hBg6 hq6 => ?_
 refine GT (RL 1000005 U32 rfl rfl (size32.of (rfl)) ?_);refine RZ (aggV [nI (mN k), .slice (some ⟨g5,0, none⟩) (mT k q S).length q5]) (by rw [hTl]) ?_;refine RL 1000006 U32 rfl rfl (size32.of (rfl)) ?_;refine RZ (aggV [nI (mN k), .slice (some ⟨g6,0, none⟩) (mT k' q' S').length q6]) (by rw [hWl, hk]) ?_;refine RS (ok_callMK (Differ_at (mN k) ⟨g5,0, none⟩ (mT k q S) (mT_fit k q S) q5 (mT_tree k q S) ⟨g6,0, none⟩ (mT k' q' S') (mT_fit k' q' S') q6  (hk ▸ mT_tree k' q' S' : Tree (mN k) (mT k' q' S')) hr (dwn (mN k) (mT k q S) (hg (mN k) + 1)) (dwn (mN k) (mT k' q' S') (hg (mN k) + 1)) (dwn_fit (mT_fit k q S) _) (dwn_fit (mT_fit k' q' S') _) (by rw [dwn_length, ← hTl]; omega) (down_dwn _ (mN k) _ _ (mT_fit k q S) _ (mT_tree k q S) (mT_20 k q S)) (down_dwn _ (mN k) _ _ (mT_fit k' q' S') _ (hk ▸ mT_tree k' q' S' : Tree (mN k) (mT k' q' S')) (mT_20 k' q' S')) j hj1 hj2 hj hne hcT hcW) (SubK.app (SubK.of (Sub.cons rfl (Sub.cons rfl (Sub.cons rfl (Sub.cons rfl KN)))) tabE_v) (SubK.cons (k := 1000905) (by decide) rfl Le.blkR (SubK.cons (k := 1000906) (by decide) rfl Le.blkR SubK.nil))) (A2 rfl rfl)) ?_;refine RM rfl ?_;refine RS (ok_extract rfl rfl) ?_;refine RS (ok_extract rfl rfl) ?_;refine RS (ok_extract rfl rfl) ?_;refine RVN 3 rfl ?_;refine QS (GT (RS (ok_field field32_0 (by decide) rfl) ?_));refine RLV 1000005 U3 rfl rfl rfl ?_;refine RS (ok_field field32_0 (by decide) rfl) ?_;refine RLV 1000006 U3 rfl rfl rfl ?_;refine RB rfl rfl rfl ?_;refine RZ (.bool false) (congrArg Value.bool (by simp [hk])) ?_;refine RN (A.no rfl ?_);refine QK (GT (RS (ok_field field32_1 (by decide) rfl) ?_));refine RLV 1000005 U30 rfl rfl rfl ?_;refine RS (ok_lenV U30 rfl) ?_;refine RB rfl rfl rfl ?_;refine RZ (nI (tot (mN k) (hg (mN k)))) (wrap_eq (by omega) (by omega)) ?_;refine RVN 1 rfl ?_;refine QS (GTD (RS (ok_field field32_1 (by decide) rfl) ?_));refine RLV 1000005 U30 rfl rfl rfl ?_;refine RS (ok_field field32_1 (by decide) rfl) ?_;refine RLV 1000005 U30 rfl rfl rfl ?_;refine RS (ok_lenV U30 rfl) ?_;refine RS (ok_field field32_1 (by decide) rfl) ?_;refine RLV 1000005 U30 rfl rfl rfl ?_;refine RS (ok_lenV U30 rfl) ?_;refine RS (ok_slice3N (tot (mN k) (hg (mN k) + 1)) (tot (mN k) (hg (mN k) + 1)) U30 infoN rfl rfl rfl (Nat.le_refl _) (by omega) (by omega)) ?_;refine RZ (.slice (some ⟨g5,0, none⟩) (mT k q S).length (mT k q S).length) (by rw [hTl]) ?_;refine RS (ok_field field32_1 (by decide) rfl) ?_;refine RS (ok_loadV (s := 1000006) (by decide) U30 rfl rfl rfl (rfl)) ?_;refine RZ (.slice (some ⟨g6,0, none⟩) (mT k' q' S').length q6) (by rw [hWl]) ?_;refine RS (ok_callMK (same16_fn (some ⟨g5,0, none⟩) (some ⟨g6,0, none⟩) (mT k q S) (mT k' q' S') (mT_fit k q S) (mT_fit k' q' S') (mT k q S).length q6 (by omega)) (SubK.cons (k := 1000905) (by decide) rfl Le.blkR (SubK.cons (k := 1000906) (by decide) rfl Le.blkR SubK.nil)) (A2 rfl rfl)) ?_;refine RZ (.int .i64 0) (congrArg (Value.int .i64) (if_neg fun hh => he hh.2)) ?_;refine RB rfl rfl rfl ?_;refine RF ?_
 refine RM rfl ?_;refine RQ (ok_field field32_1 (by decide) rfl) ?_;refine RQ (ok_loadV (s := 1000005) (by decide) U30 rfl rfl rfl (rfl)) ?_;refine RQ (ok_move rfl) ?_;refine RQ (ok_indexS (tot (mN k) (hg (mN k))) U30 infoN rfl rfl rfl (by omega)) ?_;refine RQ (ok_loadP (s := 1000905) (by decide) U57 rfl size57 rfl rfl (by rw [List.length_append, nods_len (mT_fit k q S)]; omega) (nodsY_at (mT_fit k q S) _ (by omega))) ?_;refine RZ (aggV (ndAt (mT k q S) (tot (mN k) (hg (mN k)))).v) (by rfl) ?_;refine RQ (ok_call (rDigest_fn (ndAt (mT k q S) (tot (mN k) (hg (mN k)))) ((mT_fit k q S).at _) (by rw [hl1]; omega)) (A1 rfl)) ?_;refine RQ (ok_field field32_1 (by decide) rfl) ?_;refine RQ (ok_loadV (s := 1000006) (by decide) U30 rfl rfl rfl (rfl)) ?_;refine RQ (ok_move rfl) ?_;refine RQ (ok_indexS (tot (mN k) (hg (mN k))) U30 infoN rfl rfl rfl (by omega)) ?_;refine RQ (ok_loadP (s := 1000906) (by decide) U57 rfl size57 rfl rfl (by rw [List.length_append, nods_len (mT_fit k' q' S')]; omega) (nodsY_at (mT_fit k' q' S') _ (by omega))) ?_;refine RZ (aggV (ndAt (mT k' q' S') (tot (mN k) (hg (mN k)))).v) (by rfl) ?_;refine RQ (ok_call (rDigest_fn (ndAt (mT k' q' S') (tot (mN k) (hg (mN k)))) ((mT_fit k' q' S').at _) (by rw [hl2]; omega)) (A1 rfl)) ?_;refine RQ (ok_neqT (n := 4) true flat40r (by decide) (by kernel_rfl) (by kernel_rfl) rfl rfl (kinB (sha_length _)) (kinB (sha_length _)) (iff_of_true rfl (by rw [hr]))) ?_;refine RF ?_;refine RP rfl rfl ?_;refine RF ?_;refine RN (A.sub (Sv [7,8,9,71,1000002,1000003,1000005,1000006,1000711,1000712,1000721,1000722,1000905,1000906,1900000,1900001,1900002,1900003] rfl) ?_);refine A.no rfl ?_;refine QK (GT (RV 2 rfl ?_));refine RT ?_;refine RV 3 rfl ?_;refine RQ (ok_call (col16_fn (ndAt (dwn (mN k) (mT k q S) (hg (mN k) + 1)) j).bl (ndAt (dwn (mN k) (mT k' q' S') (hg (mN k) + 1)) j).bl _ _ (fun h => hne (nod_inj ((dwn_fit (mT_fit k q S) _).at _) ((dwn_fit (mT_fit k' q' S') _).at _) hcT hcW h)) (by rw [((dwn_fit (mT_fit k q S) _).at j).bl_length]; have := sz_le (ndAt (dwn (mN k) (mT k q S) (hg (mN k) + 1)) j).l.toNat; omega) (by rw [((dwn_fit (mT_fit k' q' S') _).at j).bl_length]; have := sz_le (ndAt (dwn (mN k) (mT k' q' S') (hg (mN k) + 1)) j).l.toNat; omega) (by rw [((dwn_fit (mT_fit k q S) _).at j).bl_length]; have := sz_le (ndAt (dwn (mN k) (mT k q S) (hg (mN k) + 1)) j).l.toNat; omega) (by rw [((dwn_fit (mT_fit k' q' S') _).at j).bl_length]; have := sz_le (ndAt (dwn (mN k) (mT k' q' S') (hg (mN k) + 1)) j).l.toNat; omega) hs) (A2 rfl rfl)) ?_;refine RQ (ok_bin rfl rfl rfl) ?_;refine RT ?_;refine RP rfl rfl ?_;refine RT ?_;refine RM rfl ?_;refine RQ (ok_callMK lives16_fn (SubK.of (Sub.cons rfl (Sub.cons rfl (Sub.cons rfl (Sub.cons rfl KN)))) tabE_v) Args.nil) ?_;refine RP rfl rfl ?_;refine RT ?_;refine RVN 1 rfl ?_;refine A.ret ?_;exact End.ret1 rfl rfl (Le.refl _)
theorem MerklesDiffer_fn (k : UInt8) (q : List P2) (S : List UInt8) (k' : UInt8) (q' : List P2) (S' : List UInt8) : FnM Tryz.prog 8 tabE [mD k q S, mD k' q' S'] (.v (.bool true)) := by
 by_cases hk : mN k' = mN k
 ·by_cases he : (mT k q S) = (mT k' q' S')
  ·exact MDif_b k q S k' q' S' hk he
  ·by_cases hr : (sha (ndAt (mT k q S) (tot (mN k) (hg (mN k)))).bl) = (sha (ndAt (mT k' q' S') (tot (mN k) (hg (mN k)))).bl)
   ·have hw := (hk ▸ mT_tree k' q' S' : Tree (mN k) (mT k' q' S'))
    have ht := mT_tree k q S
    have e1 : (dwn (mN k) (mT k q S) (hg (mN k) + 1)).length = tot (mN k) (hg (mN k) + 1) := dwn_length _ _ _
    have e2 : (dwn (mN k) (mT k' q' S') (hg (mN k) + 1)).length = tot (mN k) (hg (mN k) + 1) := dwn_length _ _ _
    rcases dif_first (V₁ := (dwn (mN k) (mT k q S) (hg (mN k) + 1))) (V₂ := (dwn (mN k) (mT k' q' S') (hg (mN k) + 1))) (tot (mN k) (hg (mN k) + 1)) with h | ⟨j, h1, h2, h3⟩
    ·exact absurd (dwn_eq ht.len hw.len h) he
    ·exact MDif_d k q S k' q' S' hk he hr j (by rw [e1]; exact h1) (by rw [e2]; exact h1) h3 h2 (ht.dwn_ck h1) (hw.dwn_ck h1) (ht.coll hw (mT_fit k q S) (mT_fit k' q' S') hr h1 h3)
   ·exact MDif_c k q S k' q' S' hk he hr
 ·exact MDif_a k q S k' q' S' fun h => hk h.symm
end
section
open Go Go.RowKit Go.ChangeShapes Go.WideShapes
end
section
open Go Go.RowKit Go.ChangeShapes Go.WideShapes
section
variable {H : Type} {enc : TypeId × Value → H} {P : Program} {w : World} {base : Nat} {held : Bool}
theorem flat_at {α : Type} {f : α → List Value} {sz : Nat} (hl : ∀ x, (f x).length = sz) : ∀ {l : List α} {i k : Nat}, (hi : i < l.length) → k < sz → (l.flatMap f)[i * sz + k]? = (f l[i])[k]?
 | x :: l, 0, k, _, hk => by
  simp only [List.flatMap_cons, List.getElem_cons_zero, Nat.zero_mul, Nat.zero_add]
  rw [List.getElem?_append_left (by rw [hl]; exact hk)]
 | x :: l, i + 1, k, hi, hk => by
  have ih := flat_at (f := f) hl (l := l) (i := i) (k := k) (by simpa using hi) hk
  simp only [List.flatMap_cons, List.getElem_cons_succ]
  rw [List.getElem?_append_right (by rw [hl, Nat.add_mul]; omega), hl, show (i + 1) * sz + k - sz = i * sz + k by rw [Nat.add_mul]; omega, ih]
theorem trod_rows {α : Type} {f : α → List Value} {R : α → Prop} {sz n : Nat} {ks : List IntKind} (x₀ : α) (hl : ∀ x, R x → (f x).length = sz) (h0 : (f x₀).length = sz) (hopen : ∀ ys, Kin (fun k m => (Lit.int k m).wf = true) ks ys → ∃ x, R x ∧ ys = f x)
  {t e : TypeId} {fuel : Nat} {cs : List Value} {y : DataW H × List MemPlace} (ht : P.underlying t = some (.slice e)) (hf : flat P n e = some ks) (hc : P.cellsOf e = sz) (hsz : 0 < sz) (h : DataW.trod enc P w base (fun _ => true) held fuel t cs = some y) :
  ∃ (v : Value) (l : List α), cs = [v] ∧ (∀ x ∈ l, R x) ∧ (rowD l.length (l.flatMap f)).Of w v ∧ (∃ A m c, v = .slice A m c) := by
 rcases DataW.trod_slice ht h with ⟨rfl, _⟩ | ⟨a, len, cap, elems, rest, m, _, rfl, _, hba, hlc, hm, hlen, hel, _, _⟩
 ·exact ⟨_, [], rfl, (fun x hx => by cases hx), rowD_nil.of (w := w) (x := .slice none 0 0) rfl, _, _, _, rfl⟩
 ·have each : ∀ i, ∃ x : α, (f x).length = sz ∧ (i < len → R x ∧ ∀ k, k < sz → w.cell? (a.add (i * sz + k)) = (f x)[k]?) := fun i => by
   by_cases hi : i < len
   ·have h1 := hel i hi
    rw [List.getElem?_eq_getElem (by omega), hc, Option.bind_eq_some_iff] at h1
    obtain ⟨cs', h2, h3⟩ := h1
    obtain ⟨x, hx, rfl⟩ := hopen _ (trod_flat n hf h3)
    obtain ⟨_, _, h4⟩ := World.cells?_some h2
    exact ⟨x, hl x hx, fun _ => ⟨hx, fun k hk => by rw [← add_of_add]; exact h4 k hk⟩⟩
   ·exact ⟨x₀, h0, fun h => absurd h hi⟩
  obtain ⟨g, hg⟩ := Classical.axiomOfChoice each
  have hgl : ∀ i, (f (g i)).length = sz := fun i => (hg i).1
  refine ⟨_, (List.range len).map g, rfl, fun x hx => ?_, ?_, _, _, _, rfl⟩
  ·obtain ⟨i, hi, rfl⟩ := List.mem_map.1 hx
   exact ((hg i).2 (List.mem_range.1 hi)).1
  ·refine ⟨some a, cap, by simp, fun j u hu => ⟨a, rfl, ?_, ?_⟩⟩
   all_goals
    have hfm : ((List.range len).map g).flatMap f = (List.range len).flatMap fun i => f (g i) := by rw [List.flatMap_map]
    have hj : j < len * sz := by
     have h5 := (List.getElem?_eq_some_iff.1 hu).1
     rw [hfm, List.length_flatMap] at h5
     have h6 : ((List.range len).map fun i => (f (g i)).length).sum = len * sz := by
      rw [show ((List.range len).map fun i => (f (g i)).length) = List.replicate len sz from by rw [List.eq_replicate_iff]; exact ⟨by simp, fun b hb => by obtain ⟨i, _, rfl⟩ := List.mem_map.1 hb; exact hgl i⟩]
      simp
     omega
    have hi : j / sz < len := by rw [Nat.div_lt_iff_lt_mul hsz]; exact hj
    have hk : j % sz < sz := Nat.mod_lt _ hsz
    have hjj : j / sz * sz + j % sz = j := Nat.div_add_mod' j sz
    have hcell := ((hg (j / sz)).2 hi).2 (j % sz) hk
    have h7 := flat_at (f := fun i => f (g i)) hgl (l := List.range len) (i := j / sz) (k := j % sz) (by simpa using hi) hk
    rw [hjj, List.getElem_range] at h7
    rw [hfm] at hu
    rw [hjj, ← h7, hu] at hcell
   ·have := block_of_cell hcell
    rwa [block_of_add] at this
   ·exact hcell
end
end
section
open Go Go.RowKit Go.ChangeShapes Go.WideShapes
end
section
open Go Go.RowKit Go.ChangeShapes Go.WideShapes
end
section
open Go Go.RowKit Go.ChangeShapes Go.WideShapes
section
variable {H : Type} {enc : TypeId × Value → H} {P : Program} {w : World} {base : Nat} {held : Bool}
theorem arg_M {t e e' : TypeId} {f0 f1 f2 : Field} {v : Value} {d : DataW H} {ps : List MemPlace} (ht : P.underlying t = some (.struct #[f0, f1, f2])) (o0 : f0.offset = 0) (o1 : f1.offset = 1) (o2 : f2.offset = 2) (t0 : flat P 3 f0.type = some [.u8]) (t1 : P.underlying f1.type = some (.slice e)) (t2 : P.underlying f2.type = some (.slice e'))
  (c0 : P.cellsOf f0.type = 1) (c1 : P.cellsOf f1.type = 1) (c2 : P.cellsOf f2.type = 1) (hC : P.cellsOf t = 3) (hf : flat P 3 e = some [.u8, .u8]) (hc : P.cellsOf e = 2) (hf2 : flat P 3 e' = some [.u8]) (hc2 : P.cellsOf e' = 1) {r : Reach} {b0 : Nat} (hk : Value.okWide P w r b0 t v) (h : DataW.Trod enc P w base (fun _ => true) held t v d ps) :
  ∃ (k : UInt8) (q : List P2) (S : List UInt8), (mD k q S).Of w v := by
 obtain ⟨cs, rfl, hcs⟩ := okWide_struct ht hk
 obtain ⟨fuel, hf'⟩ := h
 obtain ⟨xs, m, _, _, hlen, hxl, hel⟩ := DataW.trod_struct ht hf'
 have hlen' : cs.toList.length = 3 := by rw [← hC]; exact hlen
 have hxl' : xs.length = 3 := by simpa using hxl
 have e0 := hel 0 f0 rfl
 have e1 := hel 1 f1 rfl
 have e2 := hel 2 f2 rfl
 rw [List.getElem?_eq_getElem (by omega)] at e0 e1 e2
 rw [o0, c0] at e0
 rw [o1, c1] at e1
 rw [o2, c2] at e2
 have k0 := trod_flat 3 t0 e0
 obtain ⟨a, h3, h4⟩ := k0.one
 obtain ⟨u, l, h1, _, ⟨A, q, hv, hrow⟩, _⟩ := trod_rows (f := p2V) (R := fun _ => True) ((0,0) : P2) (fun _ _ => rfl) rfl (fun ys hy => by
  obtain ⟨a, y, rfl, h1, h2⟩ := hy.cons
  obtain ⟨b, rfl, h3⟩ := h2.one
  exact ⟨⟨UInt8.ofNat a.toNat, UInt8.ofNat b.toNat⟩, trivial, by rw [wf_u8 h1, wf_u8 h3]; rfl⟩) t1 hf hc (by decide) e1
 obtain ⟨u2, l2, k1, _, ⟨A2, q2, kv, krow⟩, _⟩ := trod_rows (f := fun x : UInt8 => [byteV x]) (R := fun _ => True) (0 : UInt8) (fun _ _ => rfl) rfl (fun ys hy => by
  obtain ⟨b, rfl, h3⟩ := hy.one
  exact ⟨UInt8.ofNat b.toNat, trivial, by rw [wf_u8 h3]⟩) t2 hf2 hc2 (by decide) e2
 have hm' : ∀ l : List UInt8, (l.flatMap fun x : UInt8 => [byteV x]) = l.map byteV := fun l => by
  induction l with
  | nil => rfl
  | cons a l ih => rw [List.flatMap_cons, ih]; rfl
 have hm := hm' l2
 rw [hm] at krow
 refine ⟨UInt8.ofNat a.toNat, l, l2, A, q, A2, q2, ?_, hrow, krow⟩
 have h3' : (cs.toList.drop 0).take 1 = [.int .u8 a] := h3
 have h1' : (cs.toList.drop 1).take 1 = [u] := h1
 have k1' : (cs.toList.drop 2).take 1 = [u2] := k1
 unfold aggV
 show Value.agg cs = _
 congr 1
 apply Array.ext'
 show cs.toList = _
 match hcl : cs.toList, hlen' with
 | [x, y, z], _ =>
  rw [hcl] at h3' h1' k1'
  simp at h3' h1' k1'
  rw [h3', h1', k1', hv, kv, wf_u8 h4]
end
end
end Go.Proofs.YtmkpekmhhbcifaaGreatDoor
