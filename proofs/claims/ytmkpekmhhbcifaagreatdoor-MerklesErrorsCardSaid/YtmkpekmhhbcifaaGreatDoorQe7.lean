/-
  OWN TEXTS of this seat, put together, part 7: C16p, C16s, Law9, Law8, Law4, Law11, Law14.
-/
import Derived.Test.YtmkpekmhhbcifaaGreatDoorQe0
import Derived.Test.YtmkpekmhhbcifaaGreatDoorQe2
import Derived.Test.YtmkpekmhhbcifaaGreatDoorQe6
import Derived.Test.YtmkpekmhhbcifaaGreatDoorQe1
import Derived.Test.YtmkpekmhhbcifaaGreatDoorQe5
import Derived.Test.YtmkpekmhhbcifaaGreatDoorQe3
namespace Go.Proofs.YtmkpekmhhbcifaaGreatDoor
open Go Go.RowKit
set_option linter.unusedVariables false
set_option maxRecDepth 20000
set_option linter.unusedSimpArgs false
theorem Le.memNil {d : D} {A₀ : Option Addr} : Le d (memR A₀ []) := fun _ _ _ _ j u hu => by cases hu
def lvR : List RecT := [recOf 1 7, RecT.zero, RecT.zero, RecT.zero, RecT.zero]
def lvS : List Nat := [1, 0, 0]
def lzR : List RecT := [RecT.zero]
def lzS : List Nat := [0]
theorem lvR_fit : FitR lvR := fun r hr => by
 simp only [lvR, List.mem_cons, List.not_mem_nil, or_false] at hr
 rcases hr with rfl | rfl | rfl | rfl | rfl
 ·exact recOf_fit _ _
 all_goals exact RecT.zero_fit
theorem lvR_ok : OkR lvR := fun r hr => by
 simp only [lvR, List.mem_cons, List.not_mem_nil, or_false] at hr
 rcases hr with rfl | rfl | rfl | rfl | rfl
 ·exact recOf_ok _ _
 all_goals exact RecT.zero_ok
theorem lvS_ok : OkS lvS := fun r hr => by
 simp only [lvS, List.mem_cons, List.not_mem_nil, or_false] at hr
 rcases hr with rfl | rfl | rfl <;> simp
theorem lzR_fit : FitR lzR := fun r hr => by
 simp only [lzR, List.mem_cons, List.not_mem_nil, or_false] at hr
 subst hr; exact RecT.zero_fit
theorem lzR_ok : OkR lzR := fun r hr => by
 simp only [lzR, List.mem_cons, List.not_mem_nil, or_false] at hr
 subst hr; exact RecT.zero_ok
theorem lzS_ok : OkS lzS := fun r hr => by
 simp only [lzS, List.mem_cons, List.not_mem_nil, or_false] at hr
 subst hr; simp
def lvT : List NodT := treR lvR lvS (tot lvR.length (hg lvR.length + 1))
def lzT : List NodT := treR lzR lzS (tot lzR.length (hg lzR.length + 1))
theorem lvT_len : lvT.length = 3 := by unfold lvT; rw [treR_length]; decide
theorem lzT_len : lzT.length = 1 := by unfold lzT; rw [treR_length]; decide
theorem lvT_fit : FitT lvT := treR_fit lvR_fit _ (by decide) (by decide) (Nat.le_refl _)
theorem lzT_fit : FitT lzT := treR_fit lzR_fit _ (by decide) (by decide) (Nat.le_refl _)
theorem lvT_tree : Tree 5 lvT := treR_tree lvR_ok lvS_ok (by decide) (by decide)
theorem lzT_tree : Tree 1 lzT := treR_tree lzR_ok lzS_ok (by decide) (by decide)
theorem lzT_at : ndAt lzT (tot 1 (hg 1)) = NodT.emp 0 0 := by
 have h := treR_at (R := lzR) (S := lzS) (m := tot lzR.length (hg lzR.length + 1)) (l := 0) (j := 0) (by decide) (by decide) (by decide)
 exact h.trans (by rw [nodR_zero]; rfl)
theorem lvT_0 : ndAt lvT 0 = grpR lvR 0 := by
 have h := treR_at (R := lvR) (S := lvS) (m := tot lvR.length (hg lvR.length + 1)) (l := 0) (j := 0) (by decide) (by decide) (by decide)
 rw [nodR_zero] at h; exact h
theorem lvT_1 : ndAt lvT 1 = grpR lvR 1 := by
 have h := treR_at (R := lvR) (S := lvS) (m := tot lvR.length (hg lvR.length + 1)) (l := 0) (j := 1) (by decide) (by decide) (by decide)
 rw [nodR_zero] at h; exact h
theorem lvT_2 : ndAt lvT 2 = nodR lvR lvS 1 0 := treR_at (R := lvR) (S := lvS) (m := tot lvR.length (hg lvR.length + 1)) (l := 1) (j := 0) (by decide) (by decide) (by decide)
def lvE : EntT := ⟨2, sha (grpR lvR 0).bl⟩
theorem lvT_E : (ndAt lvT 2).E = [lvE, EntT.zero, EntT.zero, EntT.zero] := by
 have e0 : emF lvR.length (recAt lvR) 0 (4 * 0 + 0) = false := by decide +kernel
 have e1 : emF lvR.length (recAt lvR) 0 (4 * 0 + 1) = true := by decide +kernel
 rw [lvT_2]
 apply ext4 (by rw [nodR_succ]; exact pg_length _ _ _) rfl EntT.zero
 intro i hi
 show (nodR lvR lvS (0 + 1) 0).e i = _
 rw [nodR_e hi]
 match i, hi with
 | 0, _ => rw [if_pos (by decide), e0]; rfl
 | 1, _ => rw [if_pos (by decide), e1]; rfl
 | 2, _ => rw [if_neg (by decide)]; rfl
 | 3, _ => rw [if_neg (by decide)]; rfl
theorem em_0 : emT 5 lvT 0 0 = false := by
 unfold emT; rw [lvT_0]; decide +kernel
theorem em_1 : emT 5 lvT 0 1 = true := by
 unfold emT; rw [lvT_1]; decide +kernel
theorem mny_0 : mny 5 lvT 0 = 2 := by
 show runTo _ 1 1 = 2
 unfold runTo
 rw [show emT 5 lvT (hg 5 - 1) (pidx 5 0 1) = false from em_0]; rfl
theorem mny_4 : mny 5 lvT 4 = 1 := by
 show runTo _ 1 1 = 1
 unfold runTo
 rw [show emT 5 lvT (hg 5 - 1) (pidx 5 4 1) = true from em_1]; rfl
def pfA : List NodT := pthT 5 lvT 0 2
def pfB : List NodT := pthT 5 lvT 4 1
theorem pfA_len : pfA.length = 2 := pthT_length _ _ _ _
theorem pfB_len : pfB.length = 1 := pthT_length _ _ _ _
theorem pfA_fit : FitT pfA := pthT_fit lvT_fit _ _
theorem pfB_fit : FitT pfB := pthT_fit lvT_fit _ _
def lvD : List UInt8 := sha (ndAt lvT (tot 5 (hg 5))).bl
theorem lvD_len : lvD.length = 32 := sha_length _
theorem lv_rec {n : Nat} {T : List NodT} (h : Tree n T) : ∀ i, i < n → (recT T i).x.toNat = 0 → recT T i = RecT.zero := fun i hi hx => by
 have h1 : i / 4 < un n (0 + 1) := by have := div_lt_un hi 1; simpa using this
 have hf := h.fit (l := 0) (j := i / 4) (Nat.zero_le _) h1
 rw [tot_zero, Nat.zero_add] at hf
 have hb := ((NodT.ck_ok hf.2.2.1).2.1 hf.1).2 (i % 4) (Nat.mod_lt _ (by decide))
 unfold RecT.Bad BadR at hb
 refine RecT.z_iff.1 ⟨hx, Classical.byContradiction fun hh => hb (.inr ⟨hx, hh⟩)⟩
theorem verA : ver 5 lvD 0 pfA = 0 ∧ verR 5 lvD 0 pfA = recOf 1 7 := by
 have h := lvT_tree.prf (x := 0) (by decide)
 have h2 := lvT_tree.prf_rec (x := 0) (by decide) (lv_rec lvT_tree)
 rw [mny_0] at h h2
 refine ⟨h.ver, h2.trans ?_⟩
 unfold recT; rw [show 0 / 4 = 0 from rfl, lvT_0, grpR_r (by decide)]; rfl
theorem verB : ver 5 lvD 4 pfB = 0 ∧ verR 5 lvD 4 pfB = RecT.zero := by
 have h := lvT_tree.prf (x := 4) (by decide)
 have h2 := lvT_tree.prf_rec (x := 4) (by decide) (lv_rec lvT_tree)
 rw [mny_4] at h h2
 refine ⟨h.ver, h2.trans ?_⟩
 unfold recT; rw [show 4 / 4 = 1 from rfl, lvT_1, grpR_r (by decide)]; rfl
theorem verC : ver 5 lvD 0 [] = 1 ∧ verR 5 lvD 0 [] = RecT.zero := by
 have h : ver 5 lvD 0 [] = 1 := ver_len (n := 5) (x := 0) (by decide) (by decide) (by decide) (.inl rfl)
 exact ⟨h, verR_no (by rw [h]; decide)⟩
theorem src5 : srcE 5 [RecT.zero, RecT.zero, RecT.zero, RecT.zero] [0, 0, 0] = 1 := srcE_no fun h => absurd h.2.2.1 (by decide)
theorem lv_buildR : Tryz.prog.built 52 [(0, aggV (recOf 1 7).v)] = some (recsV [recOf 1 7, RecT.zero, RecT.zero, RecT.zero]).toArray := by kernel_rfl
theorem lv_buildX : Tryz.prog.built 57 [(2, aggV (recsV [recOf 1 7, RecT.zero, RecT.zero, RecT.zero]))] = some (grpR lvR 0).v.toArray := by kernel_rfl
theorem lv_buildE (x : UInt8) (t : List UInt8) (ht : t.length = 32) : Tryz.prog.built 55 [(0, aggV (EntT.v ⟨x, t⟩))] = some (entsV [⟨x, t⟩, EntT.zero, EntT.zero, EntT.zero]).toArray := by
 match t, ht with
 | [a0, a1, a2, a3, a4, a5, a6, a7, a8, a9, b0, b1, b2, b3, b4, b5, b6, b7, b8, b9, c0, c1, c2, c3, c4, c5, c6, c7, c8, c9, d0, d1], _ => show _ = _; kernel_rfl
theorem lv_part (ys : List Value) : ((nodsV lvT ++ ys).drop (0 + 2 * 274 + 142)).take 132 = entsV [lvE, EntT.zero, EntT.zero, EntT.zero] := by
 have h1 := nods_at lvT_fit (i := 2) (by rw [lvT_len]; decide)
 have hl := nods_len lvT_fit
 rw [lvT_len] at hl
 rw [List.drop_append_of_le_length (by omega), List.take_append_of_le_length (by rw [List.length_drop]; omega)]
 have h2 : (((nodsV lvT).drop (2 * 274)).take 274).drop 142 = entsV (ndAt lvT 2).E := by
  rw [h1]
  have hf := lvT_fit.at 2
  show List.drop 142 ([byteV _, .int .u32 _] ++ (recsV (ndAt lvT 2).R ++ entsV (ndAt lvT 2).E)) = _
  rw [← List.append_assoc, List.drop_left']
  rw [List.length_append, recs_len hf.fr, hf.lr]; rfl
 rw [lvT_E] at h2
 rw [← h2, List.drop_take, List.drop_drop]
theorem zr4_fit : FitR [RecT.zero, RecT.zero, RecT.zero, RecT.zero] := fun r hr => by
 simp only [List.mem_cons, List.not_mem_nil, or_false, or_self] at hr
 subst hr; exact RecT.zero_fit
theorem lvE_kin : Kin (fun _ _ => True) (List.replicate 4 (.u8 :: List.replicate 32 .u8)).flatten (entsV [lvE, EntT.zero, EntT.zero, EntT.zero]) := by
 have h := EntT.kins (R := [lvE, EntT.zero, EntT.zero, EntT.zero]) (fun e he => by
  simp only [List.mem_cons, List.not_mem_nil, or_false] at he
  rcases he with rfl | rfl | rfl | rfl
  ·exact ⟨sha_length _⟩
  all_goals exact EntT.zero_fit)
 exact h
theorem flat55e : flat Tryz.prog 5 55 = some (List.replicate 4 (.u8 :: List.replicate 32 .u8)).flatten := by kernel_rfl
set_option maxHeartbeats 16000000 in
theorem lives16_fn  : FnM Tryz.prog 19 tabE [] (.v (.bool true)) := by
 refine FnM.of Tryz.func19 rfl (by kernel_rfl) Tryz.ntmps19 (by simp) (by decide) (fun w => [(1900000, tabH 0 ([errT])), (1900001, tab 1 (sizV)), (1900002, tab 2 (H8.list.map u32V)), (1900003, tab 3 (K64.map u32V))]) (fun w => (StartM.m (by simp [tabE]) (by decide) (StartM.m (by simp [tabE]) (by decide) (StartM.m (by simp [tabE]) (by decide) (StartM.m (by simp [tabE]) (by decide) StartM.nil))))) fun w₀ hM => ?_
 have htab := tabE_hi hM
 refine GV rfl (GS (TN 1 (RS (ok_call (lRecord_fn 1 7) (A2 rfl rfl)) ?_)));refine RN ?_;refine ZN 1000001 zero51 fun b1 ⟨hBb1, hb1⟩ => ?_
 refine TF 2 (RN ?_);refine ⟨_, eff_storeA (n := 149) (s := 1000001) (size51.of ((recOf_fit 1 7).len)) rfl rfl (RecT.one _) hBb1 rfl (by rw [(recOf_fit 1 7).len]; rfl) (LV 1 rfl (LeftS.cons (t := 1900000) rfl (Surv.tabH (by omega)) (LQ 1900001 rfl (LQ 1900002 rfl (LQ 1900003 rfl LN))))), ?_⟩
 refine TL (RN (GS (TN 1 (RS (ok_lit [] (RecT.v RecT.zero) (fun _ _ => rfl) (by kernel_rfl)) ?_))));refine RN ?_;refine ZM 1000019 (fun B' => ok_buildG (m := 1) [(0, aggV RecT.zero.v)] (recsV lzR) U26 infoP51 ⟨rfl, rfl, trivial⟩ (by kernel_rfl) (by decide) (by decide)) rfl fun b19 ⟨hBb19, hb19⟩ => ?_
 have hlt_b1_b19 := hb19 1000001 b1 _ _ rfl
 refine TN 2 (RN ?_);refine ZM 1000020 (fun B' => ok_buildG (m := 1) [(0, nI 0)] (slotV lzS) U27 infoPI ⟨rfl, rfl, trivial⟩ (by kernel_rfl) (by decide) (by decide)) rfl fun b20 ⟨hBb20, hb20⟩ => ?_
 have hlt_b1_b20 := hb20 1000001 b1 _ _ rfl
 have hlt_b19_b20 := hb20 1000019 b19 _ _ rfl
 refine RunTK.newG 3 (by decide) rfl (.inl rfl) ?_;refine RN ?_;refine ⟨_, _, _, eff_nameY (n := 149) (d := 21) (k := 1000021) rfl rfl (fun B' => ok_callMBK (Build_okB lzR lzR_fit (by decide) (by decide) lzR_ok lzS lzS_ok (by decide) ⟨b19, 0, none⟩ ⟨b20, 0, none⟩ 1 1 (by decide)) newY_mono (SubK.app (SubK.of (Sub.cons rfl (Sub.cons rfl (Sub.cons rfl KN))) tabN_v) (SubK.cons (k := 1000019) (by decide) rfl Le.blkR0 (SubK.cons (k := 1000020) (by decide) rfl Le.blkR0 SubK.nil))) (A3 rfl rfl rfl)) (by decide) (by decide), fun x21 hx21 => ?_⟩
 obtain ⟨g21, y21⟩ := x21
 have hBg21 : w₀.heap.size ≤ g21 := hx21.1
 refine TN 7 (RV 2 rfl ?_);refine RZ (aggV [nI 1, .slice (some ⟨g21, 0, none⟩) lzT.length lzT.length]) (by rw [lzT_len]; rfl) ?_;refine RVN 1 rfl ?_;refine ZN 1000002 zero32 fun b2 ⟨hBb2, hb2⟩ => ?_
 refine TF 8 (RN ?_); refine ZA 1000002 (size32.of rfl) hBb2 rfl rfl rfl (LT 1000001 rfl (LT 1000019 rfl (LT 1000020 rfl (LT 1000021 rfl (LeftS.cons (t := 1900000) rfl (Surv.tabH (by omega)) (LQ 1900001 rfl (LQ 1900002 rfl (LQ 1900003 rfl (LW [1, 2, 23] rfl))))))))) ?_;refine TL (RVN 1 rfl ?_);refine GS (TN 5 (RL 1000002 U32 rfl rfl (size32.of rfl) ?_));refine RS (ok_callMK (Root_ok 1 ⟨g21, 0, none⟩ lzT lzT_fit lzT.length lzT_tree) (SubK.app (SubK.of (Sub.cons rfl (Sub.cons rfl (Sub.cons rfl (Sub.cons rfl KN)))) tabE_v) (SubK.cons (k := 1000021) (by decide) rfl Le.blkR SubK.nil)) (A1 rfl)) ?_;refine RVN 3 rfl ?_;refine ZN 1000004 zero40 fun b4 ⟨hBb4, hb4⟩ => ?_
 refine TF 6 (RN ?_);refine ⟨_, eff_storeA (n := 149) (s := 1000004) (size40.of (by rw [List.length_map, sha_length])) rfl rfl (all_bytes _) hBb4 rfl (by rw [List.length_map, sha_length]; rfl) (LT 1000001 rfl (LT 1000002 rfl (LT 1000019 rfl (LT 1000020 rfl (LT 1000021 rfl (LeftS.cons (t := 1900000) rfl (Surv.tabH (by omega)) (LQ 1900001 rfl (LQ 1900002 rfl (LQ 1900003 rfl (LW [1, 3, 4, 28] rfl)))))))))), ?_⟩
 refine TL (RVN 1 rfl ?_);refine GS (TN 5 (RL 1000001 U51 rfl rfl (size51.of ((recOf_fit 1 7).len)) ?_));refine RS (ok_lit [] (RecT.v RecT.zero) (fun _ _ => rfl) (by kernel_rfl)) ?_;refine RS (ok_lit [] (RecT.v RecT.zero) (fun _ _ => rfl) (by kernel_rfl)) ?_;refine RS (ok_lit [] (RecT.v RecT.zero) (fun _ _ => rfl) (by kernel_rfl)) ?_;refine RS (ok_lit [] (RecT.v RecT.zero) (fun _ _ => rfl) (by kernel_rfl)) ?_;refine RN ?_;refine ZM 1000035 (fun B' => ok_buildG (m := 5) [(0, aggV (recOf 1 7).v), (1, aggV RecT.zero.v), (2, aggV RecT.zero.v), (3, aggV RecT.zero.v), (4, aggV RecT.zero.v)] (recsV lvR) U26 infoP51 ⟨rfl, rfl, rfl, rfl, rfl, rfl, rfl, rfl, rfl, rfl, trivial⟩ (by kernel_rfl) (by decide) (by decide)) rfl fun b35 ⟨hBb35, hb35⟩ => ?_
 have hlt_b1_b35 := hb35 1000001 b1 _ _ rfl
 have hlt_b2_b35 := hb35 1000002 b2 _ _ rfl
 have hlt_b4_b35 := hb35 1000004 b4 _ _ rfl
 have hlt_b19_b35 := hb35 1000019 b19 _ _ rfl
 have hlt_b20_b35 := hb35 1000020 b20 _ _ rfl
 have hlt_g21_b35 := hb35 1000021 g21 _ _ rfl
 refine TN 6 (RN ?_);refine ZM 1000036 (fun B' => ok_buildG (m := 3) [(0, nI 1), (1, nI 0), (2, nI 0)] (slotV lvS) U27 infoPI ⟨rfl, rfl, rfl, rfl, rfl, rfl, trivial⟩ (by kernel_rfl) (by decide) (by decide)) rfl fun b36 ⟨hBb36, hb36⟩ => ?_
 have hlt_b1_b36 := hb36 1000001 b1 _ _ rfl
 have hlt_b2_b36 := hb36 1000002 b2 _ _ rfl
 have hlt_b4_b36 := hb36 1000004 b4 _ _ rfl
 have hlt_b19_b36 := hb36 1000019 b19 _ _ rfl
 have hlt_b20_b36 := hb36 1000020 b20 _ _ rfl
 have hlt_g21_b36 := hb36 1000021 g21 _ _ rfl
 have hlt_b35_b36 := hb36 1000035 b35 _ _ rfl
 refine RunTK.newG 7 (by decide) rfl (.inl rfl) ?_;refine RN ?_;refine ⟨_, _, _, eff_nameY (n := 149) (d := 37) (k := 1000037) rfl rfl (fun B' => ok_callMBK (Build_okB lvR lvR_fit (by decide) (by decide) lvR_ok lvS lvS_ok (by decide) ⟨b35, 0, none⟩ ⟨b36, 0, none⟩ 5 3 (by decide)) newY_mono (SubK.app (SubK.of (Sub.cons rfl (Sub.cons rfl (Sub.cons rfl KN))) tabN_v) (SubK.cons (k := 1000035) (by decide) rfl Le.blkR0 (SubK.cons (k := 1000036) (by decide) rfl Le.blkR0 SubK.nil))) (A3 rfl rfl rfl)) (by decide) (by decide), fun x37 hx37 => ?_⟩
 obtain ⟨g37, y37⟩ := x37
 have hBg37 : w₀.heap.size ≤ g37 := hx37.1
 refine TN 11 (RV 2 rfl ?_);refine RZ (aggV [nI 5, .slice (some ⟨g37, 0, none⟩) lvT.length lvT.length]) (by rw [lvT_len]; rfl) ?_;refine RVN 1 rfl ?_;refine ZN 1000006 zero32 fun b6 ⟨hBb6, hb6⟩ => ?_
 have hlt_b2_b6 := hb6 1000002 b2 _ _ rfl
 refine TF 12 (RN ?_); refine ZA 1000006 (size32.of rfl) hBb6 rfl rfl rfl (LT 1000001 rfl (LB 1000002 rfl (LT 1000004 rfl (LT 1000019 rfl (LT 1000020 rfl (LT 1000021 rfl (LT 1000035 rfl (LT 1000036 rfl (LT 1000037 rfl (LeftS.cons (t := 1900000) rfl (Surv.tabH (by omega)) (LQ 1900001 rfl (LQ 1900002 rfl (LQ 1900003 rfl (LW [1, 3, 4, 5, 6, 39] rfl)))))))))))))) ?_;refine TL (RVN 1 rfl ?_);refine A.sub (Sv [1, 3, 4, 5, 6, 7, 1000001, 1000002, 1000004, 1000006, 1000019, 1000020, 1000021, 1000035, 1000036, 1000037, 1900000, 1900001, 1900002, 1900003] rfl) ?_;refine GS (RunTK.newG 1 (by decide) rfl (.inl rfl) ?_);refine RL 1000006 U32 rfl rfl (size32.of rfl) ?_;refine RN ?_;refine ⟨_, _, _, eff_nameY (n := 149) (d := 42) (k := 1000042) rfl rfl (fun B' => ok_callMBK (Prove_okB 5 ⟨g37, 0, none⟩ lvT lvT_fit lvT.length lvT_tree 0 (by decide)) newY_mono (SubK.app (SubK.of (Sub.cons rfl (Sub.cons rfl (Sub.cons rfl (Sub.cons rfl KN)))) tabE_v) (SubK.cons (k := 1000037) (by decide) rfl Le.blkR SubK.nil)) (A2 rfl rfl)) (by decide) (by decide), fun x42 hx42 => ?_⟩
 obtain ⟨g42, y42⟩ := x42
 have hBg42 : w₀.heap.size ≤ g42 := hx42.1
 refine TN 5 (RV 2 rfl ?_);refine RZ (aggV [nI 0, .slice (some ⟨g42, 0, none⟩) pfA.length pfA.length]) (by rw [pfA_len, mny_0]) ?_;refine RVN 1 rfl ?_;refine ZN 1000008 zero69 fun b8 ⟨hBb8, hb8⟩ => ?_
 refine TF 6 (RN ?_); refine ZA 1000008 (size69.of rfl) hBb8 rfl rfl rfl (LT 1000001 rfl (LT 1000002 rfl (LT 1000004 rfl (LT 1000006 rfl (LT 1000019 rfl (LT 1000020 rfl (LT 1000021 rfl (LT 1000035 rfl (LT 1000036 rfl (LT 1000037 rfl (LT 1000042 rfl (LeftS.cons (t := 1900000) rfl (Surv.tabH (by omega)) (LQ 1900001 rfl (LQ 1900002 rfl (LQ 1900003 rfl (LW [1, 3, 4, 5, 6, 7, 8, 44] rfl)))))))))))))))) ?_;refine TL (RVN 1 rfl ?_);refine GS (RunTK.newG 1 (by decide) rfl (.inl rfl) ?_);refine RL 1000006 U32 rfl rfl (size32.of rfl) ?_;refine RN ?_;refine ⟨_, _, _, eff_nameY (n := 149) (d := 47) (k := 1000047) rfl rfl (fun B' => ok_callMBK (Prove_okB 5 ⟨g37, 0, none⟩ lvT lvT_fit lvT.length lvT_tree 4 (by decide)) newY_mono (SubK.app (SubK.of (Sub.cons rfl (Sub.cons rfl (Sub.cons rfl (Sub.cons rfl KN)))) tabE_v) (SubK.cons (k := 1000037) (by decide) rfl Le.blkR SubK.nil)) (A2 rfl rfl)) (by decide) (by decide), fun x47 hx47 => ?_⟩
 obtain ⟨g47, y47⟩ := x47
 have hBg47 : w₀.heap.size ≤ g47 := hx47.1
 refine TN 5 (RV 2 rfl ?_);refine RZ (aggV [nI 4, .slice (some ⟨g47, 0, none⟩) pfB.length pfB.length]) (by rw [pfB_len, mny_4]) ?_;refine RVN 1 rfl ?_;refine ZN 1000010 zero69 fun b10 ⟨hBb10, hb10⟩ => ?_
 have hlt_b8_b10 := hb10 1000008 b8 _ _ rfl
 refine TF 6 (RN ?_); refine ZA 1000010 (size69.of rfl) hBb10 rfl rfl rfl (LT 1000001 rfl (LT 1000002 rfl (LT 1000004 rfl (LT 1000006 rfl (LB 1000008 rfl (LT 1000019 rfl (LT 1000020 rfl (LT 1000021 rfl (LT 1000035 rfl (LT 1000036 rfl (LT 1000037 rfl (LT 1000042 rfl (LT 1000047 rfl (LeftS.cons (t := 1900000) rfl (Surv.tabH (by omega)) (LQ 1900001 rfl (LQ 1900002 rfl (LQ 1900003 rfl (LW [1, 3, 4, 5, 6, 7, 8, 9, 10, 49] rfl)))))))))))))))))) ?_;refine TL (RVN 1 rfl ?_);refine GS (TN 5 (RL 1000006 U32 rfl rfl (size32.of rfl) ?_));refine RS (ok_callMK (Root_ok 5 ⟨g37, 0, none⟩ lvT lvT_fit lvT.length lvT_tree) (SubK.app (SubK.of (Sub.cons rfl (Sub.cons rfl (Sub.cons rfl (Sub.cons rfl KN)))) tabE_v) (SubK.cons (k := 1000037) (by decide) rfl Le.blkR SubK.nil)) (A1 rfl)) ?_;refine RV 2 rfl ?_;refine RZ (aggV (lvD.map byteV)) (by rfl) ?_;refine RVN 1 rfl ?_;refine ZN 1000012 zero40 fun b12 ⟨hBb12, hb12⟩ => ?_
 have hlt_b4_b12 := hb12 1000004 b4 _ _ rfl
 refine TF 6 (RN ?_);refine ⟨_, eff_storeA (n := 149) (s := 1000012) (size40.of (by rw [List.length_map, lvD_len])) rfl rfl (all_bytes _) hBb12 rfl (by rw [List.length_map, lvD_len]; rfl) (LT 1000001 rfl (LT 1000002 rfl (LB 1000004 rfl (LT 1000006 rfl (LT 1000008 rfl (LT 1000010 rfl (LT 1000019 rfl (LT 1000020 rfl (LT 1000021 rfl (LT 1000035 rfl (LT 1000036 rfl (LT 1000037 rfl (LT 1000042 rfl (LT 1000047 rfl (LeftS.cons (t := 1900000) rfl (Surv.tabH (by omega)) (LQ 1900001 rfl (LQ 1900002 rfl (LQ 1900003 rfl (LW [1, 3, 4, 5, 6, 7, 8, 9, 10, 11, 12, 54] rfl))))))))))))))))))), ?_⟩
 refine TL (RVN 1 rfl ?_);refine QS (GTD (RV 3 rfl ?_));refine RZ (.int .i64 0) (by rfl) ?_;refine RV 2 rfl ?_;refine RZ (.int .i64 0) (by rfl) ?_;refine RV 2 rfl ?_;refine RZ (.int .i64 0) (by rfl) ?_;refine RV 2 rfl ?_;refine RZ (.int .i64 0) (by rfl) ?_;refine RV 2 rfl ?_;refine RZ (.int .i64 0) (by rfl) ?_;refine RB rfl rfl rfl ?_;refine RZ (.bool false) (by rfl) ?_;refine RM rfl ?_;refine RQ (ok_loadA (s := 1000004) (by decide) U40 rfl (size40.of (by rw [List.length_map, sha_length])) rfl rfl) ?_;refine RQ (ok_lit [] (NodT.v (NodT.emp 0 0)) (fun _ _ => rfl) (by kernel_rfl)) ?_;refine RQ (ok_call (rDigest_fn (NodT.emp 0 0) (NodT.emp_fit 0 (j := 0) (by decide)) (by decide)) (A1 rfl)) ?_;refine RQ (ok_neqT (n := 4) true flat40r (by decide) (by kernel_rfl) (by kernel_rfl) rfl rfl (kinB (sha_length _)) (kinB (sha_length _)) (iff_of_true rfl (by rw [lzT_at]))) ?_; refine RZ (.bool false) (by rfl) ?_;refine RP rfl rfl ?_;refine RZ (.bool false) (by rfl) ?_;refine RM rfl ?_;refine RQ (ok_field field32_1 (by decide) rfl) ?_;refine RQ (ok_loadV (s := 1000006) (by decide) U30 rfl rfl rfl (rfl)) ?_;refine RQ (ok_lenV U30 rfl) ?_;refine RQ (ok_bin rfl rfl rfl) ?_;refine RZ (.bool false) (congrArg Value.bool (by rw [lvT_len]; rfl)) ?_;refine RP rfl rfl ?_;refine RZ (.bool false) (by rfl) ?_;refine RM rfl ?_;refine RQ (ok_field field69_1 (by decide) rfl) ?_;refine RQ (ok_loadV (s := 1000008) (by decide) U30 rfl rfl rfl (rfl)) ?_;refine RQ (ok_lenV U30 rfl) ?_;refine RQ (ok_bin rfl rfl rfl) ?_;refine RZ (.bool false) (congrArg Value.bool (by rw [pfA_len]; rfl)) ?_;refine RP rfl rfl ?_;refine RZ (.bool false) (by rfl) ?_;refine RM rfl ?_;refine RQ (ok_field field69_1 (by decide) rfl) ?_;refine RQ (ok_loadV (s := 1000010) (by decide) U30 rfl rfl rfl (rfl)) ?_;refine RQ (ok_lenV U30 rfl) ?_;refine RQ (ok_bin rfl rfl rfl) ?_;refine RZ (.bool false) (congrArg Value.bool (by rw [pfB_len]; rfl)) ?_;refine RP rfl rfl ?_;refine RZ (.bool false) (by rfl) ?_;refine RN (A.sub (Sv [1, 6, 8, 10, 12, 90, 1000001, 1000002, 1000004, 1000006, 1000008, 1000010, 1000012, 1000019, 1000020, 1000021, 1000035, 1000036, 1000037, 1000042, 1000047, 1900000, 1900001, 1900002, 1900003] rfl) ?_);refine A.no rfl ?_;refine QK (QS (GTD (RS (ok_field field32_1 (by decide) rfl) ?_)));refine RLV 1000006 U30 rfl rfl rfl ?_;refine RS (ok_indexS 2 U30 infoN rfl rfl rfl (by rw [lvT_len]; decide)) ?_;refine RS (ok_field field57_3 (by decide) rfl) ?_;refine RS (ok_loadP (s := 1000037) (by decide) U55 rfl size55 rfl rfl (by have hl := nods_len lvT_fit; rw [lvT_len] at hl; rw [List.length_append]; show _ ≤ (nodsV lvT).length + _; omega) (lv_part _)) ?_;refine RL 1000001 U51 rfl rfl (size51.of ((recOf_fit 1 7).len)) ?_;refine RS (ok_litS [(0, aggV (recOf 1 7).v)] (recsV [recOf 1 7, RecT.zero, RecT.zero, RecT.zero]) ⟨rfl, rfl, trivial⟩ lv_buildR) ?_;refine RS (ok_litS [(2, aggV (recsV [recOf 1 7, RecT.zero, RecT.zero, RecT.zero]))] (grpR lvR 0).v ⟨rfl, rfl, trivial⟩ lv_buildX) ?_
 refine RS (ok_call (rDigest_fn (grpR lvR 0) (grpR_fit lvR_fit (by decide)) (by decide)) (A1 rfl)) ?_;refine RS (ok_litS [(0, byteV 2), (1, aggV ((sha (grpR lvR 0).bl).map byteV))] (EntT.v lvE) ⟨rfl, rfl, rfl, rfl, trivial⟩ (buildEntB _ _ (sha_length _))) ?_;refine RS (ok_litS [(0, aggV lvE.v)] (entsV [lvE, EntT.zero, EntT.zero, EntT.zero]) ⟨rfl, rfl, trivial⟩ (lv_buildE _ _ (sha_length _))) ?_;refine RS (ok_neqT (n := 5) true flat55e (by decide) (by kernel_rfl) (by kernel_rfl) rfl rfl lvE_kin lvE_kin (iff_of_true rfl rfl)) ?_; refine RZ (.bool false) (by rfl) ?_;refine RN (A.no rfl ?_);refine QK (GS (TN 6 (RL 1000012 U40 rfl rfl (size40.of (by rw [List.length_map, lvD_len])) ?_)));refine RL 1000008 U69 rfl rfl (size69.of rfl) ?_;refine RS (ok_callMK (Verify_fn 5 0 lvD lvD_len (some ⟨g42, 0, none⟩) pfA pfA_fit pfA.length) (SubK.app (SubK.of (Sub.cons rfl (Sub.cons rfl (Sub.cons rfl (Sub.cons rfl KN)))) tabE_v) (SubK.cons (k := 1000042) (by decide) rfl Le.blkR SubK.nil)) (A3 rfl rfl rfl)) ?_;refine RV 2 rfl ?_;refine RZ (aggV (recOf 1 7).v) (by rw [verA.2]) ?_;refine RS (ok_extractV rfl rfl) ?_;refine RZ (.int .i64 0) (by rw [verA.1]) ?_;refine RN ?_;refine ZN 1000014 zero51 fun b14 ⟨hBb14, hb14⟩ => ?_
 have hlt_b1_b14 := hb14 1000001 b1 _ _ rfl
 have hlt_b19_b14 := hb14 1000019 b19 _ _ rfl
 have hlt_b35_b14 := hb14 1000035 b35 _ _ rfl
 refine TF 7 (RN ?_);refine ⟨_, eff_storeA (n := 149) (s := 1000014) (size51.of ((recOf_fit 1 7).len)) rfl rfl (RecT.one _) hBb14 rfl (by rw [(recOf_fit 1 7).len]; rfl) (LB 1000001 rfl (LT 1000002 rfl (LT 1000004 rfl (LT 1000006 rfl (LT 1000008 rfl (LT 1000010 rfl (LT 1000012 rfl (LB 1000019 rfl (LT 1000020 rfl (LT 1000021 rfl (LB 1000035 rfl (LT 1000036 rfl (LT 1000037 rfl (LT 1000042 rfl (LT 1000047 rfl (LeftS.cons (t := 1900000) rfl (Surv.tabH (by omega)) (LQ 1900001 rfl (LQ 1900002 rfl (LQ 1900003 rfl (LW [1, 10, 12, 14, 108] rfl)))))))))))))))))))), ?_⟩
 refine TL (RVN 1 rfl ?_);refine GS (TN 6 (RL 1000012 U40 rfl rfl (size40.of (by rw [List.length_map, lvD_len])) ?_));refine RL 1000010 U69 rfl rfl (size69.of rfl) ?_;refine RS (ok_callMK (Verify_fn 5 4 lvD lvD_len (some ⟨g47, 0, none⟩) pfB pfB_fit pfB.length) (SubK.app (SubK.of (Sub.cons rfl (Sub.cons rfl (Sub.cons rfl (Sub.cons rfl KN)))) tabE_v) (SubK.cons (k := 1000047) (by decide) rfl Le.blkR SubK.nil)) (A3 rfl rfl rfl)) ?_;refine RV 2 rfl ?_;refine RZ (aggV RecT.zero.v) (by rw [verB.2]) ?_;refine RS (ok_extractV rfl rfl) ?_;refine RZ (.int .i64 0) (by rw [verB.1]) ?_;refine RN ?_;refine ZN 1000015 zero51 fun b15 ⟨hBb15, hb15⟩ => ?_
 have hlt_b1_b15 := hb15 1000001 b1 _ _ rfl
 have hlt_b14_b15 := hb15 1000014 b14 _ _ rfl
 have hlt_b19_b15 := hb15 1000019 b19 _ _ rfl
 have hlt_b35_b15 := hb15 1000035 b35 _ _ rfl
 refine TF 7 (RN ?_);refine ⟨_, eff_storeA (n := 149) (s := 1000015) (size51.of (RecT.zero_fit.len)) rfl rfl (RecT.one _) hBb15 rfl (by rw [RecT.zero_fit.len]; rfl) (LB 1000001 rfl (LT 1000002 rfl (LT 1000004 rfl (LT 1000006 rfl (LT 1000008 rfl (LT 1000010 rfl (LT 1000012 rfl (LB 1000014 rfl (LB 1000019 rfl (LT 1000020 rfl (LT 1000021 rfl (LB 1000035 rfl (LT 1000036 rfl (LT 1000037 rfl (LT 1000042 rfl (LT 1000047 rfl (LeftS.cons (t := 1900000) rfl (Surv.tabH (by omega)) (LQ 1900001 rfl (LQ 1900002 rfl (LQ 1900003 rfl (LW [1, 3, 12, 14, 15, 114] rfl))))))))))))))))))))), ?_⟩
 refine TL (RVN 1 rfl ?_);refine A.sub (Sv [1, 3, 5, 12, 14, 15, 1000001, 1000002, 1000004, 1000006, 1000008, 1000010, 1000012, 1000014, 1000015, 1000019, 1000020, 1000021, 1000035, 1000036, 1000037, 1000042, 1000047, 1900000, 1900001, 1900002, 1900003] rfl) ?_;refine GS (TN 0 (RN ?_));refine ZM 1000116 (fun B' => ok_makeK 4 U26 infoP51 (by decide) rfl rfl (by decide)) rfl fun b116 ⟨hBb116, hb116⟩ => ?_
 have hlt_b1_b116 := hb116 1000001 b1 _ _ rfl
 have hlt_b2_b116 := hb116 1000002 b2 _ _ rfl
 have hlt_b4_b116 := hb116 1000004 b4 _ _ rfl
 have hlt_b6_b116 := hb116 1000006 b6 _ _ rfl
 have hlt_b8_b116 := hb116 1000008 b8 _ _ rfl
 have hlt_b10_b116 := hb116 1000010 b10 _ _ rfl
 have hlt_b12_b116 := hb116 1000012 b12 _ _ rfl
 have hlt_b14_b116 := hb116 1000014 b14 _ _ rfl
 have hlt_b15_b116 := hb116 1000015 b15 _ _ rfl
 have hlt_b19_b116 := hb116 1000019 b19 _ _ rfl
 have hlt_b20_b116 := hb116 1000020 b20 _ _ rfl
 have hlt_g21_b116 := hb116 1000021 g21 _ _ rfl
 have hlt_b35_b116 := hb116 1000035 b35 _ _ rfl
 have hlt_b36_b116 := hb116 1000036 b36 _ _ rfl
 have hlt_g37_b116 := hb116 1000037 g37 _ _ rfl
 have hlt_g42_b116 := hb116 1000042 g42 _ _ rfl
 have hlt_g47_b116 := hb116 1000047 g47 _ _ rfl
 refine TN 1 (RN ?_);refine ZM 1000117 (fun B' => ok_buildG (m := 3) [(0, nI 0), (1, nI 0), (2, nI 0)] (intL [0, 0, 0]) U27 infoPI ⟨rfl, rfl, rfl, rfl, rfl, rfl, trivial⟩ (by kernel_rfl) (by decide) (by decide)) rfl fun b117 ⟨hBb117, hb117⟩ => ?_
 have hlt_b1_b117 := hb117 1000001 b1 _ _ rfl
 have hlt_b2_b117 := hb117 1000002 b2 _ _ rfl
 have hlt_b4_b117 := hb117 1000004 b4 _ _ rfl
 have hlt_b6_b117 := hb117 1000006 b6 _ _ rfl
 have hlt_b8_b117 := hb117 1000008 b8 _ _ rfl
 have hlt_b10_b117 := hb117 1000010 b10 _ _ rfl
 have hlt_b12_b117 := hb117 1000012 b12 _ _ rfl
 have hlt_b14_b117 := hb117 1000014 b14 _ _ rfl
 have hlt_b15_b117 := hb117 1000015 b15 _ _ rfl
 have hlt_b19_b117 := hb117 1000019 b19 _ _ rfl
 have hlt_b20_b117 := hb117 1000020 b20 _ _ rfl
 have hlt_g21_b117 := hb117 1000021 g21 _ _ rfl
 have hlt_b35_b117 := hb117 1000035 b35 _ _ rfl
 have hlt_b36_b117 := hb117 1000036 b36 _ _ rfl
 have hlt_g37_b117 := hb117 1000037 g37 _ _ rfl
 have hlt_g42_b117 := hb117 1000042 g42 _ _ rfl
 have hlt_g47_b117 := hb117 1000047 g47 _ _ rfl
 have hlt_b116_b117 := hb117 1000116 b116 _ _ rfl
 refine TL (RS (ok_callMK (Build_bad 5 [RecT.zero, RecT.zero, RecT.zero, RecT.zero] zr4_fit [0, 0, 0] (some ⟨b116, 0, none⟩) (some ⟨b117, 0, none⟩) 4 3 src5) (SubK.cons (k := 1000116) (by decide) rfl ((Le.eq (congrArg (blk b116 51) (made_rec 4 (fun _ => RecT.zero)))).trans Le.blkR0) (SubK.cons (k := 1000117) (by decide) rfl Le.blkR0 SubK.nil)) (A3 rfl rfl rfl)) ?_);refine RVN 4 rfl ?_;refine GT (RL 1000012 U40 rfl rfl (size40.of (by rw [List.length_map, lvD_len])) ?_);refine RS (ok_lit [] ([.int .i64 0] ++ [.slice none 0 0]) (fun _ _ => rfl) (by kernel_rfl)) ?_;refine RS (ok_callMK (Verify_fn 5 0 lvD lvD_len none [] FitT.nil 0) (SubK.app (SubK.of (Sub.cons rfl (Sub.cons rfl (Sub.cons rfl (Sub.cons rfl KN)))) tabE_v) (SubK.cons (k := 1000037) (by decide) rfl Le.memNil SubK.nil)) (A3 rfl rfl rfl)) ?_;refine RV 2 rfl ?_;refine RZ (aggV RecT.zero.v) (by rw [verC.2]) ?_;refine RS (ok_extractV rfl rfl) ?_;refine RZ (.int .i64 1) (by rw [verC.1]) ?_;refine RVN 1 rfl ?_;refine GT (RV 3 rfl ?_);refine RZ (.int .i64 0) (by rfl) ?_;refine RB rfl rfl rfl ?_;refine RZ (.bool true) (by rfl) ?_;refine RM rfl ?_;refine RQ (ok_loadA (s := 1000014) (by decide) U51 rfl (size51.of ((recOf_fit 1 7).len)) rfl rfl) ?_;refine RQ (ok_loadA (s := 1000001) (by decide) U51 rfl (size51.of ((recOf_fit 1 7).len)) rfl rfl) ?_;refine RQ (ok_eqlT (n := 4) true flat51 (by decide) (by kernel_rfl) (by kernel_rfl) rfl rfl (recOf_fit 1 7).kin (recOf_fit 1 7).kin (iff_of_true rfl rfl)) ?_;refine RP rfl rfl ?_;refine RZ (.bool true) (by rfl) ?_;refine RM rfl ?_;refine RQ (ok_loadA (s := 1000015) (by decide) U51 rfl (size51.of (RecT.zero_fit.len)) rfl rfl) ?_;refine RQ (ok_lit [] (RecT.v RecT.zero) (fun _ _ => rfl) (by kernel_rfl)) ?_;refine RQ (ok_eqlT (n := 4) true flat51 (by decide) (by kernel_rfl) (by kernel_rfl) rfl rfl RecT.zero_fit.kin RecT.zero_fit.kin (iff_of_true rfl rfl)) ?_;refine RP rfl rfl ?_;refine RZ (.bool true) (by rfl) ?_;refine RV 3 rfl ?_;refine RZ (.bool true) (by rfl) ?_;refine RP rfl rfl ?_;refine RZ (.bool true) (by rfl) ?_;refine RV 3 rfl ?_;refine RZ (.bool true) (by rfl) ?_;refine RP rfl rfl ?_;refine RZ (.bool true) (by rfl) ?_;refine RVN 1 rfl ?_;refine A.sub (Sv [0, 1000001, 1000002, 1000004, 1000006, 1000008, 1000010, 1000012, 1000014, 1000015, 1000019, 1000020, 1000021, 1000035, 1000036, 1000037, 1000042, 1000047, 1000116, 1000117, 1900000, 1900001, 1900002, 1900003] rfl) ?_;refine A.ret ?_;exact ER rfl rfl
section
set_option maxRecDepth 20000
set_option linter.unusedSimpArgs false
def nod1 (r : RecT) : NodT := ⟨0, 0, [r, RecT.zero, RecT.zero, RecT.zero], zerosE⟩
theorem nod1_fit {r : RecT} (h : r.Fit) : (nod1 r).Fit := ⟨(by decide : (0 : Nat) < 4294967296), rfl, rfl, fun a ha => by
 simp only [nod1, List.mem_cons, List.not_mem_nil, or_false] at ha
 rcases ha with rfl | rfl | rfl | rfl
 ·exact h
 all_goals exact RecT.zero_fit, NodT.ze_fit⟩
theorem nod1_ck {r : RecT} : (nod1 r).ck = 0 ↔ ¬ r.Bad := by
 constructor
 ·intro h
  exact ((NodT.ck_ok h).2.1 rfl).2 0 (by decide)
 ·intro h
  refine NodT.ok_R rfl (fun i hi => ?_) fun i hi => ?_
  ·show (zerosE.getD i EntT.zero).Z; rw [ze_e]; exact EntT.zZ
  ·match i, hi with
   | 0, _ => exact h
   | 1, _ => exact RecT.zero_ok
   | 2, _ => exact RecT.zero_ok
   | 3, _ => exact RecT.zero_ok
theorem buildR4 {r : RecT} (hr : r.Fit) : Tryz.prog.built 52 [(0, aggV r.v)] = some (recsV [r, RecT.zero, RecT.zero, RecT.zero]).toArray := by
 obtain ⟨x, s, c, t⟩ := r
 have ht : t.length = 32 := hr.t
 match t, ht with
 | [a0, a1, a2, a3, a4, a5, a6, a7, a8, a9, b0, b1, b2, b3, b4, b5, b6, b7, b8, b9, c0, c1, c2, c3, c4, c5, c6, c7, c8, c9, d0, d1], _ => show _ = _; kernel_rfl
theorem buildX4 {r : RecT} (hr : r.Fit) : Tryz.prog.built 57 [(2, aggV (recsV [r, RecT.zero, RecT.zero, RecT.zero]))] = some (nod1 r).v.toArray := by
 obtain ⟨x, s, c, t⟩ := r
 have ht : t.length = 32 := hr.t
 match t, ht with
 | [a0, a1, a2, a3, a4, a5, a6, a7, a8, a9, b0, b1, b2, b3, b4, b5, b6, b7, b8, b9, c0, c1, c2, c3, c4, c5, c6, c7, c8, c9, d0, d1], _ => show _ = _; kernel_rfl
open Classical in
noncomputable def wA (R : List RecT) (k : Nat) : Int := if ∀ j, R.length - k ≤ j → j < R.length → ¬ (recAt R j).Bad then 0 else 1
def SrcLen (n : Int) (R : List RecT) (m : Nat) : Prop := 1 ≤ n ∧ n ≤ 4096 ∧ (R.length : Int) = n ∧ m = tot n.toNat (hg n.toNat + 1)
open Classical in
noncomputable def wL (n : Int) (R : List RecT) (m : Nat) : Int := if SrcLen n R m then wA R R.length else 1
open Classical in
noncomputable def wS (n : Int) (R : List RecT) (S : List Int) (i : Nat) : Int := if ∀ j, j < i → S.getD j 0 = 0 ∨ S.getD j 0 = 1 then wL n R S.length else 1
theorem wA_0 (R : List RecT) : wA R 0 = 0 := if_pos fun j h1 h2 => absurd h2 (by omega)
theorem wA_bad {R : List RecT} {k : Nat} (hk : k < R.length) (h : (recAt R (R.length - 1 - k)).Bad) : wA R (k + 1) = 1 := if_neg fun hh => hh (R.length - 1 - k) (by omega) (by omega) h
theorem wA_ok {R : List RecT} {k : Nat} (hk : k < R.length) (h : ¬ (recAt R (R.length - 1 - k)).Bad) : wA R (k + 1) = wA R k := by
 unfold wA
 congr 1
 apply propext
 constructor
 ·intro hh j h1 h2; exact hh j (by omega) h2
 ·intro hh j h1 h2
  by_cases hj : R.length - k ≤ j
  ·exact hh j hj h2
  ·rw [show j = R.length - 1 - k from by omega]; exact h
theorem wL_no {n : Int} {R : List RecT} {m : Nat} (h : ¬ SrcLen n R m) : wL n R m = 1 := if_neg h
theorem wL_ok {n : Int} {R : List RecT} {m : Nat} (h : SrcLen n R m) : wL n R m = wA R R.length := if_pos h
theorem wS_0 (n : Int) (R : List RecT) (S : List Int) : wS n R S 0 = wL n R S.length := if_pos fun j h => absurd h (Nat.not_lt_zero _)
theorem wS_bad {n : Int} {R : List RecT} {S : List Int} {i : Nat} (h : ¬ (S.getD i 0 = 0 ∨ S.getD i 0 = 1)) : wS n R S (i + 1) = 1 := if_neg fun hh => h (hh i (by omega))
theorem wS_ok {n : Int} {R : List RecT} {S : List Int} {i : Nat} (h : S.getD i 0 = 0 ∨ S.getD i 0 = 1) : wS n R S (i + 1) = wS n R S i := by
 unfold wS
 congr 1
 apply propext
 constructor
 ·intro hh j h1; exact hh j (by omega)
 ·intro hh j h1
  by_cases hj : j < i
  ·exact hh j hj
  ·rw [show j = i from by omega]; exact h
theorem wS_src {n : Int} {R : List RecT} {S : List Int} (h : ¬ SrcOk n R S) : wS n R S S.length = 1 := by
 unfold wS
 split
 ·rename_i h1
  unfold wL
  split
  ·rename_i h2
   exact if_neg fun h3 => h ⟨h2.1, h2.2.1, h2.2.2.1, h2.2.2.2, h1, fun i hi => h3 i (by omega) hi⟩
  ·rfl
 ·rfl
theorem src4 {n : Int} {R : List RecT} {m : Nat} : n < 1 ∨ (¬ n < 1 ∧ 4096 < n) ∨ (1 ≤ n ∧ n ≤ 4096 ∧ (R.length : Int) ≠ n) ∨ (1 ≤ n ∧ n ≤ 4096 ∧ (R.length : Int) = n ∧ m ≠ tot n.toNat (hg n.toNat + 1)) ∨ SrcLen n R m := by
 unfold SrcLen
 by_cases h : 1 ≤ n ∧ n ≤ 4096
 ·by_cases h2 : (R.length : Int) = n
  ·by_cases h3 : m = tot n.toNat (hg n.toNat + 1)
   ·exact .inr (.inr (.inr (.inr ⟨h.1, h.2, h2, h3⟩)))
   ·exact .inr (.inr (.inr (.inl ⟨h.1, h.2, h2, h3⟩)))
  ·exact .inr (.inr (.inl ⟨h.1, h.2, h2⟩))
 ·omega
theorem rTotal_int (n : Int) (h1 : 1 ≤ n) (h2 : n ≤ 4096) : Fn Tryz.prog 36 [.v (.int .i64 n)] (.v (nI (tot n.toNat (hg n.toNat + 1)))) := by
 obtain ⟨k, rfl⟩ : ∃ k : Nat, n = k := ⟨n.toNat, by omega⟩
 exact rTotal_fn k (by omega) (by omega)
set_option maxHeartbeats 2000000 in
theorem MErr_big (n : Int) (R : List RecT) (hR : FitR R) (S : List Int) (h : ¬ (R.length ≤ 30 ∧ S.length ≤ 20))  : FnM Tryz.prog 9 tabE [.v (.int .i64 (n)), rowLg R.length (recsV R), rowLg S.length (intL S)] (.v (.bool true)) := by
 refine FnM.of Tryz.func9 rfl (by kernel_rfl) Tryz.ntmps9 (by simp) (by decide) (fun w => [(0, .v (.int .i64 (n))), (1, old w.heap.size (rowLg R.length (recsV R))), (2, old w.heap.size (rowLg S.length (intL S))), (1900000, tabH 0 ([errT])), (1900001, tab 1 (sizV)), (1900002, tab 2 (H8.list.map u32V)), (1900003, tab 3 (K64.map u32V))]) (fun w => (StartM.v rfl (StartM.old rfl (StartM.old rfl (StartM.m (by simp [tabE]) (by decide) (StartM.m (by simp [tabE]) (by decide) (StartM.m (by simp [tabE]) (by decide) (StartM.m (by simp [tabE]) (by decide) StartM.nil)))))))) fun w₀ hM => ?_
 have htab := tabE_hi hM
 refine A.nameRC (t := 1) (k := 1000801) rfl fun A₁ c₁ hc₁ => ?_
 refine A.nameRC (t := 2) (k := 1000702) rfl fun A₂ c₂ hc₂ => ?_
 refine GV rfl (QS ?_)
 rcases (show 30 < R.length ∨ (R.length ≤ 30 ∧ 20 < S.length) by omega) with ha | ⟨ha, hb⟩
 ·refine GT (RM rfl ?_);refine RS (ok_lenV U26 rfl) ?_;refine RB rfl rfl rfl ?_;refine RZ (.bool true) (congrArg Value.bool (decide_eq_true (by omega))) ?_;refine RV 5 rfl ?_;refine RZ (.bool true) (by rfl) ?_;refine RN (A.yes rfl ?_);refine GT (RS (ok_callMK lives16_fn (SubK.of (Sub.cons rfl (Sub.cons rfl (Sub.cons rfl (Sub.cons rfl KN)))) tabE_v) Args.nil) ?_);refine RVN 1 rfl ?_;refine A.ret (End.ret_then ?_);exact ER rfl rfl
 ·refine GT (RM rfl ?_);refine RS (ok_lenV U26 rfl) ?_;refine RB rfl rfl rfl ?_;refine RZ (.bool false) (congrArg Value.bool (decide_eq_false (by omega))) ?_;refine RV 2 rfl ?_;refine RQ (ok_lenV U27 rfl) ?_;refine RQ (ok_bin rfl rfl rfl) ?_;refine RZ (.bool true) (congrArg Value.bool (decide_eq_true (by omega))) ?_;refine RP rfl rfl ?_;refine RZ (.bool true) (by rfl) ?_;refine RN (A.yes rfl ?_);refine GT (RS (ok_callMK lives16_fn (SubK.of (Sub.cons rfl (Sub.cons rfl (Sub.cons rfl (Sub.cons rfl KN)))) tabE_v) Args.nil) ?_);refine RVN 1 rfl ?_;refine A.ret (End.ret_then ?_);exact ER rfl rfl
open Classical in
noncomputable instance decSrc (n : Int) (R : List RecT) (m : Nat) : Decidable (SrcLen n R m) := Classical.propDecidable _
set_option maxHeartbeats 4000000 in
theorem MErr_bad (n : Int) (R : List RecT) (hR : FitR R) (S : List Int) (h30 : R.length ≤ 30) (h20 : S.length ≤ 20) (hno : ¬ SrcOk n R S)  : FnM Tryz.prog 9 tabE [.v (.int .i64 (n)), rowLg R.length (recsV R), rowLg S.length (intL S)] (.v (.bool true)) := by
 refine FnM.of Tryz.func9 rfl (by kernel_rfl) Tryz.ntmps9 (by simp) (by decide) (fun w => [(0, .v (.int .i64 (n))), (1, old w.heap.size (rowLg R.length (recsV R))), (2, old w.heap.size (rowLg S.length (intL S))), (1900000, tabH 0 ([errT])), (1900001, tab 1 (sizV)), (1900002, tab 2 (H8.list.map u32V)), (1900003, tab 3 (K64.map u32V))]) (fun w => (StartM.v rfl (StartM.old rfl (StartM.old rfl (StartM.m (by simp [tabE]) (by decide) (StartM.m (by simp [tabE]) (by decide) (StartM.m (by simp [tabE]) (by decide) (StartM.m (by simp [tabE]) (by decide) StartM.nil)))))))) fun w₀ hM => ?_
 have htab := tabE_hi hM
 refine A.nameRC (t := 1) (k := 1000801) rfl fun A₁ c₁ hc₁ => ?_
 refine A.nameRC (t := 2) (k := 1000702) rfl fun A₂ c₂ hc₂ => ?_
 refine GV rfl (QS (GT (RM rfl ?_)));refine RS (ok_lenV U26 rfl) ?_;refine RB rfl rfl rfl ?_;refine RZ (.bool false) (congrArg Value.bool (decide_eq_false (by omega))) ?_;refine RV 2 rfl ?_;refine RQ (ok_lenV U27 rfl) ?_;refine RQ (ok_bin rfl rfl rfl) ?_;refine RZ (.bool false) (congrArg Value.bool (decide_eq_false (by omega))) ?_;refine RP rfl rfl ?_;refine RZ (.bool false) (by rfl) ?_;refine RN (A.no rfl ?_);refine QK (GV rfl (QS (GT (RM rfl ?_))));refine RS (ok_lenV U26 rfl) ?_;refine RB rfl rfl rfl ?_;refine RZ (.int .i64 ((R.length : Int) - 1)) (congrArg (Value.int .i64) (wrap_i64 (by omega) (by omega))) ?_;refine RVN 1 rfl ?_;refine A.block ?_;refine A.loop (ι := Nat) (fun k => k ≤ R.length) (fun k => [(0, .v (.int .i64 (n))), (1, .v (.slice A₁ R.length c₁)), (2, .v (.slice A₂ S.length c₂)), (7, .v (.int .i64 (wA R k))), (8, .v (.int .i64 ((R.length : Int) - 1 - (k : Int)))), (1000801, old w₀.heap.size (memR A₁ (recsV R))), (1000702, old w₀.heap.size (memR A₂ (intL S))), (1900000, tabH 0 ([errT])), (1900001, tab 1 (sizV)), (1900002, tab 2 (H8.list.map u32V)), (1900003, tab 3 (K64.map u32V))]) (fun k => R.length - k) 0 ?_ ?_ ?_
 ·exact Nat.zero_le _
 ·exact (KC 0 rfl (KC 1 rfl (KC 2 rfl (KE 7 rfl (by rw [wA_0]) (KE 8 rfl (by simp) (KC 1000801 rfl (KC 1000702 rfl (KC 1900000 rfl (KC 1900001 rfl (KC 1900002 rfl (KC 1900003 rfl KN)))))))))))
 intro k hk'
 refine QS (GT (RV 2 rfl ?_));refine RZ (.bool (decide (k < R.length))) (congrArg Value.bool (decide_eq_decide.2 (by omega))) ?_;refine RN ?_;refine A.cond rfl (fun hc25 => ?_) (fun hc25 => ?_)
 ·have hk : k < R.length := of_decide_eq_true hc25
  have hm : (R.length - 1 - k) < R.length := by omega
  refine QK (QSB (GT (RV 2 rfl ?_)));refine RZ (nI ((R.length - 1 - k))) (congrArg (Value.int .i64) (by omega)) ?_;refine RS (ok_indexR (s := 1000801) (R.length - 1 - k) U26 infoP51 rfl rfl (by decide) rfl hm (by rw [recs_len hR]; omega)) ?_;refine RS (ok_loadElemT 35 U51 rfl size51 (by rw [recs_at hR hm, (hR.at _).len]; exact Nat.le_refl _) rfl) ?_; refine RZ (aggV (recAt R (R.length - 1 - k)).v) (congrArg aggV (by rw [recs_at hR hm]; exact List.take_of_length_le (Nat.le_of_eq (hR.at _).len))) ?_;refine RS (ok_litS [(0, aggV (recAt R (R.length - 1 - k)).v)] (recsV [(recAt R (R.length - 1 - k)), RecT.zero, RecT.zero, RecT.zero]) ⟨rfl, rfl, trivial⟩ (buildR4 (hR.at _))) ?_;refine RS (ok_litS [(2, aggV (recsV [(recAt R (R.length - 1 - k)), RecT.zero, RecT.zero, RecT.zero]))] (nod1 (recAt R (R.length - 1 - k))).v ⟨rfl, rfl, trivial⟩ (buildX4 (hR.at _))) ?_;refine RS (ok_call (rCheck_fn (nod1 (recAt R (R.length - 1 - k))) (nod1_fit (hR.at _))) (A1 rfl)) ?_;refine RVN 1 rfl ?_;refine A.cond rfl (fun hc35 => ?_) (fun hc35 => ?_)
  ·have hb : (recAt R (R.length - 1 - k)).Bad := Classical.byContradiction fun hh => absurd (nod1_ck.2 hh) (by simpa using hc35)
   refine GVE rfl (End.normal_block (EN (GTE (RV 2 rfl ?_))));refine RZ (.int .i64 ((R.length : Int) - 1 - ((k + 1 : Nat) : Int))) (congrArg (Value.int .i64) ((wrap_i64 (by omega) (by omega)).trans (by omega))) ?_;refine RVN 1 rfl ?_;refine End.normal_then ?_;refine End.again (k + 1) ?_ ?_ ?_
   ·show _ ≤ _; omega
   ·show _ - _ < _ - _; omega
   ·exact (KC 0 rfl (KC 1 rfl (KC 2 rfl (KE 7 rfl (by first | rw [wA_bad hk hb] | rw [wA_ok hk hb]) (KC 8 rfl (KC 1000801 rfl (KC 1000702 rfl (KC 1900000 rfl (KC 1900001 rfl (KC 1900002 rfl (KC 1900003 rfl KN)))))))))))
  ·have hb : ¬ (recAt R (R.length - 1 - k)).Bad := nod1_ck.1 (by simpa using hc35)
   refine A.skip (End.normal_block (EN (GTE (RV 2 rfl ?_))));refine RZ (.int .i64 ((R.length : Int) - 1 - ((k + 1 : Nat) : Int))) (congrArg (Value.int .i64) ((wrap_i64 (by omega) (by omega)).trans (by omega))) ?_;refine RVN 1 rfl ?_;refine End.normal_then ?_;refine End.again (k + 1) ?_ ?_ ?_
   ·show _ ≤ _; omega
   ·show _ - _ < _ - _; omega
   ·exact (KC 0 rfl (KC 1 rfl (KC 2 rfl (KE 7 rfl (by first | rw [wA_bad hk hb] | rw [wA_ok hk hb]) (KC 8 rfl (KC 1000801 rfl (KC 1000702 rfl (KC 1900000 rfl (KC 1900001 rfl (KC 1900002 rfl (KC 1900003 rfl KN)))))))))))
 ·have hk2 : k = R.length := by have := of_decide_eq_false hc25; omega
  refine A.exit (End.exit_then (End.exit_then (End.exit_here (EN ?_))));refine A.seqTo [(0, .v (.int .i64 (n))), (1, .v (.slice A₁ R.length c₁)), (2, .v (.slice A₂ S.length c₂)), (7, .v (.int .i64 (wL n R S.length))), (1000801, old w₀.heap.size (memR A₁ (recsV R))), (1000702, old w₀.heap.size (memR A₂ (intL S))), (1900000, tabH 0 ([errT])), (1900001, tab 1 (sizV)), (1900002, tab 2 (H8.list.map u32V)), (1900003, tab 3 (K64.map u32V))] ?_ ?_
  ·refine A.seqTo [(0, .v (.int .i64 (n))), (1, .v (.slice A₁ R.length c₁)), (2, .v (.slice A₂ S.length c₂)), (7, .v (.int .i64 (wA R R.length))), (54, .v (.bool (!decide (SrcLen n R S.length)))), (1000801, old w₀.heap.size (memR A₁ (recsV R))), (1000702, old w₀.heap.size (memR A₂ (intL S))), (1900000, tabH 0 ([errT])), (1900001, tab 1 (sizV)), (1900002, tab 2 (H8.list.map u32V)), (1900003, tab 3 (K64.map u32V))] ?_ ?_
   ·rcases src4 (n := n) (R := R) (m := S.length) with hx | ⟨hx, hy⟩ | ⟨hx, hy, hz⟩ | ⟨hx, hy, hz, hv⟩ | ⟨hx, hy, hz, hv⟩
    ·refine GTE (RV 2 rfl ?_);refine RZ (.bool true) (congrArg Value.bool (decide_eq_true (by omega))) ?_;refine RV 4 rfl ?_;refine RZ (.bool true) (by rfl) ?_;refine RV 6 rfl ?_;refine RZ (.bool true) (by rfl) ?_;refine RV 7 rfl ?_;refine RZ (.bool true) (by rfl) ?_;refine RN ?_;exact End.normal_then (End.toEnv (SQ 0 rfl (SQ 1 rfl (SQ 2 rfl (SubL.cons (t := 7) rfl (Le.v (by rw [hk2])) (SubL.cons (t := 54) rfl (Le.v (by rw [decide_eq_false (fun h => by have := h.1; omega)]; rfl)) (SQ 1000801 rfl (SQ 1000702 rfl (SQ 1900000 rfl (SQ 1900001 rfl (SQ 1900002 rfl (SQ 1900003 rfl SubL.nil))))))))))))
    ·refine GTE (RV 2 rfl ?_);refine RZ (.bool false) (congrArg Value.bool (decide_eq_false (by omega))) ?_;refine RV 3 rfl ?_;refine RZ (.bool true) (congrArg Value.bool (decide_eq_true (by omega))) ?_;refine RP rfl rfl ?_;refine RZ (.bool true) (by rfl) ?_;refine RV 6 rfl ?_;refine RZ (.bool true) (by rfl) ?_;refine RV 7 rfl ?_;refine RZ (.bool true) (by rfl) ?_;refine RN ?_;exact End.normal_then (End.toEnv (SQ 0 rfl (SQ 1 rfl (SQ 2 rfl (SubL.cons (t := 7) rfl (Le.v (by rw [hk2])) (SubL.cons (t := 54) rfl (Le.v (by rw [decide_eq_false (fun h => by have := h.2.1; omega)]; rfl)) (SQ 1000801 rfl (SQ 1000702 rfl (SQ 1900000 rfl (SQ 1900001 rfl (SQ 1900002 rfl (SQ 1900003 rfl SubL.nil))))))))))))
    ·refine GTE (RV 2 rfl ?_);refine RZ (.bool false) (congrArg Value.bool (decide_eq_false (by omega))) ?_;refine RV 3 rfl ?_;refine RZ (.bool false) (congrArg Value.bool (decide_eq_false (by omega))) ?_;refine RP rfl rfl ?_;refine RZ (.bool false) (by rfl) ?_;refine RV 2 rfl ?_;refine RQ (ok_lenV U26 rfl) ?_;refine RV 2 rfl ?_;refine RZ (.bool true) (congrArg Value.bool (bne_iff_ne.2 (by omega))) ?_;refine RP rfl rfl ?_;refine RZ (.bool true) (by rfl) ?_;refine RV 7 rfl ?_;refine RZ (.bool true) (by rfl) ?_;refine RN ?_;exact End.normal_then (End.toEnv (SQ 0 rfl (SQ 1 rfl (SQ 2 rfl (SubL.cons (t := 7) rfl (Le.v (by rw [hk2])) (SubL.cons (t := 54) rfl (Le.v (by rw [decide_eq_false (fun h => hz h.2.2.1)]; rfl)) (SQ 1000801 rfl (SQ 1000702 rfl (SQ 1900000 rfl (SQ 1900001 rfl (SQ 1900002 rfl (SQ 1900003 rfl SubL.nil))))))))))))
    ·refine GTE (RV 2 rfl ?_);refine RZ (.bool false) (congrArg Value.bool (decide_eq_false (by omega))) ?_;refine RV 3 rfl ?_;refine RZ (.bool false) (congrArg Value.bool (decide_eq_false (by omega))) ?_;refine RP rfl rfl ?_;refine RZ (.bool false) (by rfl) ?_;refine RV 2 rfl ?_;refine RQ (ok_lenV U26 rfl) ?_;refine RV 2 rfl ?_;refine RZ (.bool false) (congrArg Value.bool (bne_eq_false_iff_eq.2 (by omega))) ?_;refine RP rfl rfl ?_;refine RZ (.bool false) (by rfl) ?_;refine RV 2 rfl ?_;refine RQ (ok_lenV U27 rfl) ?_;refine RQ (ok_move rfl) ?_;refine RQ (ok_call (rTotal_int n hx hy) (A1 rfl)) ?_;refine RQ (ok_bin rfl rfl rfl) ?_;refine RZ (.bool true) (congrArg Value.bool (bne_iff_ne.2 (by omega))) ?_;refine RP rfl rfl ?_;refine RZ (.bool true) (by rfl) ?_;refine RN ?_;exact End.normal_then (End.toEnv (SQ 0 rfl (SQ 1 rfl (SQ 2 rfl (SubL.cons (t := 7) rfl (Le.v (by rw [hk2])) (SubL.cons (t := 54) rfl (Le.v (by rw [decide_eq_false (fun h => hv h.2.2.2)]; rfl)) (SQ 1000801 rfl (SQ 1000702 rfl (SQ 1900000 rfl (SQ 1900001 rfl (SQ 1900002 rfl (SQ 1900003 rfl SubL.nil))))))))))))
    ·refine GTE (RV 2 rfl ?_);refine RZ (.bool false) (congrArg Value.bool (decide_eq_false (by omega))) ?_;refine RV 3 rfl ?_;refine RZ (.bool false) (congrArg Value.bool (decide_eq_false (by omega))) ?_;refine RP rfl rfl ?_;refine RZ (.bool false) (by rfl) ?_;refine RV 2 rfl ?_;refine RQ (ok_lenV U26 rfl) ?_;refine RV 2 rfl ?_;refine RZ (.bool false) (congrArg Value.bool (bne_eq_false_iff_eq.2 (by omega))) ?_;refine RP rfl rfl ?_;refine RZ (.bool false) (by rfl) ?_;refine RV 2 rfl ?_;refine RQ (ok_lenV U27 rfl) ?_;refine RQ (ok_move rfl) ?_;refine RQ (ok_call (rTotal_int n hx hy) (A1 rfl)) ?_;refine RQ (ok_bin rfl rfl rfl) ?_;refine RZ (.bool false) (congrArg Value.bool (bne_eq_false_iff_eq.2 (by omega))) ?_;refine RP rfl rfl ?_;refine RZ (.bool false) (by rfl) ?_;refine RN ?_;exact End.normal_then (End.toEnv (SQ 0 rfl (SQ 1 rfl (SQ 2 rfl (SubL.cons (t := 7) rfl (Le.v (by rw [hk2])) (SubL.cons (t := 54) rfl (Le.v (by rw [decide_eq_true (show SrcLen n R S.length from ⟨hx, hy, hz, hv⟩)]; rfl)) (SQ 1000801 rfl (SQ 1000702 rfl (SQ 1900000 rfl (SQ 1900001 rfl (SQ 1900002 rfl (SQ 1900003 rfl SubL.nil))))))))))))
   ·refine A.cond rfl (fun hc54 => ?_) (fun hc54 => ?_)
    ·have hsl : ¬ SrcLen n R S.length := by simpa using hc54
     refine GVE rfl ?_;exact End.normal_then (End.toEnv (SQ 0 rfl (SQ 1 rfl (SQ 2 rfl (SubL.cons (t := 7) rfl (by first | exact Le.v (congrArg (Value.int .i64) (wL_no hsl).symm) | exact Le.v (congrArg (Value.int .i64) (wL_ok hsl).symm)) (SQ 1000801 rfl (SQ 1000702 rfl (SQ 1900000 rfl (SQ 1900001 rfl (SQ 1900002 rfl (SQ 1900003 rfl SubL.nil)))))))))))
    ·have hsl : SrcLen n R S.length := by simpa using hc54
     refine A.skip ?_;exact End.normal_then (End.toEnv (SQ 0 rfl (SQ 1 rfl (SQ 2 rfl (SubL.cons (t := 7) rfl (by first | exact Le.v (congrArg (Value.int .i64) (wL_no hsl).symm) | exact Le.v (congrArg (Value.int .i64) (wL_ok hsl).symm)) (SQ 1000801 rfl (SQ 1000702 rfl (SQ 1900000 rfl (SQ 1900001 rfl (SQ 1900002 rfl (SQ 1900003 rfl SubL.nil)))))))))))
  ·refine QS (GV rfl (A.block ?_));refine A.loop (ι := Nat) (fun i => i ≤ S.length) (fun i => [(0, .v (.int .i64 (n))), (1, .v (.slice A₁ R.length c₁)), (2, .v (.slice A₂ S.length c₂)), (7, .v (.int .i64 (wS n R S i))), (9, .v (nI (i))), (1000801, old w₀.heap.size (memR A₁ (recsV R))), (1000702, old w₀.heap.size (memR A₂ (intL S))), (1900000, tabH 0 ([errT])), (1900001, tab 1 (sizV)), (1900002, tab 2 (H8.list.map u32V)), (1900003, tab 3 (K64.map u32V))]) (fun i => S.length - i) 0 ?_ ?_ ?_
   ·exact Nat.zero_le _
   ·exact (KC 0 rfl (KC 1 rfl (KC 2 rfl (KE 7 rfl (by rw [wS_0]) (KE 9 rfl (by rfl) (KC 1000801 rfl (KC 1000702 rfl (KC 1900000 rfl (KC 1900001 rfl (KC 1900002 rfl (KC 1900003 rfl KN)))))))))))
   intro i hi'
   refine QS (GT (RV 2 rfl ?_));refine RS (ok_lenV U27 rfl) ?_;refine RVN 1 rfl ?_;refine A.cond rfl (fun hc58 => ?_) (fun hc58 => ?_)
   ·have hi : i < S.length := by simp at hc58; omega
    refine QK (QSB ?_)
    by_cases hz : S.getD i 0 = 0
    ·refine GT (RV 2 rfl ?_);refine RS (ok_indexR (s := 1000702) i U27 infoPI rfl rfl (by decide) rfl hi (by rw [intL_len]; omega)) ?_;refine RS (ok_loadP1 (u := .int .i64 (S.getD i 0)) (us := []) U3 rfl (by show some (elemP _) = _; rw [intL_at hi])) ?_;refine RB rfl rfl rfl ?_;refine RZ (.bool false) (congrArg Value.bool (bne_eq_false_iff_eq.2 (by omega))) ?_;refine RV 7 rfl ?_;refine RZ (.bool false) (by rfl) ?_;refine RN (A.no rfl ?_);refine A.skip (End.normal_block (EN (GTE (RV 2 rfl ?_))));refine RZ (nI (i + 1)) (wrap_eq (by omega) (by omega)) ?_;refine RVN 1 rfl ?_;refine End.normal_then ?_;refine End.again (i + 1) ?_ ?_ ?_
     ·show _ ≤ _; omega
     ·show _ - _ < _ - _; omega
     ·exact (KC 0 rfl (KC 1 rfl (KC 2 rfl (KE 7 rfl (by first | rw [wS_bad hs] | rw [wS_ok hs] | rw [wS_ok (.inl hz)]) (KC 9 rfl (KC 1000801 rfl (KC 1000702 rfl (KC 1900000 rfl (KC 1900001 rfl (KC 1900002 rfl (KC 1900003 rfl KN)))))))))))
    ·refine GT (RV 2 rfl ?_);refine RS (ok_indexR (s := 1000702) i U27 infoPI rfl rfl (by decide) rfl hi (by rw [intL_len]; omega)) ?_;refine RS (ok_loadP1 (u := .int .i64 (S.getD i 0)) (us := []) U3 rfl (by show some (elemP _) = _; rw [intL_at hi])) ?_;refine RB rfl rfl rfl ?_;refine RZ (.bool true) (congrArg Value.bool (bne_iff_ne.2 (by omega))) ?_;refine RV 3 rfl ?_;refine RQ (ok_indexR (s := 1000702) i U27 infoPI rfl rfl (by decide) rfl hi (by rw [intL_len]; omega)) ?_;refine RQ (ok_loadP1 (u := .int .i64 (S.getD i 0)) (us := []) U3 rfl (by show some (elemP _) = _; rw [intL_at hi])) ?_;refine RVN 2 rfl ?_;refine A.cond rfl (fun hc72 => ?_) (fun hc72 => ?_)
     ·have hs1 : ¬ S.getD i 0 = 1 := by simpa using hc72
      have hs : ¬ (S.getD i 0 = 0 ∨ S.getD i 0 = 1) := by omega
      refine GVE rfl (End.normal_block (EN (GTE (RV 2 rfl ?_))));refine RZ (nI (i + 1)) (wrap_eq (by omega) (by omega)) ?_;refine RVN 1 rfl ?_;refine End.normal_then ?_;refine End.again (i + 1) ?_ ?_ ?_
      ·show _ ≤ _; omega
      ·show _ - _ < _ - _; omega
      ·exact (KC 0 rfl (KC 1 rfl (KC 2 rfl (KE 7 rfl (by first | rw [wS_bad hs] | rw [wS_ok hs] | rw [wS_ok (.inl hz)]) (KC 9 rfl (KC 1000801 rfl (KC 1000702 rfl (KC 1900000 rfl (KC 1900001 rfl (KC 1900002 rfl (KC 1900003 rfl KN)))))))))))
     ·have hs1 : S.getD i 0 = 1 := by simpa using hc72
      have hs : S.getD i 0 = 0 ∨ S.getD i 0 = 1 := .inr hs1
      refine A.skip (End.normal_block (EN (GTE (RV 2 rfl ?_))));refine RZ (nI (i + 1)) (wrap_eq (by omega) (by omega)) ?_;refine RVN 1 rfl ?_;refine End.normal_then ?_;refine End.again (i + 1) ?_ ?_ ?_
      ·show _ ≤ _; omega
      ·show _ - _ < _ - _; omega
      ·exact (KC 0 rfl (KC 1 rfl (KC 2 rfl (KE 7 rfl (by first | rw [wS_bad hs] | rw [wS_ok hs] | rw [wS_ok (.inl hz)]) (KC 9 rfl (KC 1000801 rfl (KC 1000702 rfl (KC 1900000 rfl (KC 1900001 rfl (KC 1900002 rfl (KC 1900003 rfl KN)))))))))))
   ·have hi2 : i = S.length := by simp at hc58; omega
    refine A.exit (End.exit_then (End.exit_then (End.exit_here (EN (GS (TN 7 (RV 3 rfl ?_)))))));refine RS (ok_callMK (Build_bad n R hR S A₁ A₂ c₁ c₂ (srcE_no hno)) (SubK.cons (k := 1000801) (by decide) rfl Le.unold (SubK.cons (k := 1000702) (by decide) rfl Le.unold SubK.nil)) (A3 rfl rfl rfl)) ?_;refine RVN 3 rfl ?_;refine ZN 1000010 zero32 fun b10 ⟨hBb10, hb10⟩ => ?_
    refine TF 8 (RN ?_); refine ZA 1000010 (size32.of rfl) hBb10 rfl rfl rfl (LO 1000702 rfl (LO 1000801 rfl (LeftS.cons (t := 1900000) rfl (Surv.tabH (by omega)) (LQ 1900001 rfl (LQ 1900002 rfl (LQ 1900003 rfl (LW [1, 2, 7, 10, 79] rfl))))))) ?_;refine TL (RVN 1 rfl ?_);refine QS (GT (RV 2 rfl ?_));refine RZ (.int .i64 1) (by rw [hi2, wS_src hno]) ?_;refine RB rfl rfl rfl ?_;refine RZ (.bool false) (by rfl) ?_;refine RN (A.no rfl ?_);refine QK (QS (GT (RV 2 rfl ?_)));refine RZ (.bool true) (by rfl) ?_;refine RN (A.yes rfl ?_);refine GT (RS (ok_field field32_0 (by decide) rfl) ?_);refine RLV 1000010 U3 rfl rfl rfl ?_;refine RB rfl rfl rfl ?_;refine RZ (.bool true) (by rfl) ?_;refine RM rfl ?_;refine RQ (ok_field field32_1 (by decide) rfl) ?_;refine RQ (ok_loadV (s := 1000010) (by decide) U30 rfl rfl rfl (rfl)) ?_;refine RQ (ok_lenV U30 rfl) ?_;refine RQ (ok_bin rfl rfl rfl) ?_;refine RZ (.bool true) (by rfl) ?_;refine RP rfl rfl ?_;refine RZ (.bool true) (by rfl) ?_;refine RM rfl ?_;refine RQ (ok_callMK lives16_fn (SubK.of (Sub.cons rfl (Sub.cons rfl (Sub.cons rfl (Sub.cons rfl KN)))) tabE_v) Args.nil) ?_;refine RP rfl rfl ?_;refine RZ (.bool true) (by rfl) ?_;refine RVN 1 rfl ?_;refine A.sub (Sv [6, 1000010, 1000702, 1000801, 1900000, 1900001, 1900002, 1900003] rfl) ?_;refine A.ret (End.ret_then ?_);exact End.ret1 rfl rfl (Le.refl _)
theorem slotV_at1 {S : List Nat} {i : Nat} (h : i < S.length) : ((slotV S).drop (i * 1)).take 1 = [nI (S.getD i 0)] := by
 unfold slotV
 rw [Nat.mul_one, ← List.map_drop, ← List.map_take, List.drop_eq_getElem_cons h, List.getD_eq_getElem?_getD, List.getElem?_eq_getElem h]; rfl
theorem slotV_len (S : List Nat) : (slotV S).length = S.length := List.length_map _
set_option maxHeartbeats 4000000 in
theorem MErr_ok (R : List RecT) (hR : FitR R) (h1 : 1 ≤ R.length) (h30 : R.length ≤ 30) (hO : OkR R) (S : List Nat) (hS : OkS S) (hSl : S.length = tot R.length (hg R.length + 1)) (h20 : S.length ≤ 20)  : FnM Tryz.prog 9 tabE [.v (nI (R.length)), rowLg R.length (recsV R), rowLg S.length (slotV S)] (.v (.bool true)) := by
 refine FnM.of Tryz.func9 rfl (by kernel_rfl) Tryz.ntmps9 (by simp) (by decide) (fun w => [(0, .v (nI (R.length))), (1, old w.heap.size (rowLg R.length (recsV R))), (2, old w.heap.size (rowLg S.length (slotV S))), (1900000, tabH 0 ([errT])), (1900001, tab 1 (sizV)), (1900002, tab 2 (H8.list.map u32V)), (1900003, tab 3 (K64.map u32V))]) (fun w => (StartM.v rfl (StartM.old rfl (StartM.old rfl (StartM.m (by simp [tabE]) (by decide) (StartM.m (by simp [tabE]) (by decide) (StartM.m (by simp [tabE]) (by decide) (StartM.m (by simp [tabE]) (by decide) StartM.nil)))))))) fun w₀ hM => ?_
 have htab := tabE_hi hM
 have h2 : R.length ≤ 4096 := by omega
 have htp := tot_pos h1
 have hTf := treR_fit hR S h1 h2 (Nat.le_refl _)
 have hTl : (treR R S (tot R.length (hg R.length + 1))).length = (tot R.length (hg R.length + 1)) := treR_length _ _ _
 refine A.nameRA (t := 1) (k := 1000801) rfl (by rw [recs_len hR]; omega) fun a₁ c₁ hc₁ => ?_
 refine A.nameRA (t := 2) (k := 1000701) rfl (by rw [slotV_len]; omega) fun a₂ c₂ hc₂ => ?_
 refine GV rfl (QS (GT (RM rfl ?_)));refine RS (ok_lenV U26 rfl) ?_;refine RB rfl rfl rfl ?_;refine RZ (.bool false) (congrArg Value.bool (decide_eq_false (by omega))) ?_;refine RV 2 rfl ?_;refine RQ (ok_lenV U27 rfl) ?_;refine RQ (ok_bin rfl rfl rfl) ?_;refine RZ (.bool false) (congrArg Value.bool (decide_eq_false (by omega))) ?_;refine RP rfl rfl ?_;refine RZ (.bool false) (by rfl) ?_;refine RN (A.no rfl ?_);refine QK (GV rfl (QS (GT (RM rfl ?_))));refine RS (ok_lenV U26 rfl) ?_;refine RB rfl rfl rfl ?_;refine RZ (.int .i64 ((R.length : Int) - 1)) (congrArg (Value.int .i64) (wrap_i64 (by omega) (by omega))) ?_;refine RVN 1 rfl ?_;refine A.block ?_;refine A.loop (ι := Nat) (fun k => k ≤ R.length) (fun k => [(0, .v (nI (R.length))), (1, .v (.slice (some a₁) R.length c₁)), (2, .v (.slice (some a₂) S.length c₂)), (7, .v (.int .i64 0)), (8, .v (.int .i64 ((R.length : Int) - 1 - (k : Int)))), (1000801, old w₀.heap.size (memR (some a₁) (recsV R))), (1000701, old w₀.heap.size (memR (some a₂) (slotV S))), (1900000, tabH 0 ([errT])), (1900001, tab 1 (sizV)), (1900002, tab 2 (H8.list.map u32V)), (1900003, tab 3 (K64.map u32V))]) (fun k => R.length - k) 0 ?_ ?_ ?_
 ·exact Nat.zero_le _
 ·exact (KC 0 rfl (KC 1 rfl (KC 2 rfl (KC 7 rfl (KE 8 rfl (by simp) (KC 1000801 rfl (KC 1000701 rfl (KC 1900000 rfl (KC 1900001 rfl (KC 1900002 rfl (KC 1900003 rfl KN)))))))))))
 intro k hk'
 refine QS (GT (RV 2 rfl ?_));refine RZ (.bool (decide (k < R.length))) (congrArg Value.bool (decide_eq_decide.2 (by omega))) ?_;refine RN ?_;refine A.cond rfl (fun hc25 => ?_) (fun hc25 => ?_)
 ·have hk : k < R.length := of_decide_eq_true hc25
  have hm : (R.length - 1 - k) < R.length := by omega
  refine QK (QSB (GT (RV 2 rfl ?_)));refine RZ (nI ((R.length - 1 - k))) (congrArg (Value.int .i64) (by omega)) ?_;refine RS (ok_indexR (s := 1000801) (R.length - 1 - k) U26 infoP51 rfl rfl (by decide) rfl hm (by rw [recs_len hR]; omega)) ?_;refine RS (ok_loadElemT 35 U51 rfl size51 (by rw [recs_at hR hm, (hR.at _).len]; exact Nat.le_refl _) rfl) ?_; refine RZ (aggV (recAt R (R.length - 1 - k)).v) (congrArg aggV (by rw [recs_at hR hm]; exact List.take_of_length_le (Nat.le_of_eq (hR.at _).len))) ?_;refine RS (ok_litS [(0, aggV (recAt R (R.length - 1 - k)).v)] (recsV [(recAt R (R.length - 1 - k)), RecT.zero, RecT.zero, RecT.zero]) ⟨rfl, rfl, trivial⟩ (buildR4 (hR.at _))) ?_;refine RS (ok_litS [(2, aggV (recsV [(recAt R (R.length - 1 - k)), RecT.zero, RecT.zero, RecT.zero]))] (nod1 (recAt R (R.length - 1 - k))).v ⟨rfl, rfl, trivial⟩ (buildX4 (hR.at _))) ?_;refine RS (ok_call (rCheck_fn (nod1 (recAt R (R.length - 1 - k))) (nod1_fit (hR.at _))) (A1 rfl)) ?_;refine RB rfl rfl rfl ?_;refine RZ (.bool false) (congrArg Value.bool (bne_eq_false_iff_eq.2 (nod1_ck.2 (hO.at _)))) ?_;refine RN (A.no rfl ?_);refine A.skip (End.normal_block (EN (GTE (RV 2 rfl ?_))));refine RZ (.int .i64 ((R.length : Int) - 1 - ((k + 1 : Nat) : Int))) (congrArg (Value.int .i64) ((wrap_i64 (by omega) (by omega)).trans (by omega))) ?_;refine RVN 1 rfl ?_;refine End.normal_then ?_;refine End.again (k + 1) ?_ ?_ ?_
  ·show _ ≤ _; omega
  ·show _ - _ < _ - _; omega
  ·exact (Sv [0, 1, 2, 7, 8, 1000801, 1000701, 1900000, 1900001, 1900002, 1900003] rfl)
 ·have hk2 : k = R.length := by have := of_decide_eq_false hc25; omega
  refine A.exit (End.exit_then (End.exit_then (End.exit_here (EN (QS (GT (RV 2 rfl ?_)))))));refine RZ (.bool false) (congrArg Value.bool (decide_eq_false (by omega))) ?_;refine RV 3 rfl ?_;refine RZ (.bool false) (congrArg Value.bool (decide_eq_false (by omega))) ?_;refine RP rfl rfl ?_;refine RZ (.bool false) (by rfl) ?_;refine RV 2 rfl ?_;refine RQ (ok_lenV U26 rfl) ?_;refine RV 2 rfl ?_;refine RZ (.bool false) (congrArg Value.bool (bne_eq_false_iff_eq.2 (by omega))) ?_;refine RP rfl rfl ?_;refine RZ (.bool false) (by rfl) ?_;refine RV 2 rfl ?_;refine RQ (ok_lenV U27 rfl) ?_;refine RQ (ok_move rfl) ?_;refine RQ (ok_call (rTotal_fn R.length h1 h2) (A1 rfl)) ?_;refine RQ (ok_bin rfl rfl rfl) ?_;refine RZ (.bool false) (congrArg Value.bool (bne_eq_false_iff_eq.2 (by omega))) ?_;refine RP rfl rfl ?_;refine RZ (.bool false) (by rfl) ?_;refine RN (A.no rfl ?_);refine QK (QS (GV rfl (A.block ?_)));refine A.loop (ι := Nat) (fun i => i ≤ S.length) (fun i => [(0, .v (nI (R.length))), (1, .v (.slice (some a₁) R.length c₁)), (2, .v (.slice (some a₂) S.length c₂)), (7, .v (.int .i64 0)), (9, .v (nI (i))), (1000801, old w₀.heap.size (memR (some a₁) (recsV R))), (1000701, old w₀.heap.size (memR (some a₂) (slotV S))), (1900000, tabH 0 ([errT])), (1900001, tab 1 (sizV)), (1900002, tab 2 (H8.list.map u32V)), (1900003, tab 3 (K64.map u32V))]) (fun i => S.length - i) 0 ?_ ?_ ?_
  ·exact Nat.zero_le _
  ·exact (KC 0 rfl (KC 1 rfl (KC 2 rfl (KC 7 rfl (KE 9 rfl (by rfl) (KC 1000801 rfl (KC 1000701 rfl (KC 1900000 rfl (KC 1900001 rfl (KC 1900002 rfl (KC 1900003 rfl KN)))))))))))
  intro i hi'
  refine QS (GT (RV 2 rfl ?_));refine RS (ok_lenV U27 rfl) ?_;refine RVN 1 rfl ?_;refine A.cond rfl (fun hc58 => ?_) (fun hc58 => ?_)
  ·have hi : i < S.length := by simp at hc58; omega
   refine QK (QSB ?_)
   rcases (show S.getD i 0 = 0 ∨ S.getD i 0 = 1 by have := hS.at i; omega) with hz | hz
   ·refine GT (RV 2 rfl ?_);refine RS (ok_indexR (s := 1000701) i U27 infoPI rfl rfl (by decide) rfl hi (by rw [slotV_len]; omega)) ?_;refine RS (ok_loadP1 (u := nI (S.getD i 0)) (us := []) U3 rfl (by show some (elemP _) = _; rw [slotV_at1 hi])) ?_;refine RB rfl rfl rfl ?_;refine RZ (.bool false) (congrArg Value.bool (bne_eq_false_iff_eq.2 (by omega))) ?_;refine RV 7 rfl ?_;refine RZ (.bool false) (by rfl) ?_;refine RN (A.no rfl ?_);refine A.skip (End.normal_block (EN (GTE (RV 2 rfl ?_))));refine RZ (nI (i + 1)) (wrap_eq (by omega) (by omega)) ?_;refine RVN 1 rfl ?_;refine End.normal_then ?_;refine End.again (i + 1) ?_ ?_ ?_
    ·show _ ≤ _; omega
    ·show _ - _ < _ - _; omega
    ·exact (Sv [0, 1, 2, 7, 9, 1000801, 1000701, 1900000, 1900001, 1900002, 1900003] rfl)
   ·refine GT (RV 2 rfl ?_);refine RS (ok_indexR (s := 1000701) i U27 infoPI rfl rfl (by decide) rfl hi (by rw [slotV_len]; omega)) ?_;refine RS (ok_loadP1 (u := nI (S.getD i 0)) (us := []) U3 rfl (by show some (elemP _) = _; rw [slotV_at1 hi])) ?_;refine RB rfl rfl rfl ?_;refine RZ (.bool true) (congrArg Value.bool (bne_iff_ne.2 (by omega))) ?_;refine RV 3 rfl ?_;refine RQ (ok_indexR (s := 1000701) i U27 infoPI rfl rfl (by decide) rfl hi (by rw [slotV_len]; omega)) ?_;refine RQ (ok_loadP1 (u := nI (S.getD i 0)) (us := []) U3 rfl (by show some (elemP _) = _; rw [slotV_at1 hi])) ?_;refine RQ (ok_bin rfl rfl rfl) ?_;refine RZ (.bool false) (congrArg Value.bool (bne_eq_false_iff_eq.2 (by omega))) ?_;refine RP rfl rfl ?_;refine RZ (.bool false) (by rfl) ?_;refine RN (A.no rfl ?_);refine A.skip (End.normal_block (EN (GTE (RV 2 rfl ?_))));refine RZ (nI (i + 1)) (wrap_eq (by omega) (by omega)) ?_;refine RVN 1 rfl ?_;refine End.normal_then ?_;refine End.again (i + 1) ?_ ?_ ?_
    ·show _ ≤ _; omega
    ·show _ - _ < _ - _; omega
    ·exact (Sv [0, 1, 2, 7, 9, 1000801, 1000701, 1900000, 1900001, 1900002, 1900003] rfl)
  ·skip
   refine A.exit (End.exit_then (End.exit_then (End.exit_here (EN (GS (RunTK.newG 3 (by decide) rfl (.inl rfl) ?_))))));refine RVN 3 rfl ?_;refine ⟨_, _, _, eff_nameY (n := 107) (d := 77) (k := 1000077) rfl rfl (fun B' => ok_callMBK (Build_okB R hR h1 h2 hO S hS hSl a₁ a₂ c₁ c₂ hc₁) newY_mono (SubK.app (SubK.of (Sub.cons rfl (Sub.cons rfl (Sub.cons rfl KN))) tabN_v) (SubK.cons (k := 1000801) (by decide) rfl Le.unold (SubK.cons (k := 1000701) (by decide) rfl Le.unold SubK.nil))) (A3 rfl rfl rfl)) (by decide) (by decide), fun x77 hx77 => ?_⟩
   obtain ⟨g77, y77⟩ := x77
   have hBg77 : w₀.heap.size ≤ g77 := hx77.1
   refine TN 7 (RV 2 rfl ?_);refine RZ (aggV [nI R.length, .slice (some ⟨g77, 0, none⟩) (treR R S (tot R.length (hg R.length + 1))).length (treR R S (tot R.length (hg R.length + 1))).length]) (by rw [hTl]) ?_;refine RVN 1 rfl ?_;refine ZN 1000010 zero32 fun b10 ⟨hBb10, hb10⟩ => ?_
   refine TF 8 (RN ?_); refine ZA 1000010 (size32.of rfl) hBb10 rfl rfl rfl (LT 1000077 rfl (LO 1000701 rfl (LO 1000801 rfl (LeftS.cons (t := 1900000) rfl (Surv.tabH (by omega)) (LQ 1900001 rfl (LQ 1900002 rfl (LQ 1900003 rfl (LW [1, 2, 7, 10, 79] rfl)))))))) ?_;refine TL (RVN 1 rfl ?_);refine QS (GT (RV 3 rfl ?_));refine RZ (.bool false) (by rfl) ?_;refine RN (A.no rfl ?_);refine QK (QS (GT (RV 2 rfl ?_)));refine RZ (.bool false) (by rfl) ?_;refine RN (A.no rfl ?_);refine QK (GTD (RS (ok_field field32_1 (by decide) rfl) ?_));refine RLV 1000010 U30 rfl rfl rfl ?_;refine RV 2 rfl ?_;refine RS (ok_callMBK (rTree_fnB R hR h1 h2 a₁ c₁ S hS (by omega) a₂ c₂) (fun _ _ h => ownP_mono h) (SubK.cons (k := 1000801) (by decide) rfl Le.unold (SubK.cons (k := 1000701) (by decide) rfl Le.unold SubK.nil)) (A2 rfl rfl)) ?_;refine RS (ok_callMK (same16_rn (some ⟨g77, 0, none⟩) (treR R S (tot R.length (hg R.length + 1))) (treR R S (tot R.length (hg R.length + 1))) hTf hTf (treR R S (tot R.length (hg R.length + 1))).length (by omega)) (SubK.cons (k := 1000077) (by decide) rfl Le.blkR SubK.nil) (Args.cons rfl (Le.refl _) (Args.cons rfl (ownP_rowD.trans (Le.eq (by rw [hTl]))) Args.nil))) ?_; refine RZ (.int .i64 1) (congrArg (Value.int .i64) (smE_y rfl rfl fun _ _ => rfl)) ?_;refine RB rfl rfl rfl ?_;refine RZ (.bool true) (by rfl) ?_;refine RM rfl ?_;refine RQ (ok_callMK lives16_fn (SubK.of (Sub.cons rfl (Sub.cons rfl (Sub.cons rfl (Sub.cons rfl KN)))) tabE_v) Args.nil) ?_;refine RP rfl rfl ?_;refine RZ (.bool true) (by rfl) ?_;refine RVN 1 rfl ?_;refine A.sub (Sv [6, 1000010, 1000077, 1000701, 1000801, 1900000, 1900001, 1900002, 1900003] rfl) ?_;refine A.ret ?_;exact End.ret1 rfl rfl (Le.refl _)
theorem MerklesErrors_fn (n : Int) (R : List RecT) (hR : FitR R) (S : List Int) : FnM Tryz.prog 9 tabE [.v (.int .i64 (n)), rowLg R.length (recsV R), rowLg S.length (intL S)] (.v (.bool true)) := by
 by_cases h : R.length ≤ 30 ∧ S.length ≤ 20
 ·by_cases hs : SrcOk n R S
  ·obtain ⟨h1, h2, h3, h4, h5, h6⟩ := hs
   subst h3
   obtain ⟨W, rfl⟩ : ∃ W : List Nat, S = natL W := by
    refine ⟨S.map Int.toNat, ?_⟩
    unfold natL
    rw [List.map_map]
    conv => lhs; rw [← List.map_id S]
    apply List.map_congr_left
    intro a ha
    obtain ⟨i, hi, rfl⟩ := List.mem_iff_getElem.1 ha
    have := h5 i hi
    rw [List.getD_eq_getElem?_getD, List.getElem?_eq_getElem hi] at this
    simp only [Option.getD_some] at this
    show S[i] = ((S[i].toNat : Nat) : Int)
    omega
   have hW : OkS W := fun s hs => by
    obtain ⟨i, hi, rfl⟩ := List.mem_iff_getElem.1 hs
    have := h5 i (by rw [natL_len]; exact hi)
    rw [natL_at, List.getD_eq_getElem?_getD, List.getElem?_eq_getElem hi] at this
    simp only [Option.getD_some] at this
    omega
   rw [natL_len, Int.toNat_natCast] at h4
   have h20 := h.2
   rw [natL_len] at h20
   rw [natL_len, natL_v]
   have hO : OkR R := fun r hr => by
    obtain ⟨i, hi, rfl⟩ := List.mem_iff_getElem.1 hr
    have := h6 i hi
    unfold recAt at this
    rwa [List.getD_eq_getElem?_getD, List.getElem?_eq_getElem hi] at this
   exact MErr_ok R hR (by omega) h.1 hO W hW h4 h20
  ·exact MErr_bad n R hR S h.1 h.2 hs
 ·exact MErr_big n R hR S h
end
section
open Go Go.RowKit Go.ChangeShapes Go.WideShapes
end
section
open Go Go.RowKit Go.ChangeShapes Go.WideShapes
set_option linter.unusedVariables false
set_option linter.unusedSimpArgs false
section
variable {H : Type} {enc : TypeId × Value → H} {P : Program} {w : World} {base : Nat} {held : Bool}
theorem flat_at {α : Type} {f : α → List Value} {sz : Nat} (hl : ∀ x, (f x).length = sz) : ∀ {l : List α} {i k : Nat}, (hi : i < l.length) → k < sz → (l.flatMap f)[i * sz + k]? = (f l[i])[k]?
 | x :: l, 0, k, _, hk => by
  simp only [List.flatMap_cons, List.getElem_cons_zero, Nat.zero_mul, Nat.zero_add]
  rw [List.getElem?_append_left (by rw [hl]; exact hk)]
 | x :: l, i + 1, k, hi, hk => by
  have ih := flat_at (f := f) hl (l := l) (i := i) (k := k) (by simpa using hi) hk
  simp only [List.flatMap_cons, List.getElem_cons_succ]
  rw [List.getElem?_append_right (by rw [hl, Nat.add_mul]; omega), hl, show (i + 1) * sz + k - sz = i * sz + k by rw [Nat.add_mul]; omega, ih]
theorem trod_rows {α : Type} {f : α → List Value} {R : α → Prop} {sz n : Nat} {ks : List IntKind} (x₀ : α) (hl : ∀ x, R x → (f x).length = sz) (h0 : (f x₀).length = sz) (hopen : ∀ ys, Kin (fun k m => (Lit.int k m).wf = true) ks ys → ∃ x, R x ∧ ys = f x)
  {t e : TypeId} {fuel : Nat} {cs : List Value} {y : DataW H × List MemPlace} (ht : P.underlying t = some (.slice e)) (hf : flat P n e = some ks) (hc : P.cellsOf e = sz) (hsz : 0 < sz) (h : DataW.trod enc P w base (fun _ => true) held fuel t cs = some y) :
  ∃ (v : Value) (l : List α), cs = [v] ∧ (∀ x ∈ l, R x) ∧ (rowD l.length (l.flatMap f)).Of w v ∧ (∃ A m c, v = .slice A m c) := by
 rcases DataW.trod_slice ht h with ⟨rfl, _⟩ | ⟨a, len, cap, elems, rest, m, _, rfl, _, hba, hlc, hm, hlen, hel, _, _⟩
 ·exact ⟨_, [], rfl, (fun x hx => by cases hx), rowD_nil.of (w := w) (x := .slice none 0 0) rfl, _, _, _, rfl⟩
 ·have each : ∀ i, ∃ x : α, (f x).length = sz ∧ (i < len → R x ∧ ∀ k, k < sz → w.cell? (a.add (i * sz + k)) = (f x)[k]?) := fun i => by
   by_cases hi : i < len
   ·have h1 := hel i hi
    rw [List.getElem?_eq_getElem (by omega), hc, Option.bind_eq_some_iff] at h1
    obtain ⟨cs', h2, h3⟩ := h1
    obtain ⟨x, hx, rfl⟩ := hopen _ (trod_flat n hf h3)
    obtain ⟨_, _, h4⟩ := World.cells?_some h2
    exact ⟨x, hl x hx, fun _ => ⟨hx, fun k hk => by rw [← add_of_add]; exact h4 k hk⟩⟩
   ·exact ⟨x₀, h0, fun h => absurd h hi⟩
  obtain ⟨g, hg⟩ := Classical.axiomOfChoice each
  have hgl : ∀ i, (f (g i)).length = sz := fun i => (hg i).1
  refine ⟨_, (List.range len).map g, rfl, fun x hx => ?_, ?_, _, _, _, rfl⟩
  ·obtain ⟨i, hi, rfl⟩ := List.mem_map.1 hx
   exact ((hg i).2 (List.mem_range.1 hi)).1
  ·refine ⟨some a, cap, by simp, fun j u hu => ⟨a, rfl, ?_, ?_⟩⟩
   all_goals
    have hfm : ((List.range len).map g).flatMap f = (List.range len).flatMap fun i => f (g i) := by rw [List.flatMap_map]
    have hj : j < len * sz := by
     have h5 := (List.getElem?_eq_some_iff.1 hu).1
     rw [hfm, List.length_flatMap] at h5
     have h6 : ((List.range len).map fun i => (f (g i)).length).sum = len * sz := by
      rw [show ((List.range len).map fun i => (f (g i)).length) = List.replicate len sz from by rw [List.eq_replicate_iff]; exact ⟨by simp, fun b hb => by obtain ⟨i, _, rfl⟩ := List.mem_map.1 hb; exact hgl i⟩]
      simp
     omega
    have hi : j / sz < len := by rw [Nat.div_lt_iff_lt_mul hsz]; exact hj
    have hk : j % sz < sz := Nat.mod_lt _ hsz
    have hjj : j / sz * sz + j % sz = j := Nat.div_add_mod' j sz
    have hcell := ((hg (j / sz)).2 hi).2 (j % sz) hk
    have h7 := flat_at (f := fun i => f (g i)) hgl (l := List.range len) (i := j / sz) (k := j % sz) (by simpa using hi) hk
    rw [hjj, List.getElem_range] at h7
    rw [hfm] at hu
    rw [hjj, ← h7, hu] at hcell
   ·have := block_of_cell hcell
    rwa [block_of_add] at this
   ·exact hcell
end
end
section
open Go Go.RowKit Go.ChangeShapes Go.WideShapes
end
section
open Go Go.RowKit Go.ChangeShapes Go.WideShapes
section
variable {H : Type} {enc : TypeId × Value → H} {P : Program} {w : World} {base : Nat} {held : Bool}
theorem rec_of_kin {xs : List Value} (h : Kin (fun k m => (Lit.int k m).wf = true) (.u8 :: .u32 :: .u64 :: List.replicate 32 .u8) xs) : ∃ r : RecT, r.Fit ∧ xs = r.v := by
 obtain ⟨n, y, rfl, h1, h2⟩ := h.cons
 obtain ⟨m, y, rfl, h3, h4⟩ := h2.cons
 obtain ⟨q, y, rfl, h5, h6⟩ := h4.cons
 obtain ⟨l, hl, rfl⟩ := h6.bytes
 obtain ⟨a, rfl, ha⟩ := nat_u8 h1
 obtain ⟨s, rfl, hs⟩ := nat_u32 h3
 obtain ⟨c, rfl, hc⟩ := nat_u64 h5
 exact ⟨⟨UInt8.ofNat a, s, c, l⟩, ⟨hl, hs, hc⟩, by rw [RecT.v, recV, byteV_nat a ha]⟩
end
end
section
open Go Go.RowKit Go.ChangeShapes Go.WideShapes
set_option linter.unusedVariables false
set_option linter.unusedSimpArgs false
section
variable {H : Type} {enc : TypeId × Value → H} {P : Program} {w : World} {base : Nat} {held : Bool}
theorem trod_roomL {t e : TypeId} {fuel : Nat} {cs : List Value} {y : DataW H × List MemPlace} (ht : P.underlying t = some (.slice e)) (h : DataW.trod enc P w base (fun _ => true) held fuel t cs = some y) : ∃ A n c, cs = [.slice A n c] ∧ n ≤ c := by
 rcases DataW.trod_slice ht h with ⟨rfl, _⟩ | ⟨a, len, cap, elems, rest, m, _, rfl, _, hba, hlc, _⟩
 ·exact ⟨none, 0, 0, rfl, Nat.le_refl _⟩
 ·exact ⟨some a, len, cap, rfl, hlc⟩
theorem arg_recs {t e : TypeId} {v : Value} {d : DataW H} {ps : List MemPlace} (ht : P.underlying t = some (.slice e)) (hf : flat P 4 e = some (.u8 :: .u32 :: .u64 :: List.replicate 32 .u8)) (hc : P.cellsOf e = 35) {r : Reach} {b0 : Nat} (hk : Value.okWide P w r b0 t v)
  (h : DataW.Trod enc P w base (fun _ => true) held t v d ps) : ∃ R : List RecT, FitR R ∧ (rowLg R.length (recsV R)).Of w v := by
 obtain ⟨a, len, cap, rfl⟩ := okWide_slice ht hk
 obtain ⟨fuel, hf'⟩ := h
 obtain ⟨v, l, h1, h2, ⟨A, q, hv, hrow⟩, _⟩ := trod_rows (f := RecT.v) (R := RecT.Fit) RecT.zero (fun _ h => h.len) RecT.zero_fit.len (fun _ => rec_of_kin) ht hf hc (by decide) hf'
 obtain ⟨A', n', c', h3, h4⟩ := trod_roomL ht hf'
 simp only [Value.cells, List.cons.injEq] at h1
 obtain ⟨rfl, _⟩ := h1
 simp only [Value.cells, List.cons.injEq, and_true] at h3
 rw [hv] at h3
 injection h3 with _ h5 h6
 exact ⟨l, h2, A, q, hv, by omega, hrow⟩
theorem arg_ints {t e : TypeId} {v : Value} {d : DataW H} {ps : List MemPlace} (ht : P.underlying t = some (.slice e)) (hf : flat P 3 e = some [.i64]) (hc : P.cellsOf e = 1) {r : Reach} {b0 : Nat} (hk : Value.okWide P w r b0 t v)
  (h : DataW.Trod enc P w base (fun _ => true) held t v d ps) : ∃ S : List Int, (rowLg S.length (S.map (Value.int .i64))).Of w v := by
 obtain ⟨a, len, cap, rfl⟩ := okWide_slice ht hk
 obtain ⟨fuel, hf'⟩ := h
 obtain ⟨v, l, h1, h2, ⟨A, q, hv, hrow⟩, _⟩ := trod_rows (f := fun n : Int => [Value.int .i64 n]) (R := fun _ => True) 0 (fun _ _ => rfl) rfl (fun ys hy => by obtain ⟨n, rfl, _⟩ := hy.one; exact ⟨n, trivial, rfl⟩) ht hf hc (by decide) hf'
 obtain ⟨A', n', c', h3, h4⟩ := trod_roomL ht hf'
 simp only [Value.cells, List.cons.injEq] at h1
 obtain ⟨rfl, _⟩ := h1
 simp only [Value.cells, List.cons.injEq, and_true] at h3
 rw [hv] at h3
 injection h3 with _ h5 h6
 have hm : (l.flatMap fun n : Int => [Value.int .i64 n]) = l.map (Value.int .i64) := by
  clear hrow hv h2 h5
  induction l with
  | nil => rfl
  | cons a l ih => rw [List.flatMap_cons, ih]; rfl
 rw [hm] at hrow
 exact ⟨l, A, q, hv, by omega, hrow⟩
end
end
end Go.Proofs.YtmkpekmhhbcifaaGreatDoor
