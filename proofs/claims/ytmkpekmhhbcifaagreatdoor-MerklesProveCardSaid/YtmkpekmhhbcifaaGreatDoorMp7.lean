/-
  OWN TEXTS of this seat, put together, part 7: C16p, C16t, C16v, Law9, Law8, Law4, Law11, Law14.
-/
import Derived.Test.YtmkpekmhhbcifaaGreatDoorMp0
import Derived.Test.YtmkpekmhhbcifaaGreatDoorMp2
import Derived.Test.YtmkpekmhhbcifaaGreatDoorMp6
import Derived.Test.YtmkpekmhhbcifaaGreatDoorMp1
import Derived.Test.YtmkpekmhhbcifaaGreatDoorMp4
import Derived.Test.YtmkpekmhhbcifaaGreatDoorMp3
namespace Go.Proofs.YtmkpekmhhbcifaaGreatDoor
open Go Go.RowKit
set_option linter.unusedVariables false
set_option maxRecDepth 20000
set_option linter.unusedSimpArgs false
theorem Le.memNil {d : D} {A₀ : Option Addr} : Le d (memR A₀ []) := fun _ _ _ _ j u hu => by cases hu
def lvR : List RecT := [recOf 1 7, RecT.zero, RecT.zero, RecT.zero, RecT.zero]
def lvS : List Nat := [1, 0, 0]
def lzR : List RecT := [RecT.zero]
def lzS : List Nat := [0]
theorem lvR_fit : FitR lvR := fun r hr => by
 simp only [lvR, List.mem_cons, List.not_mem_nil, or_false] at hr
 rcases hr with rfl | rfl | rfl | rfl | rfl
 ·exact recOf_fit _ _
 all_goals exact RecT.zero_fit
theorem lvR_ok : OkR lvR := fun r hr => by
 simp only [lvR, List.mem_cons, List.not_mem_nil, or_false] at hr
 rcases hr with rfl | rfl | rfl | rfl | rfl
 ·exact recOf_ok _ _
 all_goals exact RecT.zero_ok
theorem lvS_ok : OkS lvS := fun r hr => by
 simp only [lvS, List.mem_cons, List.not_mem_nil, or_false] at hr
 rcases hr with rfl | rfl | rfl <;> simp
theorem lzR_fit : FitR lzR := fun r hr => by
 simp only [lzR, List.mem_cons, List.not_mem_nil, or_false] at hr
 subst hr; exact RecT.zero_fit
theorem lzR_ok : OkR lzR := fun r hr => by
 simp only [lzR, List.mem_cons, List.not_mem_nil, or_false] at hr
 subst hr; exact RecT.zero_ok
theorem lzS_ok : OkS lzS := fun r hr => by
 simp only [lzS, List.mem_cons, List.not_mem_nil, or_false] at hr
 subst hr; simp
def lvT : List NodT := treR lvR lvS (tot lvR.length (hg lvR.length + 1))
def lzT : List NodT := treR lzR lzS (tot lzR.length (hg lzR.length + 1))
theorem lvT_len : lvT.length = 3 := by unfold lvT; rw [treR_length]; decide
theorem lzT_len : lzT.length = 1 := by unfold lzT; rw [treR_length]; decide
theorem lvT_fit : FitT lvT := treR_fit lvR_fit _ (by decide) (by decide) (Nat.le_refl _)
theorem lzT_fit : FitT lzT := treR_fit lzR_fit _ (by decide) (by decide) (Nat.le_refl _)
theorem lvT_tree : Tree 5 lvT := treR_tree lvR_ok lvS_ok (by decide) (by decide)
theorem lzT_tree : Tree 1 lzT := treR_tree lzR_ok lzS_ok (by decide) (by decide)
theorem lzT_at : ndAt lzT (tot 1 (hg 1)) = NodT.emp 0 0 := by
 have h := treR_at (R := lzR) (S := lzS) (m := tot lzR.length (hg lzR.length + 1)) (l := 0) (j := 0) (by decide) (by decide) (by decide)
 exact h.trans (by rw [nodR_zero]; rfl)
theorem lvT_0 : ndAt lvT 0 = grpR lvR 0 := by
 have h := treR_at (R := lvR) (S := lvS) (m := tot lvR.length (hg lvR.length + 1)) (l := 0) (j := 0) (by decide) (by decide) (by decide)
 rw [nodR_zero] at h; exact h
theorem lvT_1 : ndAt lvT 1 = grpR lvR 1 := by
 have h := treR_at (R := lvR) (S := lvS) (m := tot lvR.length (hg lvR.length + 1)) (l := 0) (j := 1) (by decide) (by decide) (by decide)
 rw [nodR_zero] at h; exact h
theorem lvT_2 : ndAt lvT 2 = nodR lvR lvS 1 0 := treR_at (R := lvR) (S := lvS) (m := tot lvR.length (hg lvR.length + 1)) (l := 1) (j := 0) (by decide) (by decide) (by decide)
def lvE : EntT := ⟨2, sha (grpR lvR 0).bl⟩
theorem lvT_E : (ndAt lvT 2).E = [lvE, EntT.zero, EntT.zero, EntT.zero] := by
 have e0 : emF lvR.length (recAt lvR) 0 (4 * 0 + 0) = false := by decide +kernel
 have e1 : emF lvR.length (recAt lvR) 0 (4 * 0 + 1) = true := by decide +kernel
 rw [lvT_2]
 apply ext4 (by rw [nodR_succ]; exact pg_length _ _ _) rfl EntT.zero
 intro i hi
 show (nodR lvR lvS (0 + 1) 0).e i = _
 rw [nodR_e hi]
 match i, hi with
 | 0, _ => rw [if_pos (by decide), e0]; rfl
 | 1, _ => rw [if_pos (by decide), e1]; rfl
 | 2, _ => rw [if_neg (by decide)]; rfl
 | 3, _ => rw [if_neg (by decide)]; rfl
theorem em_0 : emT 5 lvT 0 0 = false := by
 unfold emT; rw [lvT_0]; decide +kernel
theorem em_1 : emT 5 lvT 0 1 = true := by
 unfold emT; rw [lvT_1]; decide +kernel
theorem mny_0 : mny 5 lvT 0 = 2 := by
 show runTo _ 1 1 = 2
 unfold runTo
 rw [show emT 5 lvT (hg 5 - 1) (pidx 5 0 1) = false from em_0]; rfl
theorem mny_4 : mny 5 lvT 4 = 1 := by
 show runTo _ 1 1 = 1
 unfold runTo
 rw [show emT 5 lvT (hg 5 - 1) (pidx 5 4 1) = true from em_1]; rfl
def pfA : List NodT := pthT 5 lvT 0 2
def pfB : List NodT := pthT 5 lvT 4 1
theorem pfA_len : pfA.length = 2 := pthT_length _ _ _ _
theorem pfB_len : pfB.length = 1 := pthT_length _ _ _ _
theorem pfA_fit : FitT pfA := pthT_fit lvT_fit _ _
theorem pfB_fit : FitT pfB := pthT_fit lvT_fit _ _
def lvD : List UInt8 := sha (ndAt lvT (tot 5 (hg 5))).bl
theorem lvD_len : lvD.length = 32 := sha_length _
theorem lv_rec {n : Nat} {T : List NodT} (h : Tree n T) : ∀ i, i < n → (recT T i).x.toNat = 0 → recT T i = RecT.zero := fun i hi hx => by
 have h1 : i / 4 < un n (0 + 1) := by have := div_lt_un hi 1; simpa using this
 have hf := h.fit (l := 0) (j := i / 4) (Nat.zero_le _) h1
 rw [tot_zero, Nat.zero_add] at hf
 have hb := ((NodT.ck_ok hf.2.2.1).2.1 hf.1).2 (i % 4) (Nat.mod_lt _ (by decide))
 unfold RecT.Bad BadR at hb
 refine RecT.z_iff.1 ⟨hx, Classical.byContradiction fun hh => hb (.inr ⟨hx, hh⟩)⟩
theorem verA : ver 5 lvD 0 pfA = 0 ∧ verR 5 lvD 0 pfA = recOf 1 7 := by
 have h := lvT_tree.prf (x := 0) (by decide)
 have h2 := lvT_tree.prf_rec (x := 0) (by decide) (lv_rec lvT_tree)
 rw [mny_0] at h h2
 refine ⟨h.ver, h2.trans ?_⟩
 unfold recT; rw [show 0 / 4 = 0 from rfl, lvT_0, grpR_r (by decide)]; rfl
theorem verB : ver 5 lvD 4 pfB = 0 ∧ verR 5 lvD 4 pfB = RecT.zero := by
 have h := lvT_tree.prf (x := 4) (by decide)
 have h2 := lvT_tree.prf_rec (x := 4) (by decide) (lv_rec lvT_tree)
 rw [mny_4] at h h2
 refine ⟨h.ver, h2.trans ?_⟩
 unfold recT; rw [show 4 / 4 = 1 from rfl, lvT_1, grpR_r (by decide)]; rfl
theorem verC : ver 5 lvD 0 [] = 1 ∧ verR 5 lvD 0 [] = RecT.zero := by
 have h : ver 5 lvD 0 [] = 1 := ver_len (n := 5) (x := 0) (by decide) (by decide) (by decide) (.inl rfl)
 exact ⟨h, verR_no (by rw [h]; decide)⟩
theorem src5 : srcE 5 [RecT.zero, RecT.zero, RecT.zero, RecT.zero] [0, 0, 0] = 1 := srcE_no fun h => absurd h.2.2.1 (by decide)
theorem lv_buildR : Tryz.prog.built 52 [(0, aggV (recOf 1 7).v)] = some (recsV [recOf 1 7, RecT.zero, RecT.zero, RecT.zero]).toArray := by kernel_rfl
theorem lv_buildX : Tryz.prog.built 57 [(2, aggV (recsV [recOf 1 7, RecT.zero, RecT.zero, RecT.zero]))] = some (grpR lvR 0).v.toArray := by kernel_rfl
theorem lv_buildE (x : UInt8) (t : List UInt8) (ht : t.length = 32) : Tryz.prog.built 55 [(0, aggV (EntT.v ⟨x, t⟩))] = some (entsV [⟨x, t⟩, EntT.zero, EntT.zero, EntT.zero]).toArray := by
 match t, ht with
 | [a0, a1, a2, a3, a4, a5, a6, a7, a8, a9, b0, b1, b2, b3, b4, b5, b6, b7, b8, b9, c0, c1, c2, c3, c4, c5, c6, c7, c8, c9, d0, d1], _ => show _ = _; kernel_rfl
theorem lv_part (ys : List Value) : ((nodsV lvT ++ ys).drop (0 + 2 * 274 + 142)).take 132 = entsV [lvE, EntT.zero, EntT.zero, EntT.zero] := by
 have h1 := nods_at lvT_fit (i := 2) (by rw [lvT_len]; decide)
 have hl := nods_len lvT_fit
 rw [lvT_len] at hl
 rw [List.drop_append_of_le_length (by omega), List.take_append_of_le_length (by rw [List.length_drop]; omega)]
 have h2 : (((nodsV lvT).drop (2 * 274)).take 274).drop 142 = entsV (ndAt lvT 2).E := by
  rw [h1]
  have hf := lvT_fit.at 2
  show List.drop 142 ([byteV _, .int .u32 _] ++ (recsV (ndAt lvT 2).R ++ entsV (ndAt lvT 2).E)) = _
  rw [← List.append_assoc, List.drop_left']
  rw [List.length_append, recs_len hf.fr, hf.lr]; rfl
 rw [lvT_E] at h2
 rw [← h2, List.drop_take, List.drop_drop]
theorem zr4_fit : FitR [RecT.zero, RecT.zero, RecT.zero, RecT.zero] := fun r hr => by
 simp only [List.mem_cons, List.not_mem_nil, or_false, or_self] at hr
 subst hr; exact RecT.zero_fit
theorem lvE_kin : Kin (fun _ _ => True) (List.replicate 4 (.u8 :: List.replicate 32 .u8)).flatten (entsV [lvE, EntT.zero, EntT.zero, EntT.zero]) := by
 have h := EntT.kins (R := [lvE, EntT.zero, EntT.zero, EntT.zero]) (fun e he => by
  simp only [List.mem_cons, List.not_mem_nil, or_false] at he
  rcases he with rfl | rfl | rfl | rfl
  ·exact ⟨sha_length _⟩
  all_goals exact EntT.zero_fit)
 exact h
theorem flat55e : flat Tryz.prog 5 55 = some (List.replicate 4 (.u8 :: List.replicate 32 .u8)).flatten := by kernel_rfl
set_option maxHeartbeats 16000000 in
theorem lives16_fn  : FnM Tryz.prog 19 tabE [] (.v (.bool true)) := by
 refine FnM.of Tryz.func19 rfl (by kernel_rfl) Tryz.ntmps19 (by simp) (by decide) (fun w => [(1900000, tabH 0 ([errT])), (1900001, tab 1 (sizV)), (1900002, tab 2 (H8.list.map u32V)), (1900003, tab 3 (K64.map u32V))]) (fun w => (StartM.m (by simp [tabE]) (by decide) (StartM.m (by simp [tabE]) (by decide) (StartM.m (by simp [tabE]) (by decide) (StartM.m (by simp [tabE]) (by decide) StartM.nil))))) fun w₀ hM => ?_
 have htab := tabE_hi hM
 refine GV rfl (GS (TN 1 (RS (ok_call (lRecord_fn 1 7) (A2 rfl rfl)) ?_)));refine RN ?_;refine ZN 1000001 zero51 fun b1 ⟨hBb1, hb1⟩ => ?_
 refine TF 2 (RN ?_);refine ⟨_, eff_storeA (n := 149) (s := 1000001) (size51.of ((recOf_fit 1 7).len)) rfl rfl (RecT.one _) hBb1 rfl (by rw [(recOf_fit 1 7).len]; rfl) (LV 1 rfl (LeftS.cons (t := 1900000) rfl (Surv.tabH (by omega)) (LQ 1900001 rfl (LQ 1900002 rfl (LQ 1900003 rfl LN))))), ?_⟩
 refine TL (RN (GS (TN 1 (RS (ok_lit [] (RecT.v RecT.zero) (fun _ _ => rfl) (by kernel_rfl)) ?_))));refine RN ?_;refine ZM 1000019 (fun B' => ok_buildG (m := 1) [(0, aggV RecT.zero.v)] (recsV lzR) U26 infoP51 ⟨rfl, rfl, trivial⟩ (by kernel_rfl) (by decide) (by decide)) rfl fun b19 ⟨hBb19, hb19⟩ => ?_
 have hlt_b1_b19 := hb19 1000001 b1 _ _ rfl
 refine TN 2 (RN ?_);refine ZM 1000020 (fun B' => ok_buildG (m := 1) [(0, nI 0)] (slotV lzS) U27 infoPI ⟨rfl, rfl, trivial⟩ (by kernel_rfl) (by decide) (by decide)) rfl fun b20 ⟨hBb20, hb20⟩ => ?_
 have hlt_b1_b20 := hb20 1000001 b1 _ _ rfl
 have hlt_b19_b20 := hb20 1000019 b19 _ _ rfl
 refine RunTK.newG 3 (by decide) rfl (.inl rfl) ?_;refine RN ?_;refine ⟨_, _, _, eff_nameY (n := 149) (d := 21) (k := 1000021) rfl rfl (fun B' => ok_callMBK (Build_okB lzR lzR_fit (by decide) (by decide) lzR_ok lzS lzS_ok (by decide) ⟨b19, 0, none⟩ ⟨b20, 0, none⟩ 1 1 (by decide)) newY_mono (SubK.app (SubK.of (Sub.cons rfl (Sub.cons rfl (Sub.cons rfl KN))) tabN_v) (SubK.cons (k := 1000019) (by decide) rfl Le.blkR0 (SubK.cons (k := 1000020) (by decide) rfl Le.blkR0 SubK.nil))) (A3 rfl rfl rfl)) (by decide) (by decide), fun x21 hx21 => ?_⟩
 obtain ⟨g21, y21⟩ := x21
 have hBg21 : w₀.heap.size ≤ g21 := hx21.1
 refine TN 7 (RV 2 rfl ?_);refine RZ (aggV [nI 1, .slice (some ⟨g21, 0, none⟩) lzT.length lzT.length]) (by rw [lzT_len]; rfl) ?_;refine RVN 1 rfl ?_;refine ZN 1000002 zero32 fun b2 ⟨hBb2, hb2⟩ => ?_
 refine TF 8 (RN ?_); refine ZA 1000002 (size32.of rfl) hBb2 rfl rfl rfl (LT 1000001 rfl (LT 1000019 rfl (LT 1000020 rfl (LT 1000021 rfl (LeftS.cons (t := 1900000) rfl (Surv.tabH (by omega)) (LQ 1900001 rfl (LQ 1900002 rfl (LQ 1900003 rfl (LW [1, 2, 23] rfl))))))))) ?_;refine TL (RVN 1 rfl ?_);refine GS (TN 5 (RL 1000002 U32 rfl rfl (size32.of rfl) ?_));refine RS (ok_callMK (Root_ok 1 ⟨g21, 0, none⟩ lzT lzT_fit lzT.length lzT_tree) (SubK.app (SubK.of (Sub.cons rfl (Sub.cons rfl (Sub.cons rfl (Sub.cons rfl KN)))) tabE_v) (SubK.cons (k := 1000021) (by decide) rfl Le.blkR SubK.nil)) (A1 rfl)) ?_;refine RVN 3 rfl ?_;refine ZN 1000004 zero40 fun b4 ⟨hBb4, hb4⟩ => ?_
 refine TF 6 (RN ?_);refine ⟨_, eff_storeA (n := 149) (s := 1000004) (size40.of (by rw [List.length_map, sha_length])) rfl rfl (all_bytes _) hBb4 rfl (by rw [List.length_map, sha_length]; rfl) (LT 1000001 rfl (LT 1000002 rfl (LT 1000019 rfl (LT 1000020 rfl (LT 1000021 rfl (LeftS.cons (t := 1900000) rfl (Surv.tabH (by omega)) (LQ 1900001 rfl (LQ 1900002 rfl (LQ 1900003 rfl (LW [1, 3, 4, 28] rfl)))))))))), ?_⟩
 refine TL (RVN 1 rfl ?_);refine GS (TN 5 (RL 1000001 U51 rfl rfl (size51.of ((recOf_fit 1 7).len)) ?_));refine RS (ok_lit [] (RecT.v RecT.zero) (fun _ _ => rfl) (by kernel_rfl)) ?_;refine RS (ok_lit [] (RecT.v RecT.zero) (fun _ _ => rfl) (by kernel_rfl)) ?_;refine RS (ok_lit [] (RecT.v RecT.zero) (fun _ _ => rfl) (by kernel_rfl)) ?_;refine RS (ok_lit [] (RecT.v RecT.zero) (fun _ _ => rfl) (by kernel_rfl)) ?_;refine RN ?_;refine ZM 1000035 (fun B' => ok_buildG (m := 5) [(0, aggV (recOf 1 7).v), (1, aggV RecT.zero.v), (2, aggV RecT.zero.v), (3, aggV RecT.zero.v), (4, aggV RecT.zero.v)] (recsV lvR) U26 infoP51 ⟨rfl, rfl, rfl, rfl, rfl, rfl, rfl, rfl, rfl, rfl, trivial⟩ (by kernel_rfl) (by decide) (by decide)) rfl fun b35 ⟨hBb35, hb35⟩ => ?_
 have hlt_b1_b35 := hb35 1000001 b1 _ _ rfl
 have hlt_b2_b35 := hb35 1000002 b2 _ _ rfl
 have hlt_b4_b35 := hb35 1000004 b4 _ _ rfl
 have hlt_b19_b35 := hb35 1000019 b19 _ _ rfl
 have hlt_b20_b35 := hb35 1000020 b20 _ _ rfl
 have hlt_g21_b35 := hb35 1000021 g21 _ _ rfl
 refine TN 6 (RN ?_);refine ZM 1000036 (fun B' => ok_buildG (m := 3) [(0, nI 1), (1, nI 0), (2, nI 0)] (slotV lvS) U27 infoPI ⟨rfl, rfl, rfl, rfl, rfl, rfl, trivial⟩ (by kernel_rfl) (by decide) (by decide)) rfl fun b36 ⟨hBb36, hb36⟩ => ?_
 have hlt_b1_b36 := hb36 1000001 b1 _ _ rfl
 have hlt_b2_b36 := hb36 1000002 b2 _ _ rfl
 have hlt_b4_b36 := hb36 1000004 b4 _ _ rfl
 have hlt_b19_b36 := hb36 1000019 b19 _ _ rfl
 have hlt_b20_b36 := hb36 1000020 b20 _ _ rfl
 have hlt_g21_b36 := hb36 1000021 g21 _ _ rfl
 have hlt_b35_b36 := hb36 1000035 b35 _ _ rfl
 refine RunTK.newG 7 (by decide) rfl (.inl rfl) ?_;refine RN ?_;refine ⟨_, _, _, eff_nameY (n := 149) (d := 37) (k := 1000037) rfl rfl (fun B' => ok_callMBK (Build_okB lvR lvR_fit (by decide) (by decide) lvR_ok lvS lvS_ok (by decide) ⟨b35, 0, none⟩ ⟨b36, 0, none⟩ 5 3 (by decide)) newY_mono (SubK.app (SubK.of (Sub.cons rfl (Sub.cons rfl (Sub.cons rfl KN))) tabN_v) (SubK.cons (k := 1000035) (by decide) rfl Le.blkR0 (SubK.cons (k := 1000036) (by decide) rfl Le.blkR0 SubK.nil))) (A3 rfl rfl rfl)) (by decide) (by decide), fun x37 hx37 => ?_⟩
 obtain ⟨g37, y37⟩ := x37
 have hBg37 : w₀.heap.size ≤ g37 := hx37.1
 refine TN 11 (RV 2 rfl ?_);refine RZ (aggV [nI 5, .slice (some ⟨g37, 0, none⟩) lvT.length lvT.length]) (by rw [lvT_len]; rfl) ?_;refine RVN 1 rfl ?_;refine ZN 1000006 zero32 fun b6 ⟨hBb6, hb6⟩ => ?_
 have hlt_b2_b6 := hb6 1000002 b2 _ _ rfl
 refine TF 12 (RN ?_); refine ZA 1000006 (size32.of rfl) hBb6 rfl rfl rfl (LT 1000001 rfl (LB 1000002 rfl (LT 1000004 rfl (LT 1000019 rfl (LT 1000020 rfl (LT 1000021 rfl (LT 1000035 rfl (LT 1000036 rfl (LT 1000037 rfl (LeftS.cons (t := 1900000) rfl (Surv.tabH (by omega)) (LQ 1900001 rfl (LQ 1900002 rfl (LQ 1900003 rfl (LW [1, 3, 4, 5, 6, 39] rfl)))))))))))))) ?_;refine TL (RVN 1 rfl ?_);refine A.sub (Sv [1, 3, 4, 5, 6, 7, 1000001, 1000002, 1000004, 1000006, 1000019, 1000020, 1000021, 1000035, 1000036, 1000037, 1900000, 1900001, 1900002, 1900003] rfl) ?_;refine GS (RunTK.newG 1 (by decide) rfl (.inl rfl) ?_);refine RL 1000006 U32 rfl rfl (size32.of rfl) ?_;refine RN ?_;refine ⟨_, _, _, eff_nameY (n := 149) (d := 42) (k := 1000042) rfl rfl (fun B' => ok_callMBK (Prove_okB 5 ⟨g37, 0, none⟩ lvT lvT_fit lvT.length lvT_tree 0 (by decide)) newY_mono (SubK.app (SubK.of (Sub.cons rfl (Sub.cons rfl (Sub.cons rfl (Sub.cons rfl KN)))) tabE_v) (SubK.cons (k := 1000037) (by decide) rfl Le.blkR SubK.nil)) (A2 rfl rfl)) (by decide) (by decide), fun x42 hx42 => ?_⟩
 obtain ⟨g42, y42⟩ := x42
 have hBg42 : w₀.heap.size ≤ g42 := hx42.1
 refine TN 5 (RV 2 rfl ?_);refine RZ (aggV [nI 0, .slice (some ⟨g42, 0, none⟩) pfA.length pfA.length]) (by rw [pfA_len, mny_0]) ?_;refine RVN 1 rfl ?_;refine ZN 1000008 zero69 fun b8 ⟨hBb8, hb8⟩ => ?_
 refine TF 6 (RN ?_); refine ZA 1000008 (size69.of rfl) hBb8 rfl rfl rfl (LT 1000001 rfl (LT 1000002 rfl (LT 1000004 rfl (LT 1000006 rfl (LT 1000019 rfl (LT 1000020 rfl (LT 1000021 rfl (LT 1000035 rfl (LT 1000036 rfl (LT 1000037 rfl (LT 1000042 rfl (LeftS.cons (t := 1900000) rfl (Surv.tabH (by omega)) (LQ 1900001 rfl (LQ 1900002 rfl (LQ 1900003 rfl (LW [1, 3, 4, 5, 6, 7, 8, 44] rfl)))))))))))))))) ?_;refine TL (RVN 1 rfl ?_);refine GS (RunTK.newG 1 (by decide) rfl (.inl rfl) ?_);refine RL 1000006 U32 rfl rfl (size32.of rfl) ?_;refine RN ?_;refine ⟨_, _, _, eff_nameY (n := 149) (d := 47) (k := 1000047) rfl rfl (fun B' => ok_callMBK (Prove_okB 5 ⟨g37, 0, none⟩ lvT lvT_fit lvT.length lvT_tree 4 (by decide)) newY_mono (SubK.app (SubK.of (Sub.cons rfl (Sub.cons rfl (Sub.cons rfl (Sub.cons rfl KN)))) tabE_v) (SubK.cons (k := 1000037) (by decide) rfl Le.blkR SubK.nil)) (A2 rfl rfl)) (by decide) (by decide), fun x47 hx47 => ?_⟩
 obtain ⟨g47, y47⟩ := x47
 have hBg47 : w₀.heap.size ≤ g47 := hx47.1
 refine TN 5 (RV 2 rfl ?_);refine RZ (aggV [nI 4, .slice (some ⟨g47, 0, none⟩) pfB.length pfB.length]) (by rw [pfB_len, mny_4]) ?_;refine RVN 1 rfl ?_;refine ZN 1000010 zero69 fun b10 ⟨hBb10, hb10⟩ => ?_
 have hlt_b8_b10 := hb10 1000008 b8 _ _ rfl
 refine TF 6 (RN ?_); refine ZA 1000010 (size69.of rfl) hBb10 rfl rfl rfl (LT 1000001 rfl (LT 1000002 rfl (LT 1000004 rfl (LT 1000006 rfl (LB 1000008 rfl (LT 1000019 rfl (LT 1000020 rfl (LT 1000021 rfl (LT 1000035 rfl (LT 1000036 rfl (LT 1000037 rfl (LT 1000042 rfl (LT 1000047 rfl (LeftS.cons (t := 1900000) rfl (Surv.tabH (by omega)) (LQ 1900001 rfl (LQ 1900002 rfl (LQ 1900003 rfl (LW [1, 3, 4, 5, 6, 7, 8, 9, 10, 49] rfl)))))))))))))))))) ?_;refine TL (RVN 1 rfl ?_);refine GS (TN 5 (RL 1000006 U32 rfl rfl (size32.of rfl) ?_));refine RS (ok_callMK (Root_ok 5 ⟨g37, 0, none⟩ lvT lvT_fit lvT.length lvT_tree) (SubK.app (SubK.of (Sub.cons rfl (Sub.cons rfl (Sub.cons rfl (Sub.cons rfl KN)))) tabE_v) (SubK.cons (k := 1000037) (by decide) rfl Le.blkR SubK.nil)) (A1 rfl)) ?_;refine RV 2 rfl ?_;refine RZ (aggV (lvD.map byteV)) (by rfl) ?_;refine RVN 1 rfl ?_;refine ZN 1000012 zero40 fun b12 ⟨hBb12, hb12⟩ => ?_
 have hlt_b4_b12 := hb12 1000004 b4 _ _ rfl
 refine TF 6 (RN ?_);refine ⟨_, eff_storeA (n := 149) (s := 1000012) (size40.of (by rw [List.length_map, lvD_len])) rfl rfl (all_bytes _) hBb12 rfl (by rw [List.length_map, lvD_len]; rfl) (LT 1000001 rfl (LT 1000002 rfl (LB 1000004 rfl (LT 1000006 rfl (LT 1000008 rfl (LT 1000010 rfl (LT 1000019 rfl (LT 1000020 rfl (LT 1000021 rfl (LT 1000035 rfl (LT 1000036 rfl (LT 1000037 rfl (LT 1000042 rfl (LT 1000047 rfl (LeftS.cons (t := 1900000) rfl (Surv.tabH (by omega)) (LQ 1900001 rfl (LQ 1900002 rfl (LQ 1900003 rfl (LW [1, 3, 4, 5, 6, 7, 8, 9, 10, 11, 12, 54] rfl))))))))))))))))))), ?_⟩
 refine TL (RVN 1 rfl ?_);refine QS (GTD (RV 3 rfl ?_));refine RZ (.int .i64 0) (by rfl) ?_;refine RV 2 rfl ?_;refine RZ (.int .i64 0) (by rfl) ?_;refine RV 2 rfl ?_;refine RZ (.int .i64 0) (by rfl) ?_;refine RV 2 rfl ?_;refine RZ (.int .i64 0) (by rfl) ?_;refine RV 2 rfl ?_;refine RZ (.int .i64 0) (by rfl) ?_;refine RB rfl rfl rfl ?_;refine RZ (.bool false) (by rfl) ?_;refine RM rfl ?_;refine RQ (ok_loadA (s := 1000004) (by decide) U40 rfl (size40.of (by rw [List.length_map, sha_length])) rfl rfl) ?_;refine RQ (ok_lit [] (NodT.v (NodT.emp 0 0)) (fun _ _ => rfl) (by kernel_rfl)) ?_;refine RQ (ok_call (rDigest_fn (NodT.emp 0 0) (NodT.emp_fit 0 (j := 0) (by decide)) (by decide)) (A1 rfl)) ?_;refine RQ (ok_neqT (n := 4) true flat40r (by decide) (by kernel_rfl) (by kernel_rfl) rfl rfl (kinB (sha_length _)) (kinB (sha_length _)) (iff_of_true rfl (by rw [lzT_at]))) ?_; refine RZ (.bool false) (by rfl) ?_;refine RP rfl rfl ?_;refine RZ (.bool false) (by rfl) ?_;refine RM rfl ?_;refine RQ (ok_field field32_1 (by decide) rfl) ?_;refine RQ (ok_loadV (s := 1000006) (by decide) U30 rfl rfl rfl (rfl)) ?_;refine RQ (ok_lenV U30 rfl) ?_;refine RQ (ok_bin rfl rfl rfl) ?_;refine RZ (.bool false) (congrArg Value.bool (by rw [lvT_len]; rfl)) ?_;refine RP rfl rfl ?_;refine RZ (.bool false) (by rfl) ?_;refine RM rfl ?_;refine RQ (ok_field field69_1 (by decide) rfl) ?_;refine RQ (ok_loadV (s := 1000008) (by decide) U30 rfl rfl rfl (rfl)) ?_;refine RQ (ok_lenV U30 rfl) ?_;refine RQ (ok_bin rfl rfl rfl) ?_;refine RZ (.bool false) (congrArg Value.bool (by rw [pfA_len]; rfl)) ?_;refine RP rfl rfl ?_;refine RZ (.bool false) (by rfl) ?_;refine RM rfl ?_;refine RQ (ok_field field69_1 (by decide) rfl) ?_;refine RQ (ok_loadV (s := 1000010) (by decide) U30 rfl rfl rfl (rfl)) ?_;refine RQ (ok_lenV U30 rfl) ?_;refine RQ (ok_bin rfl rfl rfl) ?_;refine RZ (.bool false) (congrArg Value.bool (by rw [pfB_len]; rfl)) ?_;refine RP rfl rfl ?_;refine RZ (.bool false) (by rfl) ?_;refine RN (A.sub (Sv [1, 6, 8, 10, 12, 90, 1000001, 1000002, 1000004, 1000006, 1000008, 1000010, 1000012, 1000019, 1000020, 1000021, 1000035, 1000036, 1000037, 1000042, 1000047, 1900000, 1900001, 1900002, 1900003] rfl) ?_);refine A.no rfl ?_;refine QK (QS (GTD (RS (ok_field field32_1 (by decide) rfl) ?_)));refine RLV 1000006 U30 rfl rfl rfl ?_;refine RS (ok_indexS 2 U30 infoN rfl rfl rfl (by rw [lvT_len]; decide)) ?_;refine RS (ok_field field57_3 (by decide) rfl) ?_;refine RS (ok_loadP (s := 1000037) (by decide) U55 rfl size55 rfl rfl (by have hl := nods_len lvT_fit; rw [lvT_len] at hl; rw [List.length_append]; show _ ≤ (nodsV lvT).length + _; omega) (lv_part _)) ?_;refine RL 1000001 U51 rfl rfl (size51.of ((recOf_fit 1 7).len)) ?_;refine RS (ok_litS [(0, aggV (recOf 1 7).v)] (recsV [recOf 1 7, RecT.zero, RecT.zero, RecT.zero]) ⟨rfl, rfl, trivial⟩ lv_buildR) ?_;refine RS (ok_litS [(2, aggV (recsV [recOf 1 7, RecT.zero, RecT.zero, RecT.zero]))] (grpR lvR 0).v ⟨rfl, rfl, trivial⟩ lv_buildX) ?_
 refine RS (ok_call (rDigest_fn (grpR lvR 0) (grpR_fit lvR_fit (by decide)) (by decide)) (A1 rfl)) ?_;refine RS (ok_litS [(0, byteV 2), (1, aggV ((sha (grpR lvR 0).bl).map byteV))] (EntT.v lvE) ⟨rfl, rfl, rfl, rfl, trivial⟩ (buildEntB _ _ (sha_length _))) ?_;refine RS (ok_litS [(0, aggV lvE.v)] (entsV [lvE, EntT.zero, EntT.zero, EntT.zero]) ⟨rfl, rfl, trivial⟩ (lv_buildE _ _ (sha_length _))) ?_;refine RS (ok_neqT (n := 5) true flat55e (by decide) (by kernel_rfl) (by kernel_rfl) rfl rfl lvE_kin lvE_kin (iff_of_true rfl rfl)) ?_; refine RZ (.bool false) (by rfl) ?_;refine RN (A.no rfl ?_);refine QK (GS (TN 6 (RL 1000012 U40 rfl rfl (size40.of (by rw [List.length_map, lvD_len])) ?_)));refine RL 1000008 U69 rfl rfl (size69.of rfl) ?_;refine RS (ok_callMK (Verify_fn 5 0 lvD lvD_len (some ⟨g42, 0, none⟩) pfA pfA_fit pfA.length) (SubK.app (SubK.of (Sub.cons rfl (Sub.cons rfl (Sub.cons rfl (Sub.cons rfl KN)))) tabE_v) (SubK.cons (k := 1000042) (by decide) rfl Le.blkR SubK.nil)) (A3 rfl rfl rfl)) ?_;refine RV 2 rfl ?_;refine RZ (aggV (recOf 1 7).v) (by rw [verA.2]) ?_;refine RS (ok_extractV rfl rfl) ?_;refine RZ (.int .i64 0) (by rw [verA.1]) ?_;refine RN ?_;refine ZN 1000014 zero51 fun b14 ⟨hBb14, hb14⟩ => ?_
 have hlt_b1_b14 := hb14 1000001 b1 _ _ rfl
 have hlt_b19_b14 := hb14 1000019 b19 _ _ rfl
 have hlt_b35_b14 := hb14 1000035 b35 _ _ rfl
 refine TF 7 (RN ?_);refine ⟨_, eff_storeA (n := 149) (s := 1000014) (size51.of ((recOf_fit 1 7).len)) rfl rfl (RecT.one _) hBb14 rfl (by rw [(recOf_fit 1 7).len]; rfl) (LB 1000001 rfl (LT 1000002 rfl (LT 1000004 rfl (LT 1000006 rfl (LT 1000008 rfl (LT 1000010 rfl (LT 1000012 rfl (LB 1000019 rfl (LT 1000020 rfl (LT 1000021 rfl (LB 1000035 rfl (LT 1000036 rfl (LT 1000037 rfl (LT 1000042 rfl (LT 1000047 rfl (LeftS.cons (t := 1900000) rfl (Surv.tabH (by omega)) (LQ 1900001 rfl (LQ 1900002 rfl (LQ 1900003 rfl (LW [1, 10, 12, 14, 108] rfl)))))))))))))))))))), ?_⟩
 refine TL (RVN 1 rfl ?_);refine GS (TN 6 (RL 1000012 U40 rfl rfl (size40.of (by rw [List.length_map, lvD_len])) ?_));refine RL 1000010 U69 rfl rfl (size69.of rfl) ?_;refine RS (ok_callMK (Verify_fn 5 4 lvD lvD_len (some ⟨g47, 0, none⟩) pfB pfB_fit pfB.length) (SubK.app (SubK.of (Sub.cons rfl (Sub.cons rfl (Sub.cons rfl (Sub.cons rfl KN)))) tabE_v) (SubK.cons (k := 1000047) (by decide) rfl Le.blkR SubK.nil)) (A3 rfl rfl rfl)) ?_;refine RV 2 rfl ?_;refine RZ (aggV RecT.zero.v) (by rw [verB.2]) ?_;refine RS (ok_extractV rfl rfl) ?_;refine RZ (.int .i64 0) (by rw [verB.1]) ?_;refine RN ?_;refine ZN 1000015 zero51 fun b15 ⟨hBb15, hb15⟩ => ?_
 have hlt_b1_b15 := hb15 1000001 b1 _ _ rfl
 have hlt_b14_b15 := hb15 1000014 b14 _ _ rfl
 have hlt_b19_b15 := hb15 1000019 b19 _ _ rfl
 have hlt_b35_b15 := hb15 1000035 b35 _ _ rfl
 refine TF 7 (RN ?_);refine ⟨_, eff_storeA (n := 149) (s := 1000015) (size51.of (RecT.zero_fit.len)) rfl rfl (RecT.one _) hBb15 rfl (by rw [RecT.zero_fit.len]; rfl) (LB 1000001 rfl (LT 1000002 rfl (LT 1000004 rfl (LT 1000006 rfl (LT 1000008 rfl (LT 1000010 rfl (LT 1000012 rfl (LB 1000014 rfl (LB 1000019 rfl (LT 1000020 rfl (LT 1000021 rfl (LB 1000035 rfl (LT 1000036 rfl (LT 1000037 rfl (LT 1000042 rfl (LT 1000047 rfl (LeftS.cons (t := 1900000) rfl (Surv.tabH (by omega)) (LQ 1900001 rfl (LQ 1900002 rfl (LQ 1900003 rfl (LW [1, 3, 12, 14, 15, 114] rfl))))))))))))))))))))), ?_⟩
 refine TL (RVN 1 rfl ?_);refine A.sub (Sv [1, 3, 5, 12, 14, 15, 1000001, 1000002, 1000004, 1000006, 1000008, 1000010, 1000012, 1000014, 1000015, 1000019, 1000020, 1000021, 1000035, 1000036, 1000037, 1000042, 1000047, 1900000, 1900001, 1900002, 1900003] rfl) ?_;refine GS (TN 0 (RN ?_));refine ZM 1000116 (fun B' => ok_makeK 4 U26 infoP51 (by decide) rfl rfl (by decide)) rfl fun b116 ⟨hBb116, hb116⟩ => ?_
 have hlt_b1_b116 := hb116 1000001 b1 _ _ rfl
 have hlt_b2_b116 := hb116 1000002 b2 _ _ rfl
 have hlt_b4_b116 := hb116 1000004 b4 _ _ rfl
 have hlt_b6_b116 := hb116 1000006 b6 _ _ rfl
 have hlt_b8_b116 := hb116 1000008 b8 _ _ rfl
 have hlt_b10_b116 := hb116 1000010 b10 _ _ rfl
 have hlt_b12_b116 := hb116 1000012 b12 _ _ rfl
 have hlt_b14_b116 := hb116 1000014 b14 _ _ rfl
 have hlt_b15_b116 := hb116 1000015 b15 _ _ rfl
 have hlt_b19_b116 := hb116 1000019 b19 _ _ rfl
 have hlt_b20_b116 := hb116 1000020 b20 _ _ rfl
 have hlt_g21_b116 := hb116 1000021 g21 _ _ rfl
 have hlt_b35_b116 := hb116 1000035 b35 _ _ rfl
 have hlt_b36_b116 := hb116 1000036 b36 _ _ rfl
 have hlt_g37_b116 := hb116 1000037 g37 _ _ rfl
 have hlt_g42_b116 := hb116 1000042 g42 _ _ rfl
 have hlt_g47_b116 := hb116 1000047 g47 _ _ rfl
 refine TN 1 (RN ?_);refine ZM 1000117 (fun B' => ok_buildG (m := 3) [(0, nI 0), (1, nI 0), (2, nI 0)] (intL [0, 0, 0]) U27 infoPI ⟨rfl, rfl, rfl, rfl, rfl, rfl, trivial⟩ (by kernel_rfl) (by decide) (by decide)) rfl fun b117 ⟨hBb117, hb117⟩ => ?_
 have hlt_b1_b117 := hb117 1000001 b1 _ _ rfl
 have hlt_b2_b117 := hb117 1000002 b2 _ _ rfl
 have hlt_b4_b117 := hb117 1000004 b4 _ _ rfl
 have hlt_b6_b117 := hb117 1000006 b6 _ _ rfl
 have hlt_b8_b117 := hb117 1000008 b8 _ _ rfl
 have hlt_b10_b117 := hb117 1000010 b10 _ _ rfl
 have hlt_b12_b117 := hb117 1000012 b12 _ _ rfl
 have hlt_b14_b117 := hb117 1000014 b14 _ _ rfl
 have hlt_b15_b117 := hb117 1000015 b15 _ _ rfl
 have hlt_b19_b117 := hb117 1000019 b19 _ _ rfl
 have hlt_b20_b117 := hb117 1000020 b20 _ _ rfl
 have hlt_g21_b117 := hb117 1000021 g21 _ _ rfl
 have hlt_b35_b117 := hb117 1000035 b35 _ _ rfl
 have hlt_b36_b117 := hb117 1000036 b36 _ _ rfl
 have hlt_g37_b117 := hb117 1000037 g37 _ _ rfl
 have hlt_g42_b117 := hb117 1000042 g42 _ _ rfl
 have hlt_g47_b117 := hb117 1000047 g47 _ _ rfl
 have hlt_b116_b117 := hb117 1000116 b116 _ _ rfl
 refine TL (RS (ok_callMK (Build_bad 5 [RecT.zero, RecT.zero, RecT.zero, RecT.zero] zr4_fit [0, 0, 0] (some ⟨b116, 0, none⟩) (some ⟨b117, 0, none⟩) 4 3 src5) (SubK.cons (k := 1000116) (by decide) rfl ((Le.eq (congrArg (blk b116 51) (made_rec 4 (fun _ => RecT.zero)))).trans Le.blkR0) (SubK.cons (k := 1000117) (by decide) rfl Le.blkR0 SubK.nil)) (A3 rfl rfl rfl)) ?_);refine RVN 4 rfl ?_;refine GT (RL 1000012 U40 rfl rfl (size40.of (by rw [List.length_map, lvD_len])) ?_);refine RS (ok_lit [] ([.int .i64 0] ++ [.slice none 0 0]) (fun _ _ => rfl) (by kernel_rfl)) ?_;refine RS (ok_callMK (Verify_fn 5 0 lvD lvD_len none [] FitT.nil 0) (SubK.app (SubK.of (Sub.cons rfl (Sub.cons rfl (Sub.cons rfl (Sub.cons rfl KN)))) tabE_v) (SubK.cons (k := 1000037) (by decide) rfl Le.memNil SubK.nil)) (A3 rfl rfl rfl)) ?_;refine RV 2 rfl ?_;refine RZ (aggV RecT.zero.v) (by rw [verC.2]) ?_;refine RS (ok_extractV rfl rfl) ?_;refine RZ (.int .i64 1) (by rw [verC.1]) ?_;refine RVN 1 rfl ?_;refine GT (RV 3 rfl ?_);refine RZ (.int .i64 0) (by rfl) ?_;refine RB rfl rfl rfl ?_;refine RZ (.bool true) (by rfl) ?_;refine RM rfl ?_;refine RQ (ok_loadA (s := 1000014) (by decide) U51 rfl (size51.of ((recOf_fit 1 7).len)) rfl rfl) ?_;refine RQ (ok_loadA (s := 1000001) (by decide) U51 rfl (size51.of ((recOf_fit 1 7).len)) rfl rfl) ?_;refine RQ (ok_eqlT (n := 4) true flat51 (by decide) (by kernel_rfl) (by kernel_rfl) rfl rfl (recOf_fit 1 7).kin (recOf_fit 1 7).kin (iff_of_true rfl rfl)) ?_;refine RP rfl rfl ?_;refine RZ (.bool true) (by rfl) ?_;refine RM rfl ?_;refine RQ (ok_loadA (s := 1000015) (by decide) U51 rfl (size51.of (RecT.zero_fit.len)) rfl rfl) ?_;refine RQ (ok_lit [] (RecT.v RecT.zero) (fun _ _ => rfl) (by kernel_rfl)) ?_;refine RQ (ok_eqlT (n := 4) true flat51 (by decide) (by kernel_rfl) (by kernel_rfl) rfl rfl RecT.zero_fit.kin RecT.zero_fit.kin (iff_of_true rfl rfl)) ?_;refine RP rfl rfl ?_;refine RZ (.bool true) (by rfl) ?_;refine RV 3 rfl ?_;refine RZ (.bool true) (by rfl) ?_;refine RP rfl rfl ?_;refine RZ (.bool true) (by rfl) ?_;refine RV 3 rfl ?_;refine RZ (.bool true) (by rfl) ?_;refine RP rfl rfl ?_;refine RZ (.bool true) (by rfl) ?_;refine RVN 1 rfl ?_;refine A.sub (Sv [0, 1000001, 1000002, 1000004, 1000006, 1000008, 1000010, 1000012, 1000014, 1000015, 1000019, 1000020, 1000021, 1000035, 1000036, 1000037, 1000042, 1000047, 1000116, 1000117, 1900000, 1900001, 1900002, 1900003] rfl) ?_;refine A.ret ?_;exact ER rfl rfl
section
set_option maxRecDepth 20000
set_option linter.unusedSimpArgs false
theorem mT_root (k : UInt8) (q : List P2) (S : List UInt8) : ndAt (mT k q S) (tot (mN k) (hg (mN k))) = nodR (mR k q) (mS k S) (hg (mN k)) 0 := by
 have hh := hg_le (mN k)
 have htp := un_top (mN1 k) (mN4 k)
 have hl := mR_len k q
 have h := treR_at (R := mR k q) (S := mS k S) (m := tot (mN k) (hg (mN k) + 1)) (l := hg (mN k)) (j := 0) (by omega) (by rw [hl, un_root (mN1 k) (mN4 k)]; decide) (by rw [hl]; omega)
 rw [hl, Nat.add_zero] at h; exact h
theorem mT_at (k : UInt8) (q : List P2) (S : List UInt8) {l j : Nat} (hl : l ≤ hg (mN k)) (hj : j < un (mN k) (l + 1)) : ndAt (mT k q S) (tot (mN k) l + j) = nodR (mR k q) (mS k S) l j := by
 have hh := hg_le (mN k)
 have hr := mR_len k q
 have h := treR_at (R := mR k q) (S := mS k S) (m := tot (mN k) (hg (mN k) + 1)) (l := l) (j := j) (by omega) (by rw [hr]; exact hj) (by rw [hr]; exact numP_lt hl hj)
 rw [hr] at h; exact h
theorem mT_grps (k : UInt8) (q : List P2) (S : List UInt8) : GrpsOf (mR k q) (mT k q S) := treR_grps (by rw [mR_len]; exact tot_mono (by omega))
theorem mT_rec (k : UInt8) (q : List P2) (S : List UInt8) {i : Nat} (hi : i < mN k) : recT (mT k q S) i = mAt q i := by
 rw [(mT_grps k q S).recs (by rw [mR_len]; exact hi), mP_at hi]
theorem mT_em (k : UInt8) (q : List P2) (S : List UInt8) {l j : Nat} (hj : j < un (mN k) (l + 1)) : emT (mN k) (mT k q S) l j = emF (mN k) (recAt (mR k q)) l j := by
 have h := (mT_grps k q S).em (l := l) (j := j) (by rw [mR_len]; exact hj)
 rw [mR_len] at h; exact h
theorem recs_blk {R : List RecT} (hR : FitR R) {i : Nat} (hi : i < R.length) (ys : List Value) : ((recsV R ++ ys).drop (0 + i * 35)).take 35 = (recAt R i).v := by
 have hl := recs_len hR
 rw [Nat.zero_add, List.drop_append_of_le_length (by omega), List.take_append_of_le_length (by rw [List.length_drop]; omega), recs_at hR hi]
theorem nods_blk {T : List NodT} (hT : FitT T) {i : Nat} (hi : i < T.length) (ys : List Value) : ((nodsV T ++ ys).drop (0 + i * 274)).take 274 = (ndAt T i).v := by
 have hl := nods_len hT
 rw [Nat.zero_add, List.drop_append_of_le_length (by omega), List.take_append_of_le_length (by rw [List.length_drop]; omega), nods_at hT hi]
end
section
set_option maxRecDepth 20000
set_option linter.unusedSimpArgs false
def mk (f : Nat → Bool) (h : Nat) : Nat → Nat
 | 0 => h + 1
 | j + 1 => if f j then h - j else mk f h j
theorem mk_spec (f : Nat → Bool) (h : Nat) : ∀ j, j ≤ h → mk f h j ≤ h + 1 ∧ h - j < mk f h j ∧ (∀ i, i < j → h < i + mk f h j → f i = false) ∧ (mk f h j ≤ h → f (h - mk f h j) = true)
 | 0, _ => ⟨Nat.le_refl _, by unfold mk; omega, fun i hi => absurd hi (Nat.not_lt_zero _), fun hh => by unfold mk at hh; omega⟩
 | j + 1, hj => by
  obtain ⟨h1, h2, h3, h4⟩ := mk_spec f h j (by omega)
  unfold mk
  split
  ·rename_i hf
   exact ⟨by omega, by omega, fun i hi hh => by omega, fun _ => by rw [show h - (h - j) = j from by omega]; exact hf⟩
  ·rename_i hf
   refine ⟨h1, by omega, fun i hi hh => ?_, h4⟩
   by_cases hij : i = j
   ·subst hij; simpa using hf
   ·exact h3 i (by omega) hh
theorem mk_mny {n : Nat} {T : List NodT} {x : Nat} {f : Nat → Bool} (hf : ∀ j, j < hg n → f j = emT n T j (x / 4 ^ (j + 1))) : mk f (hg n) (hg n) = mny n T x := by
 obtain ⟨h1, h2, h3, h4⟩ := mk_spec f (hg n) (hg n) (Nat.le_refl _)
 refine (runTo_eq (by omega) (by omega) (fun d hd hm => ?_) fun hm => ?_).symm
 ·have := h3 (hg n - d) (by omega) (by omega)
  rw [hf _ (by omega)] at this
  exact this
 ·have := h4 (by omega)
  rw [hf _ (by omega)] at this
  exact this
noncomputable instance decIsP (n : Nat) (l j : Int) : Decidable (IsP n l j) := Classical.propDecidable _
noncomputable def atN (n : Nat) (T : List NodT) (l j : Int) : NodT := if IsP n l j then ndAt T (tot n l.toNat + j.toNat) else NodT.emp 0 0
noncomputable def atE (n : Nat) (l j : Int) : Int := if IsP n l j then 0 else 1
theorem isP_ex {n : Nat} {l j : Int} (h : IsP n l j) : ∃ a b : Nat, l = a ∧ j = b ∧ a ≤ hg n ∧ b < un n (a + 1) := by
 have h0 : 0 ≤ l ∧ 0 ≤ j := by unfold IsP at h; omega
 obtain ⟨a, rfl⟩ : ∃ a : Nat, l = a := ⟨l.toNat, by omega⟩
 obtain ⟨b, rfl⟩ : ∃ b : Nat, j = b := ⟨j.toNat, by omega⟩
 exact ⟨a, b, rfl, rfl, isP_nat.1 h⟩
theorem atN_fit {n : Nat} {T : List NodT} (hT : FitT T) (l j : Int) : (atN n T l j).Fit := by
 unfold atN
 split
 ·exact hT.at _
 ·exact NodT.emp_fit 0 (by decide)
theorem At_any (n : Nat) (ad : Addr) (T : List NodT) (hT : FitT T) (c : Nat) (ht : Tree n T) (l j : Int) : FnM Tryz.prog 22 (tabE ++ trO (some ad) T) [.v (aggV [nI n, .slice (some ad) T.length c]), .v (aggV [.int .i64 l, .int .i64 j])] (.v (.tuple #[aggV (atN n T l j).v, .int .i64 (atE n l j)])) := by
 by_cases h : IsP n l j
 ·have e1 : atN n T l j = ndAt T (tot n l.toNat + j.toNat) := if_pos h
  have e2 : atE n l j = 0 := if_pos h
  rw [e1, e2]
  obtain ⟨a, b, rfl, rfl, h1, h2⟩ := isP_ex h
  exact At_ok n ad T hT c ht a b h1 h2
 ·have e1 : atN n T l j = NodT.emp 0 0 := if_neg h
  have e2 : atE n l j = 1 := if_neg h
  rw [e1, e2]; exact At_no n ad T hT c ht l j h
noncomputable def isB (n : Nat) (l j : Int) : Bool := decide (IsP n l j)
theorem rIs_any (n : Nat) (h1 : 1 ≤ n) (h2 : n ≤ 4096) (l j : Int) : Fn Tryz.prog 30 [.v (nI n), .v (.int .i64 l), .v (.int .i64 j)] (.v (.bool (isB n l j))) := by
 by_cases h : IsP n l j
 ·rw [show isB n l j = true from decide_eq_true h]
  obtain ⟨a, b, rfl, rfl, h3, h4⟩ := isP_ex h
  exact rIs_y n h1 h2 a b h3 h4
 ·rw [show isB n l j = false from decide_eq_false h]; exact rIs_n n h1 h2 l j h
abbrev pvP (k : UInt8) (q : List P2) (S : List UInt8) (i : Nat) : List NodT := pthT (mN k) (mT k q S) i (mny (mN k) (mT k q S) i)
theorem pvP_len (k : UInt8) (q : List P2) (S : List UInt8) (i : Nat) : (pvP k q S i).length = mny (mN k) (mT k q S) i := pthT_length _ _ _ _
theorem pvP_fit (k : UInt8) (q : List P2) (S : List UInt8) (i : Nat) : FitT (pvP k q S i) := pthT_fit (mT_fit k q S) _ _
theorem pv_ver (k : UInt8) (q : List P2) (S : List UInt8) {i : Nat} (hi : i < mN k) : ver (mN k) (sha (nodR (mR k q) (mS k S) (hg (mN k)) 0).bl) i (pvP k q S i) = 0 ∧ verR (mN k) (sha (nodR (mR k q) (mS k S) (hg (mN k)) 0).bl) i (pvP k q S i) = mAt q i := by
 have h := (mT_tree k q S).prf hi
 have h2 := (mT_tree k q S).prf_rec hi (lv_rec (mT_tree k q S))
 rw [mT_root] at h h2
 exact ⟨h.ver, h2.trans (mT_rec k q S hi)⟩
theorem pv_at (k : UInt8) (q : List P2) (S : List UInt8) {i d : Nat} (hi : i < mN k) (hd : d < mny (mN k) (mT k q S) i) : ndAt (pvP k q S i) d = nodR (mR k q) (mS k S) (hg (mN k) - d) (pidx (mN k) i d) := by
 rw [pthT_at hd, mT_at k q S (Nat.sub_le _ _) (pidx_lt hi d)]
set_option maxHeartbeats 16000000 in
theorem MerklesProve_fn (k : UInt8) (q : List P2) (S : List UInt8) (a : UInt8) (l j : Int)  : FnM Tryz.prog 5 tabE [mD k q S, .v (byteV a), .v (aggV [.int .i64 l, .int .i64 j])] (.v (.bool true)) := by
 refine FnM.of Tryz.func5 rfl (by kernel_rfl) Tryz.ntmps5 (by simp) (by decide) (fun w => [(0, old w.heap.size (mD k q S)), (1, .v (byteV a)), (2, .v (aggV [.int .i64 l, .int .i64 j])), (1900000, tabH 0 ([errT])), (1900001, tab 1 (sizV)), (1900002, tab 2 (H8.list.map u32V)), (1900003, tab 3 (K64.map u32V))]) (fun w => (StartM.old rfl (StartM.v rfl (StartM.v rfl (StartM.m (by simp [tabE]) (by decide) (StartM.m (by simp [tabE]) (by decide) (StartM.m (by simp [tabE]) (by decide) (StartM.m (by simp [tabE]) (by decide) StartM.nil)))))))) fun w₀ hM => ?_
 have htab := tabE_hi hM
 refine A.openM (t := 0) (k₁ := 1000721) (k₂ := 1000722) rfl fun A₁ c₁ A₂ c₂ => ?_
 have hpos := mT_pos k
 have hN1 := mN1 k
 have hN2 := mN2 k
 have hTl := mT_len k q S
 have hh := hg_le (mN k)
 have hsm := tot_small hN1 (mN4 k) (show hg (mN k) + 1 ≤ 6 by omega)
 obtain ⟨i, hii⟩ : ∃ i, i = a.toNat % mN k := ⟨_, rfl⟩
 have hi : i < mN k := hii ▸ Nat.mod_lt _ (by omega)
 have hver := pv_ver k q S hi
 have hmny := mny_le (mN k) (mT k q S) i
 have hmk : mk (fun j => emF (mN k) (recAt (mR k q)) j (i / 4 ^ (j + 1))) (hg (mN k)) (hg (mN k)) = mny (mN k) (mT k q S) i := mk_mny fun j hj => (mT_em k q S (div_lt_un hi _)).symm
 refine GS (TN 0 (RN ?_));refine ZB 1000003 rfl fun b3 ⟨hBb3, hb3⟩ => ?_
 refine TN 1 (RN ?_);refine ZB 1000005 rfl fun b5 ⟨hBb5, hb5⟩ => ?_
 refine TL (RVN 1 rfl ?_);refine GS (RunTK.newG 1 (by decide) rfl (.inl rfl) ?_);refine RL 1000003 U25 rfl rfl (size25.of rfl) ?_;refine RN ?_;refine ⟨_, _, _, eff_nameQ (n := 179) (d := 23) (k := 1000023) rfl rfl (fun B' => ok_callMBK (MTree_fnB k q S A₁ A₂ c₁ c₂) newQ_mono (SubK.cons (k := 1000721) (by decide) rfl Le.unold (SubK.cons (k := 1000722) (by decide) rfl Le.unold SubK.nil)) (A1 rfl)) (by decide) (by decide), fun x23 hx23 => ?_⟩
 obtain ⟨g23, q23, y23⟩ := x23
 have hBg23 : w₀.heap.size ≤ g23 := hx23.1
 have hmg23 := hx23.2.1
 dsimp only at hmg23
 refine TN 2 (RN ?_);refine ZN 1000007 zero32 fun b7 ⟨hBb7, hb7⟩ => ?_
 refine TF 3 (RN ?_); refine ZA 1000007 (size32.of rfl) hBb7 rfl rfl rfl (LT 1000003 rfl (LT 1000005 rfl (LT 1000023 rfl (LO 1000721 rfl (LO 1000722 rfl (LeftS.cons (t := 1900000) rfl (Surv.tabH (by omega)) (LQ 1900001 rfl (LQ 1900002 rfl (LQ 1900003 rfl (LW [1, 3, 5, 7] rfl)))))))))) ?_;refine TL (RN (GT (RL 1000003 U25 rfl rfl (size25.of rfl) ?_)));refine RS (ok_callMBK (MOf_fnB k q S A₁ A₂ c₁ c₂) (fun _ _ h => tup_le2 (ownP_mono h) (ownP_mono h)) (SubK.cons (k := 1000721) (by decide) rfl Le.unold (SubK.cons (k := 1000722) (by decide) rfl Le.unold SubK.nil)) (A1 rfl)) ?_;refine RM rfl ?_;refine RS (ok_extract rfl rfl) ?_;refine RS (ok_extract rfl rfl) ?_;refine RVN 2 rfl ?_;refine A.nameP (t := 8) (k := 1000321) rfl (fun w y h => ownP_one h) fun v8 hv8 => ?_
 refine A.openRowY (k := 1000321) (k' := 1000308) rfl (by rw [recs_len (mP_fit q _), mP_len]; have := mN1 k; omega) fun g8 q8 y8 hBg8 hq8 e8 => ?_
 subst e8
 refine A.nameP (t := 9) (k := 1000322) rfl (fun w y h => ownP_one h) fun v9 hv9 => ?_
 refine A.openRowY (k := 1000322) (k' := 1000309) rfl (by unfold slotV; rw [List.length_map, mSP_len]; exact mT_pos k) fun sd sdq ysd hBsd hsdq esd => ?_
 subst esd
 refine GT (RM rfl ?_);refine RS (ok_lenV U26 rfl) ?_;refine RVN 1 rfl ?_;refine GT (RM rfl ?_);refine RS (ok_conv U5 U3 rfl) ?_; refine RZ (nI (a.toNat)) (congrArg (Value.int .i64) (wrap_i64 (by omega) (by have := a.toNat_lt; omega))) ?_;refine RM rfl ?_;refine RS (ok_rem rfl rfl (by omega)) ?_; refine RZ (nI (i)) (by rw [hii]; first | (rw [tmod_nat]; done) | (rw [tmod_nat]; rfl)) ?_;refine RVN 1 rfl ?_;refine GS (RunTK.newG 2 (by decide) rfl (.inl rfl) ?_);refine RL 1000007 U32 rfl rfl (size32.of (rfl)) ?_; refine RZ (aggV [nI (mN k), .slice (some ⟨g23, 0, none⟩) (mT k q S).length q23]) (by rw [hTl]) ?_;refine RVN 1 rfl ?_;refine ⟨_, _, _, eff_nameY (n := 179) (d := 38) (k := 1000038) rfl rfl (fun B' => ok_callMBK (Prove_okB (mN k) ⟨g23, 0, none⟩ (mT k q S) (mT_fit k q S) q23 (mT_tree k q S) i hi) newY_mono (SubK.app (SubK.of (Sub.cons rfl (Sub.cons rfl (Sub.cons rfl (Sub.cons rfl KN)))) tabE_v) (SubK.cons (k := 1000023) (by decide) rfl Le.blkR SubK.nil)) (A2 rfl rfl)) (by decide) (by decide), fun x38 hx38 => ?_⟩
 obtain ⟨g38, y38⟩ := x38
 have hBg38 : w₀.heap.size ≤ g38 := hx38.1
 have hlt_g23_g38 : g23 < g38 := hx38.2 1000023 _ _ _ rfl
 refine TN 6 (RV 2 rfl ?_);refine RZ (aggV [nI i, .slice (some ⟨g38, 0, none⟩) (pvP k q S i).length (pvP k q S i).length]) (by rw [pvP_len]) ?_;refine RVN 1 rfl ?_;refine ZN 1000012 zero69 fun b12 ⟨hBb12, hb12⟩ => ?_
 refine TF 7 (RN ?_); refine ZA 1000012 (size69.of rfl) hBb12 rfl rfl rfl (LT 1000003 rfl (LT 1000005 rfl (LT 1000007 rfl (LT 1000023 rfl (LT 1000038 rfl (LT 1000308 rfl (LT 1000309 rfl (LO 1000721 rfl (LO 1000722 rfl (LeftS.cons (t := 1900000) rfl (Surv.tabH (by omega)) (LQ 1900001 rfl (LQ 1900002 rfl (LQ 1900003 rfl (LW [5, 7, 8, 9, 10, 11, 12, 40] rfl)))))))))))))) ?_;refine TL (RVN 1 rfl ?_);refine A.sub (Sv [5, 7, 8, 9, 10, 11, 12, 13, 1000003, 1000005, 1000007, 1000012, 1000023, 1000038, 1000308, 1000309, 1000721, 1000722, 1900000, 1900001, 1900002, 1900003] rfl) ?_;refine A.regsK [⟨9, 14, 51, RecT.v RecT.zero, 10, ((mAt q i).v)⟩] (by kernel_rfl) (by kernel_rfl) (by kernel_rfl) ?_;refine KopsK.pure (_) rfl (.inl rfl) FromV.all (fun B' => (ok_move rfl)) ?_;refine KopsK.pure (_) rfl (.inl rfl) FromV.all (fun B' => (ok_move rfl)) ?_;refine KopsK.pure (_) rfl (.inl rfl) FromV.all (fun B' => (ok_move rfl)) ?_;refine KopsK.pure ((43, .v _) :: (44, .v _) :: _) rfl (.inl rfl) (FromV.op 1 (by kernel_rfl) rfl rfl (FromV.op 2 (by kernel_rfl) rfl rfl FromV.all)) (fun B' => (ok_callMK (rRoot_n (mN k) (tot (mN k) (hg (mN k) + 1)) (mN1 k) (mN4 k) (mR k q) (mR_len k q) (mP_fit q _) ⟨g8, 0, none⟩ q8 (mS k S) (mS_len k S) (mSP_ok S _) (Nat.le_refl _) ⟨sd, 0, none⟩ sdq) (SubK.cons (k := 1000308) (by decide) rfl Le.blkR (SubK.cons (k := 1000309) (by decide) rfl Le.blkR SubK.nil)) (A2 rfl rfl))) ?_;refine KopsK.pure (_) rfl (.inl rfl) FromV.all (fun B' => (ok_loadA (s := 1000012) (by decide) U69 rfl (size69.of (rfl)) rfl rfl)) ?_;refine KopsK.pure ((42, .v _) :: (45, .v _) :: (46, .v _) :: _) rfl (.inl rfl) (FromV.op 0 (by kernel_rfl) rfl rfl (FromV.op 3 (by kernel_rfl) rfl rfl (FromV.op 4 (by kernel_rfl) rfl rfl FromV.all))) (fun B' => (ok_callMK (Verify_fn (mN k) i (sha (nodR (mR k q) (mS k S) (hg (mN k)) 0).bl) (sha_length _) (some ⟨g38, 0, none⟩) (pvP k q S i) (pvP_fit k q S i) (pvP k q S i).length) (SubK.app (SubK.of (Sub.cons rfl (Sub.cons rfl (Sub.cons rfl (Sub.cons rfl KN)))) tabE_v) (SubK.cons (k := 1000038) (by decide) rfl Le.blkR SubK.nil)) (A3 rfl rfl rfl))) ?_;refine KopsK.pure ((47, .v _) :: _) rfl (.inl rfl) (FromV.op 5 (by kernel_rfl) rfl rfl FromV.all) (fun B' => (ok_move rfl)) ?_;refine KopsK.pure ((41, .v _) :: _) rfl (.inl rfl) (FromV.op 6 (by kernel_rfl) rfl rfl FromV.all) (fun B' => (OpOk.asV (aggV (mAt q i).v) (by rw [hver.2]) (ok_extractV rfl rfl))) ?_;refine KopsK.pure ((41, .v _) :: _) rfl (.inl rfl) (FromV.op 6 (by kernel_rfl) rfl rfl FromV.all) (fun B' => (OpOk.asV (.int .i64 0) (by rw [hver.1]) (ok_extractV rfl rfl))) ?_;refine KopsK.alloc 0 rfl rfl rfl rfl zero51 rfl ?_;refine KopsK.store 0 ((48, .v _) :: _) rfl rfl rfl rfl (by kernel_rfl) (FromV.op 7 (by kernel_rfl) rfl rfl FromV.all) rfl (size51.of ((mAt_fit q i).len)) (by rw [(mAt_fit q i).len]; rfl) (RecT.one _) ?_;refine KopsK.pure ((49, .v _) :: _) rfl (.inl rfl) (FromV.op 8 (by kernel_rfl) rfl rfl FromV.all) (fun B' => (ok_assign rfl)) ?_
 refine KopsK.nil ⟨by kernel_rfl, _, (FromW.op (t := 15) 11 rfl rfl FromW.all), fun bs hbs hds => ?_⟩
 have hb14 := hbs 0 (by simp)
 dsimp only [varEnv]
 generalize bs 0 = b14 at *
 have hBb14 := hb14.1
 have hlt_b3_b14 : b3 < b14 := hb14.2 1000003 _ _ _ rfl
 have hlt_b5_b14 : b5 < b14 := hb14.2 1000005 _ _ _ rfl
 have hlt_b7_b14 : b7 < b14 := hb14.2 1000007 _ _ _ rfl
 have hlt_b12_b14 : b12 < b14 := hb14.2 1000012 _ _ _ rfl
 have hlt_g23_b14 : g23 < b14 := hb14.2 1000023 _ _ _ rfl
 have hlt_g38_b14 : g38 < b14 := hb14.2 1000038 _ _ _ rfl
 have hlt_g8_b14 : g8 < b14 := hb14.2 1000308 _ _ _ rfl
 have hlt_sd_b14 : sd < b14 := hb14.2 1000309 _ _ _ rfl
 refine A.sub (Sv [5, 7, 8, 9, 10, 11, 12, 13, 14, 15, 1000003, 1000005, 1000007, 1000012, 1000014, 1000023, 1000038, 1000308, 1000309, 1000721, 1000722, 1900000, 1900001, 1900002, 1900003] rfl) ?_;refine QS (GTD (RV 2 rfl ?_));refine RZ (.bool false) (by rfl) ?_;refine RV 3 rfl ?_;refine RZ (.bool false) (by rfl) ?_;refine RP rfl rfl ?_;refine RZ (.bool false) (by rfl) ?_;refine RM rfl ?_;refine RQ (ok_loadA (s := 1000014) (by decide) U51 rfl (size51.of ((mAt_fit q i).len)) rfl rfl) ?_;refine RV 2 rfl ?_;refine RQ (ok_indexS i U26 infoP51 rfl rfl rfl hi) ?_;refine RQ (ok_loadP (s := 1000308) (by decide) U51 rfl size51 rfl rfl (by rw [List.length_append, recs_len (mP_fit q _), mP_len]; omega) ((recs_blk (mP_fit q _) (by rw [mP_len]; exact hi) _).trans (by rw [mP_at hi]))) ?_; refine RZ (aggV (mAt q i).v) (by rfl) ?_;refine RQ (ok_neqT (n := 4) true flat51 (by decide) (by kernel_rfl) (by kernel_rfl) rfl rfl (mAt_fit q i).kin (mAt_fit q i).kin (iff_of_true rfl rfl)) ?_; refine RZ (.bool false) (by rfl) ?_;refine RP rfl rfl ?_;refine RZ (.bool false) (by rfl) ?_;refine RM rfl ?_;refine RQ (ok_field field69_0 (by decide) rfl) ?_;refine RQ (ok_loadV (s := 1000012) (by decide) U3 rfl rfl rfl (rfl)) ?_;refine RV 2 rfl ?_;refine RZ (.bool false) (congrArg Value.bool (bne_eq_false_iff_eq.2 rfl)) ?_;refine RP rfl rfl ?_;refine RZ (.bool false) (by rfl) ?_;refine RM rfl ?_;refine RQ (ok_field field69_1 (by decide) rfl) ?_;refine RQ (ok_loadV (s := 1000012) (by decide) U30 rfl rfl rfl (rfl)) ?_;refine RQ (ok_capV U30 rfl) ?_;refine RQ (ok_field field69_1 (by decide) rfl) ?_;refine RQ (ok_loadV (s := 1000012) (by decide) U30 rfl rfl rfl (rfl)) ?_;refine RQ (ok_lenV U30 rfl) ?_;refine RQ (ok_bin rfl rfl rfl) ?_;refine RZ (.bool false) (congrArg Value.bool (bne_eq_false_iff_eq.2 rfl)) ?_;refine RP rfl rfl ?_;refine RZ (.bool false) (by rfl) ?_;refine RN (A.sub (Sv [5, 7, 8, 9, 10, 11, 12, 78, 1000003, 1000005, 1000007, 1000012, 1000014, 1000023, 1000038, 1000308, 1000309, 1000721, 1000722, 1900000, 1900001, 1900002, 1900003] rfl) ?_);refine A.no rfl ?_;refine QK (GT (RM rfl ?_));refine RS (ok_call (rHeight_fn (mN k) (mN1 k) (mN4 k)) (A1 rfl)) ?_;refine RVN 1 rfl ?_;refine GT (RV 2 rfl ?_);refine RZ (nI (hg (mN k) + 1)) (wrap_eq (by omega) (by omega)) ?_;refine RVN 1 rfl ?_;refine QS (GV rfl (A.block ?_))
 refine A.loop (ι := Nat) (fun m => m ≤ hg (mN k)) (fun m => [(5, .v (ptr b5)), (7, .v (ptr b7)), (8, .v (.slice (some ⟨g8, 0, none⟩) (mN k) q8)), (9, .v (.slice (some ⟨sd, 0, none⟩) (tot (mN k) (hg (mN k) + 1)) sdq)), (10, .v (nI (mN k))), (11, .v (nI (i))), (12, .v (ptr b12)), (16, .v (nI (hg (mN k)))), (17, .v (nI (mk (fun j => emF (mN k) (recAt (mR k q)) j (i / 4 ^ (j + 1))) (hg (mN k)) m))), (18, .v (nI (m))), (1000005, blk b5 67 [.int .i64 l, .int .i64 j]), (1000007, blk b7 32 [nI (mN k), .slice (some ⟨g23, 0, none⟩) (tot (mN k) (hg (mN k) + 1)) q23]), (1000012, blk b12 69 [nI i, .slice (some ⟨g38, 0, none⟩) (pvP k q S i).length (pvP k q S i).length]), (1000023, blk g23 57 (nodsV (mT k q S) ++ y23)), (1000038, blk g38 57 (nodsV (pvP k q S i) ++ y38)), (1000308, blk g8 51 (recsV (mR k q) ++ y8)), (1000309, blk sd 3 (slotV (mS k S) ++ ysd)), (1900000, tabH 0 ([errT])), (1900001, tab 1 (sizV)), (1900002, tab 2 (H8.list.map u32V)), (1900003, tab 3 (K64.map u32V))]) (fun m => hg (mN k) - m) 0 ?_ ?_ ?_
 ·exact Nat.zero_le _
 ·exact (KC 5 rfl (KC 7 rfl (KC 8 rfl (KC 9 rfl (KC 10 rfl (KC 11 rfl (KC 12 rfl (KC 16 rfl (KE 17 rfl (by rfl) (KE 18 rfl (by rfl) (KC 1000005 rfl (KC 1000007 rfl (KC 1000012 rfl (KC 1000023 rfl (KC 1000038 rfl (KC 1000308 rfl (KC 1000309 rfl (KC 1900000 rfl (KC 1900001 rfl (KC 1900002 rfl (KC 1900003 rfl KN)))))))))))))))))))))
 intro m hm'
 refine QS (GV rfl ?_);refine A.cond rfl (fun hc85 => ?_) (fun hc85 => ?_)
 ·have hm : m < hg (mN k) := by simp at hc85; omega
  refine QK (QSB (GT (RV 4 rfl ?_)));refine RS (ok_call (rIndex_fn i m (by omega) (by omega)) (A2 rfl rfl)) ?_;refine RS (ok_callMK (rEmpty_n (mN k) (mN1 k) (mN4 k) (mR k q) (mR_len k q) (mP_fit q _) ⟨g8, 0, none⟩ q8 m (i / 4 ^ (m + 1)) (by omega)) (SubK.cons (k := 1000308) (by decide) rfl Le.blkR SubK.nil) (A3 rfl rfl rfl)) ?_;refine RN ?_;refine A.cond rfl (fun hc93 => ?_) (fun hc93 => ?_)
  ·skip
   refine GTE (RV 3 rfl ?_);refine RZ (nI (hg (mN k) - m)) (wrap_eq (by omega) (by omega)) ?_;refine RVN 1 rfl ?_;refine End.normal_block (EN (GTE (RV 2 rfl ?_)));refine RZ (nI (m + 1)) (wrap_eq (by omega) (by omega)) ?_;refine RVN 1 rfl ?_;refine End.normal_then ?_;refine End.again (m + 1) ?_ ?_ ?_
   ·show _ ≤ _; omega
   ·show _ - _ < _ - _; omega
   ·exact (KC 5 rfl (KC 7 rfl (KC 8 rfl (KC 9 rfl (KC 10 rfl (KC 11 rfl (KC 12 rfl (KC 16 rfl (KE 17 rfl (by first | (rw [show mk (fun j => emF (mN k) (recAt (mR k q)) j (i / 4 ^ (j + 1))) (hg (mN k)) (m + 1) = hg (mN k) - m from if_pos hc93]; done) | (rw [show mk (fun j => emF (mN k) (recAt (mR k q)) j (i / 4 ^ (j + 1))) (hg (mN k)) (m + 1) = mk (fun j => emF (mN k) (recAt (mR k q)) j (i / 4 ^ (j + 1))) (hg (mN k)) m from if_neg (by simp [hc93])]; done)) (KC 18 rfl (KC 1000005 rfl (KC 1000007 rfl (KC 1000012 rfl (KC 1000023 rfl (KC 1000038 rfl (KC 1000308 rfl (KC 1000309 rfl (KC 1900000 rfl (KC 1900001 rfl (KC 1900002 rfl (KC 1900003 rfl KN)))))))))))))))))))))
  ·skip
   refine A.skip (End.normal_block (EN (GTE (RV 2 rfl ?_))));refine RZ (nI (m + 1)) (wrap_eq (by omega) (by omega)) ?_;refine RVN 1 rfl ?_;refine End.normal_then ?_;refine End.again (m + 1) ?_ ?_ ?_
   ·show _ ≤ _; omega
   ·show _ - _ < _ - _; omega
   ·exact (KC 5 rfl (KC 7 rfl (KC 8 rfl (KC 9 rfl (KC 10 rfl (KC 11 rfl (KC 12 rfl (KC 16 rfl (KE 17 rfl (by first | (rw [show mk (fun j => emF (mN k) (recAt (mR k q)) j (i / 4 ^ (j + 1))) (hg (mN k)) (m + 1) = hg (mN k) - m from if_pos hc93]; done) | (rw [show mk (fun j => emF (mN k) (recAt (mR k q)) j (i / 4 ^ (j + 1))) (hg (mN k)) (m + 1) = mk (fun j => emF (mN k) (recAt (mR k q)) j (i / 4 ^ (j + 1))) (hg (mN k)) m from if_neg (by simp [hc93])]; done)) (KC 18 rfl (KC 1000005 rfl (KC 1000007 rfl (KC 1000012 rfl (KC 1000023 rfl (KC 1000038 rfl (KC 1000308 rfl (KC 1000309 rfl (KC 1900000 rfl (KC 1900001 rfl (KC 1900002 rfl (KC 1900003 rfl KN)))))))))))))))))))))
 ·have hm2 : m = hg (mN k) := by simp at hc85; omega
  refine A.exit (End.exit_then (End.exit_then (End.exit_here (EN (QS (GT (RS (ok_field field69_1 (by decide) rfl) ?_)))))));refine RLV 1000012 U30 rfl rfl rfl ?_;refine RS (ok_lenV U30 rfl) ?_;refine RV 2 rfl ?_;refine RZ (.bool false) (congrArg Value.bool (bne_eq_false_iff_eq.2 (by rw [pvP_len, hm2, hmk]))) ?_;refine RN (A.no rfl ?_);refine QK (QS (GV rfl (A.block ?_)));refine A.loop (ι := Nat) (fun m => m ≤ mny (mN k) (mT k q S) i) (fun m => [(5, .v (ptr b5)), (7, .v (ptr b7)), (8, .v (.slice (some ⟨g8, 0, none⟩) (mN k) q8)), (9, .v (.slice (some ⟨sd, 0, none⟩) (tot (mN k) (hg (mN k) + 1)) sdq)), (10, .v (nI (mN k))), (11, .v (nI (i))), (12, .v (ptr b12)), (16, .v (nI (hg (mN k)))), (17, .v (nI (mny (mN k) (mT k q S) i))), (19, .v (nI (m))), (1000005, blk b5 67 [.int .i64 l, .int .i64 j]), (1000007, blk b7 32 [nI (mN k), .slice (some ⟨g23, 0, none⟩) (tot (mN k) (hg (mN k) + 1)) q23]), (1000012, blk b12 69 [nI i, .slice (some ⟨g38, 0, none⟩) (pvP k q S i).length (pvP k q S i).length]), (1000023, blk g23 57 (nodsV (mT k q S) ++ y23)), (1000038, blk g38 57 (nodsV (pvP k q S i) ++ y38)), (1000308, blk g8 51 (recsV (mR k q) ++ y8)), (1000309, blk sd 3 (slotV (mS k S) ++ ysd)), (1900000, tabH 0 ([errT])), (1900001, tab 1 (sizV)), (1900002, tab 2 (H8.list.map u32V)), (1900003, tab 3 (K64.map u32V))]) (fun m => mny (mN k) (mT k q S) i - m) 0 ?_ ?_ ?_
  ·exact Nat.zero_le _
  ·exact (KC 5 rfl (KC 7 rfl (KC 8 rfl (KC 9 rfl (KC 10 rfl (KC 11 rfl (KC 12 rfl (KC 16 rfl (KE 17 rfl (by rw [hm2, hmk]) (KE 19 rfl (by rfl) (KC 1000005 rfl (KC 1000007 rfl (KC 1000012 rfl (KC 1000023 rfl (KC 1000038 rfl (KC 1000308 rfl (KC 1000309 rfl (KC 1900000 rfl (KC 1900001 rfl (KC 1900002 rfl (KC 1900003 rfl KN)))))))))))))))))))))
  intro m hm'
  refine QS (GV rfl ?_);refine A.cond rfl (fun hc104 => ?_) (fun hc104 => ?_)
  ·have hm : m < mny (mN k) (mT k q S) i := by simp at hc104; omega
   refine QK (QSB (GTD (RS (ok_field field69_1 (by decide) rfl) ?_)));refine RLV 1000012 U30 rfl rfl rfl ?_;refine RM rfl ?_;refine RS (ok_indexS m U30 infoN rfl rfl rfl (by rw [pvP_len]; omega)) ?_;refine RS (ok_loadP (s := 1000038) (by decide) U57 rfl size57 rfl rfl (by rw [List.length_append, nods_len (pvP_fit k q S i), pvP_len]; omega) (nods_blk (pvP_fit k q S i) (by rw [pvP_len]; omega) _)) ?_; refine RZ (aggV (nodR (mR k q) (mS k S) (hg (mN k) - m) (pidx (mN k) i m)).v) (by rw [pv_at k q S hi (by omega)]) ?_;refine RV 5 rfl ?_;refine RZ (nI (hg (mN k) - m)) (wrap_eq (by omega) (by omega)) ?_;refine RV 4 rfl ?_;refine RZ (nI (hg (mN k) - m)) (wrap_eq (by omega) (by omega)) ?_;refine RS (ok_call (rIndex_fn i (hg (mN k) - m) (by omega) (by omega)) (A2 rfl rfl)) ?_; refine RZ (nI (pidx (mN k) i m)) (by rfl) ?_;refine RS (ok_callMK (rNode_n (mN k) (tot (mN k) (hg (mN k) + 1)) (mN1 k) (mN4 k) (mR k q) (mR_len k q) (mP_fit q _) ⟨g8, 0, none⟩ q8 (mS k S) (mS_len k S) (mSP_ok S _) (Nat.le_refl _) ⟨sd, 0, none⟩ sdq (hg (mN k) - m) (pidx (mN k) i m) (Nat.sub_le _ _) (pidx_lt hi m)) (SubK.cons (k := 1000308) (by decide) rfl Le.blkR (SubK.cons (k := 1000309) (by decide) rfl Le.blkR SubK.nil)) (Args.cons rfl (Le.refl _) (A3 rfl rfl rfl))) ?_;refine RS (ok_neqT (n := 6) true flat57 (by decide) (by kernel_rfl) (by kernel_rfl) rfl rfl ((pv_at k q S hi (by omega : m < mny (mN k) (mT k q S) i)) ▸ ((pvP_fit k q S i).at m)).kin ((pv_at k q S hi (by omega : m < mny (mN k) (mT k q S) i)) ▸ ((pvP_fit k q S i).at m)).kin (iff_of_true rfl rfl)) ?_; refine RZ (.bool false) (by rfl) ?_;refine RN (A.no rfl ?_);refine A.skip (End.normal_block (EN (GTE (RV 2 rfl ?_))));refine RZ (nI (m + 1)) (wrap_eq (by omega) (by omega)) ?_;refine RVN 1 rfl ?_;refine End.normal_then ?_;refine End.again (m + 1) ?_ ?_ ?_
   ·show _ ≤ _; omega
   ·show _ - _ < _ - _; omega
   ·exact (Sv [5, 7, 8, 9, 10, 11, 12, 16, 17, 19, 1000005, 1000007, 1000012, 1000023, 1000038, 1000308, 1000309, 1900000, 1900001, 1900002, 1900003] rfl)
  ·skip
   refine A.exit (End.exit_then (End.exit_then (End.exit_here (EN (GT (RL 1000007 U32 rfl rfl (size32.of (rfl)) ?_)))))); refine RZ (aggV [nI (mN k), .slice (some ⟨g23, 0, none⟩) (mT k q S).length q23]) (by rw [hTl]) ?_;refine RM rfl ?_;refine RS (ok_callMK (Prove_no (mN k) ⟨g23, 0, none⟩ (mT k q S) (mT_fit k q S) q23 (mT_tree k q S) (mN k : Int) (by omega)) (SubK.app (SubK.of (Sub.cons rfl (Sub.cons rfl (Sub.cons rfl (Sub.cons rfl KN)))) tabE_v) (SubK.cons (k := 1000023) (by decide) rfl Le.blkR SubK.nil)) (A2 rfl rfl)) ?_;refine RVN 4 rfl ?_;refine GT (RL 1000007 U32 rfl rfl (size32.of (rfl)) ?_); refine RZ (aggV [nI (mN k), .slice (some ⟨g23, 0, none⟩) (mT k q S).length q23]) (by rw [hTl]) ?_;refine RS (ok_callMK (Prove_no (mN k) ⟨g23, 0, none⟩ (mT k q S) (mT_fit k q S) q23 (mT_tree k q S) (-1) (by omega)) (SubK.app (SubK.of (Sub.cons rfl (Sub.cons rfl (Sub.cons rfl (Sub.cons rfl KN)))) tabE_v) (SubK.cons (k := 1000023) (by decide) rfl Le.blkR SubK.nil)) (A2 rfl rfl)) ?_;refine RVN 4 rfl ?_;refine GS (TN 6 (RL 1000007 U32 rfl rfl (size32.of (rfl)) ?_)); refine RZ (aggV [nI (mN k), .slice (some ⟨g23, 0, none⟩) (mT k q S).length q23]) (by rw [hTl]) ?_;refine RL 1000005 U67 rfl rfl (size67.of rfl) ?_;refine RS (ok_callMK (At_any (mN k) ⟨g23, 0, none⟩ (mT k q S) (mT_fit k q S) q23 (mT_tree k q S) l j) (SubK.app (SubK.of (Sub.cons rfl (Sub.cons rfl (Sub.cons rfl (Sub.cons rfl KN)))) tabE_v) (SubK.cons (k := 1000023) (by decide) rfl Le.blkR SubK.nil)) (A2 rfl rfl)) ?_;refine RVN 3 rfl ?_;refine ZN 1000020 zero57 fun b20 ⟨hBb20, hb20⟩ => ?_
   have hlt_g23_b20 := hb20 1000023 g23 _ _ rfl
   have hlt_g38_b20 := hb20 1000038 g38 _ _ rfl
   refine TF 7 (RN ?_);refine ⟨_, eff_storeA (n := 179) (s := 1000020) (size57.of ((atN_fit (mT_fit k q S) _ _).len)) rfl rfl (NodT.one _) hBb20 rfl (by rw [(atN_fit (mT_fit k q S) _ _).len]; rfl) (LT 1000005 rfl (LT 1000007 rfl (LT 1000012 rfl (LB 1000023 rfl (LB 1000038 rfl (LT 1000308 rfl (LT 1000309 rfl (LeftS.cons (t := 1900000) rfl (Surv.tabH (by omega)) (LQ 1900001 rfl (LQ 1900002 rfl (LQ 1900003 rfl (LW [5, 8, 9, 10, 13, 15, 20, 140] rfl)))))))))))), ?_⟩
   refine TL (RVN 1 rfl ?_);refine A.sub (Sv [5, 8, 9, 10, 13, 15, 20, 21, 1000005, 1000007, 1000012, 1000020, 1000023, 1000038, 1000308, 1000309, 1900000, 1900001, 1900002, 1900003] rfl) ?_;refine QS (GT (RV 2 rfl ?_));refine RZ (.bool false) (by rfl) ?_;refine RV 3 rfl ?_;refine RZ (.bool false) (by rfl) ?_;refine RP rfl rfl ?_;refine RZ (.bool false) (by rfl) ?_;refine RN (A.no rfl ?_);refine QK (QS (GT (RM rfl ?_)));refine RS (ok_field field67_0 (by decide) rfl) ?_;refine RLV 1000005 U3 rfl rfl rfl ?_;refine RS (ok_field field67_1 (by decide) rfl) ?_;refine RLV 1000005 U3 rfl rfl rfl ?_;refine RS (ok_call (rIs_any (mN k) (mN1 k) (mN4 k) l j) (A3 rfl rfl rfl)) ?_;refine RN ?_;refine A.cond rfl (fun hc152 => ?_) (fun hc152 => ?_)
   ·have hp : IsP (mN k) l j := of_decide_eq_true hc152
    obtain ⟨lv, jv, rfl, rfl, hpl, hpj⟩ := isP_ex hp
    have hnf : (nodR (mR k q) (mS k S) lv jv).Fit := by rw [← mT_at k q S hpl hpj]; exact (mT_fit k q S).at _
    refine GTD (RV 2 rfl ?_);refine RZ (.bool true) (congrArg Value.bool (by rw [show atE (mN k) _ _ = 0 from if_pos hp]; rfl)) ?_;refine RM rfl ?_;refine RQ (ok_loadA (s := 1000020) (by decide) U57 rfl (size57.of ((atN_fit (mT_fit k q S) _ _).len)) rfl rfl) ?_; refine RZ (aggV (nodR (mR k q) (mS k S) lv jv).v) (by rw [show atN (mN k) (mT k q S) (lv : Int) (jv : Int) = _ from if_pos hp, Int.toNat_natCast, Int.toNat_natCast, mT_at k q S hpl hpj]) ?_;refine RV 2 rfl ?_;refine RQ (ok_field field67_0 (by decide) rfl) ?_;refine RQ (ok_loadV (s := 1000005) (by decide) U3 rfl rfl rfl (rfl)) ?_;refine RQ (ok_field field67_1 (by decide) rfl) ?_;refine RQ (ok_loadV (s := 1000005) (by decide) U3 rfl rfl rfl (rfl)) ?_;refine RQ (ok_callMK (rNode_n (mN k) (tot (mN k) (hg (mN k) + 1)) (mN1 k) (mN4 k) (mR k q) (mR_len k q) (mP_fit q _) ⟨g8, 0, none⟩ q8 (mS k S) (mS_len k S) (mSP_ok S _) (Nat.le_refl _) ⟨sd, 0, none⟩ sdq lv jv hpl hpj) (SubK.cons (k := 1000308) (by decide) rfl Le.blkR (SubK.cons (k := 1000309) (by decide) rfl Le.blkR SubK.nil)) (Args.cons rfl (Le.refl _) (A3 rfl rfl rfl))) ?_;refine RQ (ok_eqlT (n := 6) true flat57 (by decide) (by kernel_rfl) (by kernel_rfl) rfl rfl hnf.kin hnf.kin (iff_of_true rfl rfl)) ?_; refine RZ (.bool true) (by rfl) ?_;refine RP rfl rfl ?_;refine RZ (.bool true) (by rfl) ?_;refine RM rfl ?_;refine RQ (ok_callMK lives16_fn (SubK.of (Sub.cons rfl (Sub.cons rfl (Sub.cons rfl (Sub.cons rfl KN)))) tabE_v) Args.nil) ?_;refine RP rfl rfl ?_;refine RZ (.bool true) (by rfl) ?_;refine RVN 1 rfl ?_;refine A.sub (Sv [6, 1000005, 1000007, 1000012, 1000020, 1000023, 1000038, 1000308, 1000309, 1900000, 1900001, 1900002, 1900003] rfl) ?_;refine A.ret (End.ret_then ?_);exact End.ret1 rfl rfl (Le.refl _)
   ·have hp : ¬ IsP (mN k) l j := of_decide_eq_false hc152
    refine QK (GT (RV 2 rfl ?_));refine RZ (.bool true) (congrArg Value.bool (by rw [show atE (mN k) _ _ = 1 from if_neg hp]; rfl)) ?_;refine RM rfl ?_;refine RQ (ok_loadA (s := 1000020) (by decide) U57 rfl (size57.of ((atN_fit (mT_fit k q S) _ _).len)) rfl rfl) ?_; refine RZ (aggV (NodT.emp 0 0).v) (by rw [show atN (mN k) (mT k q S) l j = _ from if_neg hp]) ?_;refine RQ (ok_lit [] (NodT.v (NodT.emp 0 0)) (fun _ _ => rfl) (by kernel_rfl)) ?_;refine RQ (ok_eqlT (n := 6) true flat57 (by decide) (by kernel_rfl) (by kernel_rfl) rfl rfl (NodT.emp_fit 0 (j := 0) (by decide)).kin (NodT.emp_fit 0 (j := 0) (by decide)).kin (iff_of_true rfl rfl)) ?_; refine RZ (.bool true) (by rfl) ?_;refine RP rfl rfl ?_;refine RZ (.bool true) (by rfl) ?_;refine RM rfl ?_;refine RQ (ok_callMK lives16_fn (SubK.of (Sub.cons rfl (Sub.cons rfl (Sub.cons rfl (Sub.cons rfl KN)))) tabE_v) Args.nil) ?_;refine RP rfl rfl ?_;refine RZ (.bool true) (by rfl) ?_;refine RVN 1 rfl ?_;refine A.ret ?_;exact End.ret1 rfl rfl (Le.refl _)
end
section
open Go Go.RowKit Go.ChangeShapes Go.WideShapes
end
section
open Go Go.RowKit Go.ChangeShapes Go.WideShapes
set_option linter.unusedVariables false
set_option linter.unusedSimpArgs false
section
variable {H : Type} {enc : TypeId × Value → H} {P : Program} {w : World} {base : Nat} {held : Bool}
theorem flat_at {α : Type} {f : α → List Value} {sz : Nat} (hl : ∀ x, (f x).length = sz) : ∀ {l : List α} {i k : Nat}, (hi : i < l.length) → k < sz → (l.flatMap f)[i * sz + k]? = (f l[i])[k]?
 | x :: l, 0, k, _, hk => by
  simp only [List.flatMap_cons, List.getElem_cons_zero, Nat.zero_mul, Nat.zero_add]
  rw [List.getElem?_append_left (by rw [hl]; exact hk)]
 | x :: l, i + 1, k, hi, hk => by
  have ih := flat_at (f := f) hl (l := l) (i := i) (k := k) (by simpa using hi) hk
  simp only [List.flatMap_cons, List.getElem_cons_succ]
  rw [List.getElem?_append_right (by rw [hl, Nat.add_mul]; omega), hl, show (i + 1) * sz + k - sz = i * sz + k by rw [Nat.add_mul]; omega, ih]
theorem trod_rows {α : Type} {f : α → List Value} {R : α → Prop} {sz n : Nat} {ks : List IntKind} (x₀ : α) (hl : ∀ x, R x → (f x).length = sz) (h0 : (f x₀).length = sz) (hopen : ∀ ys, Kin (fun k m => (Lit.int k m).wf = true) ks ys → ∃ x, R x ∧ ys = f x)
  {t e : TypeId} {fuel : Nat} {cs : List Value} {y : DataW H × List MemPlace} (ht : P.underlying t = some (.slice e)) (hf : flat P n e = some ks) (hc : P.cellsOf e = sz) (hsz : 0 < sz) (h : DataW.trod enc P w base (fun _ => true) held fuel t cs = some y) :
  ∃ (v : Value) (l : List α), cs = [v] ∧ (∀ x ∈ l, R x) ∧ (rowD l.length (l.flatMap f)).Of w v ∧ (∃ A m c, v = .slice A m c) := by
 rcases DataW.trod_slice ht h with ⟨rfl, _⟩ | ⟨a, len, cap, elems, rest, m, _, rfl, _, hba, hlc, hm, hlen, hel, _, _⟩
 ·exact ⟨_, [], rfl, (fun x hx => by cases hx), rowD_nil.of (w := w) (x := .slice none 0 0) rfl, _, _, _, rfl⟩
 ·have each : ∀ i, ∃ x : α, (f x).length = sz ∧ (i < len → R x ∧ ∀ k, k < sz → w.cell? (a.add (i * sz + k)) = (f x)[k]?) := fun i => by
   by_cases hi : i < len
   ·have h1 := hel i hi
    rw [List.getElem?_eq_getElem (by omega), hc, Option.bind_eq_some_iff] at h1
    obtain ⟨cs', h2, h3⟩ := h1
    obtain ⟨x, hx, rfl⟩ := hopen _ (trod_flat n hf h3)
    obtain ⟨_, _, h4⟩ := World.cells?_some h2
    exact ⟨x, hl x hx, fun _ => ⟨hx, fun k hk => by rw [← add_of_add]; exact h4 k hk⟩⟩
   ·exact ⟨x₀, h0, fun h => absurd h hi⟩
  obtain ⟨g, hg⟩ := Classical.axiomOfChoice each
  have hgl : ∀ i, (f (g i)).length = sz := fun i => (hg i).1
  refine ⟨_, (List.range len).map g, rfl, fun x hx => ?_, ?_, _, _, _, rfl⟩
  ·obtain ⟨i, hi, rfl⟩ := List.mem_map.1 hx
   exact ((hg i).2 (List.mem_range.1 hi)).1
  ·refine ⟨some a, cap, by simp, fun j u hu => ⟨a, rfl, ?_, ?_⟩⟩
   all_goals
    have hfm : ((List.range len).map g).flatMap f = (List.range len).flatMap fun i => f (g i) := by rw [List.flatMap_map]
    have hj : j < len * sz := by
     have h5 := (List.getElem?_eq_some_iff.1 hu).1
     rw [hfm, List.length_flatMap] at h5
     have h6 : ((List.range len).map fun i => (f (g i)).length).sum = len * sz := by
      rw [show ((List.range len).map fun i => (f (g i)).length) = List.replicate len sz from by rw [List.eq_replicate_iff]; exact ⟨by simp, fun b hb => by obtain ⟨i, _, rfl⟩ := List.mem_map.1 hb; exact hgl i⟩]
      simp
     omega
    have hi : j / sz < len := by rw [Nat.div_lt_iff_lt_mul hsz]; exact hj
    have hk : j % sz < sz := Nat.mod_lt _ hsz
    have hjj : j / sz * sz + j % sz = j := Nat.div_add_mod' j sz
    have hcell := ((hg (j / sz)).2 hi).2 (j % sz) hk
    have h7 := flat_at (f := fun i => f (g i)) hgl (l := List.range len) (i := j / sz) (k := j % sz) (by simpa using hi) hk
    rw [hjj, List.getElem_range] at h7
    rw [hfm] at hu
    rw [hjj, ← h7, hu] at hcell
   ·have := block_of_cell hcell
    rwa [block_of_add] at this
   ·exact hcell
end
end
section
open Go Go.RowKit Go.ChangeShapes Go.WideShapes
end
section
open Go Go.RowKit Go.ChangeShapes Go.WideShapes
end
section
open Go Go.RowKit Go.ChangeShapes Go.WideShapes
set_option linter.unusedVariables false
set_option linter.unusedSimpArgs false
section
variable {H : Type} {enc : TypeId × Value → H} {P : Program} {w : World} {base : Nat} {held : Bool}
theorem arg_M {t e e' : TypeId} {f0 f1 f2 : Field} {v : Value} {d : DataW H} {ps : List MemPlace} (ht : P.underlying t = some (.struct #[f0, f1, f2])) (o0 : f0.offset = 0) (o1 : f1.offset = 1) (o2 : f2.offset = 2) (t0 : flat P 3 f0.type = some [.u8]) (t1 : P.underlying f1.type = some (.slice e)) (t2 : P.underlying f2.type = some (.slice e'))
  (c0 : P.cellsOf f0.type = 1) (c1 : P.cellsOf f1.type = 1) (c2 : P.cellsOf f2.type = 1) (hC : P.cellsOf t = 3) (hf : flat P 3 e = some [.u8, .u8]) (hc : P.cellsOf e = 2) (hf2 : flat P 3 e' = some [.u8]) (hc2 : P.cellsOf e' = 1) {r : Reach} {b0 : Nat} (hk : Value.okWide P w r b0 t v) (h : DataW.Trod enc P w base (fun _ => true) held t v d ps) :
  ∃ (k : UInt8) (q : List P2) (S : List UInt8), (mD k q S).Of w v := by
 obtain ⟨cs, rfl, hcs⟩ := okWide_struct ht hk
 obtain ⟨fuel, hf'⟩ := h
 obtain ⟨xs, m, _, _, hlen, hxl, hel⟩ := DataW.trod_struct ht hf'
 have hlen' : cs.toList.length = 3 := by rw [← hC]; exact hlen
 have hxl' : xs.length = 3 := by simpa using hxl
 have e0 := hel 0 f0 rfl
 have e1 := hel 1 f1 rfl
 have e2 := hel 2 f2 rfl
 rw [List.getElem?_eq_getElem (by omega)] at e0 e1 e2
 rw [o0, c0] at e0
 rw [o1, c1] at e1
 rw [o2, c2] at e2
 have k0 := trod_flat 3 t0 e0
 obtain ⟨a, h3, h4⟩ := k0.one
 obtain ⟨u, l, h1, _, ⟨A, q, hv, hrow⟩, _⟩ := trod_rows (f := p2V) (R := fun _ => True) ((0, 0) : P2) (fun _ _ => rfl) rfl (fun ys hy => by
  obtain ⟨a, y, rfl, h1, h2⟩ := hy.cons
  obtain ⟨b, rfl, h3⟩ := h2.one
  exact ⟨⟨UInt8.ofNat a.toNat, UInt8.ofNat b.toNat⟩, trivial, by rw [wf_u8 h1, wf_u8 h3]; rfl⟩) t1 hf hc (by decide) e1
 obtain ⟨u2, l2, k1, _, ⟨A2, q2, kv, krow⟩, _⟩ := trod_rows (f := fun x : UInt8 => [byteV x]) (R := fun _ => True) (0 : UInt8) (fun _ _ => rfl) rfl (fun ys hy => by
  obtain ⟨b, rfl, h3⟩ := hy.one
  exact ⟨UInt8.ofNat b.toNat, trivial, by rw [wf_u8 h3]⟩) t2 hf2 hc2 (by decide) e2
 have hm' : ∀ l : List UInt8, (l.flatMap fun x : UInt8 => [byteV x]) = l.map byteV := fun l => by
  induction l with
  | nil => rfl
  | cons a l ih => rw [List.flatMap_cons, ih]; rfl
 have hm := hm' l2
 rw [hm] at krow
 refine ⟨UInt8.ofNat a.toNat, l, l2, A, q, A2, q2, ?_, hrow, krow⟩
 have h3' : (cs.toList.drop 0).take 1 = [.int .u8 a] := h3
 have h1' : (cs.toList.drop 1).take 1 = [u] := h1
 have k1' : (cs.toList.drop 2).take 1 = [u2] := k1
 unfold aggV
 show Value.agg cs = _
 congr 1
 apply Array.ext'
 show cs.toList = _
 match hcl : cs.toList, hlen' with
 | [x, y, z], _ =>
  rw [hcl] at h3' h1' k1'
  simp at h3' h1' k1'
  rw [h3', h1', k1', hv, kv, wf_u8 h4]
theorem arg_pl {t : TypeId} {v : Value} {d : DataW H} {ps : List MemPlace} (hf : flat P 3 t = some [.i64, .i64]) (hg : isAggT P t = true) {r : Reach} {b0 : Nat} (hk : Value.okWide P w r b0 t v)
  (h : DataW.Trod enc P w base (fun _ => true) held t v d ps) : ∃ a b : Int, v = aggV [.int .i64 a, .int .i64 b] := by
 obtain ⟨xs, rfl, hx⟩ := arg_flat 3 hf hg hk h
 obtain ⟨a, y, rfl, _, h2⟩ := hx.cons
 obtain ⟨b, rfl, _⟩ := h2.one
 exact ⟨a, b, rfl⟩
end
end
end Go.Proofs.YtmkpekmhhbcifaaGreatDoor
