/-
  OWN TEXTS of this seat, put together, part 6: C11d, MapG, MapE, MapR, Grp, C11s, C11e, C11T, LedL, C11u, C11w, Law3, Law4, Vars.
-/
import Derived.Test.YtffiflfjlemggaaGreatDoorM2
import Derived.Test.YtffiflfjlemggaaGreatDoorM5
import Derived.Maps.RangeRun
import Derived.Maps.AppendAt
import Derived.Deep.QuietTactic
import Derived.BigQuiet
import Derived.Test.YtffiflfjlemggaaGreatDoorM4
import Derived.Test.YtffiflfjlemggaaGreatDoorM1
namespace Go.Proofs.YtffiflfjlemggaaGreatDoor
open Go Go.RowKit
set_option linter.unusedVariables false
set_option maxRecDepth 20000
def MC34 (us : List Us) (A₀ : Option Addr) (q₀ bl bj j B₀ lo : Nat) (A₂ : Option Addr) (vs : List Value) (Ls : List (List Nat)) : Env := [(1900000, blk bl 95 [.slice A₀ us.length q₀]), (1900001, blk bj 3 [.int .i64 (j : Int)]), (1900002, old B₀ (memR A₀ (usR us))), (1900003, listsM lo 153 3 A₂ vs Ls)]
def MC32 (us : List Us) (A₀ : Option Addr) (q₀ bl bL B₀ lo : Nat) (A₂ : Option Addr) (q₂ : Nat) (vs : List Value) (Ls : List (List Nat)) : Env := [(1900000, blk bL 149 [.slice A₂ vs.length q₂]), (1900001, blk bl 95 [.slice A₀ us.length q₀]), (1900002, old B₀ (memR A₀ (usR us))), (1900003, listsM lo 153 3 A₂ vs Ls)]
def MC37 (us : List Us) (A₀ : Option Addr) (q₀ bl bj j B₀ : Nat) : Env := [(1900000, blk bl 95 [.slice A₀ us.length q₀]), (1900001, blk bj 3 [.int .i64 (j : Int)]), (1900002, old B₀ (memR A₀ (usR us)))]
theorem zero149 : ZeroIs Tryz.prog 149 [.slice none 0 0] := by unfold ZeroIs; kernel_rfl
theorem body32 : HasBody Tryz.prog 92 := ⟨_, Tryz.func92, by kernel_rfl, rfl⟩
theorem body34 : HasBody Tryz.prog 94 := ⟨_, Tryz.func94, by kernel_rfl, rfl⟩
theorem body37 : HasBody Tryz.prog 97 := ⟨_, Tryz.func97, by kernel_rfl, rfl⟩
theorem ints_open {n j : Nat} {v : Value} (h : (ints n)[j]? = some v) : j < n ∧ v = .int .i64 (j : Int) := by
 unfold ints at h
 rw [List.getElem?_map] at h
 rcases Nat.lt_or_ge j n with hj | hj
 ·rw [List.getElem?_range hj] at h; exact ⟨hj, by simpa using h.symm⟩
 ·rw [List.getElem?_eq_none (by simpa using hj)] at h; cases h
theorem rep34_fn (us : List Us) (hf : Fits us) (hn : us.length ≤ 1099511627776) (A₀ : Option Addr) (q₀ bl bj j B₀ lo : Nat) (A₂ : Option Addr) (vs : List Value) (Ls : List (List Nat)) (k : Nat) (v : Value) (L : List Nat) (hv : vs[k]? = some v) (hL : Ls[k]? = some L) (hLt : ∀ y ∈ L, y < us.length) (hLn : L.length ≤ 1099511627776) : FnM Tryz.prog 94 (MC34 us A₀ q₀ bl bj j B₀ lo A₂ vs Ls) [.v v, .v (.pointer (some ⟨bl, 0, none⟩)), .v (.pointer (some ⟨bj, 0, none⟩))] (.v (.bool (repG us j none L))) := by
 refine FnM.of Tryz.func94 rfl (by kernel_rfl) Tryz.ntmps94 (by simp) (by decide) (fun w => [(0, .v v), (1, .v (.pointer (some ⟨bl, 0, none⟩))), (2, .v (.pointer (some ⟨bj, 0, none⟩))), (1900000, blk bl 95 [.slice A₀ us.length q₀]), (1900001, blk bj 3 [.int .i64 (j : Int)]), (1900002, old B₀ (memR A₀ (usR us))), (1900003, listsM lo 153 3 A₂ vs Ls)]) (fun w => (StartM.v rfl (StartM.v rfl (StartM.v rfl (StartM.m (by simp [MC34]) (by decide) (StartM.m (by simp [MC34]) (by decide) (StartM.m (by simp [MC34]) (by decide) (StartM.m (by simp [MC34]) (by decide) StartM.nil)))))))) fun w₀ hM => ?_
 skip
 refine A.openList (t := 0) (k := 1900003) (k' := 1000201) rfl rfl hv hL fun A₁ q₁ => ?_
 refine GV rfl ?_
 refine GT ?_
 refine RS (ok_field field95_0 (by decide) rfl) ?_
 refine RS (OpOk.rowO (ok_loadV (s := 1900000) (by decide) Tryz.underlying93 rfl rfl rfl (rfl)) (k := 1900002) (by decide) rfl) ?_
 refine RS (OpOk.rowM (ok_move rfl) (k := 1000201) (by decide) rfl) ?_
 refine RLV 1900001 Tryz.underlying3 rfl rfl rfl ?_
 refine RS (ok_call (repeated_fn us hf hn L hLt hLn j) (Args.cons rfl (Le.old _ _) (A2 rfl rfl))) ?_
 refine RVN 1 rfl ?_
 refine A.ret ?_
 exact ER rfl rfl
theorem rep32_pred {us : List Us} (hf : Fits us) (hn : us.length ≤ 1099511627776) (A₀ : Option Addr) (q₀ bl bj j B₀ lo : Nat) (A₂ : Option Addr) (vs : List Value) (Ls : List (List Nat)) (hvl : vs.length = Ls.length) (hLs : Lists us Ls) (k : Nat) (v : Value) (hv : vs[k]? = some v) :
  FnM Tryz.prog 94 (MC34 us A₀ q₀ bl bj j B₀ lo A₂ vs Ls) (.v v :: [Value.pointer (some ⟨bl, 0, none⟩), Value.pointer (some ⟨bj, 0, none⟩)].map D.v) (.v (.bool (repG us j none Ls[k]!))) := by
 have hk : k < Ls.length := by rw [← hvl]; exact (List.getElem?_eq_some_iff.1 hv).1
 have hL : Ls[k]? = some Ls[k] := List.getElem?_eq_getElem hk
 have hm : Ls[k] ∈ Ls := List.getElem_mem hk
 rw [getElem!_pos Ls k hk]
 exact rep34_fn us hf hn A₀ q₀ bl bj j B₀ lo A₂ vs Ls k v _ hv hL (hLs.lt _ hm) (by
  have := (hLs.nodup _ hm).length_le_of_subset (l₂ := List.range us.length) (fun y hy => List.mem_range.2 (hLs.lt _ hm y hy))
  simp only [List.length_range] at this; omega)
theorem rep32_fn (us : List Us) (hf : Fits us) (hn : us.length ≤ 1099511627776) (hok : ∀ u ∈ us, u.ok = true) (A₀ : Option Addr) (q₀ bl bL B₀ lo : Nat) (A₂ : Option Addr) (q₂ : Nat) (vs : List Value) (Ls : List (List Nat)) (hvl : vs.length = Ls.length) (hvn : vs.length ≤ us.length) (hLs : Lists us Ls) (j : Nat) (hj : j < us.length) : FnM Tryz.prog 92 (MC32 us A₀ q₀ bl bL B₀ lo A₂ q₂ vs Ls) [.v (nI j), .v (.pointer (some ⟨bL, 0, none⟩)), .v (.pointer (some ⟨bl, 0, none⟩))] (.v (.bool (cUp us j))) := by
 refine FnM.of Tryz.func92 rfl (by kernel_rfl) Tryz.ntmps92 (by simp) (by decide) (fun w => [(0, .v (nI j)), (1, .v (.pointer (some ⟨bL, 0, none⟩))), (2, .v (.pointer (some ⟨bl, 0, none⟩))), (1900000, blk bL 149 [.slice A₂ vs.length q₂]), (1900001, blk bl 95 [.slice A₀ us.length q₀]), (1900002, old B₀ (memR A₀ (usR us))), (1900003, listsM lo 153 3 A₂ vs Ls)]) (fun w => (StartM.v rfl (StartM.v rfl (StartM.v rfl (StartM.m (by simp [MC32]) (by decide) (StartM.m (by simp [MC32]) (by decide) (StartM.m (by simp [MC32]) (by decide) (StartM.m (by simp [MC32]) (by decide) StartM.nil)))))))) fun w₀ hM => ?_
 skip
 refine GS ?_
 refine TN 0 ?_
 refine RN ?_
 refine ⟨_, _, eff_box1 (n := 8) (d := 3) (k := 1000003) rfl rfl (by decide), fun b3 hb3 => ?_⟩
 have hBb3 := hb3.1
 refine TL ?_
 refine RVN 1 rfl ?_
 refine GT ?_
 refine RS (OpOk.rowL (ok_loadV (s := 1900000) (by decide) Tryz.underlying149 rfl rfl rfl (rfl)) (k := 1900003) (by decide) rfl) ?_
 refine RS (ok_makePred [.pointer (some ⟨bl, 0, none⟩), .pointer (some ⟨b3, 0, none⟩)] (p := fun k => repG us j none Ls[k]!) body34 (rep32_pred hf hn A₀ q₀ bl b3 j B₀ lo A₂ vs Ls hvl hLs) (MHas.cons 1900001 (by decide) rfl (Le.refl _) (MHas.cons 1000003 (by decide) rfl (Le.refl _) (MHas.cons 1900002 (by decide) rfl (Le.refl _) (MHas.cons 1900003 (by decide) rfl (Le.refl _) MHas.nil)))) ⟨rfl, rfl, trivial⟩) ?_
 refine RS (ok_call (Contains_fn vs (by omega) _) (A2 rfl rfl)) ?_; refine RZ (.bool (cUp us j)) (congrArg Value.bool ((lst1_any hvl (fun k _ => rfl)).trans (hLs.any hok j hj))) ?_
 refine RVN 1 rfl ?_
 refine A.ret ?_
 exact ER rfl rfl
theorem rep37_fn (us : List Us) (hf : Fits us) (hn : us.length ≤ 1099511627776) (A₀ : Option Addr) (q₀ bl bj j B₀ : Nat) (hj : j < us.length) (i : Nat) (hi : i < us.length) : FnM Tryz.prog 97 (MC37 us A₀ q₀ bl bj j B₀) [.v (aggV (usV us[i])), .v (.pointer (some ⟨bl, 0, none⟩)), .v (.pointer (some ⟨bj, 0, none⟩))] (.v (.bool (clB us[i] us[j]))) := by
 refine FnM.of Tryz.func97 rfl (by kernel_rfl) Tryz.ntmps97 (by simp) (by decide) (fun w => [(0, .v (aggV (usV us[i]))), (1, .v (.pointer (some ⟨bl, 0, none⟩))), (2, .v (.pointer (some ⟨bj, 0, none⟩))), (1900000, blk bl 95 [.slice A₀ us.length q₀]), (1900001, blk bj 3 [.int .i64 (j : Int)]), (1900002, old B₀ (memR A₀ (usR us)))]) (fun w => (StartM.v rfl (StartM.v rfl (StartM.v rfl (StartM.m (by simp [MC37]) (by decide) (StartM.m (by simp [MC37]) (by decide) (StartM.m (by simp [MC37]) (by decide) StartM.nil))))))) fun w₀ hM => ?_
 skip
 refine GS ?_
 refine TN 0 ?_
 refine RN ?_
 refine ZB 1000003 rfl fun b3 ⟨hBb3, hb3⟩ => ?_
 refine TL ?_
 refine RVN 1 rfl ?_
 refine GTD ?_
 refine RS (ok_loadA (s := 1000003) (by decide) Tryz.underlying99 rfl (size99.of (usV_length (hf.get hi))) rfl rfl) ?_
 refine RS (ok_field field95_0 (by decide) rfl) ?_
 refine RLV 1900000 Tryz.underlying93 rfl rfl rfl ?_
 refine RLV 1900001 Tryz.underlying3 rfl rfl rfl ?_
 refine RS (ok_indexR (s := 1900002) j Tryz.underlying93 infoU rfl rfl (by decide) rfl hj (usR_lt hf hj)) ?_
 refine RS (ok_loadElemP Tryz.underlying99 rfl (size99.of (by rw [usR_at hf hj, usV_length (hf.get hj)])) rfl) ?_; refine RZ (aggV (usV us[j])) (congrArg aggV (usR_at hf hj)) ?_
 refine RS (ok_call (clash_fn us[i] us[j] (hf.get hi) (hf.get hj)) (A2 rfl rfl)) ?_
 refine RVN 1 rfl ?_
 refine A.ret ?_
 exact ER rfl rfl
theorem rep_pred {us : List Us} (hf : Fits us) (hn : us.length ≤ 1099511627776) (hok : ∀ u ∈ us, u.ok = true) (A₀ : Option Addr) (q₀ bl bL B₀ lo : Nat) (A₂ : Option Addr) (q₂ : Nat) (vs : List Value) (Ls : List (List Nat)) (hvl : vs.length = Ls.length) (hvn : vs.length ≤ us.length) (hLs : Lists us Ls) (j : Nat) (v : Value) (hv : (ints us.length)[j]? = some v) :
  FnM Tryz.prog 92 (MC32 us A₀ q₀ bl bL B₀ lo A₂ q₂ vs Ls) (.v v :: [Value.pointer (some ⟨bL, 0, none⟩), Value.pointer (some ⟨bl, 0, none⟩)].map D.v) (.v (.bool (cUp us j))) := by
 obtain ⟨hj, rfl⟩ := ints_open hv
 exact rep32_fn us hf hn hok A₀ q₀ bl bL B₀ lo A₂ q₂ vs Ls hvl hvn hLs j hj
theorem rep_pred2 {us : List Us} (hf : Fits us) (hn : us.length ≤ 1099511627776) (A₀ : Option Addr) (q₀ bl bj j B₀ : Nat) (hj : j < us.length) (i : Nat) (v : Value) (hv : (us.map fun u => aggV (usV u))[i]? = some v) :
  FnM Tryz.prog 97 (MC37 us A₀ q₀ bl bj j B₀) (.v v :: [Value.pointer (some ⟨bl, 0, none⟩), Value.pointer (some ⟨bj, 0, none⟩)].map D.v) (.v (.bool (clB us[i]! us[j]!))) := by
 rw [List.getElem?_map] at hv
 have hi : i < us.length := by
  rcases Nat.lt_or_ge i us.length with h | h
  ·exact h
  ·rw [List.getElem?_eq_none h] at hv; cases hv
 rw [List.getElem?_eq_getElem hi] at hv
 simp only [Option.map_some, Option.some.injEq] at hv
 subst hv
 rw [getElem!_pos us i hi, getElem!_pos us j hj]
 exact rep37_fn us hf hn A₀ q₀ bl bj j B₀ hj i hi
set_option maxHeartbeats 1000000 in
theorem Repeats_some (us : List Us) (hf : Fits us) (hn : us.length ≤ 1099511627776) (h : chkU us = 0) (hok : ∀ u ∈ us, u.ok = true) (hJ : repJ us < us.length) (SH : FnB Tryz.prog 90 [rowD us.length (usR us)] (fun B => partsD us 153 3 B))  : Fn Tryz.prog 40 [hdD (rowD us.length (usR us)) []] (.v (.tuple #[nI (repI us), nI (repJ us), .bool true])) := by
 refine Fn.of Tryz.func40 rfl (by kernel_rfl) Tryz.ntmps40 (by simp) (fun w => [(0, old w.heap.size (hdD (rowD us.length (usR us)) []))]) (fun w => (Start.old rfl Start.nil)) fun w₀ => ?_
 refine A.nameHdR (t := 0) (k := 1000200) rfl fun A₀ q₀ => ?_
 refine GS ?_
 refine TN 0 ?_
 refine RN ?_
 refine ZB 1000001 rfl fun b1 ⟨hBb1, hb1⟩ => ?_
 refine TN 2 ?_
 refine RVN 1 rfl ?_
 refine ZN 1000003 zero3 fun b3 ⟨hBb3, hb3⟩ => ?_
 refine TL ?_
 refine RVN 1 rfl ?_
 refine QS ?_
 refine GT ?_
 refine RS (OpOk.hdRow (ok_loadA (s := 1000001) (by decide) Tryz.underlying95 rfl (size95.of (rfl)) rfl rfl) (k := 1000200) (by decide) rfl) ?_
 refine RS (ok_call (Check_fn us hf hn) (Args.cons rfl (Le.old _ _) Args.nil)) ?_
 refine RB rfl rfl rfl ?_
 refine RZ (.bool false) (by simp [h]) ?_
 refine RN ?_
 refine A.no rfl ?_
 refine QK ?_
 refine GS ?_
 refine RunTK.newG 2 (by decide) rfl (.inl rfl) ?_
 refine RS (ok_field field95_0 (by decide) rfl) ?_
 refine RS (OpOk.rowO (ok_loadV (s := 1000001) (by decide) Tryz.underlying93 rfl rfl rfl (rfl)) (k := 1000200) (by decide) rfl) ?_
 refine RN ?_
 refine ⟨_, _, _, eff_nameG (ι := List (List Nat) × List Value × Option Addr × Nat) (d := fun B => partsD us 153 3 B) (fun i => .slice i.2.2.1 i.2.1.length i.2.2.2) (fun i => Lists us i.1 ∧ i.2.1.length = i.1.length ∧ i.2.1.length ≤ us.length) (fun lo i => [(1000211, listsM lo 153 3 i.2.2.1 i.2.1 i.1)]) rfl rfl (fun B' => ok_callB SH partsD_mono (Args.cons rfl (Le.old _ _) Args.nil)) (fun lo w x h => parts_open (by decide) lo w x h) (by decide) (by decide), fun ⟨lo, Ls, vs, A₂, q₂⟩ ⟨hlo, hLs, hvl, hvn⟩ => ?_⟩
 have hlt_b1_lo := hlo.2 1000001 _ _ _ rfl
 have hlt_b3_lo := hlo.2 1000003 _ _ _ rfl
 refine TN 3 ?_
 refine RN ?_
 refine ZN 1000005 zero149 fun b5 ⟨hBb5, hb5⟩ => ?_
 refine TF 4 ?_
 refine RN ?_
 refine ⟨_, eff_storeS (n := 28) (s := 1000005) info149 rfl rfl rfl hBb5 rfl (by simp) (LT 1000001 rfl (LT 1000003 rfl (LO 1000200 rfl (LeftS.cons (t := 1000211) rfl (Surv.lists (by first | exact .inr ⟨by decide, by decide⟩ | exact .inl (by omega))) (LW [1, 3, 5] rfl))))), ?_⟩
 refine TL ?_
 refine RN ?_
 refine GS ?_
 refine TF 5 ?_
 refine RS (ok_field field95_0 (by decide) rfl) ?_
 refine RLV 1000001 Tryz.underlying93 rfl rfl rfl ?_
 refine RS (ok_lenV Tryz.underlying93 rfl) ?_
 refine RS (ok_makePred [.pointer (some ⟨b5, 0, none⟩), .pointer (some ⟨b1, 0, none⟩)] (args := ints us.length) (p := cUp us) body32 (rep_pred hf hn hok A₀ q₀ b1 b5 _ lo A₂ q₂ vs Ls hvl hvn hLs) (MHas.cons 1000005 (by decide) rfl (Le.refl _) (MHas.cons 1000001 (by decide) rfl (Le.refl _) (MHas.cons 1000200 (by decide) rfl (Le.refl _) (MHas.cons 1000211 (by decide) rfl (Le.refl _) MHas.nil)))) ⟨rfl, rfl, trivial⟩) ?_
 refine RS (ok_call (Search_fn us.length hn (cUp us) (fun _ _ h _ k => cUp_mono h k)) (A2 rfl rfl)) ?_; refine RZ (nI (repJ us)) (congrArg (fun k : Nat => Value.int .i64 (k : Int)) (lst1_cUp us)) ?_
 refine RN ?_
 refine ⟨_, eff_storeS (n := 28) (s := 1000003) info3 rfl rfl rfl hBb3 rfl (by simp) (LT 1000001 rfl (LT 1000005 rfl (LO 1000200 rfl (LeftS.cons (t := 1000211) rfl (Surv.lists (by first | exact .inr ⟨by decide, by decide⟩ | exact .inl (by omega))) (LW [1, 3] rfl))))), ?_⟩
 refine TL ?_
 refine RN ?_
 refine QS ?_
 refine GT ?_
 refine RLV 1000003 Tryz.underlying3 rfl rfl rfl ?_
 refine RS (ok_field field95_0 (by decide) rfl) ?_
 refine RLV 1000001 Tryz.underlying93 rfl rfl rfl ?_
 refine RS (ok_lenV Tryz.underlying93 rfl) ?_
 refine RB rfl rfl rfl ?_
 refine RZ (.bool false) (by simp; omega) ?_
 refine RN ?_
 refine A.no rfl ?_
 refine QK ?_
 refine GT ?_
 refine RS (ok_field field95_0 (by decide) rfl) ?_
 refine RS (OpOk.rowO (ok_loadV (s := 1000001) (by decide) Tryz.underlying93 rfl rfl rfl (rfl)) (k := 1000200) (by decide) rfl) ?_
 refine RS (ok_makePred [.pointer (some ⟨b1, 0, none⟩), .pointer (some ⟨b3, 0, none⟩)] (args := us.map fun u => aggV (usV u)) (p := fun i => clB us[i]! us[repJ us]!) body37 (rep_pred2 hf hn A₀ q₀ b1 b3 (repJ us) _ hJ) (MHas.cons 1000001 (by decide) rfl (Le.refl _) (MHas.cons 1000003 (by decide) rfl (Le.refl _) (MHas.cons 1000200 (by decide) rfl (Le.refl _) MHas.nil))) ⟨rfl, rfl, trivial⟩) ?_
 refine RS (ok_call (IndexU_fn us hf hn _) (Args.cons rfl (Le.old _ _) (A1 rfl))) ?_; refine RZ (nI (repI us)) (congrArg (Value.int .i64) (if_pos (by have := repI_lt hJ; unfold repI at this; omega))) ?_
 refine RVN 1 rfl ?_
 refine A.sub (SV [2, 3, 1000001, 1000003, 1000005, 1000200, 1000211] rfl) ?_
 refine GD ?_
 refine TD 3 ?_
 refine RM rfl ?_
 refine RLV 1000003 Tryz.underlying3 rfl rfl rfl ?_
 refine RVN 1 rfl ?_
 refine ⟨_, eff_storeS (n := 28) (s := 1000003) info3 rfl rfl rfl hBb3 rfl (by simp) (LT 1000001 rfl (LT 1000005 rfl (LO 1000200 rfl (LeftS.cons (t := 1000211) rfl (Surv.lists (by first | exact .inr ⟨by decide, by decide⟩ | exact .inl (by omega))) (LW [2, 3] rfl))))), ?_⟩
 refine TL ?_
 refine RVN 1 rfl ?_
 refine A.ret ?_
 exact End.tct (k := 1000003) rfl Tryz.underlying3 rfl rfl rfl rfl rfl
end Go.Proofs.YtffiflfjlemggaaGreatDoor
namespace Go.Proofs.YtffiflfjlemggaaGreatDoor
open Go Go.RowKit
open Go.ChangeMaps (setBlock)
set_option linter.unusedVariables false
set_option linter.unusedSimpArgs false
variable {κ : Cx}
abbrev Key := List UInt8 × Nat × Nat
def keyV (k : Key) : List Value := k.1.map byteV ++ [.int .u32 (k.2.1 : Int), .int .u64 (k.2.2 : Int)]
abbrev Grp := List (Key × List Nat)
def KeysFit (G : Grp) : Prop := ∀ p ∈ G, p.1.1.length = 16
def entsF : Grp → List Value → Nat → List MapEntry
  | p :: G, v :: vs, s => { key := aggV (keyV p.1), val := v, born := s } :: entsF G vs (s + 1)
  | _, _, _ => []
theorem entsF_length : ∀ {G : Grp} {vs : List Value} {s : Nat}, vs.length = G.length → (entsF G vs s).length = G.length
  | [], [], _, _ => rfl
  | _ :: G, _ :: vs, s, h => by simp only [entsF, List.length_cons]; rw [entsF_length (by simpa using h)]
theorem entsF_get : ∀ {G : Grp} {vs : List Value} {s j : Nat}, vs.length = G.length → (hj : j < G.length) → ∃ v, vs[j]? = some v ∧ (entsF G vs s)[j]? = some { key := aggV (keyV G[j].1), val := v, born := s + j }
  | p :: G, v :: vs, s, 0, _, _ => ⟨v, rfl, rfl⟩
  | p :: G, v :: vs, s, j + 1, h, hj => by
    obtain ⟨u, h1, h2⟩ := entsF_get (G := G) (vs := vs) (s := s + 1) (j := j) (by simpa using h) (by simpa using hj)
    exact ⟨u, by simpa using h1, by simp only [entsF, List.getElem?_cons_succ, List.getElem_cons_succ]; rw [h2, show s + 1 + j = s + (j + 1) from by omega]⟩
theorem entsF_append : ∀ {G : Grp} {vs : List Value} {s : Nat} {p : Key × List Nat} {v : Value}, vs.length = G.length → entsF (G ++ [p]) (vs ++ [v]) s = entsF G vs s ++ [{ key := aggV (keyV p.1), val := v, born := s + G.length }]
  | [], [], s, p, v, _ => rfl
  | q :: G, u :: vs, s, p, v, h => by
    simp only [List.cons_append, entsF, List.length_cons]
    rw [entsF_append (by simpa using h), show s + 1 + G.length = s + (G.length + 1) from by omega]
theorem entsF_set : ∀ {G : Grp} {vs : List Value} {s j : Nat} {x : Value}, vs.length = G.length → (entsF G vs s).modify j (fun e => { e with val := x }) = entsF G (vs.set j x) s
  | [], [], _, _, _, _ => by simp [entsF]
  | p :: G, v :: vs, s, 0, x, _ => by simp [entsF]
  | p :: G, v :: vs, s, j + 1, x, h => by simp only [entsF, List.modify_succ_cons, List.set_cons_succ]; rw [entsF_set (by simpa using h)]
theorem entsF_keys : ∀ {G G' : Grp} {vs : List Value} {s : Nat}, G.map (·.1) = G'.map (·.1) → entsF G vs s = entsF G' vs s
  | [], [], _, _, _ => rfl
  | p :: G, q :: G', [], _, _ => rfl
  | p :: G, q :: G', v :: vs, s, h => by
    simp only [List.map_cons, List.cons.injEq] at h
    simp only [entsF, h.1]; rw [entsF_keys h.2]
  | [], _ :: _, _, _, h => by cases h
  | _ :: _, [], _, _, h => by cases h
theorem entsF_born : ∀ {G : Grp} {vs : List Value} {s : Nat}, ∀ x ∈ entsF G vs s, s ≤ x.born ∧ x.born < s + G.length
  | p :: G, v :: vs, s, x, hx => by
    simp only [entsF, List.mem_cons] at hx
    rcases hx with rfl | hx
    · simp
    · have := entsF_born x hx; simp only [List.length_cons]; omega
  | [], vs, s, x, hx => by simp [entsF] at hx
  | _ :: _, [], s, x, hx => by simp [entsF] at hx
theorem entsF_nodup : ∀ {G : Grp} {vs : List Value} {s : Nat}, ((entsF G vs s).map (·.born)).Nodup
  | p :: G, v :: vs, s => by
    simp only [entsF, List.map_cons, List.nodup_cons]
    refine ⟨fun h => ?_, entsF_nodup⟩
    obtain ⟨x, hx, he⟩ := List.mem_map.1 h
    have := entsF_born x hx; omega
  | [], vs, s => by simp [entsF]
  | _ :: _, [], s => by simp [entsF]
theorem entsF_findIdx : ∀ {G : Grp} {vs : List Value} {s j : Nat}, vs.length = G.length → j < G.length → (entsF G vs s).findIdx? (fun e => ((e.born : Nat) : Int) == (((s + j : Nat)) : Int)) = some j
  | p :: G, v :: vs, s, 0, h, hj => by simp [entsF, List.findIdx?_cons]
  | p :: G, v :: vs, s, j + 1, h, hj => by
    have := entsF_findIdx (G := G) (vs := vs) (s := s + 1) (j := j) (by simpa using h) (by simpa using hj)
    rw [show s + 1 + j = s + (j + 1) from by omega] at this
    rw [entsF, List.findIdx?_cons, this]
    have hne : (((s : Nat) : Int) == ((s + (j + 1) : Nat) : Int)) = false := by rw [beq_eq_false_iff_ne]; omega
    simp only [hne]; simp
def idxG (k : Key) : Grp → Nat
  | [] => 0
  | p :: G => if k = p.1 then 0 else idxG k G + 1
theorem idxG_le (k : Key) : ∀ G, idxG k G ≤ G.length
  | [] => Nat.le_refl _
  | p :: G => by unfold idxG; split <;> simp; exact idxG_le k G
theorem idxG_key (k : Key) : ∀ (G : Grp) (h : idxG k G < G.length), G[idxG k G].1 = k
  | p :: G, h => by
    by_cases hk : k = p.1
    · simp [idxG, hk]
    · simp only [idxG, if_neg hk, List.getElem_cons_succ]; exact idxG_key k G (by simpa [idxG, hk] using h)
def entG (k : Key) (G : Grp) : Grp := if idxG k G < G.length then G else G ++ [(k, [])]
def entM (k : Key) (G : Grp) (vs : List Value) : List Value := if idxG k G < G.length then vs else vs ++ [.slice none 0 0]
theorem idxG_lt (k : Key) (G : Grp) : idxG k G < (entG k G).length := by
  unfold entG; split
  · assumption
  · have := idxG_le k G; simp; omega
theorem entV_length {k : Key} {G : Grp} {vs : List Value} (h : vs.length = G.length) : (entM k G vs).length = (entG k G).length := by
  unfold entM entG; split <;> simp [h]
theorem entG_key (k : Key) (G : Grp) : ∃ L, (entG k G)[idxG k G]? = some (k, L) := by
  unfold entG; split
  · rename_i h
    exact ⟨G[idxG k G].2, by rw [List.getElem?_eq_getElem h]; exact congrArg some (Prod.ext (idxG_key k G h) rfl)⟩
  · rename_i h
    have : idxG k G = G.length := by have := idxG_le k G; omega
    exact ⟨[], by rw [this]; simp⟩
theorem KeysFit.ent {k : Key} {G : Grp} (h : KeysFit G) (hk : k.1.length = 16) : KeysFit (entG k G) := by
  unfold entG; split
  · exact h
  · intro p hp
    rcases List.mem_append.1 hp with hp | hp
    · exact h p hp
    · rw [List.mem_singleton.1 hp]; exact hk
theorem keyV_inj {a b : Key} (ha : a.1.length = 16) (hb : b.1.length = 16) (h : keyV a = keyV b) : a = b := by
  unfold keyV at h
  obtain ⟨h1, h2⟩ := List.append_inj h (by simp [ha, hb])
  have h3 := bytes_inj h1
  simp only [List.cons.injEq, Value.int.injEq, true_and, and_true] at h2
  obtain ⟨a1, a2, a3⟩ := a
  obtain ⟨b1, b2, b3⟩ := b
  simp only at h2 h3 ⊢
  obtain ⟨h4, h5⟩ := h2
  rw [h3, show a2 = b2 by omega, show a3 = b3 by omega]
theorem kinKey {k : Key} (h : k.1.length = 16) : Kin (fun _ _ => True) (List.replicate 16 .u8 ++ [.u32, .u64]) (keyV k) := by
  refine ⟨by simp [keyV, h], fun i q hq => ?_⟩
  unfold keyV
  rcases Nat.lt_or_ge i 16 with hi | hi
  · rw [List.getElem?_append_left (by simpa using hi)] at hq
    rw [List.getElem?_append_left (by simpa [h] using hi)]
    exact (kinY h).2 i q hq
  · rw [List.getElem?_append_right (by simpa using hi)] at hq
    rw [List.getElem?_append_right (by simpa [h] using hi)]
    simp only [List.length_replicate, List.length_map, h] at hq ⊢
    rcases Nat.lt_or_ge (i - 16) 1 with hj | hj
    · rw [show i - 16 = 0 by omega] at hq ⊢; simp at hq; subst hq; exact ⟨_, rfl, trivial⟩
    · rcases Nat.lt_or_ge (i - 16) 2 with hj2 | hj2
      · rw [show i - 16 = 1 by omega] at hq ⊢; simp at hq; subst hq; exact ⟨_, rfl, trivial⟩
      · rw [List.getElem?_eq_none (by simpa using hj2)] at hq; cases hq
/-- What is asked of the map's types. -/
structure MapTy (P : Program) (mt kt et : TypeId) : Prop where
  ty : P.underlying mt = some (.map kt et)
  st : ∃ fs, P.underlying kt = some (.struct fs)
  fl : flat P 20 kt = some (List.replicate 16 .u8 ++ [.u32, .u64])
  ag : isAggT P kt = true
  check : ∀ (cs : List Value) (w : World), cs.length = 18 → (Instr.checkKey false 10000 kt (aggV cs)).run P w = .ok () w
  zero : ∀ w : World, (zeroValue et).run P w = .ok (.slice none 0 0) w
section
variable {P : Program} {mt kt et : TypeId}
theorem keyV_length {k : Key} (h : k.1.length = 16) : (keyV k).length = 18 := by simp [keyV, h]
theorem MapTy.eqK (T : MapTy P mt kt et) {a b : Key} (ha : a.1.length = 16) (hb : b.1.length = 16) (w : World) : (Op.equal kt (aggV (keyV a)) (aggV (keyV b))).run P w = .ok (decide (a = b)) w :=
  equal_flat (P := P) 20 T.fl (by decide) T.ag (kinKey ha) (kinKey hb) _ (by rw [decide_eq_true_iff]; exact ⟨fun h => by rw [h], keyV_inj ha hb⟩) w
theorem MapTy.asking (T : MapTy P mt kt et) {k : Key} (hk : k.1.length = 16) (w : World) : ∀ (G : Grp) (vs : List Value) (s i : Nat), vs.length = G.length → KeysFit G →
    (Instr.findAsking kt (aggV (keyV k)) (entsF G vs s) i).run P w = .ok (if idxG k G < G.length then some (i + idxG k G, vs.getD (idxG k G) undef) else none) w
  | [], [], s, i, _, _ => by simp [entsF, Instr.findAsking, idxG]
  | p :: G, v :: vs, s, i, h, hf => by
    have he := T.eqK hk (hf p (by simp)) w
    have ih := T.asking hk w G vs (s + 1) (i + 1) (by simpa using h) (fun q hq => hf q (by simp [hq]))
    simp only [entsF, Instr.findAsking, Sem.run_bind, he, Result.andThen_ok, idxG]
    by_cases hkp : k = p.1
    · simp [hkp]
    · simp only [hkp, decide_false, Bool.false_eq_true, if_false, ih]
      by_cases hl : idxG k G < G.length
      · rw [if_pos hl, if_pos (by simpa using hl)]; simp [Nat.add_assoc, Nat.add_comm 1]
      · rw [if_neg hl, if_neg (by simpa using hl)]
theorem MapTy.find (T : MapTy P mt kt et) {k : Key} (hk : k.1.length = 16) (w : World) {G : Grp} {vs : List Value} (h : vs.length = G.length) (hf : KeysFit G) :
    (Instr.findKey kt (aggV (keyV k)) (entsF G vs 0)).run P w = .ok (if idxG k G < G.length then some (idxG k G, vs.getD (idxG k G) undef) else none) w := by
  obtain ⟨fs, hs⟩ := T.st
  have ha := T.asking hk w G vs 0 0 h hf
  simp only [Nat.zero_add] at ha
  unfold Instr.findKey
  simp only [Sem.run_bind, run_underlying hs, Result.andThen_ok]
  cases G with
  | nil =>
    cases vs with
    | nil => simp [entsF, Instr.findNow, idxG]
    | cons => cases h
  | cons p G =>
    cases vs with
    | nil => cases h
    | cons v vs =>
      have hn : Instr.findNow (TypeDesc.struct fs) (aggV (keyV k)) (entsF (p :: G) (v :: vs) 0) 0 = none := by simp [entsF, Instr.findNow, Instr.sameNow]
      rw [hn]; exact ha
theorem sameBits_ints : ∀ (cs : List Value), (∀ c ∈ cs, ∃ k n, c = .int k n) → ((cs.zip cs).all fun (x, y) => Instr.sameBits 9999 x y) = true
  | [], _ => rfl
  | c :: cs, h => by
    obtain ⟨k, n, rfl⟩ := h c (by simp)
    rw [List.zip_cons_cons, List.all_cons, sameBits_ints cs (fun d hd => h d (by simp [hd]))]
    simp [Instr.sameBits]
theorem stays_key (k : Key) (w : World) : (Instr.keyThatStays (aggV (keyV k)) (aggV (keyV k))).run P w = .ok (aggV (keyV k)) w := by
  have h : Instr.sameBits 10000 (aggV (keyV k)) (aggV (keyV k)) = true := by
    have := sameBits_ints (keyV k) (fun c hc => by
      simp only [keyV, List.mem_append, List.mem_map, List.mem_cons, List.not_mem_nil, or_false] at hc
      rcases hc with ⟨b, _, rfl⟩ | rfl | rfl <;> exact ⟨_, _, rfl⟩)
    simp only [aggV, Instr.sameBits, beq_self_eq_true, Bool.true_and]
    exact this
  simp [Instr.keyThatStays, h]
theorem run_mapEntry (T : MapTy P mt kt et) {k : Key} (hk : k.1.length = 16) {w : World} {b : Nat} {G : Grp} {vs : List Value} (hb : w.heap[b]? = some (.map (entsF G vs 0).toArray G.length)) (h : vs.length = G.length) (hf : KeysFit G) :
    (Instr.mapEntry mt (.map (some b)) (aggV (keyV k))).run P w = .ok (.tuple #[(entM k G vs).getD (idxG k G) undef, .int .i64 ((idxG k G : Nat) : Int)]) (setBlock w b (.map (entsF (entG k G) (entM k G vs) 0).toArray (entG k G).length)) := by
  have hfind := T.find hk w h hf
  by_cases hl : idxG k G < G.length
  · rw [if_pos hl] at hfind
    obtain ⟨v, hv, he⟩ := entsF_get (s := 0) h hl
    have hmod : (entsF G vs 0).toArray.modify (idxG k G) (fun e => { e with key := aggV (keyV k) }) = (entsF G vs 0).toArray := by
      apply Array.ext'
      rw [Array.toList_modify]
      have : (entsF G vs 0).modify (idxG k G) (fun e => { e with key := aggV (keyV k) }) = entsF G vs 0 := by
        apply List.ext_getElem?
        intro i
        rw [List.getElem?_modify]
        by_cases hi : idxG k G = i
        · subst hi; rw [he]; simp [idxG_key k G hl]
        · simp [hi]
      exact this
    have hg : ((entsF G vs 0).toArray[idxG k G]?) = some { key := aggV (keyV k), val := v, born := idxG k G } := by
      rw [List.getElem?_toArray, he, Nat.zero_add, idxG_key k G hl]
    simp only [Instr.mapEntry, Sem.run_bind, run_underlying T.ty, Result.andThen_ok, MapKept.run_getObj_map hb, T.check _ w (keyV_length hk), hfind, hg, Option.map_some, Option.getD_some, stays_key, hmod, MapKept.run_setObj_map _ hb, Sem.run_pure, entG, entM, if_pos hl]
    rfl
  · rw [if_neg hl] at hfind
    have hi : idxG k G = G.length := by have := idxG_le k G; omega
    have hpush : (entsF G vs 0).toArray.push { key := aggV (keyV k), val := .slice none 0 0, born := G.length } = (entsF (G ++ [(k, [])]) (vs ++ [.slice none 0 0]) 0).toArray := by
      rw [entsF_append h]; simp
    simp only [Instr.mapEntry, Sem.run_bind, run_underlying T.ty, Result.andThen_ok, MapKept.run_getObj_map hb, T.check _ w (keyV_length hk), hfind, T.zero, hpush, MapKept.run_setObj_map _ hb, Sem.run_pure, entG, entM, if_neg hl]
    have : (vs ++ [Value.slice none 0 0]).getD (idxG k G) undef = .slice none 0 0 := by rw [hi, ← h]; simp
    rw [this, hi]
    simp [setBlock, goInt]
theorem run_entryStore {w : World} {b j : Nat} {G : Grp} {vs : List Value} {v : Value} (hb : w.heap[b]? = some (.map (entsF G vs 0).toArray G.length)) (h : vs.length = G.length) (hj : j < G.length) :
    (Instr.entryStore mt (.map (some b)) (.int .i64 (j : Int)) v).run P w = .ok () (setBlock w b (.map (entsF G (vs.set j v) 0).toArray G.length)) := by
  have hf : (entsF G vs 0).toArray.findIdx? (fun e => ((e.born : Nat) : Int) == ((j : Nat) : Int)) = some j := by
    have := entsF_findIdx (s := 0) h hj
    rw [Nat.zero_add] at this
    rw [List.findIdx?_toArray]; exact this
  have hm : (entsF G vs 0).toArray.modify j (fun e => { e with val := v }) = (entsF G (vs.set j v) 0).toArray := by
    apply Array.ext'
    rw [Array.toList_modify]; exact entsF_set h
  simp only [Instr.entryStore, Sem.run_bind, MapKept.run_getObj_map hb, Result.andThen_ok, asInt, asIntOf, Sem.run_pure, hf, hm, MapKept.run_setObj_map _ hb]
  rfl
end
end Go.Proofs.YtffiflfjlemggaaGreatDoor
namespace Go.Proofs.YtffiflfjlemggaaGreatDoor
open Go Go.RowKit
open Go.ChangeMaps (setBlock)
set_option linter.unusedVariables false
set_option linter.unusedSimpArgs false
variable {κ : Cx}
/-- The slices vs own the lists, each in a block of its own. -/
def RowsS (lo : Nat) (e : TypeId) (vs : List Value) (Ls : List (List Nat)) (B : Nat) (w : World) : Prop :=
  (∀ (j : Nat) (v : Value) (L : List Nat), vs[j]? = some v → Ls[j]? = some L → w.ownsRow lo e 1 v L.length (natR L) ∧ ∀ g, v.ownBlock = some g → g < B) ∧
  ∀ (i j : Nat) (v v' : Value) (g : Nat), vs[i]? = some v → vs[j]? = some v' → v.ownBlock = some g → v'.ownBlock = some g → i = j
theorem ownsRow_other {w w' : World} {lo n : Nat} {e : TypeId} {v : Value} {xs : List Value} (h : w.ownsRow lo e 1 v n xs) (hk : ∀ g cur fr, v.ownBlock = some g → lo ≤ g → w.heap[g]? = some (.cells cur e fr) → w'.heap[g]? = w.heap[g]?) : w'.ownsRow lo e 1 v n xs := by
  obtain ⟨h1, h2⟩ := h
  refine ⟨h1, h2.imp id ?_⟩
  rintro ⟨g, cap, cur, rfl, hb, hh, hr⟩
  exact ⟨g, cap, cur, rfl, hb, by rw [hk g cur _ rfl hb hh]; exact hh, hr⟩
theorem RowsS.other {lo : Nat} {e : TypeId} {vs : List Value} {Ls : List (List Nat)} {B B' : Nat} {w w' : World} (h : RowsS lo e vs Ls B w) (hB : B ≤ B') (hk : ∀ g cur fr, lo ≤ g → g < B → w.heap[g]? = some (.cells cur e fr) → w'.heap[g]? = w.heap[g]?) : RowsS lo e vs Ls B' w' :=
  ⟨fun j v L hv hL => by
    obtain ⟨h1, h2⟩ := h.1 j v L hv hL
    exact ⟨ownsRow_other h1 fun g cur fr hg hb hh => hk g cur fr hb (h2 g hg) hh, fun g hg => Nat.lt_of_lt_of_le (h2 g hg) hB⟩, h.2⟩
/-- Block b is the map with these entries. -/
def MapS (lo : Nat) (e : TypeId) (b : Nat) (vs : List Value) (G : Grp) (B : Nat) (w : World) : Prop :=
  lo ≤ b ∧ b < B ∧ vs.length = G.length ∧ KeysFit G ∧ w.heap[b]? = some (.map (entsF G vs 0).toArray G.length) ∧ RowsS lo e vs (G.map (·.2)) B w
theorem MapS.other {lo : Nat} {e : TypeId} {b : Nat} {vs : List Value} {G : Grp} {B B' : Nat} {w w' : World} (h : MapS lo e b vs G B w) (hB : B ≤ B') (hm : w'.heap[b]? = w.heap[b]?) (hk : ∀ g cur fr, lo ≤ g → g < B → w.heap[g]? = some (.cells cur e fr) → w'.heap[g]? = w.heap[g]?) : MapS lo e b vs G B' w' := by
  obtain ⟨h1, h2, h3, h4, h5, h6⟩ := h
  exact ⟨h1, by omega, h3, h4, by rw [hm]; exact h5, h6.other hB hk⟩
def mapM (lo : Nat) (e : TypeId) (b : Nat) (vs : List Value) (G : Grp) : D :=
  .p (fun B w _ => MapS lo e b vs G B w) (fun B w w' _ g h => h.other (Nat.le_refl _) (g.block b h.2.1) fun k _ _ _ hk _ => g.block k hk) (fun B B' w _ g h => h.other g rfl fun _ _ _ _ _ _ => rfl)
/-- .. where the slice of entry j has gone into v, which owns L. -/
def MapX (lo : Nat) (e : TypeId) (b : Nat) (vs : List Value) (G : Grp) (j : Nat) (v : Value) (L : List Nat) (B : Nat) (w : World) : Prop :=
  lo ≤ b ∧ b < B ∧ vs.length = G.length ∧ KeysFit G ∧ w.heap[b]? = some (.map (entsF G vs 0).toArray G.length) ∧ RowsS lo e (vs.set j v) ((G.map (·.2)).set j L) B w
def mapX (lo : Nat) (e : TypeId) (b : Nat) (vs : List Value) (G : Grp) (j : Nat) (v : Value) (L : List Nat) : D :=
  .p (fun B w _ => MapX lo e b vs G j v L B w) (fun B w w' _ g ⟨h1, h2, h3, h4, h5, h6⟩ => ⟨h1, h2, h3, h4, by rw [g.block b h2]; exact h5, h6.other (Nat.le_refl _) fun k _ _ _ hk _ => g.block k hk⟩)
    (fun B B' w _ g ⟨h1, h2, h3, h4, h5, h6⟩ => ⟨h1, Nat.lt_of_lt_of_le h2 g, h3, h4, h5, h6.other g fun _ _ _ _ _ _ => rfl⟩)
/-! ### What survives a write of a block that holds no cells -/
structure WroteO (b : Nat) (w w' : World) : Prop where
  os : w'.os = w.os
  tape : w'.tape = w.tape
  output : w'.output = w.output
  size : w.heap.size ≤ w'.heap.size
  obj : ∀ cs e fr, w.heap[b]? ≠ some (.cells cs e fr)
  other : ∀ k, k < w.heap.size → k ≠ b → w'.heap[k]? = w.heap[k]?
def SurvO (b : Nat) (d : D) : Prop := ∀ w w' x, WroteO b w w' → d.Of w x → d.Of w' x
theorem SurvO.v {b : Nat} (y : Value) : SurvO b (.v y) := fun _ _ _ _ h => h
theorem WroteO.under {b : Nat} {w w' : World} (h : WroteO b w w') {k : Nat} (hg : k ≤ b) (hk : k ≤ w.heap.size) : Below k w w' := ⟨h.os, h.tape, h.output, h.size, fun j hj => h.other j (by omega) (by omega)⟩
theorem SurvO.old {b B' : Nat} {d : D} (h : B' ≤ b) : SurvO b (Go.Proofs.YtffiflfjlemggaaGreatDoor.old B' d) := fun _ _ _ k ⟨h1, h2⟩ => ⟨Nat.le_trans h1 k.size, D.OfB.keep h2 (k.under h h1)⟩
theorem SurvO.blk {b b' : Nat} {e : TypeId} {xs : List Value} : SurvO b (Go.Proofs.YtffiflfjlemggaaGreatDoor.blk b' e xs) := fun _ _ _ k ⟨h1, h2⟩ => ⟨Nat.lt_of_lt_of_le h1 k.size, (k.other b' h1 fun hb => by subst hb; exact k.obj _ _ _ h2).trans h2⟩
theorem SurvO.own {b base n : Nat} {e : TypeId} {xs : List Value} : SurvO b (Go.Proofs.YtffiflfjlemggaaGreatDoor.own base e n xs) := fun w w' x k ⟨h1, h2⟩ => by
  refine ⟨ownsRow_other h1 fun g cur fr hg _ hh => k.other g (h2 g hg) fun hb => by subst hb; exact k.obj _ _ _ hh, fun g hg => Nat.lt_of_lt_of_le (h2 g hg) k.size⟩
def LeftO (b : Nat) (E' E : Env) : Prop := ∀ p ∈ E', E.look p.1 = some p.2 ∧ SurvO b p.2
theorem LeftO.nil {b : Nat} {E : Env} : LeftO b [] E := fun _ h => by cases h
theorem LeftO.cons {b : Nat} {E E' : Env} {t : Nat} {d : D} (h : E.look t = some d) (hs : SurvO b d) (hr : LeftO b E' E) : LeftO b ((t, d) :: E') E := fun p hp => by
  rcases List.mem_cons.1 hp with rfl | hp
  · exact ⟨h, hs⟩
  · exact hr p hp
theorem LeftO.st {n B b : Nat} {E E' : Env} {a : Act} {w w' : World} (hl : LeftO b E' E) (h : St κ n B E a w) (k : WroteO b w w') : St κ n B E' a w' :=
  ⟨Nat.le_trans h.base k.size, h.defers, h.size, fun t d hd => by
    obtain ⟨h1, h2⟩ := hl _ (look_mem hd)
    exact h2 _ _ _ k (h.of t d h1)⟩
theorem wroteO_set {w : World} {b : Nat} {o : Obj} (hb : b < w.heap.size) (hc : ∀ cs e fr, w.heap[b]? ≠ some (.cells cs e fr)) : WroteO b w (setBlock w b o) :=
  ⟨rfl, rfl, rfl, by simp [setBlock], hc, fun k hk hne => by simp [setBlock, Array.getElem?_setIfInBounds_ne (Ne.symm hne)]⟩
theorem setBlock_at {w : World} {b : Nat} {o : Obj} (hb : b < w.heap.size) : (setBlock w b o).heap[b]? = some o := by simp [setBlock, hb]
theorem setBlock_ne {w : World} {b k : Nat} {o : Obj} (h : k ≠ b) : (setBlock w b o).heap[k]? = w.heap[k]? := by simp [setBlock, Array.getElem?_setIfInBounds_ne (Ne.symm h)]
theorem setBlock_size {w : World} {b : Nat} {o : Obj} : (setBlock w b o).heap.size = w.heap.size := by simp [setBlock]
section
variable {P : Program} {n B : Nat} {ops : Array Oper} {E : Env} {ty : TypeId} {pos : String} {after : Array Edge}
theorem eff_makeMap {mt kt et : TypeId} {dst s e : Nat} (T : MapTy P mt kt et) (hrun : ∀ w : World, (Instr.makeMap mt none).run P w = .ok (.map (some w.heap.size)) (w.alloc (.map #[] 0))) (hdst : dst < n) (hnv : n ≤ vbase) (hs : vbase ≤ s) :
    EffG P n B ops ⟨some dst, .makeMap mt none, ty, pos, after, none⟩ E (NewB B E) (fun b => (dst, .v (.map (some b))) :: (s, mapM B e b [] []) :: E) := by
  intro κ a w K Q h hK
  have hexec : (execOp a.eval ⟨some dst, .makeMap mt none, ty, pos, after, none⟩).run P w = .ok (.value (.map (some w.heap.size))) (w.alloc (.map #[] 0)) := by
    simp [execOp, hrun]
  rw [if_pos (by simp [Region.wanted])]
  refine opR (by nofun) ?_
  unfold Oper.wp
  rw [hexec, Oper.upon_value]
  have hg : Below B w (w.alloc (.map #[] 0)) := (Below.refl B w).alloc h.base _
  refine hK w.heap.size _ _ ⟨h.base, fun s' b' e' ys hs' => (h.of s' _ hs').1⟩ hg (St.put (St.pushes (h.grow (Grow.alloc w _)) hnv [(s, mapM B e w.heap.size [] [])] fun q hq => ?_) hdst rfl)
  rw [List.mem_singleton.1 hq]
  exact ⟨hs, h.base, by simp, rfl, (fun p hp => by cases hp), heap_alloc_new w _, (fun j v L hv => by cases hv), (fun i j v v' g hv => by cases hv)⟩
theorem eff_mapEntry {mt kt et : TypeId} {m x : Operand} {k : Key} {dst s b lo e : Nat} {vs : List Value} {G : Grp} {E' : Env} (T : MapTy P mt kt et) (hk : k.1.length = 16) (hm : E.at m = some (.v (.map (some b)))) (hx : E.at x = some (.v (aggV (keyV k)))) (hs : E.look s = some (mapM lo e b vs G)) (hlo : B ≤ lo) (hdst : dst < n) (hnv : n ≤ vbase) (hsv : vbase ≤ s) (hl : LeftO b E' E) :
    Eff P n B ops ⟨some dst, .mapEntry mt m x, ty, pos, after, none⟩ E ((dst, .v (.tuple #[(entM k G vs).getD (idxG k G) undef, .int .i64 ((idxG k G : Nat) : Int)])) :: ([(s, mapM lo e b (entM k G vs) (entG k G))] ++ E')) := by
  intro κ a w K Q h hK
  have hme : a.eval m = _ := h.at_ m _ hm
  have hxe : a.eval x = _ := h.at_ x _ hx
  obtain ⟨h1, h2, h3, h4, h5, h6⟩ := h.of s _ hs
  have hr := run_mapEntry T hk h5 h3 h4
  have hexec : (execOp a.eval ⟨some dst, .mapEntry mt m x, ty, pos, after, none⟩).run P w = .ok (.value (.tuple #[(entM k G vs).getD (idxG k G) undef, .int .i64 ((idxG k G : Nat) : Int)])) (setBlock w b (.map (entsF (entG k G) (entM k G vs) 0).toArray (entG k G).length)) := by
    simp [execOp, hme, hxe, hr]
  have hc : ∀ cs e fr, w.heap[b]? ≠ some (.cells cs e fr) := fun _ _ _ hh => by rw [h5] at hh; cases hh
  have hwr := wroteO_set (o := .map (entsF (entG k G) (entM k G vs) 0).toArray (entG k G).length) h2 hc
  rw [if_pos (by simp [Region.wanted])]
  refine opR (by nofun) ?_
  unfold Oper.wp
  rw [hexec, Oper.upon_value]
  refine hK _ _ (hwr.under (Nat.le_trans hlo h1) h.base) (St.put (St.pushes (hl.st h hwr) hnv _ fun q hq => ?_) hdst rfl)
  rw [List.mem_singleton.1 hq]
  refine ⟨hsv, h1, by rw [setBlock_size]; exact h2, entV_length h3, h4.ent hk, setBlock_at h2, ?_⟩
  have h7 : RowsS lo e vs (G.map (·.2)) (setBlock w b (.map (entsF (entG k G) (entM k G vs) 0).toArray (entG k G).length)).heap.size (setBlock w b (.map (entsF (entG k G) (entM k G vs) 0).toArray (entG k G).length)) :=
    h6.other (by rw [setBlock_size]; exact Nat.le_refl _) fun g cur fr _ _ hh => setBlock_ne fun hg => by subst hg; exact hc _ _ _ hh
  generalize setBlock w b (.map (entsF (entG k G) (entM k G vs) 0).toArray (entG k G).length) = w' at h7 ⊢
  unfold entM entG
  split
  · exact h7
  · refine ⟨fun j v L hv hL => ?_, fun i j v v' g hv hv' hg hg' => ?_⟩
    · rw [List.map_append] at hL
      rcases Nat.lt_or_ge j vs.length with hj | hj
      · rw [List.getElem?_append_left hj] at hv
        rw [List.getElem?_append_left (by rw [List.length_map]; omega)] at hL
        exact h7.1 j v L hv hL
      · rw [List.getElem?_append_right hj] at hv
        rw [List.getElem?_append_right (by rw [List.length_map]; omega), List.length_map, ← h3] at hL
        cases hi : j - vs.length with
        | zero =>
          rw [hi] at hv hL
          simp only [List.getElem?_cons_zero, Option.some.injEq, List.map_cons] at hv hL
          subst hv; subst hL
          exact ⟨World.ownsRow_nil _ _ _ _, fun g hg => by simp [Value.ownBlock] at hg⟩
        | succ i => rw [hi] at hv; simp at hv
    · have nl : ∀ (i : Nat) (v : Value), (vs ++ [Value.slice none 0 0])[i]? = some v → v.ownBlock = some g → vs[i]? = some v := fun i v hv hg => by
        rcases Nat.lt_or_ge i vs.length with hj | hj
        · rwa [List.getElem?_append_left hj] at hv
        · rw [List.getElem?_append_right hj] at hv
          cases hi : i - vs.length with
          | zero => rw [hi] at hv; simp only [List.getElem?_cons_zero, Option.some.injEq] at hv; subst hv; simp [Value.ownBlock] at hg
          | succ i => rw [hi] at hv; simp at hv
      exact h7.2 i j v v' g (nl i v hv hg) (nl j v' hv' hg') hg hg'
theorem set_get {α : Type} {l : List α} {j i : Nat} {x y : α} (h : (l.set j x)[i]? = some y) : (i = j ∧ y = x ∧ j < l.length) ∨ (i ≠ j ∧ l[i]? = some y) := by
  rw [List.getElem?_set] at h
  by_cases hij : j = i
  · subst hij
    rw [if_pos rfl] at h
    split at h
    · rename_i hl; injection h with h; exact .inl ⟨rfl, h.symm, hl⟩
    · cases h
  · rw [if_neg hij] at h; exact .inr ⟨Ne.symm hij, h⟩
theorem eff_appendM {t e : TypeId} {z : Value} {nb : Nat} {r x : Operand} {b j s dst base' : Nat} {y : Nat} {v : Value} {L : List Nat} {vs : List Value} {G : Grp} {E' : Env} (ht : P.underlying t = some (.slice e)) (hinfo : InfoIs P e z nb) (hnb : nb ≤ 64) (hz1 : z.cells.size = 1)
    (hr : E.at r = some (.v v)) (hv : vs[j]? = some v) (hL : (G.map (·.2))[j]? = some L) (hs : E.look s = some (mapM B e b vs G)) (hx : E.at x = some (fresh base' e [.int .i64 (y : Int)] 1)) (hk : L.length ≤ 1099511627776) (hdst : dst < n) (hnv : n ≤ vbase) (hsv : vbase ≤ s) (hl : ∀ g, B ≤ g → LeftS B e g E' E) :
    EffG P n B ops ⟨some dst, .call { callee := .builtin .append, args := #[r, x], argTypes := #[t, t] }, ty, pos, after, none⟩ E (fun v' : Value => v'.oneCell' = true) (fun v' => (dst, .v v') :: ([(s, mapX B e b vs G j v' (L ++ [y]))] ++ E')) := by
  obtain ⟨i, hi, hz, hsz, hby⟩ := hinfo.get
  intro κ a w K Q h hK
  have hre : a.eval r = v := h.at_ r _ hr
  obtain ⟨bb, hxe, _, hbb, hbh⟩ := h.at_ x _ hx
  have hxe : a.eval x = .slice (some ⟨bb, 0, none⟩) 1 1 := hxe
  obtain ⟨h1, h2, h3, h4, h5, h6⟩ := h.of s _ hs
  obtain ⟨hown, hvb⟩ := h6.1 j v L hv hL
  have hbyt : (L.length + 1) * i.bytes ≤ (L.length + 1) * 64 := Nat.mul_le_mul_left _ (by omega)
  obtain ⟨v', w', hrun, k1, k2, _, k3⟩ := run_append_own_at (P := P) w B t ty e i z 1 i.bytes ht hi hz hsz rfl hz1 (by decide) v L.length (natR L) hown ⟨bb, 0, none⟩ 1 1 [.int .i64 (y : Int)] rfl (fun q u hu => by
      rw [show (⟨bb, 0, none⟩ : Addr).add q = ⟨bb, q, none⟩ from by unfold Addr.add; split <;> simp_all]
      simp [World.cell?, hbh]; simpa using hu) (fun u hu => by rw [List.mem_singleton.1 hu]; rfl) (by simp only [maxLen]; omega) (by omega) h.base
  have hexec : (execOp a.eval ⟨some dst, .call { callee := .builtin .append, args := #[r, x], argTypes := #[t, t] }, ty, pos, after, none⟩).run P w = .ok (.value v') w' := by
    simp [execOp, resolve, invoke, builtin, hre, hxe, hrun]
  rw [if_pos (by simp [Region.wanted])]
  refine opR (by nofun) ?_
  unfold Oper.wp
  rw [hexec, Oper.upon_value]
  have hbase : ∀ g, v.ownBlock = some g → B ≤ g := fun g hg => by
    rcases hown.2 with ⟨hv, _⟩ | ⟨g', cap, cur, hv, hb, _⟩
    · rw [hv] at hg; simp [Value.ownBlock] at hg
    · rw [hv] at hg; simp [Value.ownBlock] at hg; omega
  have hbel : Below B w w' := (Below.refl B w).grown k2 h.base hbase
  have hlt : ∀ g, v'.ownBlock = some g → g < w'.heap.size := fun g hg => by
    rcases k1.2 with ⟨hv, _⟩ | ⟨g', cap, cur, hv, _, hh, _⟩
    · rw [hv] at hg; simp [Value.ownBlock] at hg
    · rw [hv] at hg; simp [Value.ownBlock] at hg; subst hg
      rcases Nat.lt_or_ge g' w'.heap.size with h | h
      · exact h
      · rw [Array.getElem?_eq_none h] at hh; cases hh
  have hwr : ∃ g, B ≤ g ∧ Wrote B e g w w' := by
    rcases hown.2 with ⟨hv, _⟩ | ⟨g', cap, cur, hv, hb, hh, _⟩
    · refine ⟨w.heap.size, h.base, h.base, k2.os, k2.tape, k2.output, k2.size, fun o hx => ?_, fun k hk _ => k2.block k hk (by rw [hv]; simp [Value.ownBlock])⟩
      rw [Array.getElem?_eq_none (Nat.le_refl _)] at hx; cases hx
    · refine ⟨g', hb, hb, k2.os, k2.tape, k2.output, k2.size, fun o hx => ?_, fun k hk hne => k2.block k hk (by rw [hv]; simp [Value.ownBlock]; omega)⟩
      rw [hh] at hx; injection hx with hx; exact ⟨_, _, hx.symm⟩
  obtain ⟨g, hg, hwr⟩ := hwr
  have hmap : w'.heap[b]? = w.heap[b]? := k2.block b h2 (by
    intro hb
    rcases hown.2 with ⟨hv, _⟩ | ⟨g', cap, cur, hv, _, hh, _⟩
    · rw [hv] at hb; simp [Value.ownBlock] at hb
    · rw [hv] at hb; simp [Value.ownBlock] at hb; subst hb; rw [h5] at hh; cases hh)
  refine hK v' _ _ (by rcases k1.2 with ⟨hv, _⟩ | ⟨_, _, _, hv, _⟩ <;> rw [hv] <;> rfl) hbel (St.put (St.pushes ((hl g hg).st h hwr) hnv _ fun q hq => ?_) hdst rfl)
  rw [List.mem_singleton.1 hq]
  have oth : ∀ (i : Nat) (u : Value), i ≠ j → vs[i]? = some u → ∀ g, u.ownBlock = some g → w'.heap[g]? = w.heap[g]? := fun i u hij hu g hg => k2.block g ((h6.1 i u _ hu (List.getElem?_eq_getElem (by rw [List.length_map, ← h3]; exact (List.getElem?_eq_some_iff.1 hu).1))).2 g hg) (fun hgv => hij (h6.2 i j u v g hu hv hg hgv.symm))
  have old : ∀ (i : Nat) (u : Value), vs[i]? = some u → ∀ g, u.ownBlock = some g → g < w.heap.size := fun i u hu g hg => (h6.1 i u _ hu (List.getElem?_eq_getElem (by rw [List.length_map, ← h3]; exact (List.getElem?_eq_some_iff.1 hu).1))).2 g hg
  refine ⟨hsv, h1, Nat.lt_of_lt_of_le h2 k2.size, h3, h4, by rw [hmap]; exact h5, fun i u M hu hM => ?_, fun i i' u u' g hu hu' hg hg' => ?_⟩
  · rcases set_get hu with ⟨hij, hu1, hlt1⟩ | ⟨hij, hu1⟩
    · rcases set_get hM with ⟨_, hM1, _⟩ | ⟨hij2, _⟩
      · rw [hu1, hM1]; exact ⟨by simpa [natR] using k1, hlt⟩
      · exact absurd hij hij2
    · rcases set_get hM with ⟨h7, _⟩ | ⟨_, hM1⟩
      · exact absurd h7 hij
      · obtain ⟨h7, h8⟩ := h6.1 i u M hu1 hM1
        exact ⟨ownsRow_other h7 fun g _ _ hg _ _ => oth i u hij hu1 g hg, fun g hg => Nat.lt_of_lt_of_le (h8 g hg) k2.size⟩
  · have new : ∀ (i : Nat) (u : Value), i ≠ j → vs[i]? = some u → u.ownBlock = some g → v'.ownBlock ≠ some g := fun i u hij hu hg hg' => by
      rcases k3 with h9 | h9
      · rw [h9] at hg'; exact hij (h6.2 i j u v g hu hv hg hg')
      · rw [h9] at hg'; injection hg' with hg'; have := old i u hu g hg; omega
    rcases set_get hu with ⟨hij, hu1, _⟩ | ⟨hij, hu1⟩ <;> rcases set_get hu' with ⟨hij', hu1', _⟩ | ⟨hij', hu1'⟩
    · rw [hij, hij']
    · exact absurd (hu1 ▸ hg) (new i' u' hij' hu1' hg')
    · exact absurd (hu1' ▸ hg') (new i u hij hu1 hg)
    · exact h6.2 i i' u u' g hu1 hu1' hg hg'
theorem eff_entryStore {mt : TypeId} {m st r : Operand} {b j s lo e : Nat} {k : Key} {v : Value} {L L₀ : List Nat} {vs : List Value} {G : Grp} {E' : Env} (hm : E.at m = some (.v (.map (some b)))) (hst : E.at st = some (.v (.int .i64 (j : Int)))) (hr : E.at r = some (.v v)) (hs : E.look s = some (mapX lo e b vs G j v L)) (hj : G[j]? = some (k, L₀))
    (hlo : B ≤ lo) (hnv : n ≤ vbase) (hsv : vbase ≤ s) (hl : LeftO b E' E) :
    Eff P n B ops ⟨none, .entryStore mt m st r, ty, pos, after, none⟩ E ([(s, mapM lo e b (vs.set j v) (G.set j (k, L)))] ++ E') := by
  intro κ a w K Q h hK
  have hme : a.eval m = _ := h.at_ m _ hm
  have hse : a.eval st = _ := h.at_ st _ hst
  have hre : a.eval r = _ := h.at_ r _ hr
  obtain ⟨h1, h2, h3, h4, h5, h6⟩ := h.of s _ hs
  have hjl : j < G.length := (List.getElem?_eq_some_iff.1 hj).1
  have hrun := run_entryStore (P := P) (mt := mt) (v := v) h5 h3 hjl
  have hexec : (execOp a.eval ⟨none, .entryStore mt m st r, ty, pos, after, none⟩).run P w = .ok .skip (setBlock w b (.map (entsF G (vs.set j v) 0).toArray G.length)) := by
    simp [execOp, hme, hse, hre, hrun]
  have hc : ∀ cs e fr, w.heap[b]? ≠ some (.cells cs e fr) := fun _ _ _ hh => by rw [h5] at hh; cases hh
  have hwr := wroteO_set (o := .map (entsF G (vs.set j v) 0).toArray G.length) h2 hc
  rw [if_pos (by simp [Region.wanted])]
  refine opR (by nofun) ?_
  unfold Oper.wp
  rw [hexec, Oper.upon_skip]
  have hkeys : (G.set j (k, L)).map (·.1) = G.map (·.1) := by
    rw [List.map_set]
    apply List.ext_getElem?
    intro i
    rw [List.getElem?_set]
    split
    · rename_i hi; subst hi
      rw [List.length_map, if_pos hjl, List.getElem?_map, hj]; rfl
    · rfl
  refine hK _ _ (hwr.under (Nat.le_trans hlo h1) h.base) ?_
  show St κ n B _ a _
  refine St.pushes (hl.st h hwr) hnv _ fun q hq => ?_
  rw [List.mem_singleton.1 hq]
  refine ⟨hsv, h1, by rw [setBlock_size]; exact h2, by simp [h3], fun p hp => ?_, ?_, ?_⟩
  · have hp' : p.1 ∈ (G.set j (k, L)).map (·.1) := List.mem_map_of_mem hp
    rw [hkeys] at hp'
    obtain ⟨q', hq', he⟩ := List.mem_map.1 hp'
    rw [← he]; exact h4 q' hq'
  · rw [entsF_keys hkeys, List.length_set]; exact setBlock_at h2
  · have : (G.set j (k, L)).map (·.2) = (G.map (·.2)).set j L := by rw [List.map_set]
    rw [this]
    exact h6.other (by rw [setBlock_size]; exact Nat.le_refl _) fun g cur fr _ _ hh => setBlock_ne fun hg => by subst hg; exact hc _ _ _ hh
end
end Go.Proofs.YtffiflfjlemggaaGreatDoor
namespace Go.Proofs.YtffiflfjlemggaaGreatDoor
open Go Go.RowKit
open Go.ChangeMaps (setBlock)
set_option linter.unusedVariables false
set_option linter.unusedSimpArgs false
variable {κ : Cx}
/-- .. and block it goes through it; seen has come out. -/
def IterS (lo : Nat) (e : TypeId) (b it : Nat) (vs : List Value) (G : Grp) (seen : List Nat) (B : Nat) (w : World) : Prop :=
  MapS lo e b vs G B w ∧ lo ≤ it ∧ it < B ∧ ∃ c0, w.heap[it]? = some (.mapIter (some b) G.length seen.toArray c0) ∧ G.length ≤ c0 ∧ (seen ≠ [] → c0 = G.length)
theorem IterS.other {lo : Nat} {e : TypeId} {b it : Nat} {vs : List Value} {G : Grp} {seen : List Nat} {B B' : Nat} {w w' : World} (h : IterS lo e b it vs G seen B w) (hB : B ≤ B') (hm : w'.heap[b]? = w.heap[b]?) (hi : w'.heap[it]? = w.heap[it]?) (hk : ∀ g cur fr, lo ≤ g → g < B → w.heap[g]? = some (.cells cur e fr) → w'.heap[g]? = w.heap[g]?) : IterS lo e b it vs G seen B' w' := by
  obtain ⟨h1, h2, h3, c0, h4, h5⟩ := h
  exact ⟨h1.other hB hm hk, h2, by omega, c0, by rw [hi]; exact h4, h5⟩
def iterM (lo : Nat) (e : TypeId) (b it : Nat) (vs : List Value) (G : Grp) (seen : List Nat) : D :=
  .p (fun B w _ => IterS lo e b it vs G seen B w) (fun B w w' _ g h => h.other (Nat.le_refl _) (g.block b h.1.2.1) (g.block it h.2.2.1) fun k _ _ _ hk _ => g.block k hk) (fun B B' w _ g h => h.other g rfl rfl fun _ _ _ _ _ _ => rfl)
theorem Surv.iterM {B T g lo : Nat} {e : TypeId} {b it : Nat} {vs : List Value} {G : Grp} {seen : List Nat} (h : e ≠ T) : Surv B T g (Go.Proofs.YtffiflfjlemggaaGreatDoor.iterM lo e b it vs G seen) := fun w w' x k hh => by
  have nc : ∀ i, i < w.heap.size → (∀ cs fr, w.heap[i]? ≠ some (.cells cs T fr)) → w'.heap[i]? = w.heap[i]? := fun i hi hc => k.other i hi fun hig => by
    subst hig
    obtain ⟨cs, fr, ho⟩ := k.cel _ (Array.getElem?_eq_getElem hi)
    exact hc cs fr (by rw [Array.getElem?_eq_getElem hi, ho])
  obtain ⟨⟨h1, h2, h3, h4, h5, h6⟩, h7, h8, c0, h9, h10⟩ := id hh
  refine IterS.other hh k.size (nc b h2 fun cs fr hc => by rw [h5] at hc; cases hc) (nc it h8 fun cs fr hc => by rw [h9] at hc; cases hc) fun i cur fr _ hi hc => nc i hi fun cs fr' hc' => ?_
  rw [hc] at hc'; injection hc' with hc'; injection hc' with _ h11 _; exact h h11
/-- What comes out of a step. -/
def outV (vs : List Value) (G : Grp) : Option Nat → Value
  | none => .tuple #[.bool false]
  | some j => .tuple #[.bool true, aggV (keyV (G.getD j default).1), vs.getD j undef]
def seenO (seen : List Nat) : Option Nat → List Nat
  | none => seen
  | some j => seen ++ [j]
theorem entsF_mem {G : Grp} {vs : List Value} {x : MapEntry} (h : vs.length = G.length) (hx : x ∈ entsF G vs 0) : x.born < G.length ∧ x.key = aggV (keyV (G.getD x.born default).1) ∧ x.val = vs.getD x.born undef := by
  obtain ⟨j, hj⟩ := List.getElem?_of_mem hx
  have hlt : j < G.length := by have := (List.getElem?_eq_some_iff.1 hj).1; rwa [entsF_length h] at this
  obtain ⟨v, hv, he⟩ := entsF_get (s := 0) h hlt
  rw [hj] at he
  injection he with he
  subst he
  simp [hlt, List.getD_eq_getElem?_getD, hv]
section
variable {P : Program} {n B : Nat} {ops : Array Oper} {E : Env} {ty : TypeId} {pos : String} {after : Array Edge}
theorem eff_range {mt kt et : TypeId} {x : Operand} {dst s b e : Nat} {vs : List Value} {G : Grp} (T : MapTy P mt kt et) (hx : E.at x = some (.v (.map (some b)))) (hs : E.look s = some (mapM B e b vs G)) (hdst : dst < n) (hnv : n ≤ vbase) (hsv : vbase ≤ s) :
    EffG P n B ops ⟨some dst, .range mt x, ty, pos, after, none⟩ E (NewB B E) (fun it => (dst, .v (.pointer (some ⟨it, 0, none⟩))) :: ([(s, iterM B e b it vs G [])] ++ E)) := by
  intro κ a w K Q h hK
  have hxe : a.eval x = _ := h.at_ x _ hx
  have hms := h.of s _ hs
  obtain ⟨h1, h2, h3, h4, h5, h6⟩ := id hms
  have hr := run_range_map (P := P) w mt kt et b _ _ T.ty h5
  have hexec : (execOp a.eval ⟨some dst, .range mt x, ty, pos, after, none⟩).run P w = .ok (.value (.pointer (some ⟨w.heap.size, 0, none⟩))) (w.alloc (.mapIter (some b) G.length #[] G.length)) := by
    simp [execOp, hxe, hr]
  rw [if_pos (by simp [Region.wanted])]
  refine opR (by nofun) ?_
  unfold Oper.wp
  rw [hexec, Oper.upon_value]
  have hg : Below B w (w.alloc (.mapIter (some b) G.length #[] G.length)) := (Below.refl B w).alloc h.base _
  refine hK w.heap.size _ _ ⟨h.base, fun s' b' e' ys hs' => (h.of s' _ hs').1⟩ hg (St.put (St.pushes (h.grow (Grow.alloc w _)) hnv _ fun q hq => ?_) hdst rfl)
  rw [List.mem_singleton.1 hq]
  have hgr : D.Of (mapM B e b vs G) (w.alloc (.mapIter (some b) G.length #[] G.length)) undef := D.Of.grow (d := mapM B e b vs G) (x := undef) hms (Grow.alloc w _)
  exact ⟨hsv, hgr, h.base, by simp, G.length, heap_alloc_new w _, Nat.le_refl _, fun _ => rfl⟩
theorem eff_next {x : Operand} {dst s b it lo e : Nat} {vs : List Value} {G : Grp} {seen : List Nat} {E' : Env} (hx : E.at x = some (.v (.pointer (some ⟨it, 0, none⟩)))) (hs : E.look s = some (iterM lo e b it vs G seen)) (hlo : B ≤ lo) (hdst : dst < n) (hnv : n ≤ vbase) (hsv : vbase ≤ s) (hl : LeftO it E' E) :
    EffG P n B ops ⟨some dst, .next x false, ty, pos, after, none⟩ E (fun c : Option Nat => match c with | none => ∀ j, j < G.length → j ∈ seen | some j => j < G.length ∧ j ∉ seen) (fun c => (dst, .v (outV vs G c)) :: ([(s, iterM lo e b it vs G (seenO seen c))] ++ E')) := by
  intro κ a w K Q h hK
  have hxe : a.eval x = _ := h.at_ x _ hx
  have hit := h.of s _ hs
  obtain ⟨⟨h1, h2, h3, h4, h5, h6⟩, h7, h8, c0, h9, h10, _⟩ := id hit
  have hold : ∀ y ∈ (entsF G vs 0).toArray.toList, y.born < G.length := fun y hy => by have := entsF_born y (by simpa using hy); omega
  have hc : ∀ cs e' fr, w.heap[it]? ≠ some (.cells cs e' fr) := fun _ _ _ hh => by rw [h9] at hh; cases hh
  have hbi : b ≠ it := fun hb => by subst hb; rw [h5] at h9; cases h9
  rw [if_pos (by simp [Region.wanted])]
  refine opR (by nofun) ?_
  unfold Oper.wp
  rcases run_next_at (P := P) w ty it b G.length c0 seen.toArray _ G.length h9 h5 hold h10 with ⟨hz, hr⟩ | ⟨y, hy, w1, hw1, hr⟩
  · have hexec : (execOp a.eval ⟨some dst, .next x false, ty, pos, after, none⟩).run P w = .ok (.value (.tuple #[.bool false])) w := by simp [execOp, hxe, hr]
    rw [hexec, Oper.upon_value]
    have hwr : WroteO it w w := ⟨rfl, rfl, rfl, Nat.le_refl _, hc, fun _ _ _ => rfl⟩
    refine hK none _ _ (fun j hj => ?_) (Below.refl _ _) (St.put (St.pushes (hl.st h hwr) hnv _ fun q hq => by rw [List.mem_singleton.1 hq]; exact ⟨hsv, hit⟩) hdst rfl)
    obtain ⟨v, hv, he⟩ := entsF_get (s := 0) h3 hj
    have hem : leftOf (entsF G vs 0).toArray seen.toArray = #[] := Array.eq_empty_of_size_eq_zero hz
    unfold leftOf at hem
    rw [Array.filter_eq_empty_iff] at hem
    have := hem _ (by simpa using List.mem_of_getElem? he)
    simpa using this
  · have hexec : (execOp a.eval ⟨some dst, .next x false, ty, pos, after, none⟩).run P w = .ok (.value (.tuple #[.bool true, y.key, y.val])) (setBlock w1 it (.mapIter (some b) G.length (seen.toArray.push y.born) G.length)) := by simp [execOp, hxe, hr]
    rw [hexec, Oper.upon_value]
    have hheap : w1.heap = w.heap := by rcases hw1 with rfl | rfl <;> rfl
    have hwr : WroteO it w (setBlock w1 it (.mapIter (some b) G.length (seen.toArray.push y.born) G.length)) :=
      ⟨by rcases hw1 with rfl | rfl <;> rfl, by rcases hw1 with rfl | rfl <;> rfl, by rcases hw1 with rfl | rfl <;> rfl, by simp [setBlock, hheap], hc, fun k hk hne => by rw [setBlock_ne hne, hheap]⟩
    obtain ⟨hmem, hns⟩ : y ∈ entsF G vs 0 ∧ y.born ∉ seen := by
      unfold leftOf at hy
      simp at hy
      exact hy
    obtain ⟨hb1, hb2, hb3⟩ := entsF_mem h3 hmem
    refine hK (some y.born) _ _ ⟨hb1, hns⟩ (hwr.under (Nat.le_trans hlo h7) h.base) (St.put (St.pushes (hl.st h hwr) hnv _ fun q hq => ?_) hdst (by rw [hb2, hb3]; rfl))
    rw [List.mem_singleton.1 hq]
    have hmap : MapS lo e b vs G _ (setBlock w1 it (.mapIter (some b) G.length (seen.toArray.push y.born) G.length)) := MapS.other ⟨h1, h2, h3, h4, h5, h6⟩ hwr.size (hwr.other b h2 hbi) fun g cur fr _ hg hh => hwr.other g hg fun hgi => by subst hgi; exact hc _ _ _ hh
    refine ⟨hsv, hmap, h7, Nat.lt_of_lt_of_le h8 hwr.size, G.length, ?_, Nat.le_refl _, fun _ => rfl⟩
    rw [setBlock_at (by rw [hheap]; exact h8)]
    simp [seenO]
end
section
variable {P : Program} {B : Nat} {E : Env} {dst : Option Tmp} {ty : TypeId} {pos : String} {after : Array Edge} {guard : Option (Nat × Bool)}
theorem ok_entry {x : Operand} {s b it lo e j : Nat} {vs : List Value} {G : Grp} {seen : List Nat} (hsv : vbase ≤ s) (hx : E.at x = some (.v (.pointer (some ⟨it, 0, none⟩)))) (hs : E.look s = some (iterM lo e b it vs G (seen ++ [j]))) (hj : j < G.length) :
    OpOk P B ⟨dst, .entry x, ty, pos, after, guard⟩ E (.v (.tuple #[aggV (keyV (G.getD j default).1), vs.getD j undef])) := fun ρ w _ hv hρ => by
  have hxe : ρ x = _ := hρ x (by simp [Op.operands]) _ hx
  obtain ⟨⟨h1, h2, h3, h4, h5, h6⟩, h7, h8, c0, h9, h10, h11⟩ := hv s _ hsv hs
  obtain ⟨v, hv', he⟩ := entsF_get (s := 0) h3 hj
  have hc := h11 (by simp)
  subst hc
  have hr := run_entry_at (P := P) w it b G.length seen.toArray (entsF G vs 0).toArray G.length ({ key := aggV (keyV G[j].1), val := v, born := 0 + j } : MapEntry) (by rw [h9]; simp) h5 (by simpa using List.mem_of_getElem? he) (by simpa using entsF_nodup)
  refine out_val (w' := w) ?_ ⟨Grow.refl w, rfl⟩
  simp only [execOp, hxe, Sem.run_bind, hr, Result.andThen_ok, Sem.run_pure]
  simp [List.getD_eq_getElem?_getD, hv', List.getElem?_eq_getElem hj]
theorem ok_lenI {t et : TypeId} {x : Operand} {s b it lo e j : Nat} {v : Value} {L : List Nat} {vs : List Value} {G : Grp} {seen : List Nat} (hsv : vbase ≤ s) (ht : P.underlying t = some (.slice et)) (hx : E.at x = some (.v v)) (hs : E.look s = some (iterM lo e b it vs G seen)) (hv : vs[j]? = some v) (hL : (G.map (·.2))[j]? = some L) :
    OpOk P B ⟨dst, .call { callee := .builtin .len, args := #[x], argTypes := #[t] }, ty, pos, after, guard⟩ E (.v (.int .i64 (L.length : Int))) := fun ρ w _ hv' hρ => by
  have hxe : ρ x = _ := hρ x (by simp [Op.operands, Call.operands]) _ hx
  obtain ⟨⟨h1, h2, h3, h4, h5, h6⟩, _⟩ := hv' s _ hsv hs
  obtain ⟨⟨_, h7⟩, _⟩ := h6.1 j v L hv hL
  rcases h7 with ⟨h8, h9⟩ | ⟨g, cap, cur, h8, _⟩
  · subst h8
    exact out_val (w' := w) (by simp [execOp, resolve, invoke, builtin, Builtin.len_, run_underlying ht, hxe, goInt, h9]) ⟨Grow.refl w, rfl⟩
  · subst h8
    exact out_val (w' := w) (by simp [execOp, resolve, invoke, builtin, Builtin.len_, run_underlying ht, hxe, goInt]) ⟨Grow.refl w, rfl⟩
end
/-- What a call does that sorts the list L, which stands in block g, by the first counters. -/
def SortsTo (P : Program) (f : FuncId) (us : List Us) (e : TypeId) (fv : Value) (lo : Nat) (w : World) : Prop := ∀ (g cap : Nat) (cur : Array Value) (L : List Nat), (∀ x ∈ L, x < us.length) → L ≠ [] → lo ≤ g → g < w.heap.size → w.heap[g]? = some (.cells cur e (0, 0)) → cur.toList.take L.length = natR L → L.length < 4611686018427387904 →
  Calls P f #[.slice (some ⟨g, 0, none⟩) L.length cap, fv] w fun en w' => en = .returned (.tuple #[]) ∧ ∃ (L' : List Nat) (cur' : Array Value), L'.Perm L ∧ Sorted us L' ∧ cur'.size = cur.size ∧ cur'.toList.take L.length = natR L' ∧ w'.heap[g]? = some (.cells cur' e (0, 0)) ∧
    (∀ k, k < w.heap.size → k ≠ g → w'.heap[k]? = w.heap[k]?) ∧ w'.os = w.os ∧ w'.tape = w.tape ∧ w'.output = w.output ∧ w.heap.size ≤ w'.heap.size
section
variable {P : Program} {n B : Nat} {ops : Array Oper} {E : Env} {ty : TypeId} {pos : String} {after : Array Edge}
theorem eff_sortI {f : FuncId} {x y : Operand} {argTypes : Array TypeId} {us : List Us} {fv v : Value} {k : Key} {L : List Nat} {dst s b it e j : Nat} {vs : List Value} {G : Grp} {seen : List Nat} {E' : Env} (hb : HasBody P f) (hx : E.at x = some (.v v)) (hy : E.at y = some (.v fv)) (hs : E.look s = some (iterM B e b it vs G seen)) (hv : vs[j]? = some v) (hL : G[j]? = some (k, L))
    (hsort : ∀ (κ : Cx) (a : Act) (w : World), St κ n B E a w → SortsTo P f us e fv B w) (hlt : ∀ z ∈ L, z < us.length) (hne : L ≠ []) (hbig : L.length < 4611686018427387904) (hdst : dst < n) (hnv : n ≤ vbase) (hsv : vbase ≤ s) (hl : ∀ g, B ≤ g → LeftS B e g E' E) :
    EffG P n B ops ⟨some dst, .call { callee := .value (.func f), args := #[x, y], argTypes := argTypes }, ty, pos, after, none⟩ E (fun L' : List Nat => L'.Perm L ∧ Sorted us L') (fun L' => (dst, .v (.tuple #[])) :: ([(s, iterM B e b it vs (G.set j (k, L')) seen)] ++ E')) := by
  intro κ a w K Q h hK
  obtain ⟨fn, h1, h2, h3⟩ := hb
  have hfun : a.eval (.func f) = .func (.func f) #[] #[] := h.at_ (.func f) _ rfl
  have hxe : a.eval x = v := h.at_ x _ hx
  have hye : a.eval y = fv := h.at_ y _ hy
  obtain ⟨⟨m1, m2, m3, m4, m5, m6⟩, m7, m8, c0, m9, m10⟩ := h.of s _ hs
  have hL2 : (G.map (·.2))[j]? = some L := by rw [List.getElem?_map, hL]; rfl
  obtain ⟨⟨hlen, hrow⟩, hvb⟩ := m6.1 j v L hv hL2
  have hrun : (execOp a.eval ⟨some dst, .call { callee := .value (.func f), args := #[x, y], argTypes := argTypes }, ty, pos, after, none⟩).run P w = .ok (.enter f #[v, fv]) w := by
    have h2' : ¬ fn.name = "runtime.NumGoroutine" := by simpa using h2
    have h3' : ¬ fn.body = none := by intro h; rw [h] at h3; cases h3
    simp [execOp, resolve, Deferred.ofValue, hfun, invoke, callFunc, h1, h2', h3', hxe, hye]
  rcases hrow with ⟨_, h0⟩ | ⟨g, cap, cur, hve, hBg, hh, hle, hcm, hsz, htk⟩
  · exact absurd (List.length_eq_zero_iff.1 h0) hne
  have hg : g < w.heap.size := hvb g (by rw [hve]; rfl)
  rw [Nat.mul_one] at htk
  rw [if_pos (by simp [Region.wanted])]
  refine opR (by nofun) ?_
  unfold Oper.wp
  rw [hrun, Oper.upon_enter, hve]
  refine Calls.mono (hsort κ a w h g cap cur L hlt hne hBg hg hh htk hbig) ?_
  rintro en w' ⟨rfl, L', cur', hp, hso, hsz', htk', hh', hoth, ho1, ho2, ho3, ho4⟩
  have hwr : Wrote B e g w w' := ⟨hBg, ho1, ho2, ho3, ho4, fun o ho => by rw [hh] at ho; injection ho with ho; exact ⟨_, _, ho.symm⟩, hoth⟩
  refine hK L' _ _ ⟨hp, hso⟩ (hwr.below h.base) (St.put (St.pushes ((hl g hBg).st h hwr) hnv _ fun q hq => ?_) hdst rfl)
  rw [List.mem_singleton.1 hq]
  have hjl : j < G.length := (List.getElem?_eq_some_iff.1 hL).1
  have hkeys : (G.set j (k, L')).map (·.1) = G.map (·.1) := by
    rw [List.map_set]
    apply List.ext_getElem?
    intro i
    rw [List.getElem?_set]
    split
    · rename_i hi; subst hi
      rw [List.length_map, if_pos hjl, List.getElem?_map, hL]; rfl
    · rfl
  have hbg : b ≠ g := fun hb => by subst hb; rw [m5] at hh; cases hh
  have hig : it ≠ g := fun hb => by subst hb; rw [m9] at hh; cases hh
  refine ⟨hsv, ⟨m1, Nat.lt_of_lt_of_le m2 ho4, by simp [m3], fun p hp' => ?_, ?_, ?_⟩, m7, Nat.lt_of_lt_of_le m8 ho4, c0, ?_, by simpa using m10⟩
  · have hp' : p.1 ∈ (G.set j (k, L')).map (·.1) := List.mem_map_of_mem hp'
    rw [hkeys] at hp'
    obtain ⟨q', hq', he⟩ := List.mem_map.1 hp'
    rw [← he]; exact m4 q' hq'
  · rw [entsF_keys hkeys, List.length_set, hoth b m2 hbg]; exact m5
  · have hmap : (G.set j (k, L')).map (·.2) = (G.map (·.2)).set j L' := by rw [List.map_set]
    rw [hmap]
    have hll : L'.length = L.length := hp.length_eq
    refine ⟨fun i u M hu hM => ?_, m6.2⟩
    rcases set_get hM with ⟨hij, hM1, _⟩ | ⟨hij, hM1⟩
    · subst hij
      rw [hv] at hu; injection hu with hu; subst hu
      rw [hM1, hve]
      exact ⟨⟨by simp [natR], .inr ⟨g, cap, cur', by rw [hll], hBg, hh', by rw [hll]; exact hle, hcm, by rw [hsz']; exact hsz, by rw [Nat.mul_one, hll]; exact htk'⟩⟩, fun g' hg' => by simp [Value.ownBlock] at hg'; subst hg'; omega⟩
    · obtain ⟨h7, h8⟩ := m6.1 i u M hu hM1
      refine ⟨ownsRow_other h7 fun g' _ _ hg' _ _ => hoth g' (h8 g' hg') fun he => hij ?_, fun g' hg' => Nat.lt_of_lt_of_le (h8 g' hg') ho4⟩
      exact m6.2 i j u v g' hu hv hg' (by rw [hve, he]; rfl)
  · rw [hoth it m8 hig, List.length_set]; exact m9
end
/-! ### Small facts -/
theorem SurvO.fresh {b base m : Nat} {e : TypeId} {xs : List Value} : SurvO b (Go.Proofs.YtffiflfjlemggaaGreatDoor.fresh base e xs m) := fun w w' x k ⟨g, h1, h2, h3, h4⟩ => ⟨g, h1, h2, Nat.lt_of_lt_of_le h3 k.size, (k.other g h3 fun hb => by subst hb; exact k.obj _ _ _ h4).trans h4⟩
theorem Surv.mapM {B T g lo : Nat} {e : TypeId} {b : Nat} {vs : List Value} {G : Grp} (h : e ≠ T) : Surv B T g (Go.Proofs.YtffiflfjlemggaaGreatDoor.mapM lo e b vs G) := fun w w' x k hh => by
  have nc : ∀ i, i < w.heap.size → (∀ cs fr, w.heap[i]? ≠ some (.cells cs T fr)) → w'.heap[i]? = w.heap[i]? := fun i hi hc => k.other i hi fun hig => by
    subst hig
    obtain ⟨cs, fr, ho⟩ := k.cel _ (Array.getElem?_eq_getElem hi)
    exact hc cs fr (by rw [Array.getElem?_eq_getElem hi, ho])
  obtain ⟨h1, h2, h3, h4, h5, h6⟩ := id hh
  refine MapS.other hh k.size (nc b h2 fun cs fr hc => by rw [h5] at hc; cases hc) fun i cur fr _ hi hc => nc i hi fun cs fr' hc' => ?_
  rw [hc] at hc'; injection hc' with hc'; injection hc' with _ h11 _; exact h h11
theorem ok_outB {P : Program} {B : Nat} {E : Env} {dst : Option Tmp} {ty : TypeId} {pos : String} {after : Array Edge} {guard : Option (Nat × Bool)} {x : Operand} {vs : List Value} {G : Grp} {c : Option Nat} (hx : E.at x = some (.v (outV vs G c))) : OpOk P B ⟨dst, .extract x 0, ty, pos, after, guard⟩ E (.v (.bool c.isSome)) := by
  cases c with
  | none => exact ok_extractV (xs := [_]) hx rfl
  | some j => exact ok_extractV (xs := [_, _, _]) hx rfl
theorem ownsRow_rowX {w : World} {lo n : Nat} {e : TypeId} {v : Value} {xs : List Value} {B : Nat} (h : w.ownsRow lo e 1 v n xs) (hb : ∀ g, v.ownBlock = some g → g < B) : ∃ A q, v = .slice A n q ∧ RowX lo e B w A xs := by
  obtain ⟨hl, h2⟩ := h
  rcases h2 with ⟨rfl, rfl⟩ | ⟨g, cap, cur, rfl, hg, hh, _, _, _, htk⟩
  · refine ⟨none, 0, rfl, fun j u hu => ?_⟩
    have : xs = [] := List.length_eq_zero_iff.1 (by omega)
    subst this; cases hu
  · refine ⟨_, _, rfl, fun j u hu => ⟨_, rfl, hg, hb g rfl, ⟨cur, _, hh⟩, ?_⟩⟩
    rw [show (⟨g, 0, none⟩ : Addr).add j = ⟨g, j, none⟩ from by unfold Addr.add; split <;> simp_all]
    rw [← htk, List.getElem?_take] at hu
    split at hu
    · simp [World.cell?, hh]; simpa using hu
    · cases hu
theorem vs_at {vs : List Value} {m j : Nat} (hl : vs.length = m) (hj : j < m) : vs[j]? = some (vs.getD j undef) := by
  rw [List.getD_eq_getElem?_getD, List.getElem?_eq_getElem (by omega)]; rfl
theorem G_at {G : Grp} {j : Nat} (hj : j < G.length) : G[j]? = some ((G.getD j default).1, (G.getD j default).2) := by
  rw [List.getD_eq_getElem?_getD, List.getElem?_eq_getElem hj]; rfl
theorem G_at2 {G : Grp} {j : Nat} (hj : j < G.length) : (G.map (·.2))[j]? = some (G.getD j default).2 := by rw [List.getElem?_map, G_at hj]; rfl
section
variable {P : Program} {n : Nat} {w₀ : World} {E : Env}
/-- The lists that were picked are what Lists says. -/
theorem End.parts {fn : Func} {us : List Us} {r k b it : Nat} {eL eI : TypeId} {vs : List Value} {G : Grp} {seen sel : List Nat} (hr : fn.results = #[.tmp r]) (h1 : E.look r = some (own w₀.heap.size eL sel.length (sel.map fun j => vs.getD j undef))) (h2 : E.look k = some (iterM w₀.heap.size eI b it vs G seen))
    (hj : ∀ j ∈ sel, j < G.length) (hL : Lists us (sel.map fun j => (G.getD j default).2)) (hn : sel.length ≤ us.length) : End Cx.top w₀ n E (BP P fn (PostOf w₀ (partsD us eL eI w₀.heap.size)) .ret) := fun a w gr hs => by
  obtain ⟨ho, hob⟩ := hs.of r _ h1
  obtain ⟨⟨_, _, m3, _, _, m6⟩, _⟩ := hs.of k _ h2
  obtain ⟨A, q, hv, hrow⟩ := ownsRow_rowX ho hob
  refine BP.ret hs.defers ⟨a.tmps.getD r undef, by simp [results, hr], _, rfl, gr, _, sel.map fun j => vs.getD j undef, A, q, hL, by simp, by simpa using hn, by simpa using hv, hrow, fun i v L hv' hL' => ?_⟩
  rw [List.getElem?_map] at hv' hL'
  cases hs' : sel[i]? with
  | none => rw [hs'] at hv'; cases hv'
  | some j =>
    rw [hs'] at hv' hL'
    injection hv' with hv'; injection hL' with hL'
    subst hv'; subst hL'
    have hjl := hj j (List.mem_of_getElem? hs')
    obtain ⟨h3, h4⟩ := m6.1 j _ _ (vs_at m3 hjl) (G_at2 hjl)
    exact ownsRow_rowX h3 h4
end
end Go.Proofs.YtffiflfjlemggaaGreatDoor
namespace Go.Proofs.YtffiflfjlemggaaGreatDoor
open Go Go.RowKit
set_option linter.unusedVariables false
set_option linter.unusedSimpArgs false
def addG (k : Key) (x : Nat) : Grp → Grp
  | [] => [(k, [x])]
  | p :: G => if k = p.1 then (k, p.2 ++ [x]) :: G else p :: addG k x G
/-- The list that key k has. -/
def lstG (k : Key) (G : Grp) : List Nat := ((entG k G).getD (idxG k G) default).2
theorem entG_cons {k : Key} {p : Key × List Nat} {G : Grp} (h : ¬ k = p.1) : entG k (p :: G) = p :: entG k G ∧ idxG k (p :: G) = idxG k G + 1 := by
  have hi : idxG k (p :: G) = idxG k G + 1 := by simp [idxG, h]
  refine ⟨?_, hi⟩
  unfold entG
  rw [hi]
  by_cases hl : idxG k G < G.length
  · rw [if_pos hl, if_pos (by simpa using hl)]
  · rw [if_neg hl, if_neg (by simpa using hl)]; rfl
theorem step_add (k : Key) (x : Nat) : ∀ G : Grp, (entG k G).set (idxG k G) (k, lstG k G ++ [x]) = addG k x G
  | [] => by simp [entG, idxG, lstG, addG]
  | p :: G => by
    by_cases h : k = p.1
    · subst h; simp [entG, idxG, lstG, addG]
    · obtain ⟨h1, h2⟩ := entG_cons (G := G) h
      have h3 : lstG k (p :: G) = lstG k G := by unfold lstG; rw [h1, h2]; simp
      rw [h1, h2, h3, List.set_cons_succ, step_add k x G]
      simp [addG, h]
theorem lstG_at (k : Key) (G : Grp) : (entG k G)[idxG k G]? = some (k, lstG k G) := by
  obtain ⟨L, hL⟩ := entG_key k G
  rw [hL]; unfold lstG; rw [List.getD_eq_getElem?_getD, hL]; rfl
theorem lstG_at2 (k : Key) (G : Grp) : ((entG k G).map (·.2))[idxG k G]? = some (lstG k G) := by rw [List.getElem?_map, lstG_at]; rfl
def grp (us : List Us) : Nat → Grp
  | 0 => []
  | i + 1 => addG (stOf us[i]!) i (grp us i)
structure GrpOk (us : List Us) (i : Nat) (G : Grp) : Prop where
  keys : (G.map (·.1)).Nodup
  mem : ∀ p ∈ G, ∀ x ∈ p.2, x < i ∧ stOf us[x]! = p.1
  nodup : ∀ p ∈ G, p.2.Nodup
  all : ∀ x, x < i → ∃ p ∈ G, x ∈ p.2
  len : G.length ≤ i ∧ ∀ p ∈ G, p.2.length ≤ i
theorem mem_add {k : Key} {x : Nat} {p : Key × List Nat} : ∀ {G : Grp}, p ∈ addG k x G → p ∈ G ∨ p = (k, [x]) ∨ ∃ L, (k, L) ∈ G ∧ p = (k, L ++ [x])
  | [], h => by simp only [addG, List.mem_singleton] at h; exact .inr (.inl h)
  | q :: G, h => by
    unfold addG at h
    split at h
    · rename_i hk
      rcases List.mem_cons.1 h with h | h
      · exact .inr (.inr ⟨q.2, by rw [hk]; simp, h⟩)
      · exact .inl (List.mem_cons_of_mem _ h)
    · rcases List.mem_cons.1 h with h | h
      · exact .inl (by rw [h]; simp)
      · rcases mem_add h with h | h | ⟨L, h1, h2⟩
        · exact .inl (List.mem_cons_of_mem _ h)
        · exact .inr (.inl h)
        · exact .inr (.inr ⟨L, List.mem_cons_of_mem _ h1, h2⟩)
theorem keys_add (k : Key) (x : Nat) : ∀ G : Grp, (addG k x G).map (·.1) = if k ∈ G.map (·.1) then G.map (·.1) else G.map (·.1) ++ [k]
  | [] => by simp [addG]
  | q :: G => by
    unfold addG
    split
    · rename_i hk; simp [hk]
    · rename_i hk
      rw [List.map_cons, keys_add k x G, List.map_cons]
      by_cases h : k ∈ G.map (·.1)
      · rw [if_pos h, if_pos (List.mem_cons_of_mem _ h)]
      · rw [if_neg h, if_neg (by rw [List.mem_cons]; exact fun h' => h'.elim hk h)]; rfl
theorem add_old {k : Key} {x : Nat} : ∀ {G : Grp} {p : Key × List Nat}, p ∈ G → ∃ q ∈ addG k x G, q.1 = p.1 ∧ ∀ y ∈ p.2, y ∈ q.2
  | q :: G, p, h => by
    unfold addG
    split
    · rename_i hk
      rcases List.mem_cons.1 h with h | h
      · exact ⟨(k, q.2 ++ [x]), by simp, by rw [h, hk], fun y hy => by rw [h] at hy; simp [hy]⟩
      · exact ⟨p, List.mem_cons_of_mem _ h, rfl, fun _ h => h⟩
    · rcases List.mem_cons.1 h with h | h
      · exact ⟨q, by simp, by rw [h], fun y hy => by rw [← h]; exact hy⟩
      · obtain ⟨r, h1, h2⟩ := add_old (k := k) (x := x) h
        exact ⟨r, List.mem_cons_of_mem _ h1, h2⟩
theorem add_new {k : Key} {x : Nat} : ∀ {G : Grp}, ∃ q ∈ addG k x G, x ∈ q.2
  | [] => ⟨(k, [x]), by simp [addG], by simp⟩
  | q :: G => by
    unfold addG
    split
    · exact ⟨(k, q.2 ++ [x]), by simp, by simp⟩
    · obtain ⟨r, h1, h2⟩ := add_new (k := k) (x := x) (G := G)
      exact ⟨r, List.mem_cons_of_mem _ h1, h2⟩
theorem add_length {k : Key} {x : Nat} : ∀ G : Grp, (addG k x G).length ≤ G.length + 1
  | [] => by simp [addG]
  | q :: G => by
    unfold addG; split
    · simp
    · simp only [List.length_cons]; have := add_length (k := k) (x := x) G; omega
theorem GrpOk.step {us : List Us} {i : Nat} {G : Grp} (h : GrpOk us i G) : GrpOk us (i + 1) (addG (stOf us[i]!) i G) := by
  constructor
  · rw [keys_add]
    split
    · exact h.keys
    · rename_i hk
      exact List.nodup_append.2 ⟨h.keys, by simp, fun a ha b hb he => by rw [List.mem_singleton.1 hb] at he; exact hk (he ▸ ha)⟩
  · intro p hp x hx
    rcases mem_add hp with hp | rfl | ⟨L, hL, rfl⟩
    · obtain ⟨h1, h2⟩ := h.mem p hp x hx; exact ⟨by omega, h2⟩
    · rw [List.mem_singleton.1 hx]; exact ⟨by omega, rfl⟩
    · rcases List.mem_append.1 hx with hx | hx
      · obtain ⟨h1, h2⟩ := h.mem _ hL x hx; exact ⟨by omega, h2⟩
      · rw [List.mem_singleton.1 hx]; exact ⟨by omega, rfl⟩
  · intro p hp
    rcases mem_add hp with hp | rfl | ⟨L, hL, rfl⟩
    · exact h.nodup p hp
    · simp
    · refine List.nodup_append.2 ⟨h.nodup _ hL, by simp, fun a ha b hb he => ?_⟩
      have := (h.mem _ hL a ha).1
      rw [List.mem_singleton.1 hb] at he; omega
  · intro x hx
    rcases Nat.lt_or_ge x i with hx | hx
    · obtain ⟨p, hp, hxp⟩ := h.all x hx
      obtain ⟨q, hq, _, h2⟩ := add_old (k := stOf us[i]!) (x := i) hp
      exact ⟨q, hq, h2 x hxp⟩
    · rw [show x = i by omega]; exact add_new
  · refine ⟨by have := add_length (k := stOf us[i]!) (x := i) G; have := h.len.1; omega, fun p hp => ?_⟩
    rcases mem_add hp with hp | rfl | ⟨L, hL, rfl⟩
    · have := h.len.2 p hp; omega
    · simp
    · have := h.len.2 _ hL; simp; omega
theorem grp_ok (us : List Us) : ∀ i, GrpOk us i (grp us i)
  | 0 => ⟨by simp [grp], fun p hp => by simp [grp] at hp, fun p hp => by simp [grp] at hp, fun x hx => absurd hx (Nat.not_lt_zero _), by simp [grp], fun p hp => by simp [grp] at hp⟩
  | i + 1 => (grp_ok us i).step
/-- Going through the groups G₀: what has come out, and how the groups stand now. -/
structure Gone (us : List Us) (G₀ : Grp) (x : List Nat × Grp) : Prop where
  seen : x.1.Nodup
  lt : ∀ j ∈ x.1, j < G₀.length
  len : x.2.length = G₀.length
  same : ∀ (j : Nat) (p q : Key × List Nat), G₀[j]? = some p → x.2[j]? = some q → q.1 = p.1 ∧ q.2.Perm p.2 ∧ (j ∈ x.1 → 1 < p.2.length → Sorted us q.2)
def bigG (G₀ : Grp) (j : Nat) : Bool := decide (1 < (G₀.getD j default).2.length)
def selG (G₀ : Grp) (seen : List Nat) : List Nat := seen.filter (bigG G₀)
theorem Gone.start (us : List Us) (G₀ : Grp) : Gone us G₀ ([], G₀) := ⟨by simp, fun j hj => (by cases hj), rfl, fun j p q hp hq => by
  rw [hp] at hq; injection hq with hq; subst hq; exact ⟨rfl, List.Perm.refl _, fun hj => by cases hj⟩⟩
theorem Gone.pass {us : List Us} {G₀ : Grp} {x : List Nat × Grp} (h : Gone us G₀ x) {j : Nat} (hj : j < G₀.length) (hn : j ∉ x.1) (hb : bigG G₀ j = false) : Gone us G₀ (x.1 ++ [j], x.2) := by
  refine ⟨List.nodup_append.2 ⟨h.seen, by simp, fun a ha b hb he => hn (by rw [List.mem_singleton.1 hb] at he; exact he ▸ ha)⟩, fun i hi => ?_, h.len, fun i p q hp hq => ?_⟩
  · rcases List.mem_append.1 hi with hi | hi
    · exact h.lt i hi
    · rw [List.mem_singleton.1 hi]; exact hj
  · obtain ⟨h1, h2, h3⟩ := h.same i p q hp hq
    refine ⟨h1, h2, fun hi hl => ?_⟩
    rcases List.mem_append.1 hi with hi | hi
    · exact h3 hi hl
    · rw [List.mem_singleton.1 hi] at hp
      simp only [bigG, List.getD_eq_getElem?_getD, hp, Option.getD_some, decide_eq_false_iff_not] at hb
      exact absurd hl hb
theorem Gone.sort {us : List Us} {G₀ : Grp} {x : List Nat × Grp} (h : Gone us G₀ x) {j : Nat} {k : Key} {L L' : List Nat} (hn : j ∉ x.1) (hL : x.2[j]? = some (k, L)) (hp' : L'.Perm L) (hs : Sorted us L') : Gone us G₀ (x.1 ++ [j], x.2.set j (k, L')) := by
  have hj : j < G₀.length := by rw [← h.len]; exact (List.getElem?_eq_some_iff.1 hL).1
  refine ⟨List.nodup_append.2 ⟨h.seen, by simp, fun a ha b hb he => hn (by rw [List.mem_singleton.1 hb] at he; exact he ▸ ha)⟩, fun i hi => ?_, by simp [h.len], fun i p q hp hq => ?_⟩
  · rcases List.mem_append.1 hi with hi | hi
    · exact h.lt i hi
    · rw [List.mem_singleton.1 hi]; exact hj
  · simp only at hq
    rw [List.getElem?_set] at hq
    by_cases hji : j = i
    · subst hji
      rw [if_pos rfl] at hq
      split at hq
      · injection hq with hq; subst hq
        obtain ⟨h1, h2, _⟩ := h.same j p _ hp hL
        exact ⟨h1, hp'.trans h2, fun _ _ => hs⟩
      · cases hq
    · rw [if_neg hji] at hq
      obtain ⟨h1, h2, h3⟩ := h.same i p q hp hq
      refine ⟨h1, h2, fun hi hl => h3 ?_ hl⟩
      rcases List.mem_append.1 hi with hi | hi
      · exact hi
      · exact absurd (List.mem_singleton.1 hi).symm hji
theorem Gone.lists {us : List Us} {x : List Nat × Grp} (h : Gone us (grp us us.length) x) (hall : ∀ j, j < (grp us us.length).length → j ∈ x.1) : Lists us ((selG (grp us us.length) x.1).map fun j => (x.2.getD j default).2) := by
  have ok := grp_ok us us.length
  have key : ∀ L ∈ (selG (grp us us.length) x.1).map (fun j => (x.2.getD j default).2), ∃ p ∈ grp us us.length, L.Perm p.2 ∧ Sorted us L := fun L hL => by
    obtain ⟨j, hj, rfl⟩ := List.mem_map.1 hL
    obtain ⟨hj1, hj2⟩ := List.mem_filter.1 hj
    have hlt := h.lt j hj1
    have hlt2 : j < x.2.length := by rw [h.len]; exact hlt
    obtain ⟨h1, h2, h3⟩ := h.same j _ _ (List.getElem?_eq_getElem hlt) (List.getElem?_eq_getElem hlt2)
    simp only [bigG, List.getD_eq_getElem?_getD, List.getElem?_eq_getElem hlt, Option.getD_some, decide_eq_true_eq] at hj2
    simp only [List.getD_eq_getElem?_getD, List.getElem?_eq_getElem hlt2, Option.getD_some]
    exact ⟨_, List.getElem_mem hlt, h2, h3 hj1 hj2⟩
  refine ⟨fun L hL => (key L hL).choose_spec.2.2, fun L hL y hy => ?_, fun L hL => ?_, fun L hL y hy z hz => ?_, fun y z hyz hz hst => ?_⟩
  · obtain ⟨p, hp, h1, _⟩ := key L hL
    exact (ok.mem p hp y (h1.subset hy)).1
  · obtain ⟨p, hp, h1, _⟩ := key L hL
    exact h1.nodup_iff.2 (ok.nodup p hp)
  · obtain ⟨p, hp, h1, _⟩ := key L hL
    rw [(ok.mem p hp y (h1.subset hy)).2, (ok.mem p hp z (h1.subset hz)).2]
  · obtain ⟨p, hp, hyp⟩ := ok.all y (by omega)
    obtain ⟨q, hq, hzq⟩ := ok.all z hz
    have hkk : p.1 = q.1 := by rw [← (ok.mem p hp y hyp).2, ← (ok.mem q hq z hzq).2, hst]
    obtain ⟨j, hj, hjp⟩ := List.getElem_of_mem hp
    obtain ⟨i, hi, hiq⟩ := List.getElem_of_mem hq
    have hij : j = i := (List.getElem_inj (i := j) (j := i) (h₀ := by simpa using hj) (h₁ := by simpa using hi) ok.keys).1 (by simp [hjp, hiq, hkk])
    subst hij
    have hpq : p = q := by rw [← hjp, ← hiq]
    subst hpq
    have hlt2 : j < x.2.length := by rw [h.len]; exact hj
    obtain ⟨_, h2, _⟩ := h.same j _ _ (List.getElem?_eq_getElem hj) (List.getElem?_eq_getElem hlt2)
    rw [hjp] at h2
    refine ⟨_, List.mem_map.2 ⟨j, List.mem_filter.2 ⟨hall j hj, ?_⟩, rfl⟩, ?_, ?_⟩
    · simp only [bigG, List.getD_eq_getElem?_getD, List.getElem?_eq_getElem hj, Option.getD_some, decide_eq_true_eq, hjp]
      rcases hL : p.2 with _ | ⟨a, _ | ⟨b, r⟩⟩
      · rw [hL] at hyp; cases hyp
      · rw [hL] at hyp hzq
        have h3 := List.mem_singleton.1 hyp
        have h4 := List.mem_singleton.1 hzq
        omega
      · simp
    · simp only [List.getD_eq_getElem?_getD, List.getElem?_eq_getElem hlt2, Option.getD_some]; exact h2.mem_iff.2 hyp
    · simp only [List.getD_eq_getElem?_getD, List.getElem?_eq_getElem hlt2, Option.getD_some]; exact h2.mem_iff.2 hzq
theorem nodup_le {l : List Nat} {m : Nat} (h : l.Nodup) (k : ∀ j ∈ l, j < m) : l.length ≤ m := by
  have := h.length_le_of_subset (l₂ := List.range m) (fun j hj => List.mem_range.2 (k j hj))
  simpa using this
theorem Gone.less {us : List Us} {G₀ : Grp} {x : List Nat × Grp} (h : Gone us G₀ x) {j : Nat} (hj : j < G₀.length) (hn : j ∉ x.1) : G₀.length - (x.1 ++ [j]).length < G₀.length - x.1.length := by
  have h1 : (x.1 ++ [j]).length ≤ G₀.length := nodup_le (List.nodup_append.2 ⟨h.seen, by simp, fun a ha b hb he => hn (by rw [List.mem_singleton.1 hb] at he; exact he ▸ ha)⟩) (fun i hi => by
    rcases List.mem_append.1 hi with hi | hi
    · exact h.lt i hi
    · rw [List.mem_singleton.1 hi]; exact hj)
  simp only [List.length_append, List.length_cons, List.length_nil] at h1 ⊢; omega
theorem Gone.sel_lt {us : List Us} {G₀ : Grp} {x : List Nat × Grp} (h : Gone us G₀ x) {j : Nat} (hj : j < G₀.length) (hn : j ∉ x.1) : (selG G₀ x.1).length < G₀.length := by
  have h1 := h.less hj hn
  have h2 : (selG G₀ x.1).length ≤ x.1.length := List.length_filter_le _ _
  simp only [List.length_append, List.length_cons, List.length_nil] at h1; omega
theorem Gone.big {us : List Us} {G₀ : Grp} {x : List Nat × Grp} (h : Gone us G₀ x) {j : Nat} (hj : j < G₀.length) : decide ((1 : Int) < (((x.2.getD j default).2.length : Nat) : Int)) = bigG G₀ j := by
  have hlt2 : j < x.2.length := by rw [h.len]; exact hj
  have h2 := (h.same j _ _ (List.getElem?_eq_getElem hj) (List.getElem?_eq_getElem hlt2)).2.1.length_eq
  unfold bigG
  rw [List.getD_eq_getElem?_getD, List.getD_eq_getElem?_getD, List.getElem?_eq_getElem hj, List.getElem?_eq_getElem hlt2]
  simp only [Option.getD_some, h2]
  exact decide_eq_decide.2 (by omega)
theorem selG_le {us : List Us} {G₀ : Grp} {x : List Nat × Grp} (h : Gone us G₀ x) : (selG G₀ x.1).length ≤ G₀.length := Nat.le_trans (List.length_filter_le _ _) (nodup_le h.seen h.lt)
theorem selG_yes {G₀ : Grp} {seen : List Nat} {j : Nat} (h : bigG G₀ j = true) : selG G₀ (seen ++ [j]) = selG G₀ seen ++ [j] := by simp [selG, List.filter_append, h]
theorem selG_no {G₀ : Grp} {seen : List Nat} {j : Nat} (h : bigG G₀ j = false) : selG G₀ (seen ++ [j]) = selG G₀ seen := by simp [selG, List.filter_append, h]
theorem Gone.members {us : List Us} {i : Nat} {G₀ : Grp} (ok : GrpOk us i G₀) {x : List Nat × Grp} (h : Gone us G₀ x) {j : Nat} (hj : j < G₀.length) : (∀ z ∈ (x.2.getD j default).2, z < i) ∧ (x.2.getD j default).2.length ≤ i := by
  have hlt2 : j < x.2.length := by rw [h.len]; exact hj
  have h2 := (h.same j _ _ (List.getElem?_eq_getElem hj) (List.getElem?_eq_getElem hlt2)).2.1
  rw [List.getD_eq_getElem?_getD, List.getElem?_eq_getElem hlt2]
  simp only [Option.getD_some]
  exact ⟨fun z hz => (ok.mem _ (List.getElem_mem hj) z (h2.subset hz)).1, by rw [h2.length_eq]; exact ok.len.2 _ (List.getElem_mem hj)⟩
end Go.Proofs.YtffiflfjlemggaaGreatDoor
namespace Go.Proofs.YtffiflfjlemggaaGreatDoor
open Go Go.RowKit Go.Sort
set_option linter.unusedVariables false
set_option maxRecDepth 20000
set_option linter.unusedSimpArgs false
theorem isNaN_u32 (a : Int) (w : World) : Calls Tryz.prog 124 #[.int .u32 a] w fun e w' => e = .returned (.bool false) ∧ w = w' := by
 go_enter Tryz.func124, Tryz.ntmps124
 go_wp2
 go_ret
 exact ⟨rfl, rfl⟩
def cmpI (a b : Int) : Int := if a < b then -1 else if b < a then 1 else 0
set_option maxHeartbeats 1000000 in
theorem cmp_u32 (a b : Int) (w : World) : Calls Tryz.prog 116 #[.int .u32 a, .int .u32 b] w fun e w' => e = .returned (.int .i64 (cmpI a b)) ∧ w' = w := by
 unfold cmpI
 by_cases h1 : a < b
 ·rw [if_pos h1]
  have H1 : decide (a < b) = true := by simpa using h1
  go_enter Tryz.func116, Tryz.ntmps116
  go_wp2_with (go_at_call 124; refine (isNaN_u32 _ _).mono ?_; rintro e w' ⟨rfl, rfl⟩)
  go_ret
  exact ⟨rfl, rfl⟩
 ·have H1 : decide (a < b) = false := by simpa using h1
  rw [if_neg h1]
  by_cases h2 : b < a
  ·rw [if_pos h2]
   have H2 : decide (b < a) = true := by simpa using h2
   have H2' : decide (a > b) = true := by simpa using h2
   go_enter Tryz.func116, Tryz.ntmps116
   go_wp2_with (go_at_call 124; refine (isNaN_u32 _ _).mono ?_; rintro e w' ⟨rfl, rfl⟩)
   go_ret
   exact ⟨rfl, rfl⟩
  ·rw [if_neg h2]
   have H2 : decide (b < a) = false := by simpa using h2
   have H2' : decide (a > b) = false := by simpa using h2
   go_enter Tryz.func116, Tryz.ntmps116
   go_wp2_with (go_at_call 124; refine (isNaN_u32 _ _).mono ?_; rintro e w' ⟨rfl, rfl⟩)
   go_ret
   exact ⟨rfl, rfl⟩
set_option maxHeartbeats 1000000 in
theorem cmp_first (b : Nat) (ad : Addr) (n cap : Nat) (x y : Nat) (hx : x < n) (hy : y < n) (fx fy : Int) (w : World) (hb : w.cell? ⟨b, 0, none⟩ = some (.slice (some ad) n cap))
  (h1 : w.cell? { block := (ad.add (x * 20)).block, off := (ad.add (x * 20)).off + 16 + 2 } = some (.int .u32 fx)) (h2 : w.cell? { block := (ad.add (y * 20)).block, off := (ad.add (y * 20)).off + 16 + 2 } = some (.int .u32 fy)) :
  Calls Tryz.prog 115 #[.int .i64 x, .int .i64 y, .pointer (some ⟨b, 0, none⟩)] w fun e w' => e = .returned (.int .i64 (cmpI fx fy)) ∧ ∃ q, w' = w.drewN q := by
 have hc := cmp_u32 fx fy
 generalize cmpI fx fy = r at hc ⊢
 go_enter Tryz.func115, Tryz.ntmps115
 go_wp2_with (fail)
 go_quiet ((go_at_call 116; exact Calls.quiet_of_same (hc _)))
 go_wp2
 go_ret
 exact ⟨rfl, _, rfl⟩
def firstI (us : List Us) (x : Nat) : Int := ((us[x % us.length]!.f : Nat) : Int)
theorem swo_first (us : List Us) : SWO (Go.Proofs.ltOf fun x y => cmpI (firstI us x) (firstI us y)) := by
 have h : ∀ x y, (Go.Proofs.ltOf fun x y => cmpI (firstI us x) (firstI us y)) x y = decide (firstI us x < firstI us y) := fun x y => by
  show decide (cmpI (firstI us x) (firstI us y) < 0) = _
  unfold cmpI
  by_cases h1 : firstI us x < firstI us y
  ·simp [h1]
  ·rw [if_neg h1]; split <;> simp [h1]
 refine ⟨fun x => by rw [h]; simp, fun x y z h1 h2 => ?_, fun x y z h1 h2 => ?_⟩
 ·rw [h] at h1 h2 ⊢; simp only [decide_eq_true_eq] at h1 h2 ⊢; omega
 ·rw [h] at h1 h2 ⊢; simp only [decide_eq_false_iff_not] at h1 h2 ⊢; omega
def encF (us : List Us) (x : Nat) : Value := nI (x % us.length)
theorem usR_first {us : List Us} (hf : Fits us) {x : Nat} (hx : x < us.length) : (usR us)[x * 20 + 18]? = some (nW (us[x].f)) := by
 have h := congrArg (fun l => l[18]?) (usR_at hf hx)
 simp only [List.getElem?_take, List.getElem?_drop] at h
 rw [if_pos (by decide)] at h
 rw [h]
 have h1 := usV_range (hf.get hx)
 have h2 := congrArg (fun l => l[2]?) h1
 simp only [List.getElem?_drop] at h2
 rw [h2]; rfl
theorem sort_first {us : List Us} (hf : Fits us) (b : Nat) (ad : Addr) (cap : Nat) (w : World) (hb : w.heap[b]? = some (.cells #[.slice (some ad) us.length cap] 93 (0, 0))) (lo : Nat) (hlo : lo ≤ w.heap.size) (hr : RowIn lo w (some ad) (usR us)) :
  SortsTo Tryz.prog 114 us 3 (.func (.func 115) #[] #[.pointer (some ⟨b, 0, none⟩)]) lo w := by
 intro g cq cur L hL hne hlg hg hh htk hbig
 have hpos : 0 < us.length := by
  cases L with
  | nil => exact absurd rfl hne
  | cons a r => have := hL a (by simp); omega
 have hgb : b ≠ g := fun he => by subst he; rw [hb] at hh; injection hh with hh; injection hh with _ h2 _; revert h2; decide
 have hga : g ≠ ad.block := fun he => by
  obtain ⟨ad', h1, h2, _⟩ := hr (0 * 20 + 18) _ (usR_first hf hpos)
  injection h1 with h1; subst h1; omega
 have hbs : b < w.heap.size := by
  rcases Nat.lt_or_ge b w.heap.size with h | h
  ·exact h
  ·rw [Array.getElem?_eq_none h] at hb; cases hb
 have mod : ∀ x, x ∈ L → x % us.length = x := fun x hx => Nat.mod_eq_of_lt (hL x hx)
 have henc : ∀ x, x ∈ L → encF us x = nI x := fun x hx => by unfold encF; rw [mod x hx]
 have hLl : L.length ≤ cur.size := by
  have := congrArg List.length htk
  simp [natR] at this; omega
 have hcur : ∀ j, (hj : j < L.length) → cur[j]? = some (encF us L[j]) := fun j hj => by
  rw [henc _ (List.getElem_mem hj)]
  have h := congrArg (fun l => l[j]?) htk
  simp only [List.getElem?_take, if_pos hj, natR, List.getElem?_map, List.getElem?_eq_getElem hj, Option.map_some, Array.getElem?_toList] at h
  exact h
 have hH : Go.Sort.Holds (encF us) w g 0 L.toArray := fun j hj => by
  have hj' : j < L.length := by simpa using hj
  have h1 : (L.toArray)[j]! = L[j] := by simp [hj']
  refine ⟨?_, ?_⟩
  ·rw [h1]; simp only [World.cell?, hh, Nat.zero_add]; simpa using hcur j hj'
  ·simp [World.frozen?, hh]
 have hcmp : CmpLays1 Tryz.prog 115 #[.pointer (some ⟨b, 0, none⟩)] (encF us) (fun x y => cmpI (firstI us x) (firstI us y)) g 0 L.toArray.size w := fun m os dk hs x y => by
  have hx : x % us.length < us.length := Nat.mod_lt _ hpos
  have hy : y % us.length < us.length := Nat.mod_lt _ hpos
  have rd : ∀ a : Addr, a.block < w.heap.size → a.block ≠ g → (sortWorld (encF us) w g 0 m dk os).cell? a = w.cell? a := fun a ha hag => by
   unfold sortWorld
   rw [cell?_grow _ _ _ (by simpa [putRow, mapBlock, Go.Sort.ahead] using ha), cell?_putRow_other _ _ _ _ _ _ (.inl hag)]
   rfl
  have row : ∀ z, z < us.length → (sortWorld (encF us) w g 0 m dk os).cell? { block := (ad.add (z * 20)).block, off := (ad.add (z * 20)).off + 16 + 2 } = some (nW (us[z]!.f)) := fun z hz => by
   obtain ⟨ad', h1, h2, h3⟩ := hr (z * 20 + 18) _ (usR_first hf hz)
   injection h1 with h1; subst h1
   have ha : ({ block := (ad.add (z * 20)).block, off := (ad.add (z * 20)).off + 16 + 2 } : Addr) = ad.add (z * 20 + 18) := by
    unfold Addr.add
    rw [if_neg (show ¬ z * 20 + 18 = 0 by omega)]
    split
    ·rename_i h0; simp [h0]
    ·simp [Nat.add_assoc]
   rw [ha, rd _ (by rw [block_of_add]; omega) (by rw [block_of_add]; exact fun h => hga h.symm), h3, getElem!_pos us z hz]
  have hcell : (sortWorld (encF us) w g 0 m dk os).cell? ⟨b, 0, none⟩ = some (.slice (some ad) us.length cap) := by
   rw [rd ⟨b, 0, none⟩ hbs hgb]; simp [World.cell?, hb]
  exact (cmp_first b ad us.length cap (x % us.length) (y % us.length) hx hy _ _ _ hcell (row _ hx) (row _ hy)).mono fun e w' ⟨he, q, hq⟩ => ⟨he, q, #[], by rw [hq, grow_empty]⟩
 have eg : ∀ args w, (callFunc 115 args).run Tryz.prog w = .ok (.enter 115 args) w := enters_of Tryz.func115 (by kernel_rfl) rfl
 have hcon := Any.slices_SortFunc Tryz.sortInt (encF us) (fun _ => rfl) (fun x y => cmpI (firstI us x) (firstI us y)) (swo_first us) 115 #[.pointer (some ⟨b, 0, none⟩)] g 0 cq L.toArray w eg hcmp hH hg (by simpa using hbig)
 change Calls Tryz.prog 114 _ _ _ at hcon
 rw [show L.toArray.size = L.length from by simp] at hcon
 refine hcon.mono ?_
 rintro en w' ⟨he, d', m, os, hp, hso, hw⟩
 obtain ⟨hds, _, hperm⟩ := hp
 have hds' : d'.size = L.length := by simpa using hds
 have hp2 : d'.toList.Perm L := by
  have e1 : d'.extract 0 L.length = d' := by rw [← hds']; simp
  have e2 : L.toArray.extract 0 L.length = L.toArray := by simp
  rw [e1, e2] at hperm; simpa using hperm
 have hheap : ∀ k, k < w.heap.size → w'.heap[k]? = (putRow (encF us) (Go.Sort.ahead w m) g 0 d').heap[k]? := fun k hk => by
  rw [hw]; unfold sortWorld; exact heap_grow_old _ _ (by simpa [putRow, mapBlock, Go.Sort.ahead] using hk)
 refine ⟨he, d'.toList, putCells (encF us) 0 d' cur, hp2, ?_, by simp [putCells], ?_, ?_, fun k hk hkg => ?_, by rw [hw]; rfl, by rw [hw]; rfl, by rw [hw]; rfl, by rw [hw]; simp [sortWorld, grow, putRow, mapBlock, Go.Sort.ahead]⟩
 ·rw [Sorted, List.pairwise_iff_getElem]
  intro i j hi hj hij
  have h := hso i j (Nat.zero_le _) hij (by simpa [hds'] using hj)
  have hmi : d'.toList[i] ∈ L := hp2.subset (List.getElem_mem hi)
  have hmj : d'.toList[j] ∈ L := hp2.subset (List.getElem_mem hj)
  have ei : d'[i]! = d'.toList[i] := by rw [getElem!_pos d' i (by simpa using hi)]; simp
  have ej : d'[j]! = d'.toList[j] := by rw [getElem!_pos d' j (by simpa using hj)]; simp
  rw [ei, ej] at h
  simp only [Go.Proofs.ltOf, cmpI, firstI, mod _ hmi, mod _ hmj] at h
  rcases Nat.lt_or_ge us[d'.toList[j]]!.f us[d'.toList[i]]!.f with hl | hl
  ·rw [if_pos (by omega)] at h; cases h
  ·exact hl
 ·apply List.ext_getElem?
  intro i
  rw [List.getElem?_take]
  by_cases hi : i < L.length
  ·rw [if_pos hi]
   have hi2 : i < cur.size := by omega
   have hi3 : i < d'.toList.length := by simpa [hds'] using hi
   have hm : d'.toList[i] ∈ L := hp2.subset (List.getElem_mem hi3)
   simp only [natR, List.getElem?_map, List.getElem?_eq_getElem hi3, Option.map_some, Array.getElem?_toList, putCells, Array.getElem?_mapIdx, Array.getElem?_eq_getElem hi2, Nat.zero_le, Nat.zero_add, hds', hi, and_self, if_true, Nat.sub_zero]
   rw [getElem!_pos d' i (by omega)]
   have := henc _ hm
   simpa using this
  ·rw [if_neg hi, List.getElem?_eq_none (by simp [natR, hds']; omega)]
 ·rw [hheap g hg]; simp [putRow, mapBlock, Go.Sort.ahead, Array.getElem?_modify, hh, onCells]
 ·rw [hheap k hk]; simp [putRow, mapBlock, Go.Sort.ahead, Array.getElem?_modify, Ne.symm hkg]
theorem sorts_env {us : List Us} (hf : Fits us) {n B B' b cap : Nat} {A₀ : Option Addr} {E : Env} (h1 : E.look 1000001 = some (blk b 93 [.slice A₀ us.length cap])) (h2 : E.look 1000200 = some (old B' (memR A₀ (usR us)))) (hB : B' ≤ B) (hpos : 0 < us.length) (κ : Cx) (a : Act) (w : World) (h : St κ n B E a w) :
  SortsTo Tryz.prog 114 us 3 (.func (.func 115) #[] #[.pointer (some ⟨b, 0, none⟩)]) B w := by
 obtain ⟨_, hb⟩ := h.of _ _ h1
 obtain ⟨_, hr⟩ := h.of _ _ h2
 obtain ⟨ad, hA, _⟩ := hr _ _ (usR_first hf hpos)
 subst hA
 exact sort_first hf b ad cap w hb B h.base (fun j u hu => by obtain ⟨ad', k1, k2, k3⟩ := hr j u hu; exact ⟨ad', k1, by omega, k3⟩)
end Go.Proofs.YtffiflfjlemggaaGreatDoor
namespace Go.Proofs.YtffiflfjlemggaaGreatDoor
open Go Go.RowKit
set_option linter.unusedVariables false
set_option maxRecDepth 20000
theorem list16 {l : List Value} (h : l.length = 16) : ∃ a0 a1 a2 a3 a4 a5 a6 a7 a8 a9 a10 a11 a12 a13 a14 a15, l = [a0, a1, a2, a3, a4, a5, a6, a7, a8, a9, a10, a11, a12, a13, a14, a15] := by
 rcases l with _ | ⟨a0, l⟩
 ·cases h
 rcases l with _ | ⟨a1, l⟩
 ·simp at h
 rcases l with _ | ⟨a2, l⟩
 ·simp at h
 rcases l with _ | ⟨a3, l⟩
 ·simp at h
 rcases l with _ | ⟨a4, l⟩
 ·simp at h
 rcases l with _ | ⟨a5, l⟩
 ·simp at h
 rcases l with _ | ⟨a6, l⟩
 ·simp at h
 rcases l with _ | ⟨a7, l⟩
 ·simp at h
 rcases l with _ | ⟨a8, l⟩
 ·simp at h
 rcases l with _ | ⟨a9, l⟩
 ·simp at h
 rcases l with _ | ⟨a10, l⟩
 ·simp at h
 rcases l with _ | ⟨a11, l⟩
 ·simp at h
 rcases l with _ | ⟨a12, l⟩
 ·simp at h
 rcases l with _ | ⟨a13, l⟩
 ·simp at h
 rcases l with _ | ⟨a14, l⟩
 ·simp at h
 rcases l with _ | ⟨a15, l⟩
 ·simp at h
 cases l with
 | nil => exact ⟨a0, a1, a2, a3, a4, a5, a6, a7, a8, a9, a10, a11, a12, a13, a14, a15, rfl⟩
 | cons => simp at h
theorem list18 {l : List Value} (h : l.length = 18) : ∃ a0 a1 a2 a3 a4 a5 a6 a7 a8 a9 a10 a11 a12 a13 a14 a15 a16 a17, l = [a0, a1, a2, a3, a4, a5, a6, a7, a8, a9, a10, a11, a12, a13, a14, a15, a16, a17] := by
 rcases l with _ | ⟨a0, l⟩
 ·cases h
 rcases l with _ | ⟨a1, l⟩
 ·simp at h
 rcases l with _ | ⟨a2, l⟩
 ·simp at h
 rcases l with _ | ⟨a3, l⟩
 ·simp at h
 rcases l with _ | ⟨a4, l⟩
 ·simp at h
 rcases l with _ | ⟨a5, l⟩
 ·simp at h
 rcases l with _ | ⟨a6, l⟩
 ·simp at h
 rcases l with _ | ⟨a7, l⟩
 ·simp at h
 rcases l with _ | ⟨a8, l⟩
 ·simp at h
 rcases l with _ | ⟨a9, l⟩
 ·simp at h
 rcases l with _ | ⟨a10, l⟩
 ·simp at h
 rcases l with _ | ⟨a11, l⟩
 ·simp at h
 rcases l with _ | ⟨a12, l⟩
 ·simp at h
 rcases l with _ | ⟨a13, l⟩
 ·simp at h
 rcases l with _ | ⟨a14, l⟩
 ·simp at h
 rcases l with _ | ⟨a15, l⟩
 ·simp at h
 rcases l with _ | ⟨a16, l⟩
 ·simp at h
 rcases l with _ | ⟨a17, l⟩
 ·simp at h
 cases l with
 | nil => exact ⟨a0, a1, a2, a3, a4, a5, a6, a7, a8, a9, a10, a11, a12, a13, a14, a15, a16, a17, rfl⟩
 | cons => simp at h

theorem mapTy : MapTy Tryz.prog 181 183 153 where
 ty := by kernel_rfl
 st := ⟨_, Tryz.underlying183⟩
 fl := by kernel_rfl
 ag := by kernel_rfl
 check := fun cs w h => by
  obtain ⟨a0, a1, a2, a3, a4, a5, a6, a7, a8, a9, a10, a11, a12, a13, a14, a15, a16, a17, rfl⟩ := list18 h
  kernel_rfl
 zero := fun w => by kernel_rfl
theorem makeM (w : World) : (Instr.makeMap 181 none).run Tryz.prog w = .ok (.map (some w.heap.size)) (w.alloc (.map #[] 0)) := by kernel_rfl
theorem buildSt {l : List Value} (h : l.length = 16) (a b : Value) : Tryz.prog.built 183 [(0, aggV l), (1, aggV [a, b])] = some (l ++ [a, b]).toArray := by
 obtain ⟨a0, a1, a2, a3, a4, a5, a6, a7, a8, a9, a10, a11, a12, a13, a14, a15, rfl⟩ := list16 h
 kernel_rfl
theorem body55 : HasBody Tryz.prog 114 := ⟨_, Tryz.func114, by kernel_rfl, rfl⟩
theorem stOf_len {us : List Us} (hf : Fits us) {i : Nat} (hi : i < us.length) : (stOf us[i]!).1.length = 16 := by rw [getElem!_pos us i hi]; exact (hf.get hi).1
theorem stOf_row {us : List Us} (hf : Fits us) {i : Nat} (hi : i < us.length) : us[i].key.map byteV ++ [.int .u32 (us[i].s : Int), .int .u64 (us[i].c : Int)] = keyV (stOf us[i]!) := by rw [getElem!_pos us i hi]; rfl
/-- After i uses. -/
def ShG (us : List Us) (x : Nat × List Value) : Prop := x.1 ≤ us.length ∧ x.2.length = (grp us x.1).length ∧ ∀ v ∈ x.2, v.oneCell' = true
theorem entV_one {k : Key} {G : Grp} {vs : List Value} (h : ∀ v ∈ vs, v.oneCell' = true) : ∀ v ∈ entM k G vs, v.oneCell' = true := by
 unfold entM; split
 ·exact h
 ·intro v hv
  rcases List.mem_append.1 hv with hv | hv
  ·exact h v hv
  ·rw [List.mem_singleton.1 hv]; rfl
theorem ShG.next {us : List Us} {x : Nat × List Value} (h : ShG us x) (hi : x.1 < us.length) {v : Value} (hv : v.oneCell' = true) : ShG us (x.1 + 1, (entM (stOf us[x.1]!) (grp us x.1) x.2).set (idxG (stOf us[x.1]!) (grp us x.1)) v) := by
 refine ⟨hi, ?_, fun u hu => ?_⟩
 ·show ((entM (stOf us[x.1]!) (grp us x.1) x.2).set (idxG (stOf us[x.1]!) (grp us x.1)) v).length = (addG (stOf us[x.1]!) x.1 (grp us x.1)).length
  rw [← step_add, List.length_set, List.length_set, entV_length h.2.1]
 ·rcases List.mem_or_eq_of_mem_set hu with hu | rfl
  ·exact entV_one h.2.2 u hu
  ·exact hv
theorem lstG_le {us : List Us} {i : Nat} {k : Key} : (lstG k (grp us i)).length ≤ i := by
 have h := lstG_at k (grp us i)
 unfold entG at h
 split at h
 ·have := (grp_ok us i).len.2 (k, lstG k (grp us i)) (List.mem_of_getElem? h)
  exact this
 ·rename_i hn
  have : idxG k (grp us i) = (grp us i).length := by have := idxG_le k (grp us i); omega
  rw [this] at h
  simp at h
  rw [h]; exact Nat.zero_le _

theorem keyV_one (k : Key) : (keyV k).all (·.oneCell') = true := by
 rw [List.all_eq_true]
 intro v hv
 simp only [keyV, List.mem_append, List.mem_map, List.mem_cons, List.not_mem_nil, or_false] at hv
 rcases hv with ⟨b, _, rfl⟩ | rfl | rfl <;> simp [byteV, Value.oneCell']
theorem fresh_vals {B : Nat} {e : TypeId} (xs : List Value) (hm : xs.length ≤ maxLen) : Le (fresh B e xs xs.length) (lst (xs.map .v)) := (fresh_vlist rfl hm).trans (le_lst _ _)
set_option maxHeartbeats 2000000 in
theorem shared_fn (us : List Us) (hf : Fits us) (hn : us.length ≤ 1099511627776) : FnB Tryz.prog 90 [rowD us.length (usR us)] (fun B => partsD us 153 3 B) := by
 refine FnB.of Tryz.func90 rfl (by kernel_rfl) Tryz.ntmps90 (by simp) (fun w => [(0, old w.heap.size (rowD us.length (usR us)))]) (fun w => (Start.old rfl Start.nil)) fun w₀ => ?_
 refine A.nameR (t := 0) (k := 1000200) rfl fun A₀ q₀ => ?_
 refine GS ?_
 refine TN 0 ?_
 refine RN ?_
 refine ⟨_, _, eff_box1 (n := 50) (d := 1) (k := 1000001) rfl rfl (by decide), fun b1 hb1 => ?_⟩
 have hBb1 := hb1.1
 refine TL ?_
 refine RVN 1 rfl ?_
 refine GS ?_
 refine RunTK.newG 0 (by decide) rfl (.inl rfl) ?_
 refine RN ?_
 refine ⟨_, _, _, eff_makeMap (s := 1000105) (e := 3) mapTy makeM (by decide) (by decide) (by decide), fun bm hbm => ?_⟩
 have hBbm := hbm.1
 refine TL ?_
 refine RVN 1 rfl ?_
 refine QS ?_
 refine GT ?_
 refine RLV 1000001 Tryz.underlying93 rfl rfl rfl ?_
 refine RS (ok_lenV Tryz.underlying93 rfl) ?_
 refine RVN 1 rfl ?_
 refine A.block ?_
 refine A.loop (ι := Nat × List Value) (fun x => ShG us x) (fun x => [(1, .v (.pointer (some ⟨b1, 0, none⟩))), (1000001, blk b1 93 [.slice A₀ us.length q₀]), (1000200, old w₀.heap.size (memR A₀ (usR us))), (3, .v (.map (some bm))), (11, .v (.slice A₀ us.length q₀)), (12, .v (nI (us.length))), (13, .v (nI (x.1))), (1000105, mapM w₀.heap.size 3 bm x.2 (grp us x.1))]) (fun x => us.length - x.1) (0, []) ?_ ?_ ?_
 ·exact ⟨Nat.zero_le _, rfl, fun v hv => by cases hv⟩
 ·exact (KC 1 rfl (KC 1000001 rfl (KC 1000200 rfl (KC 3 rfl (KC 11 rfl (KC 12 rfl (KE 13 rfl (by rfl) (KC 1000105 rfl KN))))))))
 intro x hx
 refine GV rfl ?_
 refine QS ?_
 refine A.cond rfl (fun hc14 => ?_) (fun hc14 => ?_)
 ·have hi : x.1 < us.length := by have h := hc14; simp at h; omega
  refine QK ?_
  refine QSB ?_
  refine GS ?_
  refine TN 3 ?_
  refine RM rfl ?_
  refine RS (ok_indexR (s := 1000200) x.1 Tryz.underlying93 infoU rfl rfl (by decide) rfl hi (usR_lt hf hi)) ?_
  refine RS (ok_loadElemP Tryz.underlying99 rfl (size99.of (by rw [usR_at hf hi, usV_length (hf.get hi)])) rfl) ?_; refine RZ (aggV (usV us[x.1])) (congrArg aggV (usR_at hf hi)) ?_
  refine RN ?_
  refine ZN 1000005 zero99 fun b5 ⟨hBb5, hb5⟩ => ?_
  refine TF 5 ?_
  refine RVN 1 rfl ?_
  refine ⟨_, eff_storeA (n := 50) (s := 1000005) (size99.of (usV_length (hf.get hi))) rfl rfl (usV_one _) hBb5 rfl (by rw [usV_length (hf.get hi)]; rfl) (LT 1000001 rfl (LeftS.cons (t := 1000105) rfl ((by first | exact Surv.mapM (by decide) | exact Surv.iterM (by decide))) (LO 1000200 rfl (LW [1, 3, 4, 5, 11, 12, 13] rfl)))), ?_⟩
  refine TL ?_
  refine RN ?_
  refine GS ?_
  refine TN 6 ?_
  refine RS (ok_field field99_0 (by decide) rfl) ?_
  refine RS (ok_loadP (s := 1000005) (by decide) Tryz.underlying37 rfl size37 rfl rfl (us_fit (hf.get hi)) (us_key (hf.get hi))) ?_
  refine RS (ok_field field99_1 (by decide) rfl) ?_
  refine RS (ok_field field90_0 (by decide) rfl) ?_
  refine RS (ok_loadP (s := 1000005) (by decide) Tryz.underlying41 rfl size41 rfl rfl (us_fit (hf.get hi)) (us_non (hf.get hi))) ?_
  refine RS (ok_litS [(0, aggV (us[x.1].key.map byteV)), (1, aggV [.int .u32 (us[x.1].s : Int), .int .u64 (us[x.1].c : Int)])] (keyV (stOf us[x.1]!)) ⟨rfl, rfl, rfl, rfl, trivial⟩ ((buildSt (by rw [List.length_map]; exact (hf.get hi).1) _ _).trans (congrArg (fun l : List Value => some l.toArray) (stOf_row hf hi)))) ?_
  refine RN ?_
  refine ZN 1000006 zero183 fun b6 ⟨hBb6, hb6⟩ => ?_
  refine TF 7 ?_
  refine RN ?_
  refine ⟨_, eff_storeA (n := 50) (s := 1000006) (size183.of (keyV_length (stOf_len hf hi))) rfl rfl (keyV_one _) hBb6 rfl (by rw [keyV_length (stOf_len hf hi)]; rfl) (LT 1000001 rfl (LT 1000005 rfl (LeftS.cons (t := 1000105) rfl ((by first | exact Surv.mapM (by decide) | exact Surv.iterM (by decide))) (LO 1000200 rfl (LW [1, 3, 4, 6, 11, 12, 13] rfl))))), ?_⟩
  refine TL ?_
  refine RN ?_
  refine GE ?_
  refine TF 4 ?_
  refine RM rfl ?_
  refine RS (ok_loadA (s := 1000006) (by decide) Tryz.underlying183 rfl (size183.of (keyV_length (stOf_len hf hi))) rfl rfl) ?_
  refine RM rfl ?_
  refine RS (ok_buildF (m := 1) [nI (x.1)] Tryz.underlying153 info3 rfl (by decide) (by decide) rfl ⟨rfl, rfl, trivial⟩ rfl) ?_
  refine RN ?_
  refine ⟨_, eff_mapEntry (s := 1000105) (k := (stOf us[x.1]!)) mapTy (stOf_len hf hi) rfl rfl rfl (Nat.le_refl _) (by decide) (by decide) (by decide) (LeftO.cons (t := 1) rfl (SurvO.v _) (LeftO.cons (t := 1000001) rfl (SurvO.blk) (LeftO.cons (t := 1000200) rfl (SurvO.old (by omega)) (LeftO.cons (t := 3) rfl (SurvO.v _) (LeftO.cons (t := 11) rfl (SurvO.v _) (LeftO.cons (t := 12) rfl (SurvO.v _) (LeftO.cons (t := 13) rfl (SurvO.v _) (LeftO.cons (t := 24) rfl (SurvO.v _) (LeftO.cons (t := 27) rfl (SurvO.v _) (LeftO.cons (t := 28) rfl (SurvO.fresh) LeftO.nil)))))))))), ?_⟩
  refine RunTK.newG 6 (by decide) rfl (.inl rfl) ?_
  refine RVN 1 rfl ?_
  refine ⟨_, _, _, eff_appendM (s := 1000105) (j := (idxG (stOf us[x.1]!) (grp us x.1))) Tryz.underlying153 info3 (by decide) rfl rfl (vs_at (entV_length hx.2.1) (idxG_lt _ _)) (lstG_at2 _ _) rfl rfl (by have := lstG_le (us := us) (i := x.1) (k := (stOf us[x.1]!)); omega) (by decide) (by decide) (by decide) (fun g hg => (LV 1 rfl (LT 1000001 rfl (LO 1000200 rfl (LV 3 rfl (LV 11 rfl (LV 12 rfl (LV 13 rfl (LV 24 rfl (LV 29 rfl LN)))))))))), fun v30 hv30 => ?_⟩
  refine TF 8 ?_
  refine RVN 1 rfl ?_
  refine ⟨_, eff_entryStore (s := 1000105) (j := (idxG (stOf us[x.1]!) (grp us x.1))) (k := (stOf us[x.1]!)) (L₀ := lstG (stOf us[x.1]!) (grp us x.1)) rfl rfl rfl rfl (lstG_at _ _) (Nat.le_refl _) (by decide) (by decide) (LeftO.cons (t := 1) rfl (SurvO.v _) (LeftO.cons (t := 1000001) rfl (SurvO.blk) (LeftO.cons (t := 1000200) rfl (SurvO.old (by omega)) (LeftO.cons (t := 3) rfl (SurvO.v _) (LeftO.cons (t := 11) rfl (SurvO.v _) (LeftO.cons (t := 12) rfl (SurvO.v _) (LeftO.cons (t := 13) rfl (SurvO.v _) LeftO.nil))))))), ?_⟩
  refine TL ?_
  refine RN ?_
  refine End.normal_block ?_
  refine EN ?_
  refine GTE ?_
  refine RB rfl rfl rfl ?_
  refine RZ (nI (x.1 + 1)) (by rw [wrap_i64 (by omega) (by omega)]; rfl) ?_
  refine RVN 1 rfl ?_
  refine End.sub (SV [1, 3, 11, 12, 13, 1000001, 1000105, 1000200] rfl) ?_
  refine End.normal_then ?_
  refine End.again (x.1 + 1, (entM (stOf us[x.1]!) (grp us x.1) x.2).set (idxG (stOf us[x.1]!) (grp us x.1)) v30) ?_ ?_ ?_
  ·exact hx.next hi hv30
  ·show us.length - (x.1 + 1) < us.length - x.1; omega
  ·exact (KC 1 rfl (KC 1000001 rfl (KC 1000200 rfl (KC 3 rfl (KC 11 rfl (KC 12 rfl (KC 13 rfl (KE 1000105 rfl (congrArg (mapM _ _ _ _) (step_add _ _ _)) KN))))))))
 ·have hi2 : x.1 = us.length := by have h := hx.1; simp at hc14; omega
  obtain ⟨i, vs⟩ := x
  simp only at hi2
  subst hi2
  obtain ⟨_, hvl, hv1⟩ := hx
  simp only at hvl hv1
  refine A.exit ?_
  refine End.exit_then ?_
  refine End.exit_then ?_
  refine End.exit_here ?_
  refine EN ?_
  refine GV rfl ?_
  refine QS ?_
  refine GS ?_
  refine RunTK.newG 1 (by decide) rfl (.inl rfl) ?_
  refine RVN 1 rfl ?_
  refine ⟨_, _, _, eff_range (s := 1000105) mapTy rfl rfl (by decide) (by decide) (by decide), fun it hit => ?_⟩
  have hBit := hit.1
  refine TL ?_
  refine RN ?_
  refine A.block ?_
  refine A.subL (SubL.cons (t := 1) rfl (Le.refl _) (SubL.cons (t := 1000001) rfl (Le.refl _) (SubL.cons (t := 1000200) rfl (Le.refl _) (SubL.cons (t := 34) rfl (Le.refl _) (SubL.cons (t := 7) rfl ((own_nil (B := w₀.heap.size) (e := 153))) (SubL.cons (t := 1000105) rfl (Le.refl _) SubL.nil)))))) ?_
  refine A.loop (ι := List Nat × Grp) (fun y => Gone us (grp us us.length) y) (fun y => [(1, .v (.pointer (some ⟨b1, 0, none⟩))), (1000001, blk b1 93 [.slice A₀ us.length q₀]), (1000200, old w₀.heap.size (memR A₀ (usR us))), (34, .v (.pointer (some ⟨it, 0, none⟩))), (7, own w₀.heap.size 153 (selG (grp us us.length) y.1).length ((selG (grp us us.length) y.1).map fun j => vs.getD j undef)), (1000105, iterM w₀.heap.size 3 bm it vs y.2 y.1)]) (fun y => (grp us us.length).length - y.1.length) ([], (grp us us.length)) ?_ ?_ ?_
  ·exact Gone.start us _
  ·exact (SV [1, 1000001, 1000200, 34, 7, 1000105] rfl)
  intro y hy
  refine GS ?_
  refine RunTK.newG 0 (by decide) rfl (.inl rfl) ?_
  refine RN ?_
  refine ⟨_, _, _, eff_next (s := 1000105) rfl rfl (Nat.le_refl _) (by decide) (by decide) (by decide) (LeftO.cons (t := 1) rfl (SurvO.v _) (LeftO.cons (t := 1000001) rfl (SurvO.blk) (LeftO.cons (t := 1000200) rfl (SurvO.old (by omega)) (LeftO.cons (t := 34) rfl (SurvO.v _) (LeftO.cons (t := 7) rfl (SurvO.own) LeftO.nil))))), fun c hc => ?_⟩
  refine TL ?_
  refine RS (ok_outB rfl) ?_
  refine RN ?_
  refine QS ?_
  refine A.cond rfl (fun hc36 => ?_) (fun hc36 => ?_)
  ·obtain ⟨j, rfl⟩ := Option.isSome_iff_exists.1 hc36
   obtain ⟨hjm, hjn⟩ := hc
   rw [hy.len] at hjm
   have hym := hy.members (grp_ok us us.length) hjm
   refine QK ?_
   refine A.block ?_
   refine GT ?_
   refine RS (ok_entry (s := 1000105) (by decide) rfl rfl (by rw [hy.len]; exact hjm)) ?_
   refine RVN 2 rfl ?_
   refine GT ?_
   refine RM rfl ?_
   refine RS (ok_lenI (s := 1000105) (j := j) (by decide) Tryz.underlying153 rfl rfl (vs_at (hvl.trans hy.len.symm) (by rw [hy.len]; exact hjm)) (G_at2 (by rw [hy.len]; exact hjm))) ?_
   refine RB rfl rfl rfl ?_
   refine RZ (.bool (bigG (grp us us.length) j)) (congrArg Value.bool (hy.big hjm)) ?_
   refine RN ?_
   refine A.cond rfl (fun hc41 => ?_) (fun hc41 => ?_)
   ·have hbig : 1 < (y.2.getD j default).2.length := by have h := of_decide_eq_true ((hy.big hjm).trans hc41); omega
    refine GS ?_
    refine RunTK.newG 2 (by decide) rfl (.inl rfl) ?_
    refine RM rfl ?_
    refine RS (ok_makeFuncN [.pointer (some ⟨b1, 0, none⟩)] ⟨rfl, trivial⟩) ?_
    refine RN ?_
    refine ⟨_, _, _, eff_sortI (s := 1000105) (us := us) (j := j) body55 rfl rfl rfl (vs_at (hvl.trans hy.len.symm) (by rw [hy.len]; exact hjm)) (G_at (by rw [hy.len]; exact hjm)) (sorts_env hf rfl rfl (Nat.le_refl _) (by have h1 := hym.2; omega)) hym.1 (fun h0 => by rw [h0] at hbig; simp at hbig) (by have := hym.2; omega) (by decide) (by decide) (by decide) (fun g hg => (LV 1 rfl (LT 1000001 rfl (LO 1000200 rfl (LV 34 rfl (LeftS.cons (t := 7) rfl (Surv.own (by decide)) (LV 9 rfl LN))))))), fun L' hL' => ?_⟩
    refine TL ?_
    refine RN ?_
    refine GE ?_
    refine TF 3 ?_
    refine RV 2 rfl ?_
    refine RS (ok_buildF (m := 1) [vs.getD j undef] Tryz.underlying149 info153 rfl (by decide) (by decide) rfl ⟨rfl, rfl, trivial⟩ (by simpa using hv1 _ (List.mem_of_getElem? (vs_at hvl hjm)))) ?_
    refine RN ?_
    refine ⟨_, eff_appendS (vs := [vs.getD j undef]) Tryz.underlying149 info153 (by decide) rfl rfl rfl (fresh_vals [vs.getD j undef] (by simp [maxLen])) (fun u hu => by rw [List.mem_singleton.1 hu]; exact hv1 _ (List.mem_of_getElem? (vs_at hvl hjm))) (by have h1 := hy.sel_lt hjm hjn; have h2 := (grp_ok us us.length).len.1; simp only [List.length_singleton]; omega) (by decide) (fun g hg => (LT 1000001 rfl (LeftS.cons (t := 1000105) rfl ((by first | exact Surv.mapM (by decide) | exact Surv.iterM (by decide))) (LO 1000200 rfl (LW [1, 34] rfl))))), ?_⟩
    refine TL ?_
    refine RVN 1 rfl ?_
    refine End.normal_block ?_
    refine End.normal_then ?_
    refine End.again (by first | exact (y.1 ++ [j], y.2.set j ((y.2.getD j default).1, L')) | exact (y.1 ++ [j], y.2)) ?_ ?_ ?_
    ·first | exact hy.sort hjn (G_at (by rw [hy.len]; exact hjm)) hL'.1 hL'.2 | exact hy.pass hjm hjn hc41
    ·exact hy.less hjm hjn
    ·exact (KC 1 rfl (KC 1000001 rfl (KC 1000200 rfl (KC 34 rfl (KE 7 rfl (by first | (rw [selG_yes hc41]; simp) | rw [selG_no hc41]) (KC 1000105 rfl KN))))))
   ·refine A.skip ?_
    refine End.normal_block ?_
    refine End.normal_then ?_
    refine End.again (by first | exact (y.1 ++ [j], y.2.set j ((y.2.getD j default).1, L')) | exact (y.1 ++ [j], y.2)) ?_ ?_ ?_
    ·first | exact hy.sort hjn (G_at (by rw [hy.len]; exact hjm)) hL'.1 hL'.2 | exact hy.pass hjm hjn hc41
    ·exact hy.less hjm hjn
    ·exact (KC 1 rfl (KC 1000001 rfl (KC 1000200 rfl (KC 34 rfl (KE 7 rfl (by first | (rw [selG_yes hc41]; simp) | rw [selG_no hc41]) (KC 1000105 rfl KN))))))
  ·have hcn : c = none := by cases c with
    | none => rfl
    | some _ => cases hc36
   subst hcn
   refine A.exit ?_
   refine End.exit_then ?_
   refine End.exit_then ?_
   refine End.exit_here ?_
   refine EN ?_
   refine GV rfl ?_
   refine A.ret ?_
   exact End.parts (k := 1000105) rfl rfl rfl (fun j hj => by rw [hy.len]; exact hy.lt j (List.mem_filter.1 hj).1) (hy.lists (fun j hj => hc j (by rw [hy.len]; exact hj))) (Nat.le_trans (selG_le hy) (grp_ok us us.length).len.1)
end Go.Proofs.YtffiflfjlemggaaGreatDoor
namespace Go.Proofs.YtffiflfjlemggaaGreatDoor
open Go Go.RowKit
set_option linter.unusedVariables false
set_option linter.unusedSimpArgs false
set_option maxRecDepth 20000
theorem list32 {l : List Value} (h : l.length = 32) : ∃ a0 a1 a2 a3 a4 a5 a6 a7 a8 a9 a10 a11 a12 a13 a14 a15 a16 a17 a18 a19 a20 a21 a22 a23 a24 a25 a26 a27 a28 a29 a30 a31, l = [a0, a1, a2, a3, a4, a5, a6, a7, a8, a9, a10, a11, a12, a13, a14, a15, a16, a17, a18, a19, a20, a21, a22, a23, a24, a25, a26, a27, a28, a29, a30, a31] := by
 rcases l with _ | ⟨a0, l⟩
 ·cases h
 rcases l with _ | ⟨a1, l⟩
 ·simp at h
 rcases l with _ | ⟨a2, l⟩
 ·simp at h
 rcases l with _ | ⟨a3, l⟩
 ·simp at h
 rcases l with _ | ⟨a4, l⟩
 ·simp at h
 rcases l with _ | ⟨a5, l⟩
 ·simp at h
 rcases l with _ | ⟨a6, l⟩
 ·simp at h
 rcases l with _ | ⟨a7, l⟩
 ·simp at h
 rcases l with _ | ⟨a8, l⟩
 ·simp at h
 rcases l with _ | ⟨a9, l⟩
 ·simp at h
 rcases l with _ | ⟨a10, l⟩
 ·simp at h
 rcases l with _ | ⟨a11, l⟩
 ·simp at h
 rcases l with _ | ⟨a12, l⟩
 ·simp at h
 rcases l with _ | ⟨a13, l⟩
 ·simp at h
 rcases l with _ | ⟨a14, l⟩
 ·simp at h
 rcases l with _ | ⟨a15, l⟩
 ·simp at h
 rcases l with _ | ⟨a16, l⟩
 ·simp at h
 rcases l with _ | ⟨a17, l⟩
 ·simp at h
 rcases l with _ | ⟨a18, l⟩
 ·simp at h
 rcases l with _ | ⟨a19, l⟩
 ·simp at h
 rcases l with _ | ⟨a20, l⟩
 ·simp at h
 rcases l with _ | ⟨a21, l⟩
 ·simp at h
 rcases l with _ | ⟨a22, l⟩
 ·simp at h
 rcases l with _ | ⟨a23, l⟩
 ·simp at h
 rcases l with _ | ⟨a24, l⟩
 ·simp at h
 rcases l with _ | ⟨a25, l⟩
 ·simp at h
 rcases l with _ | ⟨a26, l⟩
 ·simp at h
 rcases l with _ | ⟨a27, l⟩
 ·simp at h
 rcases l with _ | ⟨a28, l⟩
 ·simp at h
 rcases l with _ | ⟨a29, l⟩
 ·simp at h
 rcases l with _ | ⟨a30, l⟩
 ·simp at h
 rcases l with _ | ⟨a31, l⟩
 ·simp at h
 cases l with
 | nil => exact ⟨a0, a1, a2, a3, a4, a5, a6, a7, a8, a9, a10, a11, a12, a13, a14, a15, a16, a17, a18, a19, a20, a21, a22, a23, a24, a25, a26, a27, a28, a29, a30, a31, rfl⟩
 | cons => simp at h
theorem bRecT (x : UInt8) (s c : Nat) {t : List UInt8} (h : t.length = 32) : Tryz.prog.built 64 [(0, byteV x), (1, aggV [nW s, nQ c]), (2, aggV (t.map byteV))] = some (recV x s c t).toArray := by
 obtain ⟨a0, a1, a2, a3, a4, a5, a6, a7, a8, a9, a10, a11, a12, a13, a14, a15, a16, a17, a18, a19, a20, a21, a22, a23, a24, a25, a26, a27, a28, a29, a30, a31, hl⟩ := list32 (l := t.map byteV) (by rw [List.length_map, h])
 rw [show recV x s c t = byteV x :: nW s :: nQ c :: t.map byteV from rfl, hl]
 kernel_rfl
theorem bUseT {k : List UInt8} (h : k.length = 16) (s c f l : Nat) : Tryz.prog.built 99 [(0, aggV (k.map byteV)), (1, aggV [nW s, nQ c, nW f, nW l])] = some (usV ⟨k, s, c, f, l⟩).toArray := by
 obtain ⟨a0, a1, a2, a3, a4, a5, a6, a7, a8, a9, a10, a11, a12, a13, a14, a15, hl⟩ := list16 (l := k.map byteV) (by rw [List.length_map, h])
 rw [show usV ⟨k, s, c, f, l⟩ = k.map byteV ++ [nW s, nQ c, nW f, nW l] from rfl, hl]
 kernel_rfl
/-- The example's master key, its block, its use. -/
def exMK : List UInt8 := 1 :: List.replicate 31 0
def exPl : List UInt8 := 1 :: (List.replicate 30 0 ++ [2])
def exUse (E : List UInt8) : Us := ⟨E, 1, 0, 0, 1⟩
theorem exUse_fit {E : List UInt8} (h : E.length = 16) : (exUse E).Fit := ⟨h, by show 1 < 4294967296; decide, by show 0 < 18446744073709551616; decide, by show 0 < 4294967296; decide, by show 1 < 4294967296; decide⟩
theorem exUses_fit {E : List UInt8} (h : E.length = 16) : Fits [exUse E] := fun u hu => by rw [List.mem_singleton.1 hu]; exact exUse_fit h
theorem exTwo_fit {E : List UInt8} (h : E.length = 16) : Fits [exUse E, exUse E] := fun u hu => by
 simp only [List.mem_cons, List.not_mem_nil, or_false] at hu
 rcases hu with rfl | rfl <;> exact exUse_fit h
theorem exTwo_J (E : List UInt8) : repJ [exUse E, exUse E] = 1 := by
 have h : clB (exUse E) (exUse E) = true := clB_iff.2 ⟨rfl, by simp [exUse]⟩
 exact lst1_eq (by simp) (fun i hi => by
  obtain rfl : i = 0 := by omega
  simp [cAt]) fun _ => cAt_iff.2 ⟨0, by decide, h⟩
theorem exTwo_I (E : List UInt8) : repI [exUse E, exUse E] = 0 := by
 have h : clB (exUse E) (exUse E) = true := clB_iff.2 ⟨rfl, by simp [exUse]⟩
 unfold repI; rw [exTwo_J]
 exact lst1_eq (Nat.zero_le _) (fun i hi => absurd hi (Nat.not_lt_zero _)) fun _ => h
theorem nil_led : Le (.v (aggV [.slice none 0 0])) (hdD (rowD ([] : List Us).length (usR [])) []) := fun B w x h => ⟨_, rfl, h, none, 0, rfl, fun j u hu => by cases hu⟩
theorem two_rep (E : List UInt8) : Value.tuple #[nI (repI [exUse E, exUse E]), nI (repJ [exUse E, exUse E]), .bool true] = .tuple #[.int .i64 0, .int .i64 1, .bool true] := by rw [exTwo_I, exTwo_J]; rfl
theorem abc0 : (sha [97, 98, 99]).getD 0 0 = 186 := by kernel_rfl
theorem sub53 : sub8 83 = 237 := by kernel_rfl

theorem abc_val : byteV ((sha [97, 98, 99]).getD 0 0) = .int .u8 186 := by rw [abc0]; rfl
theorem sha_head (l : List UInt8) : ((sha l).map byteV)[0]? = some (byteV ((sha l).getD 0 0)) := by
 have h : 0 < (sha l).length := by rw [sha_length]; decide
 rw [List.getElem?_map, List.getElem?_eq_getElem h, List.getD_eq_getElem?_getD, List.getElem?_eq_getElem h]; rfl
theorem key_part {E K : List UInt8} (hE : E.length = 16) : ((rowV 16 (byL E) ++ K.map byteV).drop 0).take 16 = E.map byteV := by
 rw [← rowV_byL hE, List.drop_zero, List.take_left' (by rw [List.length_map, hE])]
theorem chk1 (E : List UInt8) : chkU [exUse E] = 0 := by unfold chkU; rw [if_neg (by simp), if_pos (by simp [Us.ok, exUse])]
theorem chk2 (E : List UInt8) : chkU [exUse E, exUse E] = 0 := by unfold chkU; rw [if_neg (by simp), if_pos (by simp [Us.ok, exUse])]
theorem ok2 (E : List UInt8) : ∀ u ∈ [exUse E, exUse E], u.ok = true := fun u hu => by
 simp only [List.mem_cons, List.not_mem_nil, or_false] at hu
 rcases hu with rfl | rfl <;> rfl
set_option maxHeartbeats 4000000 in
theorem live11_g (E K : List UInt8) (hE : E.length = 16) (hK : K.length = 32) (hV : FnM Tryz.prog 23 tabs [.v (aggV (exMK.map byteV))] (.v (aggV (E.map byteV ++ K.map byteV)))) : FnM Tryz.prog 8 tabs [] (.v (.bool true)) := by
 refine FnM.of Tryz.func8 rfl (by kernel_rfl) Tryz.ntmps8 (by simp) (by decide) (fun w => [(1900000, tab 0 (H8.list.map u32V)), (1900001, tab 1 (K64.map u32V))]) (fun w => (StartM.m (by simp [tabs]) (by decide) (StartM.m (by simp [tabs]) (by decide) StartM.nil))) fun w₀ hM => ?_
 have htab := tabs_hi hM
 refine GV rfl ?_
 refine GS ?_
 refine TN 2 ?_
 refine RS (ok_litS [(0, .int .u8 1)] (exMK.map byteV) ⟨rfl, rfl, trivial⟩ (by kernel_rfl)) ?_
 refine RS (ok_callM (hV) (Sub.cons rfl (Sub.cons rfl KN)) tabs_v (A1 rfl)) ?_; refine RZ (aggV (rowV 16 (byL E) ++ K.map byteV)) (congrArg aggV (by rw [rowV_byL hE])) ?_
 refine RN ?_
 refine ZN 1000001 zero58 fun b1 ⟨hBb1, hb1⟩ => ?_
 refine TF 3 ?_
 refine RN ?_
 refine ⟨_, eff_storeA (n := 195) (s := 1000001) (size58.of (by simp [rowV_length, hK])) rfl rfl (KM_one _ _) hBb1 rfl (by simp [rowV_length, hK]) (LV 1 rfl (LeftS.cons (t := 1900000) rfl (Surv.tab (by omega)) (LeftS.cons (t := 1900001) rfl (Surv.tab (by omega)) LN))), ?_⟩
 refine TL ?_
 refine RN ?_
 refine GS ?_
 refine TN 0 ?_
 refine RN ?_
 refine ZM 1000031 (fun B' => ok_callB (New_C 2 100 10 (by decide) (by decide) (by unfold Valid; decide)) newD_mono (A3 rfl rfl rfl)) rfl fun b31 ⟨hBb31, hb31⟩ => ?_
 have hlt_b1_b31 := hb31 1000001 b1 _ _ rfl
 refine TN 4 ?_
 refine RVN 3 rfl ?_
 refine ZN 1000002 zero83 fun b2 ⟨hBb2, hb2⟩ => ?_
 refine TF 5 ?_
 refine RN ?_
 refine ZA 1000002 (size83.of rfl) hBb2 rfl rfl rfl (LT 1000001 rfl (LT 1000031 rfl (LeftS.cons (t := 1900000) rfl (Surv.tab (by omega)) (LeftS.cons (t := 1900001) rfl (Surv.tab (by omega)) (LW [1, 2, 33] rfl))))) ?_
 refine TL ?_
 refine RVN 1 rfl ?_
 refine GS ?_
 refine TN 1 ?_
 refine RS (OpOk.fact (ok_loadA (s := 1000002) (by decide) Tryz.underlying83 rfl (size83.of (rfl)) rfl rfl) (d := hdD (vlst (rowQ (List.replicate 2 0))) (alR 0 100 10)) (s := 1000031) (by decide) rfl (hd_ofL (rowQ (List.replicate 2 0)) (alR 0 100 10) (by simp [rowQ]) (Nat.le_refl _) (by decide) (by simp [rowQ]))) ?_
 refine RN ?_
 refine ZM 1000036 (fun B' => ok_callB (Extend_ok (List.replicate 2 0) 0 100 10 (by unfold Valid; decide) (by decide) (by decide)) newD_mono (A1 rfl)) rfl fun b36 ⟨hBb36, hb36⟩ => ?_
 have hlt_b1_b36 := hb36 1000001 b1 _ _ rfl
 have hlt_b2_b36 := hb36 1000002 b2 _ _ rfl
 have hlt_b31_b36 := hb36 1000031 b31 _ _ rfl
 refine TN 5 ?_
 refine RVN 3 rfl ?_
 refine ZN 1000004 zero83 fun b4 ⟨hBb4, hb4⟩ => ?_
 have hlt_b2_b4 := hb4 1000002 b2 _ _ rfl
 refine TF 6 ?_
 refine RN ?_
 refine ZA 1000004 (size83.of rfl) hBb4 rfl rfl rfl (LT 1000001 rfl (LB 1000002 rfl (LT 1000031 rfl (LT 1000036 rfl (LeftS.cons (t := 1900000) rfl (Surv.tab (by omega)) (LeftS.cons (t := 1900001) rfl (Surv.tab (by omega)) (LW [1, 3, 4, 38] rfl))))))) ?_
 refine TL ?_
 refine RVN 1 rfl ?_
 refine GS ?_
 refine TN 1 ?_
 refine RS (OpOk.fact (ok_loadA (s := 1000004) (by decide) Tryz.underlying83 rfl (size83.of (rfl)) rfl rfl) (d := hdD (vlst (rowQ (List.replicate 2 0))) (alR 10 100 10)) (s := 1000036) (by decide) rfl (hd_ofL (rowQ (List.replicate 2 0)) (alR 10 100 10) (by simp [rowQ]) (Nat.le_refl _) (by decide) (by simp [rowQ]))) ?_
 refine RN ?_
 refine ZM 1000041 (fun B' => ok_callB (Take_ok (List.replicate 2 0) 10 100 10 1 (by decide) (by unfold Valid; decide) (by decide) (by decide)) newD_mono (A2 rfl rfl)) rfl fun b41 ⟨hBb41, hb41⟩ => ?_
 have hlt_b1_b41 := hb41 1000001 b1 _ _ rfl
 have hlt_b2_b41 := hb41 1000002 b2 _ _ rfl
 have hlt_b4_b41 := hb41 1000004 b4 _ _ rfl
 have hlt_b31_b41 := hb41 1000031 b31 _ _ rfl
 have hlt_b36_b41 := hb41 1000036 b36 _ _ rfl
 refine TN 6 ?_
 refine RVN 4 rfl ?_
 refine ZN 1000006 zero41 fun b6 ⟨hBb6, hb6⟩ => ?_
 refine TN 7 ?_
 refine RN ?_
 refine ZN 1000007 zero83 fun b7 ⟨hBb7, hb7⟩ => ?_
 have hlt_b2_b7 := hb7 1000002 b2 _ _ rfl
 have hlt_b4_b7 := hb7 1000004 b4 _ _ rfl
 refine TF 8 ?_
 refine RN ?_
 refine ZA 1000006 (size41.of rfl) hBb6 rfl rfl rfl (LT 1000001 rfl (LT 1000002 rfl (LT 1000004 rfl (LT 1000007 rfl (LT 1000031 rfl (LT 1000036 rfl (LT 1000041 rfl (LeftS.cons (t := 1900000) rfl (Surv.tab (by omega)) (LeftS.cons (t := 1900001) rfl (Surv.tab (by omega)) (LW [1, 3, 5, 6, 7, 43, 44] rfl)))))))))) ?_
 refine TF 9 ?_
 refine RN ?_
 refine ZA 1000007 (size83.of rfl) hBb7 rfl rfl rfl (LT 1000001 rfl (LB 1000002 rfl (LB 1000004 rfl (LT 1000006 rfl (LT 1000031 rfl (LT 1000036 rfl (LT 1000041 rfl (LeftS.cons (t := 1900000) rfl (Surv.tab (by omega)) (LeftS.cons (t := 1900001) rfl (Surv.tab (by omega)) (LW [1, 3, 5, 6, 7, 44] rfl)))))))))) ?_
 refine TL ?_
 refine RVN 1 rfl ?_
 refine A.sub (SV [1, 3, 5, 6, 7, 8, 1000001, 1000002, 1000004, 1000006, 1000007, 1000031, 1000036, 1000041, 1900000, 1900001] rfl) ?_
 refine GS ?_
 refine TN 1 ?_
 refine RS (ok_litS [(0, .int .u8 1), (31, .int .u8 2)] (exPl.map byteV) ⟨rfl, rfl, rfl, rfl, trivial⟩ (by kernel_rfl)) ?_
 refine RN ?_
 refine ZN 1000009 zero54 fun b9 ⟨hBb9, hb9⟩ => ?_
 refine TF 2 ?_
 refine RN ?_
 refine ZA 1000009 (size54.of rfl) hBb9 rfl rfl rfl (LT 1000001 rfl (LT 1000002 rfl (LT 1000004 rfl (LT 1000006 rfl (LT 1000007 rfl (LT 1000031 rfl (LT 1000036 rfl (LT 1000041 rfl (LeftS.cons (t := 1900000) rfl (Surv.tab (by omega)) (LeftS.cons (t := 1900001) rfl (Surv.tab (by omega)) (LW [1, 3, 5, 6, 7, 8, 9] rfl))))))))))) ?_
 refine TL ?_
 refine RN ?_
 refine GS ?_
 refine TN 8 ?_
 refine RS (ok_loadA (s := 1000001) (by decide) Tryz.underlying58 rfl (size58.of (by simp [rowV_length, hK])) rfl rfl) ?_
 refine RL 1000006 Tryz.underlying41 rfl rfl (size41.of rfl) ?_
 refine RL 1000009 Tryz.underlying54 rfl rfl (size54.of rfl) ?_
 refine RS (ok_callM (Seal_ok (byL E) K (byL_lt E) hK 7 1 0 (by decide) (by decide) exPl rfl (by decide)) (Sub.cons rfl (Sub.cons rfl KN)) tabs_v (Args.cons rfl (Le.refl _) (A3 rfl rfl rfl))) ?_
 refine RVN 4 rfl ?_
 refine ZN 1000010 zero54 fun b10 ⟨hBb10, hb10⟩ => ?_
 have hlt_b9_b10 := hb10 1000009 b9 _ _ rfl
 refine TN 9 ?_
 refine RN ?_
 refine ZN 1000011 zero31 fun b11 ⟨hBb11, hb11⟩ => ?_
 refine TF 10 ?_
 refine RN ?_
 refine ⟨_, eff_storeA (n := 195) (s := 1000010) (size54.of (by rw [List.length_map]; exact ((xorK_length (byL E) 1 0 0 exPl).trans (rfl : exPl.length = 32)))) rfl rfl (all_bytes _) hBb10 rfl (by rw [List.length_map]; exact ((xorK_length (byL E) 1 0 0 exPl).trans (rfl : exPl.length = 32))) (LT 1000001 rfl (LT 1000002 rfl (LT 1000004 rfl (LT 1000006 rfl (LT 1000007 rfl (LB 1000009 rfl (LT 1000011 rfl (LT 1000031 rfl (LT 1000036 rfl (LT 1000041 rfl (LeftS.cons (t := 1900000) rfl (Surv.tab (by omega)) (LeftS.cons (t := 1900001) rfl (Surv.tab (by omega)) (LW [1, 3, 5, 6, 7, 8, 9, 10, 11, 52, 53] rfl))))))))))))), ?_⟩
 refine TF 11 ?_
 refine RN ?_
 refine ⟨_, eff_storeA (n := 195) (s := 1000011) (size31.of (by rw [List.length_map, hmac_length])) rfl rfl (all_bytes _) hBb11 rfl (by rw [List.length_map, hmac_length]; rfl) (LT 1000001 rfl (LT 1000002 rfl (LT 1000004 rfl (LT 1000006 rfl (LT 1000007 rfl (LT 1000009 rfl (LT 1000010 rfl (LT 1000031 rfl (LT 1000036 rfl (LT 1000041 rfl (LeftS.cons (t := 1900000) rfl (Surv.tab (by omega)) (LeftS.cons (t := 1900001) rfl (Surv.tab (by omega)) (LW [1, 3, 5, 6, 7, 8, 9, 10, 11, 53] rfl))))))))))))), ?_⟩
 refine TL ?_
 refine RVN 1 rfl ?_
 refine QS ?_
 refine GT ?_
 refine RV 2 rfl ?_
 refine RZ (.bool false) (by rfl) ?_
 refine RV 3 rfl ?_
 refine RZ (.bool false) (by rfl) ?_
 refine RV 4 rfl ?_
 refine RZ (.bool false) (by rfl) ?_
 refine RV 4 rfl ?_
 refine RZ (.bool false) (by rfl) ?_
 refine RV 2 rfl ?_
 refine RQ (ok_loadA (s := 1000006) (by decide) Tryz.underlying41 rfl (size41.of (rfl)) rfl rfl) ?_
 refine RQ (ok_litS [(0, .int .u32 1)] ([.int .u32 1, .int .u64 0]) ⟨rfl, rfl, trivial⟩ (by kernel_rfl)) ?_
 refine RQ (ok_neqT (n := 3) true flatN (by decide) (by kernel_rfl) (by kernel_rfl) rfl rfl (kinN _ _) (kinN _ _) ⟨fun _ => by rfl, fun _ => rfl⟩) ?_; refine RZ (.bool false) (by rfl) ?_
 refine RV 2 rfl ?_
 refine RQ (ok_field field83_0 (by decide) rfl) ?_
 refine RQ (ok_loadV (s := 1000007) (by decide) Tryz.underlying81 rfl rfl rfl (rfl)) ?_
 refine RQ (ok_lenV Tryz.underlying81 rfl) ?_
 refine RQ (ok_bin rfl rfl rfl) ?_
 refine RZ (.bool false) (by rfl) ?_
 refine RV 2 rfl ?_
 refine RQ (ok_field field83_0 (by decide) rfl) ?_
 refine RQ (ok_loadV (s := 1000007) (by decide) Tryz.underlying81 rfl rfl rfl (rfl)) ?_
 refine RQ (ok_indexV 1 Tryz.underlying81 info39 rfl rfl rfl (by decide)) ?_
 refine RQ (ok_loadV (s := 1000041) (by decide) Tryz.underlying39 rfl rfl rfl (rfl)) ?_
 refine RQ (ok_bin rfl rfl rfl) ?_
 refine RZ (.bool false) (by rfl) ?_
 refine RVN 1 rfl ?_
 refine A.sub (SV [1, 6, 9, 10, 11, 85, 1000001, 1000002, 1000004, 1000006, 1000007, 1000009, 1000010, 1000011, 1000031, 1000036, 1000041, 1900000, 1900001] rfl) ?_
 refine A.no rfl ?_
 refine QK ?_
 refine GS ?_
 refine TN 3 ?_
 refine RL 1000006 Tryz.underlying41 rfl rfl (size41.of rfl) ?_
 refine RS (ok_loadA (s := 1000011) (by decide) Tryz.underlying31 rfl (size31.of (by rw [List.length_map, hmac_length])) rfl rfl) ?_
 refine RS (ok_litS [(0, byteV 2), (1, aggV [.int .u32 1, .int .u64 0]), (2, aggV ((hmac K (msgL 7 1 0 (xorK (byL E) 1 0 0 exPl))).map byteV))] (recV 2 1 0 (hmac K (msgL 7 1 0 (xorK (byL E) 1 0 0 exPl)))) ⟨rfl, rfl, rfl, rfl, rfl, rfl, trivial⟩ (by exact bRecT 2 1 0 (hmac_length _ _))) ?_
 refine RN ?_
 refine ZM 1000090 (fun B' => ok_callB (PutRecord_okB 2 1 0 (hmac K (msgL 7 1 0 (xorK (byL E) 1 0 0 exPl))) (hmac_length _ _) (by decide) (by decide) (fun h => by unfold BadR at h; simp at h)) newD_mono (A1 rfl)) rfl fun b90 ⟨hBb90, hb90⟩ => ?_
 have hlt_b1_b90 := hb90 1000001 b1 _ _ rfl
 have hlt_b2_b90 := hb90 1000002 b2 _ _ rfl
 have hlt_b4_b90 := hb90 1000004 b4 _ _ rfl
 have hlt_b6_b90 := hb90 1000006 b6 _ _ rfl
 have hlt_b7_b90 := hb90 1000007 b7 _ _ rfl
 have hlt_b9_b90 := hb90 1000009 b9 _ _ rfl
 have hlt_b10_b90 := hb90 1000010 b10 _ _ rfl
 have hlt_b11_b90 := hb90 1000011 b11 _ _ rfl
 have hlt_b31_b90 := hb90 1000031 b31 _ _ rfl
 have hlt_b36_b90 := hb90 1000036 b36 _ _ rfl
 have hlt_b41_b90 := hb90 1000041 b41 _ _ rfl
 refine TL ?_
 refine RVN 5 rfl ?_
 refine GS ?_
 refine TN 5 ?_
 refine RS (OpOk.fact (ok_move rfl) (d := byt (recL 2 1 0 (hmac K (msgL 7 1 0 (xorK (byL E) 1 0 0 exPl))))) (s := 1000090) (by decide) rfl (slice_byt (recL 2 1 0 (hmac K (msgL 7 1 0 (xorK (byL E) 1 0 0 exPl)))) (recL_len 2 1 0 (hmac_length _ _)).symm (by decide) (by decide) (by rw [List.drop_zero, List.take_of_length_le (by rw [List.length_map, recL_len 2 1 0 (hmac_length _ _)]; decide)]))) ?_
 refine RS (ok_call (GetRecord_put 2 1 0 (hmac K (msgL 7 1 0 (xorK (byL E) 1 0 0 exPl))) (hmac_length _ _) (by decide) (by decide) (fun h => by unfold BadR at h; simp at h)) (A1 rfl)) ?_
 refine RVN 3 rfl ?_
 refine ZN 1000015 zero64 fun b15 ⟨hBb15, hb15⟩ => ?_
 refine TF 6 ?_
 refine RN ?_
 refine ⟨_, eff_storeA (n := 195) (s := 1000015) (size64.of (rec_len 2 1 0 (hmac_length _ _))) rfl rfl (rec_one _ _ _ _) hBb15 rfl (by rw [rec_len 2 1 0 (hmac_length _ _)]; rfl) (LT 1000001 rfl (LT 1000002 rfl (LT 1000004 rfl (LT 1000006 rfl (LT 1000007 rfl (LT 1000009 rfl (LT 1000010 rfl (LT 1000011 rfl (LT 1000031 rfl (LT 1000036 rfl (LT 1000041 rfl (LT 1000090 rfl (LeftS.cons (t := 1900000) rfl (Surv.tab (by omega)) (LeftS.cons (t := 1900001) rfl (Surv.tab (by omega)) (LW [1, 6, 9, 10, 13, 14, 15, 97] rfl))))))))))))))), ?_⟩
 refine TL ?_
 refine RVN 1 rfl ?_
 refine GS ?_
 refine TN 10 ?_
 refine RS (ok_loadA (s := 1000001) (by decide) Tryz.underlying58 rfl (size58.of (by simp [rowV_length, hK])) rfl rfl) ?_
 refine RS (ok_field field64_1 (by decide) rfl) ?_
 refine RS (ok_loadP (s := 1000015) (by decide) Tryz.underlying41 rfl size41 rfl rfl (by simp [recV]) (rfl)) ?_
 refine RS (ok_loadA (s := 1000010) (by decide) Tryz.underlying54 rfl (size54.of (by rw [List.length_map]; exact ((xorK_length (byL E) 1 0 0 exPl).trans (rfl : exPl.length = 32)))) rfl rfl) ?_
 refine RS (ok_field field64_2 (by decide) rfl) ?_
 refine RS (ok_loadP (s := 1000015) (by decide) Tryz.underlying31 rfl size31 rfl rfl (by simp [recV, hmac_length]) (rec_tag (hmac_length _ _))) ?_
 refine RS (ok_callM (Open_ok (byL E) K (byL_lt E) hK 7 1 0 (by decide) (by decide) (xorK (byL E) 1 0 0 exPl) ((xorK_length (byL E) 1 0 0 exPl).trans (rfl : exPl.length = 32)) (by decide) (hmac K (msgL 7 1 0 (xorK (byL E) 1 0 0 exPl))) (hmac_length _ _) rfl) (Sub.cons rfl (Sub.cons rfl KN)) tabs_v (Args.cons rfl (Le.refl _) (Args.cons rfl (Le.refl _) (A3 rfl rfl rfl)))) ?_; refine RZ (.tuple #[aggV (exPl.map byteV), .int .i64 0]) (by rw [xorK_xorK (byL_lt E)]) ?_
 refine RVN 3 rfl ?_
 refine ZN 1000017 zero54 fun b17 ⟨hBb17, hb17⟩ => ?_
 have hlt_b9_b17 := hb17 1000009 b9 _ _ rfl
 have hlt_b10_b17 := hb17 1000010 b10 _ _ rfl
 refine TF 11 ?_
 refine RN ?_
 refine ZA 1000017 (size54.of rfl) hBb17 rfl rfl rfl (LT 1000001 rfl (LT 1000002 rfl (LT 1000004 rfl (LT 1000006 rfl (LT 1000007 rfl (LB 1000009 rfl (LB 1000010 rfl (LT 1000011 rfl (LT 1000015 rfl (LT 1000031 rfl (LT 1000036 rfl (LT 1000041 rfl (LT 1000090 rfl (LeftS.cons (t := 1900000) rfl (Surv.tab (by omega)) (LeftS.cons (t := 1900001) rfl (Surv.tab (by omega)) (LW [1, 6, 9, 13, 14, 16, 17, 107] rfl)))))))))))))))) ?_
 refine TL ?_
 refine RVN 1 rfl ?_
 refine A.sub (SV [1, 6, 9, 13, 14, 16, 17, 18, 1000001, 1000002, 1000004, 1000006, 1000007, 1000009, 1000010, 1000011, 1000015, 1000017, 1000031, 1000036, 1000041, 1000090, 1900000, 1900001] rfl) ?_
 refine QS ?_
 refine GT ?_
 refine RV 2 rfl ?_
 refine RZ (.bool false) (by rfl) ?_
 refine RV 3 rfl ?_
 refine RZ (.bool false) (by rfl) ?_
 refine RV 4 rfl ?_
 refine RZ (.bool false) (by rfl) ?_
 refine RV 2 rfl ?_
 refine RQ (ok_loadA (s := 1000017) (by decide) Tryz.underlying54 rfl (size54.of (rfl)) rfl rfl) ?_
 refine RQ (ok_loadA (s := 1000009) (by decide) Tryz.underlying54 rfl (size54.of (rfl)) rfl rfl) ?_
 refine RQ (ok_neqT (n := 3) true flat54 (by decide) (by kernel_rfl) (by kernel_rfl) rfl rfl (kinB (l := exPl) rfl) (kinB (l := exPl) rfl) ⟨fun _ => rfl, fun _ => rfl⟩) ?_; refine RZ (.bool false) (by rfl) ?_
 refine RV 3 rfl ?_
 refine RQ (ok_lenV Tryz.underlying22 rfl) ?_
 refine RQ (ok_bin rfl rfl rfl) ?_
 refine RZ (.bool false) (by rfl) ?_
 refine RVN 1 rfl ?_
 refine A.no rfl ?_
 refine QK ?_
 refine GS ?_
 refine TN 5 ?_
 refine RL 1000006 Tryz.underlying41 rfl rfl (size41.of rfl) ?_
 refine RS (ok_call (Used_fn 1 0 0 32 (by decide) (by decide)) (A3 rfl rfl rfl)) ?_
 refine RM rfl ?_
 refine RS (ok_extract rfl rfl) ?_; refine RZ (aggV [.int .u32 1, .int .u64 0, .int .u32 0, .int .u32 1]) (by rfl) ?_
 refine RS (ok_extract rfl rfl) ?_
 refine RN ?_
 refine ZN 1000019 zero90 fun b19 ⟨hBb19, hb19⟩ => ?_
 refine TF 6 ?_
 refine RN ?_
 refine ZA 1000019 (size90.of rfl) hBb19 rfl rfl rfl (LT 1000001 rfl (LT 1000002 rfl (LT 1000004 rfl (LT 1000006 rfl (LT 1000007 rfl (LT 1000009 rfl (LT 1000010 rfl (LT 1000011 rfl (LT 1000015 rfl (LT 1000017 rfl (LT 1000031 rfl (LT 1000036 rfl (LT 1000041 rfl (LT 1000090 rfl (LeftS.cons (t := 1900000) rfl (Surv.tab (by omega)) (LeftS.cons (t := 1900001) rfl (Surv.tab (by omega)) (LW [1, 19, 132] rfl))))))))))))))))) ?_
 refine TL ?_
 refine RVN 1 rfl ?_
 refine A.sub (SV [1, 19, 20, 1000001, 1000002, 1000004, 1000006, 1000007, 1000009, 1000010, 1000011, 1000015, 1000017, 1000019, 1000031, 1000036, 1000041, 1000090, 1900000, 1900001] rfl) ?_
 refine GS ?_
 refine TN 5 ?_
 refine RS (ok_lit [] [.slice none 0 0] (fun _ _ => rfl) (by kernel_rfl)) ?_
 refine RS (ok_field field58_0 (by decide) rfl) ?_
 refine RS (ok_loadP (s := 1000001) (by decide) Tryz.underlying37 rfl size37 rfl rfl (by simp [rowV_length, hK]) (key_part hE)) ?_
 refine RL 1000019 Tryz.underlying90 rfl rfl (size90.of rfl) ?_
 refine RS (ok_litS [(0, aggV (E.map byteV)), (1, aggV [.int .u32 1, .int .u64 0, .int .u32 0, .int .u32 1])] (usV (exUse E)) ⟨rfl, rfl, rfl, rfl, trivial⟩ (by exact bUseT hE 1 0 0 1)) ?_
 refine RN ?_
 refine ZM 1000139 (fun B' => ok_callB (Add_okB [] (exUse E) (fun u hu => by cases hu) (exUse_fit hE) (by simp) rfl (chk1 E) (by simp)) newD_mono (Args.cons rfl (nil_led) (A1 rfl))) rfl fun b139 ⟨hBb139, hb139⟩ => ?_
 have hlt_b1_b139 := hb139 1000001 b1 _ _ rfl
 have hlt_b2_b139 := hb139 1000002 b2 _ _ rfl
 have hlt_b4_b139 := hb139 1000004 b4 _ _ rfl
 have hlt_b6_b139 := hb139 1000006 b6 _ _ rfl
 have hlt_b7_b139 := hb139 1000007 b7 _ _ rfl
 have hlt_b9_b139 := hb139 1000009 b9 _ _ rfl
 have hlt_b10_b139 := hb139 1000010 b10 _ _ rfl
 have hlt_b11_b139 := hb139 1000011 b11 _ _ rfl
 have hlt_b15_b139 := hb139 1000015 b15 _ _ rfl
 have hlt_b17_b139 := hb139 1000017 b17 _ _ rfl
 have hlt_b19_b139 := hb139 1000019 b19 _ _ rfl
 have hlt_b31_b139 := hb139 1000031 b31 _ _ rfl
 have hlt_b36_b139 := hb139 1000036 b36 _ _ rfl
 have hlt_b41_b139 := hb139 1000041 b41 _ _ rfl
 have hlt_b90_b139 := hb139 1000090 b90 _ _ rfl
 refine TN 9 ?_
 refine RVN 3 rfl ?_
 refine ZN 1000021 zero95 fun b21 ⟨hBb21, hb21⟩ => ?_
 refine TF 10 ?_
 refine RN ?_
 refine ZA 1000021 (size95.of rfl) hBb21 rfl rfl rfl (LT 1000001 rfl (LT 1000002 rfl (LT 1000004 rfl (LT 1000006 rfl (LT 1000007 rfl (LT 1000009 rfl (LT 1000010 rfl (LT 1000011 rfl (LT 1000015 rfl (LT 1000017 rfl (LT 1000019 rfl (LT 1000031 rfl (LT 1000036 rfl (LT 1000041 rfl (LT 1000090 rfl (LT 1000139 rfl (LeftS.cons (t := 1900000) rfl (Surv.tab (by omega)) (LeftS.cons (t := 1900001) rfl (Surv.tab (by omega)) (LW [1, 19, 20, 21, 141] rfl))))))))))))))))))) ?_
 refine TL ?_
 refine RVN 1 rfl ?_
 refine GS ?_
 refine TN 5 ?_
 refine RS (OpOk.hdBlk (ok_loadA (s := 1000021) (by decide) Tryz.underlying95 rfl (size95.of (rfl)) rfl rfl) (k := 1000139) (by decide) rfl) ?_
 refine RS (ok_field field58_0 (by decide) rfl) ?_
 refine RS (ok_loadP (s := 1000001) (by decide) Tryz.underlying37 rfl size37 rfl rfl (by simp [rowV_length, hK]) (key_part hE)) ?_
 refine RL 1000019 Tryz.underlying90 rfl rfl (size90.of rfl) ?_
 refine RS (ok_litS [(0, aggV (E.map byteV)), (1, aggV [.int .u32 1, .int .u64 0, .int .u32 0, .int .u32 1])] (usV (exUse E)) ⟨rfl, rfl, rfl, rfl, trivial⟩ (by exact bUseT hE 1 0 0 1)) ?_
 refine RN ?_
 refine ZM 1000148 (fun B' => ok_callB (Add_okB [(exUse E)] (exUse E) (exUses_fit hE) (exUse_fit hE) (by simp) (chk1 E) (chk1 E) (by simp)) newD_mono (Args.cons rfl (Le.eq (by rfl)) (A1 rfl))) rfl fun b148 ⟨hBb148, hb148⟩ => ?_
 have hlt_b1_b148 := hb148 1000001 b1 _ _ rfl
 have hlt_b2_b148 := hb148 1000002 b2 _ _ rfl
 have hlt_b4_b148 := hb148 1000004 b4 _ _ rfl
 have hlt_b6_b148 := hb148 1000006 b6 _ _ rfl
 have hlt_b7_b148 := hb148 1000007 b7 _ _ rfl
 have hlt_b9_b148 := hb148 1000009 b9 _ _ rfl
 have hlt_b10_b148 := hb148 1000010 b10 _ _ rfl
 have hlt_b11_b148 := hb148 1000011 b11 _ _ rfl
 have hlt_b15_b148 := hb148 1000015 b15 _ _ rfl
 have hlt_b17_b148 := hb148 1000017 b17 _ _ rfl
 have hlt_b19_b148 := hb148 1000019 b19 _ _ rfl
 have hlt_b21_b148 := hb148 1000021 b21 _ _ rfl
 have hlt_b31_b148 := hb148 1000031 b31 _ _ rfl
 have hlt_b36_b148 := hb148 1000036 b36 _ _ rfl
 have hlt_b41_b148 := hb148 1000041 b41 _ _ rfl
 have hlt_b90_b148 := hb148 1000090 b90 _ _ rfl
 have hlt_b139_b148 := hb148 1000139 b139 _ _ rfl
 refine TN 9 ?_
 refine RVN 3 rfl ?_
 refine ZN 1000023 zero95 fun b23 ⟨hBb23, hb23⟩ => ?_
 have hlt_b21_b23 := hb23 1000021 b21 _ _ rfl
 refine TF 10 ?_
 refine RN ?_
 refine ZA 1000023 (size95.of rfl) hBb23 rfl rfl rfl (LT 1000001 rfl (LT 1000002 rfl (LT 1000004 rfl (LT 1000006 rfl (LT 1000007 rfl (LT 1000009 rfl (LT 1000010 rfl (LT 1000011 rfl (LT 1000015 rfl (LT 1000017 rfl (LT 1000019 rfl (LB 1000021 rfl (LT 1000031 rfl (LT 1000036 rfl (LT 1000041 rfl (LT 1000090 rfl (LT 1000139 rfl (LT 1000148 rfl (LeftS.cons (t := 1900000) rfl (Surv.tab (by omega)) (LeftS.cons (t := 1900001) rfl (Surv.tab (by omega)) (LW [19, 20, 22, 23, 150] rfl))))))))))))))))))))) ?_
 refine TL ?_
 refine RVN 1 rfl ?_
 refine GT ?_
 refine RS (OpOk.hdBlk (ok_loadA (s := 1000023) (by decide) Tryz.underlying95 rfl (size95.of (rfl)) rfl rfl) (k := 1000148) (by decide) rfl) ?_
 refine RS (ok_call (Repeats_some [(exUse E), (exUse E)] (exTwo_fit hE) (by simp) (chk2 E) (ok2 E) (by rw [exTwo_J]; simp) (shared_fn _ (exTwo_fit hE) (by simp))) (Args.cons rfl (Le.eq (by rfl)) Args.nil)) ?_; refine RZ (.tuple #[.int .i64 0, .int .i64 1, .bool true]) (two_rep E) ?_
 refine RVN 7 rfl ?_
 refine A.sub (SV [19, 20, 22, 24, 25, 26, 27, 1000001, 1000002, 1000004, 1000006, 1000007, 1000009, 1000010, 1000011, 1000015, 1000017, 1000019, 1000021, 1000023, 1000031, 1000036, 1000041, 1000090, 1000139, 1000148, 1900000, 1900001] rfl) ?_
 refine GS ?_
 refine TF 32 ?_
 refine RV 2 rfl ?_
 refine RZ (.bool true) (by rfl) ?_
 refine RM rfl ?_
 refine RQ (ok_field field90_2 (by decide) rfl) ?_
 refine RQ (ok_loadV (s := 1000019) (by decide) Tryz.underlying38 rfl rfl rfl (rfl)) ?_
 refine RQ (ok_bin rfl rfl rfl) ?_
 refine RZ (.bool true) (by rfl) ?_
 refine RV 4 rfl ?_
 refine RZ (.bool true) (by rfl) ?_
 refine RV 4 rfl ?_
 refine RZ (.bool true) (by rfl) ?_
 refine RV 4 rfl ?_
 refine RZ (.bool true) (by rfl) ?_
 refine RV 4 rfl ?_
 refine RZ (.bool true) (by rfl) ?_
 refine RV 5 rfl ?_
 refine RQ (ok_call (Sub_fn 83 (by decide)) (A1 rfl)) ?_; refine RZ (.int .u8 237) (congrArg (fun n : Nat => Value.int .u8 (n : Int)) sub53) ?_
 refine RQ (ok_bin rfl rfl rfl) ?_
 refine RZ (.bool true) (by rfl) ?_
 refine RV 2 rfl ?_
 refine RQ (ok_buildT [97, 98, 99] Tryz.underlying22 info5 rfl (by decide) (by decide) rfl ⟨rfl, rfl, rfl, rfl, rfl, rfl, trivial⟩) ?_
 refine RN ?_
 refine ⟨_, Eff.guarded rfl rfl (eff_convN (n := 195) Tryz.underlying22 Tryz.underlying5 rfl (by decide) (fun g hg => (LeftM.cons (t := 19) rfl (.of (Surv.v _)) (LeftM.cons (t := 20) rfl (.of (Surv.v _)) (LeftM.cons (t := 22) rfl (.of (Surv.v _)) (LeftM.cons (t := 24) rfl (.of (Surv.v _)) (LeftM.cons (t := 25) rfl (.of (Surv.v _)) (LeftM.cons (t := 26) rfl (.of (Surv.v _)) (LeftM.cons (t := 27) rfl (.of (Surv.v _)) (LeftM.cons (t := 157) rfl (.of (Surv.v _)) (LeftM.cons (t := 158) rfl (.of (Surv.v _)) (LeftM.cons (t := 159) rfl (.of (Surv.v _)) (LeftM.cons (t := 160) rfl (.of (Surv.v _)) (LeftM.cons (t := 161) rfl (.of (Surv.v _)) (LeftM.cons (t := 162) rfl (.of (Surv.v _)) (LeftM.cons (t := 163) rfl (.of (Surv.v _)) (LeftM.cons (t := 164) rfl (.of (Surv.v _)) (LeftM.cons (t := 165) rfl (.of (Surv.v _)) (LeftM.cons (t := 166) rfl (.of (Surv.v _)) (LeftM.cons (t := 167) rfl (.of (Surv.v _)) (LeftM.cons (t := 168) rfl (.of (Surv.v _)) (LeftM.cons (t := 169) rfl (.of (Surv.v _)) (LeftM.cons (t := 170) rfl (.of (Surv.v _)) (LeftM.cons (t := 171) rfl (.of (Surv.v _)) (LeftM.cons (t := 172) rfl (.of (Surv.v _)) (LeftM.cons (t := 173) rfl (.of (Surv.v _)) (LeftM.cons (t := 174) rfl (.of (Surv.v _)) (LeftM.cons (t := 175) rfl (.of (Surv.v _)) (LeftM.cons (t := 176) rfl (.of (Surv.v _)) (LeftM.cons (t := 177) rfl (.of (Surv.v _)) (LeftM.cons (t := 178) rfl (.of (Surv.v _)) (LeftM.cons (t := 179) rfl (.of (Surv.v _)) (LeftM.cons (t := 180) rfl (.of (Surv.v _)) (LeftM.cons (t := 181) rfl (.of (Surv.v _)) (LeftM.cons (t := 182) rfl (.of (Surv.v _)) (LeftM.cons (t := 183) rfl (.of (Surv.v _)) (LeftM.cons (t := 184) rfl (.of (Surv.v _)) (LeftM.cons (t := 185) rfl (.of (Surv.v _)) (LeftM.cons (t := 186) rfl (.of (Surv.v _)) (LeftM.cons (t := 187) rfl (.of (Surv.v _)) (LeftM.cons (t := 188) rfl (.stb) (LeftM.cons (t := 1000001) rfl (.of (Surv.blkT (by decide))) (LeftM.cons (t := 1000002) rfl (.of (Surv.blkT (by decide))) (LeftM.cons (t := 1000004) rfl (.of (Surv.blkT (by decide))) (LeftM.cons (t := 1000006) rfl (.of (Surv.blkT (by decide))) (LeftM.cons (t := 1000007) rfl (.of (Surv.blkT (by decide))) (LeftM.cons (t := 1000009) rfl (.of (Surv.blkT (by decide))) (LeftM.cons (t := 1000010) rfl (.of (Surv.blkT (by decide))) (LeftM.cons (t := 1000011) rfl (.of (Surv.blkT (by decide))) (LeftM.cons (t := 1000015) rfl (.of (Surv.blkT (by decide))) (LeftM.cons (t := 1000017) rfl (.of (Surv.blkT (by decide))) (LeftM.cons (t := 1000019) rfl (.of (Surv.blkT (by decide))) (LeftM.cons (t := 1000021) rfl (.of (Surv.blkT (by decide))) (LeftM.cons (t := 1000023) rfl (.of (Surv.blkT (by decide))) (LeftM.cons (t := 1000031) rfl (.of (Surv.blkT (by decide))) (LeftM.cons (t := 1000036) rfl (.of (Surv.blkT (by decide))) (LeftM.cons (t := 1000041) rfl (.of (Surv.blkT (by decide))) (LeftM.cons (t := 1000139) rfl (.of (Surv.blkT (by decide))) (LeftM.cons (t := 1000148) rfl (.of (Surv.blkT (by decide))) (LeftM.cons (t := 1900000) rfl (.of (Surv.tab (by omega))) (LeftM.cons (t := 1900001) rfl (.of (Surv.tab (by omega))) LeftM.nil))))))))))))))))))))))))))))))))))))))))))))))))))))))))))))), ?_⟩
 refine TL ?_
 refine RQ (ok_build [newT w₀.heap.size 5 [97, 98, 99] 3] Tryz.underlying103 info22 rfl (by decide) (by decide) rfl ⟨rfl, rfl, trivial⟩ (fun d hd w x h => by simp only [List.mem_cons, List.not_mem_nil, or_false] at hd; subst hd; exact newT_one h)) ?_
 refine RQ (ok_callM (Of_fn [[97, 98, 99]] [97, 98, 99] rfl (by decide) (by decide)) (Sub.cons rfl (Sub.cons rfl KN)) tabs_v (Args.cons rfl (list_lst1 newT_byt) Args.nil)) ?_
 refine RQ (ok_indexV1 0 Tryz.underlying31 Tryz.underlying5 rfl info5 rfl rfl rfl (by decide) (sha_head _)) ?_; refine RZ (.int .u8 186) (abc_val) ?_
 refine RQ (ok_bin rfl rfl rfl) ?_
 refine RZ (.bool true) (by rfl) ?_
 refine RVN 2 rfl ?_
 refine A.sub (SV [0, 1000001, 1000002, 1000004, 1000006, 1000007, 1000009, 1000010, 1000011, 1000015, 1000017, 1000019, 1000021, 1000023, 1000031, 1000036, 1000041, 1000139, 1000148, 1900000, 1900001] rfl) ?_
 refine A.ret ?_
 exact ER rfl rfl
theorem live11_fn : FnM Tryz.prog 8 tabs [] (.v (.bool true)) := live11_g _ _ (hkdf_length 16) (hkdf_length 32) (Volume_fn exMK rfl)
end Go.Proofs.YtffiflfjlemggaaGreatDoor
namespace Go.Proofs.YtffiflfjlemggaaGreatDoor
open Go Go.RowKit
set_option linter.unusedVariables false
set_option linter.unusedSimpArgs false
variable {κ : Cx}
/-! ### Drawn regions with guards whose changes of memory are no barriers -/
section
variable {P : Program} {B : Nat} {ops : Array Oper} {E : Env} {C : Env → Prop} {o : Oper} {rest : List Oper} {t : Nat} {d : D} {ms : List Mk}
theorem RunX.guarded {st : Bool} {kl : Option Nat} {j : Nat} {want : Bool} {s : Nat} (ht : o.dst = some t) (hg : o.guard = some (j, want)) (hj : ((ops[j]?).bind (·.dst)) = some s) (hE : E.look s = some (.v (.bool want))) (h : OpOk P B o E d) (hs : st = true → Stays B d) (hr : RunX P B ops rest ((t, d) :: E) ms C) : RunX P B ops (o :: rest) E (⟨false, st, kl⟩ :: ms) C := by
  obtain ⟨ds, E', h1, h2⟩ := hr
  exact ⟨_, E', .cons ht (.inl ⟨by simp only [GuardIs, hg]; exact ⟨s, hj, .inl ⟨want, hE, by cases want <;> rfl⟩⟩, h.x⟩) hs h1, h2⟩
theorem RunX.skipped {kl : Option Nat} {j : Nat} {want c : Bool} {s : Nat} (ht : o.dst = some t) (hg : o.guard = some (j, want)) (hj : ((ops[j]?).bind (·.dst)) = some s) (hE : E.look s = some (.v (.bool c))) (hc : (c == want) = false) (hr : RunX P B ops rest ((t, .v undef) :: E) ms C) : RunX P B ops (o :: rest) E (⟨false, true, kl⟩ :: ms) C := by
  obtain ⟨ds, E', h1, h2⟩ := hr
  exact ⟨_, E', .cons ht (.inr ⟨by simp only [GuardIs, hg]; exact ⟨s, hj, .inl ⟨c, hE, hc.symm⟩⟩, rfl⟩) (fun _ => Stays.v _ _) h1, h2⟩
theorem RunX.skippedU {kl : Option Nat} {j : Nat} {want : Bool} {s : Nat} (ht : o.dst = some t) (hg : o.guard = some (j, want)) (hj : ((ops[j]?).bind (·.dst)) = some s) (hE : E.look s = some (.v undef)) (hr : RunX P B ops rest ((t, .v undef) :: E) ms C) : RunX P B ops (o :: rest) E (⟨false, true, kl⟩ :: ms) C := by
  obtain ⟨ds, E', h1, h2⟩ := hr
  exact ⟨_, E', .cons ht (.inr ⟨by simp only [GuardIs, hg]; first | exact ⟨s, hj, .inr ⟨hE, trivial⟩⟩ | exact ⟨s, hj, .inr ⟨hE, rfl⟩⟩, rfl⟩) (fun _ => Stays.v _ _) h1, h2⟩
end
/-! ### Rows of structs that are appended to -/
section
variable {P : Program} {B : Nat} {E : Env} {dst : Option Tmp} {ty : TypeId} {pos : String} {after : Array Edge} {guard : Option (Nat × Bool)}
end
/-! ### Slices without spare capacity -/
section
variable {P : Program} {n : Nat} {E : Env} {w₀ : World} {c : Code} {Q : Exit → Act → World → Prop}
/-- What is known at a later point holds of what was there at that point. -/
def UpTo (w : World) (E' E : Env) : Prop := ∀ p ∈ E', ∃ d, E.look p.1 = some d ∧ (p.2 = d ∨ p.2 = old w.heap.size d ∨ ∃ B₀ d₀, d = old B₀ d₀ ∧ p.2 = old w.heap.size d₀)
theorem UpTo.nil {w : World} {E : Env} : UpTo w [] E := fun _ h => by cases h
theorem UpTo.same {w : World} {E E' : Env} {t : Nat} {d : D} (h : E.look t = some d) (hr : UpTo w E' E) : UpTo w ((t, d) :: E') E := fun p hp => by
  rcases List.mem_cons.1 hp with rfl | hp
  · exact ⟨d, h, .inl rfl⟩
  · exact hr p hp
theorem UpTo.new {w : World} {E E' : Env} {t : Nat} {d : D} (h : E.look t = some d) (hr : UpTo w E' E) : UpTo w ((t, old w.heap.size d) :: E') E := fun p hp => by
  rcases List.mem_cons.1 hp with rfl | hp
  · exact ⟨d, h, .inr (.inl rfl)⟩
  · exact hr p hp
theorem UpTo.old {w : World} {E E' : Env} {t B₀ : Nat} {d : D} (h : E.look t = some (Go.Proofs.YtffiflfjlemggaaGreatDoor.old B₀ d)) (hr : UpTo w E' E) : UpTo w ((t, Go.Proofs.YtffiflfjlemggaaGreatDoor.old w.heap.size d) :: E') E := fun p hp => by
  rcases List.mem_cons.1 hp with rfl | hp
  · exact ⟨_, h, .inr (.inr ⟨B₀, d, rfl, rfl⟩)⟩
  · exact hr p hp
/-- The rest of a function, at a base of its own: whatever is there by then is old. -/
theorem A.raise (E' : World → Env) (hE : ∀ w, UpTo w (E' w) E) (h : ∀ w₁, Grow w₀ w₁ → A κ P w₁ n c (E' w₁) Q) : A κ P w₀ n c E Q := fun a w g hs => by
  refine h w g a w (Below.refl _ _) ⟨Nat.le_refl _, hs.defers, hs.size, fun t d hd => ?_⟩
  obtain ⟨d', hd', h1⟩ := hE w _ (look_mem hd)
  have h2 := hs.of t d' hd'
  rcases h1 with h1 | h1 | ⟨B₀, d₀, h1, h3⟩
  · simp only at h1; rw [h1]; exact h2
  · simp only at h1; rw [h1]; exact ⟨Nat.le_refl _, h2⟩
  · subst h1; simp only at h3; rw [h3]; exact ⟨Nat.le_refl _, D.OfB.up h2.2 h2.1⟩
theorem End.ret1U {w₁ : World} {fn : Func} {r : Nat} {d e : D} (hg : Grow w₀ w₁) (hr : fn.results = #[.tmp r]) (he : E.look r = some e) (hl : Le e d) : End Cx.top w₁ n E (BP P fn (PostOf w₀ d) .ret) := fun a w g hs =>
  BP.ret hs.defers ⟨a.tmps.getD r undef, by simp [results, hr], _, rfl, Grow.trans hg g, hl.of (hs.of r e he)⟩
/-- A slice that came in, handed back in a struct's variable. -/
theorem End.hdRow {fn : Func} {r s b k m q B' : Nat} {T e : TypeId} {A₀ : Option Addr} {xs : List Value} {td : TypeDesc} (hr : fn.results = #[.cell r T]) (ht : P.underlying T = some td) (hp : (match td with | .struct _ | .array _ _ => true | _ => false) = true) (hsz : SizeIs P T 1)
    (h1 : E.look r = some (.v (.pointer (some ⟨b, 0, none⟩)))) (h2 : E.look s = some (blk b e [.slice A₀ m q])) (hk : E.look k = some (old B' (memR A₀ xs))) :
    End Cx.top w₀ n E (BP P fn (PostOf w₀ (hdD (rowD m xs) [])) .ret) := fun a w gr hs => by
  have h3 : a.tmps[r]?.getD undef = .pointer (some ⟨b, 0, none⟩) := by rw [← Array.getD_eq_getD_getElem?]; exact hs.of r _ h1
  obtain ⟨_, hh⟩ := hs.of s _ h2
  obtain ⟨hB, hrow⟩ := hs.of k _ hk
  exact BP.ret hs.defers ⟨aggV [.slice A₀ m q], by simp [results, hr, h3, asAddr, load_cell (xs := [.slice A₀ m q]) ht hp hsz hh], _, rfl, gr, _, rfl, rfl, A₀, q, rfl, D.OfB.up (d := memR A₀ xs) (x := undef) hrow hB⟩
end
section
variable {P : Program} {B : Nat} {E : Env}
end
section
variable {P : Program} {B : Nat} {E : Env}
variable {dst : Option Tmp} {ty : TypeId} {pos : String} {after : Array Edge} {guard : Option (Nat × Bool)}
end
/-! ### A new ledger in a new variable, in a drawn region -/
theorem Surv.newD {B T g base : Nat} {e : TypeId} {val : Nat → Value} {xs : List Value} (h : e ≠ T) : Surv B T g (Go.Proofs.YtffiflfjlemggaaGreatDoor.newD base e val xs) := fun w w' x k ⟨b, h1, h2, h3, h4⟩ => by
  refine ⟨b, h1, h2, Nat.lt_of_lt_of_le h3 k.size, ?_⟩
  by_cases hb : b = g
  · subst hb; exact absurd (k.row _ _ _ h4) h
  · exact (k.other b h3 hb).trans h4
section
variable {P : Program} {n B : Nat} {ops : Array Oper} {E : Env} {dst : Option Tmp} {ty : TypeId} {pos : String} {after : Array Edge} {guard : Option (Nat × Bool)}
end
end Go.Proofs.YtffiflfjlemggaaGreatDoor
namespace Go.Proofs.YtffiflfjlemggaaGreatDoor
open Go Go.RowKit
set_option linter.unusedVariables false
set_option maxRecDepth 20000
theorem kpad_rep (c : UInt8) (k : List UInt8) : xorV (kblock k) (List.replicate 64 c) = kpad c k := by
 have h : ∀ (l : List UInt8) (n : Nat), l.length = n → xorV l (List.replicate n c) = l.map (· ^^^ c) := fun l => by
  induction l with
  | nil => intro n h; cases h; rfl
  | cons a t ih => intro n h; cases h; have := ih t.length rfl; simp only [xorV, xors, List.length_replicate, List.length_cons, if_true, List.replicate_succ, List.zipWith_cons_cons, List.map_cons] at this ⊢; rw [this]
 rw [kpad, h _ 64 (kblock_length k)]
theorem hkdf64 (p i : List UInt8) : hkdf p i 64 = hmac p (i ++ [1]) ++ hmac p (hmac p (i ++ [1]) ++ (i ++ [2])) := by
 rw [hkdf, show (64 + 31) / 32 = 2 from rfl, List.take_of_length_le (by rw [hkO_length]; decide)]
 simp only [hkO, hkT, List.nil_append, List.append_assoc]; rfl

theorem filledT_fn (n : Nat) (c : UInt8) (hn : n ≤ 1000000) : Fn Tryz.prog 11 [.v (nI n), .v (byteV c)] (bytes (List.replicate n c) n) := by
 refine FV Tryz.func11 rfl Tryz.ntmps11 rfl fun w₀ => ?_
 refine GV rfl ?_
 refine GT ?_
 refine RM rfl ?_
 refine RS (ok_make n Tryz.underlying22 info5 (by decide) rfl rfl rfl rfl rfl (by omega)) ?_
 refine RVN 1 rfl ?_
 refine A.open (t := 5) (k := 1000000) rfl fun b hb => ?_
 refine QS ?_
 refine GV rfl ?_
 refine A.block ?_
 refine A.loop (ι := Nat) (fun i => i ≤ n) (fun i => [(0, .v (nI n)), (1, .v (byteV c)), (5, .v (.slice (some ⟨b, 0, none⟩) n n)), (6, .v (nI i)), (1000000, blk b 5 (((List.replicate n c).take i).map byteV ++ List.replicate ((List.replicate n c).length - i) (.int .u8 0)))]) (fun i => n - i) 0 ?_ ?_ ?_
 ·exact Nat.zero_le _
 ·exact (KC 0 rfl (KC 1 rfl (KE 5 rfl (by simp) (KC 6 rfl (KE 1000000 rfl (by simp) KN)))))
 intro i hi
 refine QS ?_
 refine GV rfl ?_
 refine A.cond rfl (fun hc11 => ?_) (fun hc11 => ?_)
 ·have hlt : i < n := by simpa using hc11
  refine QK ?_
  refine QSB ?_
  refine GE ?_
  refine TF 4 ?_
  refine RV 3 rfl ?_
  refine RS (ok_indexV i Tryz.underlying22 info5 rfl rfl rfl hlt) ?_
  refine RN ?_
  refine ⟨_, eff_store (n := 19) (s := 1000000) info5 rfl rfl rfl hb rfl (by simp; omega) (Left.cons (t := 0) rfl (Stays.v _ _) (Left.cons (t := 1) rfl (Stays.v _ _) (Left.cons (t := 5) rfl (Stays.v _ _) (Left.cons (t := 6) rfl (Stays.v _ _) Left.nil)))), ?_⟩
  refine TL ?_
  refine RN ?_
  refine End.normal_block ?_
  refine EN ?_
  refine GTE ?_
  refine RV 2 rfl ?_
  refine RZ (nI (i + 1)) (by rw [wrap_i64 (by omega) (by omega)]; rfl) ?_
  refine RVN 1 rfl ?_
  refine End.normal_then ?_
  refine End.again (i + 1) ?_ ?_ ?_
  ·show _ ≤ _; omega
  ·show _ - _ < _ - _; omega
  ·exact (KC 0 rfl (KC 1 rfl (KC 5 rfl (KC 6 rfl (KE 1000000 rfl (by rw [Nat.zero_add]; exact congrArg _ (fill_step (by simp [hlt]))) KN)))))
 ·refine A.exit ?_
  refine End.exit_then ?_
  refine End.exit_then ?_
  refine End.exit_here ?_
  refine EN ?_
  refine GV rfl ?_
  refine A.ret ?_
  have hK : i = n := by simp at hc11; omega
  subst hK
  refine End.bytes 4 1000000 (List.replicate i c) rfl (by simp) rfl ?_ (by simp) (by simp only [maxLen]; omega) ?_
  ·simp
  ·exact End.ret1 rfl rfl (Le.refl _)
theorem TopTags_A (k m i : List UInt8) (h : 100 < k.length) : FnM Tryz.prog 3 tabs [byt k, byt m, byt i] (.v (.bool true)) := by
 refine FnM.of Tryz.func3 rfl (by kernel_rfl) Tryz.ntmps3 (by simp) (by decide) (fun w => [(0, old w.heap.size (byt k)), (1, old w.heap.size (byt m)), (2, old w.heap.size (byt i)), (1900000, tab 0 (H8.list.map u32V)), (1900001, tab 1 (K64.map u32V))]) (fun w => (StartM.old rfl (StartM.old rfl (StartM.old rfl (StartM.m (by simp [tabs]) (by decide) (StartM.m (by simp [tabs]) (by decide) StartM.nil)))))) fun w₀ hM => ?_
 have htab := tabs_hi hM
 refine GV rfl ?_
 refine QS ?_
 refine GT ?_
 refine RM rfl ?_
 refine RS (ok_lenB Tryz.underlying22 rfl (Le.old _ _)) ?_
 refine RB rfl rfl rfl ?_
 refine RT ?_
 refine RVN 10 rfl ?_
 refine A.yes rfl ?_
 refine GT ?_
 refine RS (ok_callM (live11_fn) (Sub.cons rfl (Sub.cons rfl KN)) tabs_v Args.nil) ?_
 refine RVN 1 rfl ?_
 refine A.ret ?_
 refine End.ret_then ?_
 exact ER rfl rfl
theorem TopTags_B (k m i : List UInt8) (h0 : k.length ≤ 100) (h : 100 < m.length) : FnM Tryz.prog 3 tabs [byt k, byt m, byt i] (.v (.bool true)) := by
 refine FnM.of Tryz.func3 rfl (by kernel_rfl) Tryz.ntmps3 (by simp) (by decide) (fun w => [(0, old w.heap.size (byt k)), (1, old w.heap.size (byt m)), (2, old w.heap.size (byt i)), (1900000, tab 0 (H8.list.map u32V)), (1900001, tab 1 (K64.map u32V))]) (fun w => (StartM.old rfl (StartM.old rfl (StartM.old rfl (StartM.m (by simp [tabs]) (by decide) (StartM.m (by simp [tabs]) (by decide) StartM.nil)))))) fun w₀ hM => ?_
 have htab := tabs_hi hM
 refine GV rfl ?_
 refine QS ?_
 refine GT ?_
 refine RM rfl ?_
 refine RS (ok_lenB Tryz.underlying22 rfl (Le.old _ _)) ?_
 refine RB rfl rfl rfl ?_
 refine RF ?_
 refine RV 2 rfl ?_
 refine RQ (ok_lenB Tryz.underlying22 rfl (Le.old _ _)) ?_
 refine RQ (ok_bin rfl rfl rfl) ?_
 refine RT ?_
 refine RVN 6 rfl ?_
 refine A.yes rfl ?_
 refine GT ?_
 refine RS (ok_callM (live11_fn) (Sub.cons rfl (Sub.cons rfl KN)) tabs_v Args.nil) ?_
 refine RVN 1 rfl ?_
 refine A.ret ?_
 refine End.ret_then ?_
 exact ER rfl rfl
theorem TopTags_C (k m i : List UInt8) (h0 : k.length ≤ 100) (h1 : m.length ≤ 100) (h : 100 < i.length) : FnM Tryz.prog 3 tabs [byt k, byt m, byt i] (.v (.bool true)) := by
 refine FnM.of Tryz.func3 rfl (by kernel_rfl) Tryz.ntmps3 (by simp) (by decide) (fun w => [(0, old w.heap.size (byt k)), (1, old w.heap.size (byt m)), (2, old w.heap.size (byt i)), (1900000, tab 0 (H8.list.map u32V)), (1900001, tab 1 (K64.map u32V))]) (fun w => (StartM.old rfl (StartM.old rfl (StartM.old rfl (StartM.m (by simp [tabs]) (by decide) (StartM.m (by simp [tabs]) (by decide) StartM.nil)))))) fun w₀ hM => ?_
 have htab := tabs_hi hM
 refine GV rfl ?_
 refine QS ?_
 refine GT ?_
 refine RM rfl ?_
 refine RS (ok_lenB Tryz.underlying22 rfl (Le.old _ _)) ?_
 refine RB rfl rfl rfl ?_
 refine RF ?_
 refine RV 2 rfl ?_
 refine RQ (ok_lenB Tryz.underlying22 rfl (Le.old _ _)) ?_
 refine RQ (ok_bin rfl rfl rfl) ?_
 refine RF ?_
 refine RV 3 rfl ?_
 refine RQ (ok_lenB Tryz.underlying22 rfl (Le.old _ _)) ?_
 refine RQ (ok_bin rfl rfl rfl) ?_
 refine RT ?_
 refine RVN 1 rfl ?_
 refine A.yes rfl ?_
 refine GT ?_
 refine RS (ok_callM (live11_fn) (Sub.cons rfl (Sub.cons rfl KN)) tabs_v Args.nil) ?_
 refine RVN 1 rfl ?_
 refine A.ret ?_
 refine End.ret_then ?_
 exact ER rfl rfl
set_option maxHeartbeats 4000000 in
theorem TopTags_D (k m i : List UInt8) (hk : k.length ≤ 100) (hm : m.length ≤ 100) (hi : i.length ≤ 100) : FnM Tryz.prog 3 tabs [byt k, byt m, byt i] (.v (.bool true)) := by
 refine FnM.of Tryz.func3 rfl (by kernel_rfl) Tryz.ntmps3 (by simp) (by decide) (fun w => [(0, old w.heap.size (byt k)), (1, old w.heap.size (byt m)), (2, old w.heap.size (byt i)), (1900000, tab 0 (H8.list.map u32V)), (1900001, tab 1 (K64.map u32V))]) (fun w => (StartM.old rfl (StartM.old rfl (StartM.old rfl (StartM.m (by simp [tabs]) (by decide) (StartM.m (by simp [tabs]) (by decide) StartM.nil)))))) fun w₀ hM => ?_
 have htab := tabs_hi hM
 refine GV rfl ?_
 refine QS ?_
 refine GT ?_
 refine RM rfl ?_
 refine RS (ok_lenB Tryz.underlying22 rfl (Le.old _ _)) ?_
 refine RB rfl rfl rfl ?_
 refine RF ?_
 refine RV 2 rfl ?_
 refine RQ (ok_lenB Tryz.underlying22 rfl (Le.old _ _)) ?_
 refine RQ (ok_bin rfl rfl rfl) ?_
 refine RF ?_
 refine RV 3 rfl ?_
 refine RQ (ok_lenB Tryz.underlying22 rfl (Le.old _ _)) ?_
 refine RQ (ok_bin rfl rfl rfl) ?_
 refine RF ?_
 refine RVN 1 rfl ?_
 refine A.no rfl ?_
 refine QK ?_
 refine GS ?_
 refine TN 2 ?_
 refine RM rfl ?_
 refine RS (ok_callM (macBlock_fn k (by omega)) (Sub.cons rfl (Sub.cons rfl KN)) tabs_v (Args.cons rfl (Le.old _ _) Args.nil)) ?_
 refine RN ?_
 refine ZN 1000007 zero24 fun b7 ⟨hBb7, hb7⟩ => ?_
 refine TF 3 ?_
 refine RN ?_
 refine ⟨_, eff_storeA (n := 107) (s := 1000007) (size24.of (by rw [List.length_map, kblock_length])) rfl rfl (all_bytes _) hBb7 rfl (by first | (rw [List.length_map, kblock_length, List.length_replicate]; done) | (rw [List.length_map, kblock_length]; rfl)) (LO 0 rfl (LO 1 rfl (LO 2 rfl (LV 7 rfl (LeftS.cons (t := 1900000) rfl (Surv.tab (by omega)) (LeftS.cons (t := 1900001) rfl (Surv.tab (by omega)) LN)))))), ?_⟩
 refine TL ?_
 refine RN ?_
 refine GTD ?_
 refine RS ((ok_sliceA (s := 1000007) 0 64 (by decide) Tryz.underlying24 info5 rfl rfl (.inr ⟨rfl, rfl⟩) (.inr ⟨rfl, rfl⟩) (by omega) (by omega) (by rw [List.length_map, (kblock_length _)]) (by decide)).le (byt_all (kblock_length _))) ?_
 refine RS (ok_call (filledT_fn 64 54 (by decide)) (Args.cons rfl (Le.refl _) (Args.cons rfl (Le.eq rfl) Args.nil))) ?_
 refine RS (ok_call (Xor_fn (kblock k) (List.replicate 64 54) (by rw [kblock_length]; decide)) (Args.cons rfl (Le.refl _) (Args.cons rfl (le_byt _ _) Args.nil))) ?_
 refine RM rfl ?_
 refine RS ((ok_extract rfl rfl).le (d' := byt (kpad 54 k)) ((le_byt _ _).trans (Le.eq (by rw [kpad_rep])))) ?_
 refine RS (ok_extract rfl rfl) ?_; refine RZ (.int .i64 0) (by rw [kblock_length]; rfl) ?_
 refine RVN 2 rfl ?_
 refine A.sub (SV [0, 1, 2, 7, 8, 9, 1000007, 1900000, 1900001] rfl) ?_
 refine GTD ?_
 refine RS ((ok_sliceA (s := 1000007) 0 64 (by decide) Tryz.underlying24 info5 rfl rfl (.inr ⟨rfl, rfl⟩) (.inr ⟨rfl, rfl⟩) (by omega) (by omega) (by rw [List.length_map, (kblock_length _)]) (by decide)).le (byt_all (kblock_length _))) ?_
 refine RS (ok_call (filledT_fn 64 92 (by decide)) (Args.cons rfl (Le.refl _) (Args.cons rfl (Le.eq rfl) Args.nil))) ?_
 refine RS (ok_call (Xor_fn (kblock k) (List.replicate 64 92) (by rw [kblock_length]; decide)) (Args.cons rfl (Le.refl _) (Args.cons rfl (le_byt _ _) Args.nil))) ?_
 refine RM rfl ?_
 refine RS ((ok_extract rfl rfl).le (d' := byt (kpad 92 k)) ((le_byt _ _).trans (Le.eq (by rw [kpad_rep])))) ?_
 refine RS (ok_extract rfl rfl) ?_; refine RZ (.int .i64 0) (by rw [kblock_length]; rfl) ?_
 refine RVN 2 rfl ?_
 refine A.raise (fun w => [(0, old w.heap.size (byt k)), (1, old w.heap.size (byt m)), (2, old w.heap.size (byt i)), (8, old w.heap.size (byt (kpad 54 k))), (10, old w.heap.size (byt (kpad 92 k))), (9, .v (.int .i64 0)), (11, .v (.int .i64 0)), (1900000, tab 0 (List.map u32V H8.list)), (1900001, tab 1 (List.map u32V K64))]) (fun w => (UpTo.old (t := 0) rfl (UpTo.old (t := 1) rfl (UpTo.old (t := 2) rfl (UpTo.new (t := 8) rfl (UpTo.new (t := 10) rfl (UpTo.same (t := 9) rfl (UpTo.same (t := 11) rfl (UpTo.same (t := 1900000) rfl (UpTo.same (t := 1900001) rfl UpTo.nil)))))))))) fun w₀ hgw => ?_
 have hgs := hgw.size
 refine GS ?_
 refine TN 4 ?_
 refine RV 2 rfl ?_
 refine RS (ok_build [old w₀.heap.size (byt (kpad 54 k)), old w₀.heap.size (byt m)] Tryz.underlying103 info22 rfl (by decide) (by decide) rfl ⟨rfl, rfl, rfl, rfl, trivial⟩ (fun d hd w x h => by simp only [List.mem_cons, List.not_mem_nil, or_false] at hd; rcases hd with rfl | rfl <;> first | exact lst_one h | exact bytes_one h | exact old_one (fun _ _ h => lst_one h) h | exact list_one h | exact v_one rfl h)) ?_
 refine RS (ok_callM (Of_fn [kpad 54 k, m] (kpad 54 k ++ m) (by simp) (by simp) (by rw [List.length_append, kpad_length]; omega)) (Sub.cons rfl (Sub.cons rfl KN)) tabs_v (Args.cons rfl (list_lst2 (Le.old _ _) (Le.old _ _)) Args.nil)) ?_
 refine RN ?_
 refine ZN 1000012 zero31 fun b12 ⟨hBb12, hb12⟩ => ?_
 refine TF 5 ?_
 refine RN ?_
 refine ⟨_, eff_storeA (n := 107) (s := 1000012) (size31.of (by rw [List.length_map, sha_length])) rfl rfl (all_bytes _) hBb12 rfl (by first | (rw [List.length_map, sha_length, List.length_replicate]; done) | (rw [List.length_map, sha_length]; rfl)) (LO 0 rfl (LO 1 rfl (LO 2 rfl (LO 10 rfl (LeftS.cons (t := 1900000) rfl (Surv.tab (by omega)) (LeftS.cons (t := 1900001) rfl (Surv.tab (by omega)) (LW [9, 11, 12] rfl))))))), ?_⟩
 refine TL ?_
 refine RN ?_
 refine GS ?_
 refine TN 4 ?_
 refine RV 2 rfl ?_
 refine RS (ok_build [old w₀.heap.size (byt m)] Tryz.underlying103 info22 rfl (by decide) (by decide) rfl ⟨rfl, rfl, trivial⟩ (fun d hd w x h => by simp only [List.mem_cons, List.not_mem_nil, or_false] at hd; rcases hd with rfl <;> first | exact lst_one h | exact bytes_one h | exact old_one (fun _ _ h => lst_one h) h | exact list_one h | exact v_one rfl h)) ?_
 refine RS (ok_callM (macOf_fn k [m] m (by simp) (by omega) (by simp) (by omega)) (Sub.cons rfl (Sub.cons rfl KN)) tabs_v (Args.cons rfl (Le.old _ _) (Args.cons rfl (list_lst1 (Le.old _ _)) Args.nil))) ?_
 refine RN ?_
 refine ZN 1000013 zero31 fun b13 ⟨hBb13, hb13⟩ => ?_
 have hlt_b12_b13 := hb13 1000012 b12 _ _ rfl
 refine TF 5 ?_
 refine RN ?_
 refine ⟨_, eff_storeA (n := 107) (s := 1000013) (size31.of (by rw [List.length_map, hmac_length])) rfl rfl (all_bytes _) hBb13 rfl (by first | (rw [List.length_map, hmac_length, List.length_replicate]; done) | (rw [List.length_map, hmac_length]; rfl)) (LO 0 rfl (LO 1 rfl (LO 2 rfl (LO 10 rfl (LB 1000012 rfl (LeftS.cons (t := 1900000) rfl (Surv.tab (by omega)) (LeftS.cons (t := 1900001) rfl (Surv.tab (by omega)) (LW [9, 11, 12, 13] rfl)))))))), ?_⟩
 refine TL ?_
 refine RN ?_
 refine QS ?_
 refine GTD ?_
 refine RV 7 rfl ?_
 refine RQ (ok_loadA (s := 1000013) (by decide) Tryz.underlying31 rfl (size31.of (by rw [List.length_map, hmac_length])) rfl rfl) ?_
 refine RQ (ok_move rfl) ?_
 refine RQ ((ok_sliceA (s := 1000012) 0 32 (by decide) Tryz.underlying31 info5 rfl rfl (.inr ⟨rfl, rfl⟩) (.inr ⟨rfl, rfl⟩) (by omega) (by omega) (by rw [List.length_map, (sha_length _)]) (by decide)).le (byt_all (sha_length _))) ?_
 refine RQ (ok_build [old w₀.heap.size (byt (kpad 92 k)), byt (sha (kpad 54 k ++ m))] Tryz.underlying103 info22 rfl (by decide) (by decide) rfl ⟨rfl, rfl, rfl, rfl, trivial⟩ (fun d hd w x h => by simp only [List.mem_cons, List.not_mem_nil, or_false] at hd; rcases hd with rfl | rfl <;> first | exact lst_one h | exact bytes_one h | exact old_one (fun _ _ h => lst_one h) h | exact list_one h | exact v_one rfl h)) ?_
 refine RQ (ok_callM (Of_fn [kpad 92 k, sha (kpad 54 k ++ m)] (kpad 92 k ++ sha (kpad 54 k ++ m)) (by simp) (by simp) (by rw [List.length_append, kpad_length, sha_length]; decide)) (Sub.cons rfl (Sub.cons rfl KN)) tabs_v (Args.cons rfl (list_lst2 (Le.old _ _) (Le.refl _)) Args.nil)) ?_; refine RZ (aggV ((hmac k m).map byteV)) (by rfl) ?_
 refine RQ (ok_neqA Tryz.underlying31 Tryz.underlying5 info5 (by kernel_rfl) rfl rfl rfl (by rw [List.length_map, hmac_length]) (ints_u8 _)) ?_; refine RZ (.bool false) (by simp) ?_
 refine RV 4 rfl ?_
 refine RQ (ok_callM (Extract_fn k m (by omega) (by omega)) (Sub.cons rfl (Sub.cons rfl KN)) tabs_v (Args.cons rfl (Le.old _ _) (Args.cons rfl (Le.old _ _) Args.nil))) ?_
 refine RQ (ok_loadA (s := 1000013) (by decide) Tryz.underlying31 rfl (size31.of (by rw [List.length_map, hmac_length])) rfl rfl) ?_
 refine RQ (ok_neqA Tryz.underlying31 Tryz.underlying5 info5 (by kernel_rfl) rfl rfl rfl (by rw [List.length_map, hmac_length]) (ints_u8 _)) ?_; refine RZ (.bool false) (by simp) ?_
 refine RVN 1 rfl ?_
 refine A.sub (SV [2, 13, 74, 1000012, 1000013, 1900000, 1900001] rfl) ?_
 refine A.no rfl ?_
 refine QK ?_
 refine GS ?_
 refine TN 5 ?_
 refine RS ((ok_sliceA (s := 1000013) 0 32 (by decide) Tryz.underlying31 info5 rfl rfl (.inr ⟨rfl, rfl⟩) (.inr ⟨rfl, rfl⟩) (by omega) (by omega) (by rw [List.length_map, (hmac_length _ _)]) (by decide)).le (byt_all (hmac_length _ _))) ?_
 refine RM rfl ?_
 refine RS (ok_build [byteD 1] Tryz.underlying22 info5 rfl (by decide) (by decide) rfl ⟨rfl, rfl, trivial⟩ (fun d hd w x h => by simp only [List.mem_cons, List.not_mem_nil, or_false] at hd; rcases hd with rfl <;> exact v_one rfl h)) ?_
 refine RS (ok_build [old w₀.heap.size (byt i), bytes [1] 1] Tryz.underlying103 info22 rfl (by decide) (by decide) rfl ⟨rfl, rfl, rfl, rfl, trivial⟩ (fun d hd w x h => by simp only [List.mem_cons, List.not_mem_nil, or_false] at hd; rcases hd with rfl | rfl <;> first | exact lst_one h | exact bytes_one h | exact old_one (fun _ _ h => lst_one h) h | exact list_one h | exact v_one rfl h)) ?_
 refine RS (ok_callM (macOf_fn (hmac k m) [i, [1]] (i ++ [1]) (by simp) (by rw [hmac_length]; decide) (by simp) (by simp; omega)) (Sub.cons rfl (Sub.cons rfl KN)) tabs_v (Args.cons rfl (Le.refl _) (Args.cons rfl (list_lst2 (Le.old _ _) (le_byt _ _)) Args.nil))) ?_
 refine RN ?_
 refine ZN 1000014 zero31 fun b14 ⟨hBb14, hb14⟩ => ?_
 have hlt_b12_b14 := hb14 1000012 b12 _ _ rfl
 have hlt_b13_b14 := hb14 1000013 b13 _ _ rfl
 refine TF 6 ?_
 refine RN ?_
 refine ⟨_, eff_storeA (n := 107) (s := 1000014) (size31.of (by rw [List.length_map, hmac_length])) rfl rfl (all_bytes _) hBb14 rfl (by first | (rw [List.length_map, hmac_length, List.length_replicate]; done) | (rw [List.length_map, hmac_length]; rfl)) (LO 2 rfl (LB 1000012 rfl (LB 1000013 rfl (LeftS.cons (t := 1900000) rfl (Surv.tab (by omega)) (LeftS.cons (t := 1900001) rfl (Surv.tab (by omega)) (LW [13, 14] rfl)))))), ?_⟩
 refine TL ?_
 refine RN ?_
 refine GD ?_
 refine RunTK.new 7 (by decide) rfl (.inr (by kernel_rfl)) ?_
 refine RS ((ok_sliceA (s := 1000013) 0 32 (by decide) Tryz.underlying31 info5 rfl rfl (.inr ⟨rfl, rfl⟩) (.inr ⟨rfl, rfl⟩) (by omega) (by omega) (by rw [List.length_map, (hmac_length _ _)]) (by decide)).le (byt_all (hmac_length _ _))) ?_
 refine RS ((ok_sliceA (s := 1000014) 0 32 (by decide) Tryz.underlying31 info5 rfl rfl (.inr ⟨rfl, rfl⟩) (.inr ⟨rfl, rfl⟩) (by omega) (by omega) (by rw [List.length_map, (hmac_length _ _)]) (by decide)).le (byt_all (hmac_length _ _))) ?_
 refine RM rfl ?_
 refine RS (ok_build [byteD 2] Tryz.underlying22 info5 rfl (by decide) (by decide) rfl ⟨rfl, rfl, trivial⟩ (fun d hd w x h => by simp only [List.mem_cons, List.not_mem_nil, or_false] at hd; rcases hd with rfl <;> exact v_one rfl h)) ?_
 refine RS (ok_build [byt (hmac (hmac k m) (i ++ [1])), old w₀.heap.size (byt i), bytes [2] 1] Tryz.underlying103 info22 rfl (by decide) (by decide) rfl ⟨rfl, rfl, rfl, rfl, rfl, rfl, trivial⟩ (fun d hd w x h => by simp only [List.mem_cons, List.not_mem_nil, or_false] at hd; rcases hd with rfl | rfl | rfl <;> first | exact lst_one h | exact bytes_one h | exact old_one (fun _ _ h => lst_one h) h | exact list_one h | exact v_one rfl h)) ?_
 refine RS (ok_callM (macOf_fn (hmac k m) [(hmac (hmac k m) (i ++ [1])), i, [2]] ((hmac (hmac k m) (i ++ [1])) ++ (i ++ [2])) (by simp) (by rw [hmac_length]; decide) (by simp) (by simp [hmac_length]; omega)) (Sub.cons rfl (Sub.cons rfl KN)) tabs_v (Args.cons rfl (Le.refl _) (Args.cons rfl (list_lst3 (Le.refl _) (Le.old _ _) (le_byt _ _)) Args.nil))) ?_
 refine RS (ok_allocF [b12, b13, b14] zero31 (Named.cons (s := 1000012) (by decide) rfl (Named.cons (s := 1000013) (by decide) rfl (Named.cons (s := 1000014) (by decide) rfl Named.nil)))) ?_
 refine RN ?_
 refine ⟨_, _, eff_storeF (n := 107) (d := 15) (k := 1000015) (size31.of (by rw [List.length_map, hmac_length])) rfl rfl (all_bytes _) (by first | (rw [List.length_map, hmac_length, List.length_replicate]; done) | (rw [List.length_map, hmac_length]; rfl)) (fun b hb => (LeftS.cons (t := 2) rfl (Surv.old hb.1) (LeftS.cons (t := 82) rfl (Surv.old hb.1) (LeftS.cons (t := 1000012) rfl (Surv.blk (Nat.ne_of_lt (hb.2 _ (by simp)))) (LeftS.cons (t := 1000013) rfl (Surv.blk (Nat.ne_of_lt (hb.2 _ (by simp)))) (LeftS.cons (t := 1000014) rfl (Surv.blk (Nat.ne_of_lt (hb.2 _ (by simp)))) (LeftS.cons (t := 1900000) rfl (Surv.tab (by have := hb.1; omega)) (LeftS.cons (t := 1900001) rfl (Surv.tab (by have := hb.1; omega)) (LW [13, 14, 85] rfl))))))))), fun b15 hb15 => ?_⟩
 have hBb15 := hb15.1
 have hlt_b12_b15 : b12 < b15 := hb15.2 _ (by simp)
 have hlt_b13_b15 : b13 < b15 := hb15.2 _ (by simp)
 have hlt_b14_b15 : b14 < b15 := hb15.2 _ (by simp)
 refine TL ?_
 refine RN ?_
 refine GT ?_
 refine RS ((ok_sliceA (s := 1000013) 0 32 (by decide) Tryz.underlying31 info5 rfl rfl (.inr ⟨rfl, rfl⟩) (.inr ⟨rfl, rfl⟩) (by omega) (by omega) (by rw [List.length_map, (hmac_length _ _)]) (by decide)).le (byt_all (hmac_length _ _))) ?_
 refine RM rfl ?_
 refine RS (ok_callM (Expand4_fn (hmac k m) i 64 (by rw [hmac_length]; decide) (by omega) (by decide)) (Sub.cons rfl (Sub.cons rfl KN)) tabs_v (Args.cons rfl (Le.refl _) (Args.cons rfl (Le.old _ _) (A1 rfl)))) ?_
 refine RM rfl ?_
 refine RS (ok_extract rfl rfl) ?_
 refine RS (ok_extract rfl rfl) ?_
 refine RVN 2 rfl ?_
 refine GTD ?_
 refine RV 4 rfl ?_
 refine RQ (ok_str (l := hkdf (hmac k m) i 64) Tryz.underlying22 Tryz.underlying5 Tryz.underlying9 rfl (le_byt _ _)) ?_
 refine RQ ((ok_sliceA (s := 1000014) 0 32 (by decide) Tryz.underlying31 info5 rfl rfl (.inr ⟨rfl, rfl⟩) (.inr ⟨rfl, rfl⟩) (by omega) (by omega) (by rw [List.length_map, (hmac_length _ _)]) (by decide)).le (byt_all (hmac_length _ _))) ?_
 refine RQ (ok_str (l := (hmac (hmac k m) (i ++ [1]))) Tryz.underlying22 Tryz.underlying5 Tryz.underlying9 rfl (Le.refl _)) ?_
 refine RQ ((ok_sliceA (s := 1000015) 0 32 (by decide) Tryz.underlying31 info5 rfl rfl (.inr ⟨rfl, rfl⟩) (.inr ⟨rfl, rfl⟩) (by omega) (by omega) (by rw [List.length_map, (hmac_length _ _)]) (by decide)).le (byt_all (hmac_length _ _))) ?_
 refine RQ (ok_str (l := (hmac (hmac k m) ((hmac (hmac k m) (i ++ [1])) ++ (i ++ [2])))) Tryz.underlying22 Tryz.underlying5 Tryz.underlying9 rfl (Le.refl _)) ?_
 refine RQ (ok_addS (a := (hmac (hmac k m) (i ++ [1]))) (b := (hmac (hmac k m) ((hmac (hmac k m) (i ++ [1])) ++ (i ++ [2])))) rfl rfl (by rw [hmac_length, hmac_length]; decide)) ?_
 refine RQ (ok_seq rfl rfl) ?_; refine RZ (.bool true) (by rw [hkdf64]; simp) ?_
 refine RV 2 rfl ?_
 refine RQ (ok_callM (live11_fn) (Sub.cons rfl (Sub.cons rfl KN)) tabs_v Args.nil) ?_
 refine RVN 2 rfl ?_
 refine A.sub (SV [6, 1000012, 1000013, 1000014, 1000015, 1900000, 1900001] rfl) ?_
 refine A.ret ?_
 exact End.ret1U hgw rfl rfl (Le.refl _)
theorem TopTags_fn (k m i : List UInt8) : FnM Tryz.prog 3 tabs [byt k, byt m, byt i] (.v (.bool true)) := by
 rcases Nat.lt_or_ge 100 k.length with h | hk
 ·exact TopTags_A k m i h
 rcases Nat.lt_or_ge 100 m.length with h | hm
 ·exact TopTags_B k m i hk h
 rcases Nat.lt_or_ge 100 i.length with h | hi
 ·exact TopTags_C k m i hk hm h
 ·exact TopTags_D k m i hk hm hi
end Go.Proofs.YtffiflfjlemggaaGreatDoor
namespace Go.Proofs.YtffiflfjlemggaaGreatDoor
open Go Go.RowKit
set_option linter.unusedVariables false
set_option maxRecDepth 20000
/-- The first n bytes of a key stream. -/
def ksT (k : Sta) (s c n : Nat) : List UInt8 := (List.range n).map fun j => UInt8.ofNat (ksAt k s c j)
theorem ksT_length (k : Sta) (s c n : Nat) : (ksT k s c n).length = n := by simp [ksT]
theorem ksT_step {k : Sta} (hk : By k) (s c i : Nat) : (ksT k s c (16 * i)).map byteV ++ rowV 16 (ksB k s c i) = (ksT k s c (16 * (i + 1))).map byteV := by
 rw [Nat.mul_succ]; unfold ksT
 rw [List.range_add, List.map_append, List.map_append]
 refine congrArg _ ?_
 unfold rowV
 rw [List.map_map, List.map_map]
 refine List.map_congr_left fun j hj => ?_
 have hj := List.mem_range.1 hj
 show (nB (ksB k s c i j) : Value) = byteV (UInt8.ofNat (ksAt k s c (16 * i + j)))
 rw [ofNat_byte (ksAt_lt hk _ _ _)]; unfold ksAt
 rw [show (16 * i + j) / 16 = i by omega, show (16 * i + j) % 16 = j by omega]
theorem ksT_cut (k : Sta) (s c : Nat) {n m : Nat} (h : n ≤ m) : lst ((((ksT k s c m).map byteD).take n).drop 0) = byt (ksT k s c n) := congrArg lst (by
 rw [List.drop_zero, ← List.map_take]; unfold ksT; rw [← List.map_take, List.take_range, Nat.min_eq_left h])
theorem xor_ksT {k : Sta} (s c : Nat) (l : List UInt8) : xorV l (ksT k s c l.length) = xorK k s c 0 l := by
 unfold xorV
 rw [if_pos (ksT_length _ _ _ _).symm]
 refine List.ext_getElem? fun i => ?_
 rcases Nat.lt_or_ge i l.length with h | h
 ·rw [xors_get h (by rw [ksT_length]; exact h), xorK_get h]
  refine congrArg some ?_
  simp only [ksT, List.getElem_map, List.getElem_range, xorG, Nat.zero_add]
  rw [UInt8.ofNat_xor]
  refine congrArg (· ^^^ _) ?_
  show l[i] = UInt8.ofNat (l.getD i 0).toNat
  rw [UInt8.ofNat_toNat, List.getD_eq_getElem?_getD, List.getElem?_eq_getElem h]; rfl
 ·rw [List.getElem?_eq_none (by rw [xors_length (ksT_length _ _ _ _).symm]; exact h), List.getElem?_eq_none (by rw [xorK_length]; exact h)]
theorem row_lstT (f : Nat → Nat) : Le (lst ((((rowV 16 f).take 16).drop 0).map .v)) (lst ((rowV 16 f).map .v)) := Le.eq (by rw [List.drop_zero, List.take_of_length_le (by rw [rowV_length]; decide)])

theorem TopCounter_A (k : Nat → Nat) (hk : By k) (s c : Nat) (hs : s < 4294967296) (hc : c < 18446744073709551616) (l : List UInt8) (h : 64 < l.length) : FnM Tryz.prog 4 tabs [.v (aggV (rowV 16 (k))), .v (aggV ([nW s, nQ c])), byt l] (.v (.bool true)) := by
 refine FnM.of Tryz.func4 rfl (by kernel_rfl) Tryz.ntmps4 (by simp) (by decide) (fun w => [(0, .v (aggV (rowV 16 (k)))), (1, .v (aggV ([nW s, nQ c]))), (2, old w.heap.size (byt l)), (1900000, tab 0 (H8.list.map u32V)), (1900001, tab 1 (K64.map u32V))]) (fun w => (StartM.v rfl (StartM.v rfl (StartM.old rfl (StartM.m (by simp [tabs]) (by decide) (StartM.m (by simp [tabs]) (by decide) StartM.nil)))))) fun w₀ hM => ?_
 have htab := tabs_hi hM
 refine GS ?_
 refine TN 0 ?_
 refine RN ?_
 refine ZB 1000003 rfl fun b3 ⟨hBb3, hb3⟩ => ?_
 refine TN 1 ?_
 refine RN ?_
 refine ZB 1000004 rfl fun b4 ⟨hBb4, hb4⟩ => ?_
 refine TL ?_
 refine RVN 1 rfl ?_
 refine QS ?_
 refine GT ?_
 refine RM rfl ?_
 refine RS (ok_lenB Tryz.underlying22 rfl (Le.old _ _)) ?_
 refine RB rfl rfl rfl ?_
 refine RT ?_
 refine RN ?_
 refine A.yes rfl ?_
 refine GT ?_
 refine RS (ok_callM (live11_fn) (Sub.cons rfl (Sub.cons rfl KN)) tabs_v Args.nil) ?_
 refine RVN 1 rfl ?_
 refine A.ret ?_
 refine End.ret_then ?_
 exact ER rfl rfl
set_option maxHeartbeats 4000000 in
theorem TopCounter_B (k : Nat → Nat) (hk : By k) (s c : Nat) (hs : s < 4294967296) (hc : c < 18446744073709551616) (l : List UInt8) (h : l.length ≤ 64) : FnM Tryz.prog 4 tabs [.v (aggV (rowV 16 (k))), .v (aggV ([nW s, nQ c])), byt l] (.v (.bool true)) := by
 refine FnM.of Tryz.func4 rfl (by kernel_rfl) Tryz.ntmps4 (by simp) (by decide) (fun w => [(0, .v (aggV (rowV 16 (k)))), (1, .v (aggV ([nW s, nQ c]))), (2, old w.heap.size (byt l)), (1900000, tab 0 (H8.list.map u32V)), (1900001, tab 1 (K64.map u32V))]) (fun w => (StartM.v rfl (StartM.v rfl (StartM.old rfl (StartM.m (by simp [tabs]) (by decide) (StartM.m (by simp [tabs]) (by decide) StartM.nil)))))) fun w₀ hM => ?_
 have htab := tabs_hi hM
 refine GS ?_
 refine TN 0 ?_
 refine RN ?_
 refine ZB 1000003 rfl fun b3 ⟨hBb3, hb3⟩ => ?_
 refine TN 1 ?_
 refine RN ?_
 refine ZB 1000004 rfl fun b4 ⟨hBb4, hb4⟩ => ?_
 refine TL ?_
 refine RVN 1 rfl ?_
 refine QS ?_
 refine GT ?_
 refine RM rfl ?_
 refine RS (ok_lenB Tryz.underlying22 rfl (Le.old _ _)) ?_
 refine RB rfl rfl rfl ?_
 refine RF ?_
 refine RN ?_
 refine A.no rfl ?_
 refine QK ?_
 refine GS ?_
 refine TN 2 ?_
 refine RS (ok_loadA (s := 1000003) (by decide) Tryz.underlying37 rfl (size37.of (rowV_length _ _)) rfl rfl) ?_
 refine RS (ok_call (Expand_fn k hk) (A1 rfl)) ?_
 refine RN ?_
 refine ZN 1000007 zero43 fun b7 ⟨hBb7, hb7⟩ => ?_
 refine TF 3 ?_
 refine RN ?_
 refine ⟨_, eff_storeA (n := 80) (s := 1000007) (size43.of (rowV_length _ _)) rfl rfl (rowV_one _ _) hBb7 rfl (by first | (simp only [rowV_length]; done) | simp only [rowV_length, List.length_replicate]) (LO 2 rfl (LT 1000003 rfl (LT 1000004 rfl (LeftS.cons (t := 1900000) rfl (Surv.tab (by omega)) (LeftS.cons (t := 1900001) rfl (Surv.tab (by omega)) (LW [3, 4, 7] rfl)))))), ?_⟩
 refine TL ?_
 refine RN ?_
 refine GV rfl ?_
 refine QS ?_
 refine GV rfl ?_
 refine A.block ?_
 refine A.subL (SubL.cons (t := 2) rfl (Le.refl _) (SubL.cons (t := 3) rfl (Le.refl _) (SubL.cons (t := 4) rfl (Le.refl _) (SubL.cons (t := 7) rfl (Le.refl _) (SubL.cons (t := 8) rfl (own_nil (B := w₀.heap.size) (e := 5)) (SubL.cons (t := 9) rfl (Le.refl _) (SubL.cons (t := 1000003) rfl (Le.refl _) (SubL.cons (t := 1000004) rfl (Le.refl _) (SubL.cons (t := 1000007) rfl (Le.refl _) (SubL.cons (t := 1900000) rfl (Le.refl _) (SubL.cons (t := 1900001) rfl (Le.refl _) SubL.nil))))))))))) ?_
 refine A.loop (ι := Nat) (fun i => i ≤ 4) (fun i => [(2, old w₀.heap.size (byt l)), (3, .v (.pointer (some ⟨b3, 0, none⟩))), (4, .v (.pointer (some ⟨b4, 0, none⟩))), (7, .v (.pointer (some ⟨b7, 0, none⟩))), (8, own w₀.heap.size 5 (16 * (i)) ((ksT k s c (16 * (i))).map byteV)), (9, .v (nI i)), (1000003, blk b3 37 (rowV 16 k)), (1000004, blk b4 41 [nW s, nQ c]), (1000007, blk b7 43 (rowV 176 (expand k))), (1900000, tab 0 (H8.list.map u32V)), (1900001, tab 1 (K64.map u32V))]) (fun i => 4 - i) 0 ?_ ?_ ?_
 ·exact Nat.zero_le _
 ·exact (KC 2 rfl (KC 3 rfl (KC 4 rfl (KC 7 rfl (KE 8 rfl (by rfl) (KC 9 rfl (KC 1000003 rfl (KC 1000004 rfl (KC 1000007 rfl (KC 1900000 rfl (KC 1900001 rfl KN)))))))))))
 intro i hi
 refine QS ?_
 refine GV rfl ?_
 refine A.cond rfl (fun hc23 => ?_) (fun hc23 => ?_)
 ·have hlt : i < 4 := by simp at hc23; omega
  refine QK ?_
  refine QSB ?_
  refine GS ?_
  refine TN 5 ?_
  refine RS (ok_loadA (s := 1000003) (by decide) Tryz.underlying37 rfl (size37.of (rowV_length _ _)) rfl rfl) ?_
  refine RL 1000004 Tryz.underlying41 rfl rfl (size41.of rfl) ?_
  refine RM rfl ?_
  refine RS (ok_conv Tryz.underlying3 Tryz.underlying38 rfl) ?_; refine RZ (nW i) (by rw [wrapN_u32 (by omega)]) ?_
  refine RS (ok_call (Block_fn7 k hk s c i hs hc (by omega)) (A3 rfl rfl rfl)) ?_
  refine RN ?_
  refine ZN 1000010 zero37 fun b10 ⟨hBb10, hb10⟩ => ?_
  have hlt_b3_b10 := hb10 1000003 b3 _ _ rfl
  refine TF 6 ?_
  refine RN ?_
  refine ⟨_, eff_storeA (n := 80) (s := 1000010) (size37.of (rowV_length _ _)) rfl rfl (rowV_one _ _) hBb10 rfl (by first | (simp only [rowV_length]; done) | simp only [rowV_length, List.length_replicate]) (LO 2 rfl (LeftS.cons (t := 8) rfl (Surv.own (by decide)) (LB 1000003 rfl (LT 1000004 rfl (LT 1000007 rfl (LeftS.cons (t := 1900000) rfl (Surv.tab (by omega)) (LeftS.cons (t := 1900001) rfl (Surv.tab (by omega)) (LW [3, 4, 7, 9, 10] rfl)))))))), ?_⟩
  refine TL ?_
  refine RN ?_
  refine GS ?_
  refine TN 3 ?_
  refine RS (ok_loadA (s := 1000007) (by decide) Tryz.underlying43 rfl (size43.of (rowV_length _ _)) rfl rfl) ?_
  refine RS (ok_loadA (s := 1000010) (by decide) Tryz.underlying37 rfl (size37.of (rowV_length _ _)) rfl rfl) ?_
  refine RS (ok_call (Decrypt_fn (expand k) (ksB k s c i) (expand_lt hk) (ksB_by hk _ _ _)) (A2 rfl rfl)) ?_; refine RZ (aggV ((ctrL s c i).map byteV)) (congrArg aggV (by rw [rowV_byL (ctrL_length s c i)]; exact rowV_congr (dec_enc (expand_lt hk) (byL_lt _)))) ?_
  refine RN ?_
  refine ZN 1000011 zero37 fun b11 ⟨hBb11, hb11⟩ => ?_
  have hlt_b3_b11 := hb11 1000003 b3 _ _ rfl
  have hlt_b10_b11 := hb11 1000010 b10 _ _ rfl
  refine TF 4 ?_
  refine RN ?_
  refine ⟨_, eff_storeA (n := 80) (s := 1000011) (size37.of (by rw [List.length_map, ctrL_length])) rfl rfl (all_bytes _) hBb11 rfl (by first | (rw [List.length_map, ctrL_length, List.length_replicate]; done) | (rw [List.length_map, ctrL_length]; rfl)) (LO 2 rfl (LeftS.cons (t := 8) rfl (Surv.own (by decide)) (LB 1000003 rfl (LT 1000004 rfl (LT 1000007 rfl (LB 1000010 rfl (LeftS.cons (t := 1900000) rfl (Surv.tab (by omega)) (LeftS.cons (t := 1900001) rfl (Surv.tab (by omega)) (LW [3, 4, 7, 9, 10, 11] rfl))))))))), ?_⟩
  refine TL ?_
  refine RN ?_
  refine QS ?_
  refine GTD ?_
  refine RS ((ok_sliceA (s := 1000011) 0 16 (by decide) Tryz.underlying37 info5 rfl rfl (.inr ⟨rfl, rfl⟩) (.inr ⟨rfl, rfl⟩) (by omega) (by omega) (by rw [List.length_map, (ctrL_length _ _ _)]) (by decide)).le (byt_all (ctrL_length _ _ _))) ?_
  refine RS (ok_str (l := (ctrL s c i)) Tryz.underlying22 Tryz.underlying5 Tryz.underlying9 rfl (Le.refl _)) ?_
  refine RL 1000004 Tryz.underlying41 rfl rfl (size41.of rfl) ?_
  refine RS (ok_call (Put_fn s c hs hc) (A1 rfl)) ?_
  refine RM rfl ?_
  refine RS (ok_conv Tryz.underlying3 Tryz.underlying38 rfl) ?_; refine RZ (nW i) (by rw [wrapN_u32 (by omega)]) ?_
  refine RS (ok_call ((Put32_fn ((i : Nat) : Int) (by omega) (by omega)).le (d' := bytes (be 4 i) 4) (Le.refl _)) (A1 rfl)) ?_
  refine RS (ok_build [bytes (nonceL s c) 12, bytes (be 4 i) 4] Tryz.underlying103 info22 rfl (by decide) (by decide) rfl ⟨rfl, rfl, rfl, rfl, trivial⟩ (fun d hd w x h => by simp only [List.mem_cons, List.not_mem_nil, or_false] at hd; rcases hd with rfl | rfl <;> first | exact lst_one h | exact bytes_one h | exact old_one (fun _ _ h => lst_one h) h | exact list_one h | exact v_one rfl h)) ?_
  refine RS (ok_call (Join_fn [nonceL s c, be 4 i] (by simp) (by simp [nonceL_length, be_length])) (Args.cons rfl (list_lst2 (le_byt _ _) (le_byt _ _)) Args.nil)) ?_
  refine RS (ok_str (l := (ctrL s c i)) Tryz.underlying22 Tryz.underlying5 Tryz.underlying9 rfl ((le_byt _ _).trans (Le.eq (congrArg byt (by simp [ctrL, nonceL]))))) ?_
  refine RS (ok_sne rfl rfl) ?_; refine RZ (.bool false) (by simp) ?_
  refine RN ?_
  refine A.sub (SV [2, 3, 4, 7, 8, 9, 10, 44, 1000003, 1000004, 1000007, 1000010, 1000011, 1900000, 1900001] rfl) ?_
  refine A.no rfl ?_
  refine QK ?_
  refine GE ?_
  refine TF 2 ?_
  refine RM rfl ?_
  refine RS (ok_sliceA (s := 1000010) 0 16 (by decide) Tryz.underlying37 info5 rfl rfl (.inr ⟨rfl, rfl⟩) (.inr ⟨rfl, rfl⟩) (by omega) (by omega) (by rw [rowV_length]) (by decide)) ?_
  refine RN ?_
  refine ⟨_, eff_appendS (vs := rowV 16 (ksB k s c i)) Tryz.underlying22 info5 (by decide) rfl rfl rfl (row_lstT _) (fun u hu => List.all_eq_true.1 (rowV_one _ _) u hu) (by rw [rowV_length]; omega) (by decide) (fun g hg => (LO 2 rfl (LT 1000003 rfl (LT 1000004 rfl (LT 1000007 rfl (LT 1000010 rfl (LT 1000011 rfl (LeftS.cons (t := 1900000) rfl (Surv.tab (by omega)) (LeftS.cons (t := 1900001) rfl (Surv.tab (by omega)) (LW [3, 4, 7, 9] rfl)))))))))), ?_⟩
  refine TL ?_
  refine RVN 1 rfl ?_
  refine End.normal_block ?_
  refine EN ?_
  refine GTE ?_
  refine RV 2 rfl ?_
  refine RZ (nI (i + 1)) (by rw [wrap_i64 (by omega) (by omega)]; exact congrArg (Value.int .i64) (by omega)) ?_
  refine RVN 1 rfl ?_
  refine End.normal_then ?_
  refine End.again (i + 1) ?_ ?_ ?_
  ·show _ ≤ _; omega
  ·show _ - _ < _ - _; omega
  ·exact (KC 2 rfl (KC 3 rfl (KC 4 rfl (KC 7 rfl (KE 8 rfl (by rw [ksT_step hk, rowV_length, ← Nat.mul_succ]) (KC 9 rfl (KC 1000003 rfl (KC 1000004 rfl (KC 1000007 rfl (KC 1900000 rfl (KC 1900001 rfl KN)))))))))))
 ·obtain rfl : i = 4 := by simp at hc23; omega
  refine A.exit ?_
  refine End.exit_then ?_
  refine End.exit_then ?_
  refine End.exit_here ?_
  refine EN ?_
  refine GT ?_
  refine RS (ok_loadA (s := 1000003) (by decide) Tryz.underlying37 rfl (size37.of (rowV_length _ _)) rfl rfl) ?_
  refine RL 1000004 Tryz.underlying41 rfl rfl (size41.of rfl) ?_
  refine RM rfl ?_
  refine RS (ok_call (Xor7_fn k hk s c 0 l hs hc (by omega)) (Args.cons rfl (Le.refl _) (Args.cons rfl (Le.refl _) (Args.cons rfl (Le.refl _) (Args.cons rfl (Le.old _ _) Args.nil))))) ?_
  refine RM rfl ?_
  refine RS (ok_extract rfl rfl) ?_
  refine RS (ok_extract rfl rfl) ?_; refine RZ (.int .i64 0) (by rfl) ?_
  refine RVN 2 rfl ?_
  refine GT ?_
  refine RV 3 rfl ?_
  refine RS (ok_lenB Tryz.underlying22 rfl (Le.old _ _)) ?_
  refine RS (ok_slice (ds := (ksT k s c 64).map byteD) 0 l.length Tryz.underlying22 info5 rfl (own_cat rfl (ksT_length _ _ _ _).symm) (.inr ⟨rfl, rfl⟩) (.inl ⟨_, _, rfl, rfl⟩) (Nat.zero_le _) (by rw [List.length_map, ksT_length]; exact h)) ?_
  refine RS (ok_call (Xor_fn l (ksT k s c l.length) (by omega)) (Args.cons rfl (Le.old _ _) (Args.cons rfl (Le.eq (ksT_cut k s c h)) Args.nil))) ?_
  refine RM rfl ?_
  refine RS (ok_extract rfl rfl) ?_
  refine RS (ok_extract rfl rfl) ?_; refine RZ (.int .i64 0) (by rw [ksT_length]; simp [chk]) ?_
  refine RVN 2 rfl ?_
  refine GT ?_
  refine RV 8 rfl ?_
  refine RQ (ok_str (l := (xorK k s c 0 l)) Tryz.underlying22 Tryz.underlying5 Tryz.underlying9 rfl (le_byt _ _)) ?_
  refine RQ (ok_move rfl) ?_
  refine RQ (ok_str (l := (xorK k s c 0 l)) Tryz.underlying22 Tryz.underlying5 Tryz.underlying9 rfl ((le_byt _ _).trans (Le.eq (congrArg byt (xor_ksT s c l))))) ?_
  refine RQ (ok_seq rfl rfl) ?_; refine RZ (.bool true) (by simp) ?_
  refine RV 2 rfl ?_
  refine RQ (ok_callM (live11_fn) (Sub.cons rfl (Sub.cons rfl KN)) tabs_v Args.nil) ?_
  refine RVN 2 rfl ?_
  refine A.sub (SV [6, 1000003, 1000004, 1000007, 1900000, 1900001] rfl) ?_
  refine A.ret ?_
  exact ER rfl rfl
theorem TopCounter_fn (k : Nat → Nat) (hk : By k) (s c : Nat) (hs : s < 4294967296) (hc : c < 18446744073709551616) (l : List UInt8) : FnM Tryz.prog 4 tabs [.v (aggV (rowV 16 (k))), .v (aggV ([nW s, nQ c])), byt l] (.v (.bool true)) := by
 rcases Nat.lt_or_ge 64 l.length with h | h
 ·exact TopCounter_A k hk s c hs hc l h
 ·exact TopCounter_B k hk s c hs hc l h
end Go.Proofs.YtffiflfjlemggaaGreatDoor
namespace Go.Proofs.YtffiflfjlemggaaGreatDoor
open Go Go.RowKit Go.ChangeShapes Go.WideShapes
section
variable {H : Type} {enc : TypeId × Value → H} {P : Program} {w : World} {base : Nat} {held : Bool}
theorem arg_row {t e : TypeId} {n : Nat} {v : Value} {d : DataW H} {ps : List MemPlace} (ht : P.underlying t = some (.array n e)) (he : P.underlying e = some (.int .u8)) (hc : P.cellsOf e = 1) (hT : P.cellsOf t = n) {r : Reach} {b0 : Nat} (hk : Value.okWide P w r b0 t v)
    (h : DataW.Trod enc P w base (fun _ => true) held t v d ps) : ∃ f : Nat → Nat, (∀ i, f i < 256) ∧ v = aggV (rowV n f) := by
  obtain ⟨l, hl, rfl⟩ := arg_bytes ht he hc hT hk h
  exact ⟨byL l, byL_lt l, by rw [rowV_byL hl]⟩
end
end Go.Proofs.YtffiflfjlemggaaGreatDoor
namespace Go.Proofs.YtffiflfjlemggaaGreatDoor
open Go Go.RowKit Go.ChangeShapes Go.WideShapes
section
variable {H : Type} {enc : TypeId × Value → H} {P : Program} {w : World} {base : Nat} {held : Bool}
theorem arg_N {t : TypeId} {v : Value} {d : DataW H} {ps : List MemPlace} (hf : flat P 3 t = some [.u32, .u64]) (hg : isAggT P t = true) {r : Reach} {b0 : Nat} (hk : Value.okWide P w r b0 t v)
    (h : DataW.Trod enc P w base (fun _ => true) held t v d ps) : ∃ (s c : Nat), s < 4294967296 ∧ c < 18446744073709551616 ∧ v = aggV [.int .u32 ((s : Nat) : Int), .int .u64 ((c : Nat) : Int)] := by
  obtain ⟨xs, rfl, hx⟩ := arg_flat 3 hf hg hk h
  obtain ⟨n, y, rfl, h3, h4⟩ := hx.cons
  obtain ⟨m, rfl, h5⟩ := h4.one
  obtain ⟨s, rfl, hs⟩ := nat_u32 h3
  obtain ⟨c, rfl, hc⟩ := nat_u64 h5
  exact ⟨s, c, hs, hc, rfl⟩
end
end Go.Proofs.YtffiflfjlemggaaGreatDoor
namespace Go.Proofs.YtffiflfjlemggaaGreatDoor
open Go Go.RowKit
/-- A variable that the region makes: the operation that makes it, its slot, its type, its zero value, the operation that gives it its value. -/
structure VarN where
  a : Nat
  t : Nat
  T : TypeId
  zs : List Value
  s : Nat
  ys : List Value
inductive FromV (ops : Array Oper) (vals : List (Option Value)) (E0 : Env) (o : Oper) : Env → Prop
  | nil : FromV ops vals E0 o []
  | all : FromV ops vals E0 o E0
  | op {t : Nat} {v : Value} {E : Env} (j : Nat) (he : (o.after.any fun e => Region.binds .any e && e.on == j) = true) (hd : (ops[j]?).bind (·.dst) = some t) (hv : vals[j]? = some (some v)) (hr : FromV ops vals E0 o E) : FromV ops vals E0 o ((t, .v v) :: E)
inductive FromW (ops : Array Oper) (vals : List (Option Value)) (E0 : Env) : Env → Prop
  | all : FromW ops vals E0 E0
  | op {t : Nat} {v : Value} {E : Env} (j : Nat) (hd : (ops[j]?).bind (·.dst) = some t) (hv : vals[j]? = some (some v)) (hr : FromW ops vals E0 E) : FromW ops vals E0 ((t, .v v) :: E)
inductive KopOk (P : Program) (ops : Array Oper) (vals : List (Option Value)) (vs : List VarN) (E0 : Env) (i : Nat) : Oper → Prop
  | pure {o : Oper} {t : Nat} {v : Value} (E : Env) (hv : vals[i]? = some (some v)) (hd : o.dst = some t) (h0 : E0.look t = none ∨ E0.look t = some (.v v)) (hf : FromV ops vals E0 o E) (hok : ∀ B', OpOk P B' o E (.v v)) : KopOk P ops vals vs E0 i o
  | alloc {t : Tmp} {T ty : TypeId} {pos : String} {after : Array Edge} {V : VarN} (j : Nat) (hV : vs[j]? = some V) (ha : V.a = i) (hT : V.T = T) (ht : V.t = t) (hz : ZeroIs P T V.zs) (h0 : E0.look t = none) : KopOk P ops vals vs E0 i ⟨some t, .alloc T, ty, pos, after, none⟩
  | store {t T ty : TypeId} {x : Operand} {pos : String} {after : Array Edge} {V : VarN} (j : Nat) (E : Env) (hV : vs[j]? = some V) (hs : V.s = i) (hT : V.T = T) (ht : V.t = t) (he : (after.any fun e => Region.binds .any e && e.on == V.a) = true) (hf : FromV ops vals E0 ⟨none, .store T (.tmp t) x, ty, pos, after, none⟩ E) (hx : E.at x = some (.v (aggV V.ys)))
      (hsz : SizeIs P T V.ys.length) (hl : V.zs.length = V.ys.length) (h1 : V.ys.all (·.oneCell') = true) : KopOk P ops vals vs E0 i ⟨none, .store T (.tmp t) x, ty, pos, after, none⟩
inductive Kops (P : Program) (ops : Array Oper) (vals : List (Option Value)) (vs : List VarN) (E0 : Env) : Nat → List Oper → Prop
  | nil {i : Nat} : Kops P ops vals vs E0 i []
  | cons {i : Nat} {o : Oper} {rest : List Oper} (h : KopOk P ops vals vs E0 i o) (hr : Kops P ops vals vs E0 (i + 1) rest) : Kops P ops vals vs E0 i (o :: rest)
def varsOk (ops : Array Oper) (vals : List (Option Value)) (vs : List VarN) : Bool := (List.range vs.length).all fun j => match vs[j]? with
  | none => false
  | some V => ((ops[V.a]?).bind (·.dst) == some V.t) && (match vals[V.a]? with | some none => true | _ => false) && (match vals[V.s]? with | some none => true | _ => false) && decide (V.a < ops.size) && decide (V.s < ops.size) && V.a != V.s && (List.range vs.length).all fun j' => match vs[j']? with
    | none => false
    | some V' => j == j' || (V.a != V'.a && V.s != V'.s && V.a != V'.s && V.s != V'.a)
section
variable {P : Program} {n B : Nat} {ops : Array Oper} {κ : Cx} {Q : Exit → Act → World → Prop} {vals : List (Option Value)} {vs : List VarN} {E0 : Env}
theorem Kops.nth {k : Nat} {l : List Oper} (h : Kops P ops vals vs E0 k l) : ∀ {i : Nat} {o : Oper}, l[i]? = some o → KopOk P ops vals vs E0 (k + i) o := by
  induction h with
  | nil => intro i o hi; simp at hi
  | @cons k o0 rest h _ ih =>
    intro i o hi
    cases i with
    | zero => simp at hi; subst hi; exact h
    | succ i =>
      have := ih (i := i) (by simpa using hi)
      rwa [show k + (i + 1) = k + 1 + i from by omega]
theorem varsOk_get (h : varsOk ops vals vs = true) {j : Nat} {V : VarN} (hj : vs[j]? = some V) : (ops[V.a]?).bind (·.dst) = some V.t ∧ vals[V.a]? = some none ∧ vals[V.s]? = some none ∧ V.a < ops.size ∧ V.s < ops.size ∧ V.a ≠ V.s ∧ ∀ j' V', vs[j']? = some V' → j ≠ j' → V.a ≠ V'.a ∧ V.s ≠ V'.s ∧ V.a ≠ V'.s ∧ V.s ≠ V'.a := by
  have hlt : j < vs.length := (List.getElem?_eq_some_iff.1 hj).1
  have h1 := List.all_eq_true.1 h j (List.mem_range.2 hlt)
  simp only [hj, Bool.and_eq_true] at h1
  obtain ⟨⟨⟨⟨⟨⟨h2, h3⟩, h4⟩, h5⟩, h6⟩, h7⟩, h8⟩ := h1
  refine ⟨by simpa using h2, ?_, ?_, by simpa using h5, by simpa using h6, by simpa using h7, fun j' V' hj' hne => ?_⟩
  · cases hx : vals[V.a]? with
    | none => rw [hx] at h3; cases h3
    | some x => rw [hx] at h3; cases x with
      | none => rfl
      | some _ => cases h3
  · cases hx : vals[V.s]? with
    | none => rw [hx] at h4; cases h4
    | some x => rw [hx] at h4; cases x with
      | none => rfl
      | some _ => cases h4
  · have h9 := List.all_eq_true.1 h8 j' (List.mem_range.2 (List.getElem?_eq_some_iff.1 hj').1)
    simp only [hj', Bool.or_eq_true, beq_iff_eq, Bool.and_eq_true, bne_iff_ne, ne_eq] at h9
    rcases h9 with h9 | h9
    · exact absurd h9 hne
    · exact ⟨h9.1.1.1, h9.1.1.2, h9.1.2, h9.2⟩
structure InvV (κ : Cx) (n B : Nat) (ops : Array Oper) (vals : List (Option Value)) (vs : List VarN) (E0 : Env) (w1 : World) (listed : Array Bool) (a : Act) (w : World) : Prop where
  base : B ≤ w1.heap.size
  bel : Below w1.heap.size w1 w
  defers : a.defers = κ.df
  size : a.tmps.size = n
  facts : ∀ t d, E0.look t = some d → d.OfB w1.heap.size w (a.tmps.getD t undef)
  lsize : listed.size = ops.size
  got : ∀ (i : Nat) (o : Oper) (t : Nat) (v : Value), ops[i]? = some o → listed.getD i false = true → o.dst = some t → vals[i]? = some (some v) → a.tmps.getD t undef = v
  cl : ∀ (j : Nat) (V : VarN), vs[j]? = some V → listed.getD V.s false = true → listed.getD V.a false = true
  var : ∃ bs : Nat → Nat, (∀ (j : Nat) (V : VarN), vs[j]? = some V → listed.getD V.a false = true → w1.heap.size ≤ bs j ∧ bs j < w.heap.size ∧ a.tmps.getD V.t undef = .pointer (some ⟨bs j, 0, none⟩) ∧ w.heap[bs j]? = some (.cells (if listed.getD V.s false = true then V.ys else V.zs).toArray V.T (0, 0))) ∧
    ∀ (j j' : Nat) (V V' : VarN), vs[j]? = some V → vs[j']? = some V' → listed.getD V.a false = true → listed.getD V'.a false = true → j ≠ j' → bs j ≠ bs j'
theorem InvV.st {w1 : World} {listed : Array Bool} {a : Act} {w : World} (I : InvV κ n B ops vals vs E0 w1 listed a w) : St κ n B E0 a w :=
  ⟨Nat.le_trans I.base I.bel.size, I.defers, I.size, fun t d hl => D.OfB.up (I.facts t d hl) I.bel.size⟩
theorem setD_self {listed : Array Bool} {i : Nat} (h : i < listed.size) : (listed.setIfInBounds i true).getD i false = true := by simp [h]
theorem wp_vars (hn0 : n ≤ vbase) (hfit : fits n ops = true) (hd : downsN ops = true) (hv : varsOk ops vals vs = true) (hn : Kops P ops vals vs E0 0 ops.toList) {w1 : World}
    (hQ : ∀ l a' w', InvV κ n B ops vals vs E0 w1 l a' w' → (∀ i, i < ops.size → l.getD i false = true) → Q .normal a' w') :
    ∀ (fuel : Nat) (listed : Array Bool) (a : Act) (w : World), unlisted ops listed ≤ fuel → InvV κ n B ops vals vs E0 w1 listed a w → wpAnyIn (FR κ.rd) 0 P .any ops Q fuel listed a w := by
  have hmin : ∀ (listed : Array Bool), listed.size = ops.size → Region.ready .any ops listed = [] → ∀ i, i < ops.size → listed.getD i false = true := by
    intro listed hl hr i
    induction i using Nat.strongRecOn with
    | _ i ih =>
      intro hi
      rcases hb : listed.getD i false with _ | _
      · exfalso
        have hdi := (downs_get hd (Array.getElem?_eq_getElem hi)).2.1
        have : i ∈ Region.ready .any ops listed := by
          rw [mem_ready]
          refine ⟨?_, ops[i], Array.getElem?_eq_getElem hi, fun e he hbd => ih e.on (hdi e he hbd) (Nat.lt_trans (hdi e he hbd) hi)⟩
          have : i < listed.size := by rw [hl]; exact hi
          simp [this] at hb ⊢
          exact hb
        rw [hr] at this
        cases this
      · rfl
  intro fuel
  induction fuel with
  | zero =>
    intro listed a w hc I
    have hr : Region.ready .any ops listed = [] := by
      rcases hr : Region.ready .any ops listed with _ | ⟨i, l⟩
      · rfl
      · exfalso
        have hi : i ∈ Region.ready .any ops listed := by rw [hr]; exact List.mem_cons_self
        obtain ⟨hu, o, ho, _⟩ := mem_ready.1 hi
        have hpos : 0 < unlisted ops listed := List.countP_pos_iff.2 ⟨i, List.mem_range.2 (Array.getElem?_eq_some_iff.1 ho).1, by simp only [hu]; rfl⟩
        omega
    exact ⟨hr, hQ listed a w I (hmin listed I.lsize hr)⟩
  | succ fuel ih =>
    intro listed a w hc I
    refine ⟨fun hr => hQ listed a w I (hmin listed I.lsize hr), fun i hi => ?_⟩
    obtain ⟨hu, o, ho, hall⟩ := mem_ready.1 hi
    have hlt : i < ops.size := (Array.getElem?_eq_some_iff.1 ho).1
    have hli : i < listed.size := by rw [I.lsize]; exact hlt
    have huf : listed.getD i false = false := by
      have h1 : listed.getD i true = false := hu
      simp [hli] at h1 ⊢
      exact h1
    have hk := hn.nth (i := i) (o := o) (by simpa using ho)
    rw [Nat.zero_add] at hk
    obtain ⟨hg, _, hdis⟩ := downs_get hd ho
    have hst : ∀ {E : Env}, FromV ops vals E0 o E → ∀ t d, E.look t = some d → d.OfB w1.heap.size w (a.tmps.getD t undef) := fun {E} h => by
      induction h with
      | nil => intro t d hl; cases hl
      | all => exact I.facts
      | @op s v E j he hdj hvj _ ih =>
        intro t d hl
        by_cases hts : s = t
        · subst hts; rw [look_here] at hl; injection hl with hl; subst hl
          obtain ⟨e, he1, he2⟩ := Array.any_eq_true'.1 he
          simp only [Bool.and_eq_true, beq_iff_eq] at he2
          have hl := hall e he1 he2.1
          rw [he2.2] at hl
          cases hq : ops[j]? with
          | none => rw [hq] at hdj; cases hdj
          | some q =>
            rw [hq] at hdj
            exact I.got j q _ _ hq hl hdj hvj
        · rw [look_past _ _ hts] at hl; exact ih t d hl
    have hE : ∀ {E : Env}, FromV ops vals E0 o E → St κ n B E a w := fun h => ⟨Nat.le_trans I.base I.bel.size, I.defers, I.size, fun t d hl => D.OfB.up (hst h t d hl) I.bel.size⟩
    refine wpOpR_step ho fun K hK => ?_
    rw [if_pos (by simp [Region.wanted, hg])]
    have hcl : unlisted ops (listed.setIfInBounds i true) ≤ fuel := by
      have : unlisted ops (listed.setIfInBounds i true) < unlisted ops listed := by
        refine countP_lt (x := i) (fun y hy => ?_) (List.mem_range.2 hlt) (by simp only [hu]; rfl) ?_
        · by_cases hyi : i = y
          · subst hyi
            simp [hli] at hy
          · rw [getD_set_ne true hyi] at hy; exact hy
        · simp [hli]
      omega
    have hset : ∀ j, (listed.setIfInBounds i true).getD j false = true → j = i ∨ listed.getD j false = true := fun j hj => by
      by_cases hji : i = j
      · exact .inl hji.symm
      · rw [getD_set_ne false hji] at hj; exact .inr hj
    have hfar : ∀ j, j ≠ i → (listed.setIfInBounds i true).getD j false = listed.getD j false := fun j hj => getD_set_ne false (fun h => hj h.symm)
    obtain ⟨bs, hb1, hb2⟩ := I.var
    cases hk with
    | @pure _ t v E hvi hdt h0 hf hok =>
      have htn : t < n := (fits_mem hfit (o := o) (by simpa using Array.mem_of_getElem? ho)).2 t hdt
      have hnot : ∀ (j : Nat) (V : VarN), vs[j]? = some V → V.a ≠ i ∧ V.s ≠ i ∧ V.t ≠ t := fun j V hj => by
        obtain ⟨h1, h2, h3, _⟩ := varsOk_get hv hj
        have hai : V.a ≠ i := fun e => by rw [e, hvi] at h2; cases h2
        refine ⟨hai, fun e => (by rw [e, hvi] at h3; cases h3), fun e => ?_⟩
        cases hq : ops[V.a]? with
        | none => rw [hq] at h1; cases h1
        | some q =>
          rw [hq] at h1
          exact hdis V.a q hq hai (by rw [hdt]; simp) (by rw [hdt, show q.dst = some V.t from h1, e])
      have hs := hE hf
      refine wp_of_out hdt ((hok w.heap.size a.eval w (Nat.le_refl _) (hs.virt hn0) fun x _ u hu => hs.at_ x _ hu).mono ?_)
      rintro x w' ⟨hgr, hx⟩
      have hx : x = v := hx
      subst hx
      refine hK _ _ (ih _ _ _ hcl ⟨I.base, I.bel.trans (Below.mono hgr I.bel.size), I.defers, by simp [Act.put, I.size], fun s d hs' => ?_, by simp [I.lsize], fun j q s u hj hl hds hvs => ?_, fun j V hj hl => ?_, bs, fun j V hj hl => ?_, fun j j' V V' hj hj' hl hl' => ?_⟩)
      · by_cases hts : t = s
        · subst hts
          rw [getD_put_here _ _ (by rw [I.size]; exact htn)]
          rcases h0 with h | h
          · rw [h] at hs'; cases hs'
          · rw [h] at hs'; injection hs' with hs'; subst hs'; rfl
        · rw [getD_put_past _ _ hts]; exact (I.facts s d hs').keep (Below.mono hgr I.bel.size)
      · rcases hset j hl with rfl | hl
        · rw [ho] at hj; injection hj with hj; subst hj
          rw [hdt] at hds; injection hds with hds; subst hds
          rw [hvi] at hvs; injection hvs with hvs; injection hvs with hvs; subst hvs
          rw [getD_put_here _ _ (by rw [I.size]; exact htn)]
        · by_cases hji : j = i
          · subst hji
            rw [ho] at hj; injection hj with hj; subst hj
            rw [hdt] at hds; injection hds with hds; subst hds
            rw [hvi] at hvs; injection hvs with hvs; injection hvs with hvs; subst hvs
            rw [getD_put_here _ _ (by rw [I.size]; exact htn)]
          · have hne : t ≠ s := fun he => hdis j q hj hji (by rw [hdt]; simp) (by rw [hdt, hds, he])
            rw [getD_put_past _ _ hne]
            exact I.got j q s u hj hl hds hvs
      · obtain ⟨h1, h2, _⟩ := hnot j V hj
        rw [hfar _ h2] at hl
        rw [hfar _ h1]; exact I.cl j V hj hl
      · obtain ⟨h1, h2, h3⟩ := hnot j V hj
        rw [hfar _ h1] at hl
        obtain ⟨g1, g2, g3, g4⟩ := hb1 j V hj hl
        rw [hfar _ h2]
        exact ⟨g1, Nat.lt_of_lt_of_le g2 hgr.size, by rw [getD_put_past _ _ (fun e => h3 e.symm)]; exact g3, by rw [hgr.block _ g2]; exact g4⟩
      · rw [hfar _ (hnot j V hj).1] at hl
        rw [hfar _ (hnot j' V' hj').1] at hl'
        exact hb2 j j' V V' hj hj' hl hl'
    | @alloc t T ty pos after V j0 hV ha hT ht hz h0 =>
      subst ha hT ht
      have hds := (varsOk_get hv hV).2.2.2.2.2.2
      have hns : V.s ≠ V.a := fun e => (varsOk_get hv hV).2.2.2.2.2.1 e.symm
      have htn : V.t < n := (fits_mem hfit (o := ⟨some V.t, .alloc V.T, ty, pos, after, none⟩) (by simpa using Array.mem_of_getElem? ho)).2 V.t rfl
      have hrun : (execOp a.eval ⟨some V.t, .alloc V.T, ty, pos, after, none⟩).run P w = .ok (.value (.pointer (some ⟨w.heap.size, 0, none⟩))) (w.alloc (.cells V.zs.toArray V.T)) := by
        obtain ⟨i, z, hi, hz, hc⟩ := hz.get
        simp [execOp, Instr.alloc, zeroValue, typeInfo, hi, hz, newVar, newRow, hc]
      refine opR (not_defer hrun) ?_
      unfold Oper.wp
      rw [hrun, Oper.upon_value]
      have hgr : Grow w (w.alloc (.cells V.zs.toArray V.T)) := Grow.alloc w _
      have hlt1 : w.heap.size < (w.alloc (.cells V.zs.toArray V.T)).heap.size := by simp
      have hother : ∀ (j : Nat) (V' : VarN), vs[j]? = some V' → j ≠ j0 → V'.a ≠ V.a ∧ V'.s ≠ V.a ∧ V'.t ≠ V.t := fun j V' hj hne => by
        obtain ⟨h1, h2, h3, h4⟩ := hds j V' hj (fun e => hne e.symm)
        refine ⟨fun e => h1 e.symm, fun e => h3 e.symm, fun e => ?_⟩
        obtain ⟨g1, _⟩ := varsOk_get hv hj
        cases hq : ops[V'.a]? with
        | none => rw [hq] at g1; cases g1
        | some q =>
          rw [hq] at g1
          exact hdis V'.a q hq (fun e => h1 e.symm) (by simp) (by rw [show q.dst = some V'.t from g1, e])
      have hsu : listed.getD V.s false = false := by
        rcases hb : listed.getD V.s false with _ | _
        · rfl
        · rw [I.cl j0 V hV hb] at huf; cases huf
      refine hK _ _ (ih _ _ _ hcl ⟨I.base, I.bel.trans (Below.mono hgr I.bel.size), I.defers, by simp [Act.put, I.size], fun s d hs' => ?_, by simp [I.lsize], fun j q s u hj hl hds hvs => ?_, fun j V' hj hl => ?_, fun j => if j = j0 then w.heap.size else bs j, fun j V' hj hl => ?_, fun j j' V' V'' hj hj' hl hl' hne => ?_⟩)
      · have hts : V.t ≠ s := fun e => by subst e; rw [h0] at hs'; cases hs'
        rw [getD_put_past _ _ hts]; exact (I.facts s d hs').keep (Below.mono hgr I.bel.size)
      · have hji : j ≠ V.a := fun e => by
          subst e
          rw [(varsOk_get hv hV).2.1] at hvs; cases hvs
        rw [hfar _ hji] at hl
        have hne : V.t ≠ s := fun he => hdis j q hj hji (by simp) (by rw [hds, he])
        rw [getD_put_past _ _ hne]
        exact I.got j q s u hj hl hds hvs
      · by_cases hj0 : j = j0
        · subst hj0; rw [hV] at hj; injection hj with hj; subst hj
          exact setD_self hli
        · obtain ⟨h1, h2, _⟩ := hother j V' hj hj0
          rw [hfar _ h2] at hl
          rw [hfar _ h1]; exact I.cl j V' hj hl
      · by_cases hj0 : j = j0
        · subst hj0; rw [hV] at hj; injection hj with hj; subst hj
          dsimp only
          rw [if_pos rfl, hfar _ hns, hsu]
          exact ⟨I.bel.size, hlt1, by rw [getD_put_here _ _ (by rw [I.size]; exact htn)], by simpa using heap_alloc_new w _⟩
        · obtain ⟨h1, h2, h3⟩ := hother j V' hj hj0
          rw [hfar _ h1] at hl
          obtain ⟨g1, g2, g3, g4⟩ := hb1 j V' hj hl
          dsimp only
          rw [if_neg hj0, hfar _ h2]
          exact ⟨g1, Nat.lt_of_lt_of_le g2 hgr.size, by rw [getD_put_past _ _ (fun e => h3 e.symm)]; exact g3, by rw [hgr.block _ g2]; exact g4⟩
      · show (if j = j0 then w.heap.size else bs j) ≠ if j' = j0 then w.heap.size else bs j'
        by_cases hj0 : j = j0
        · rw [if_pos hj0, if_neg (fun e => hne (by rw [hj0, e]))]
          rw [hfar _ (hother j' V'' hj' (fun e => hne (by rw [hj0, e]))).1] at hl'
          have := (hb1 j' V'' hj' hl').2.1
          omega
        · rw [if_neg hj0]
          rw [hfar _ (hother j V' hj hj0).1] at hl
          by_cases hj0' : j' = j0
          · rw [if_pos hj0']
            have := (hb1 j V' hj hl).2.1
            omega
          · rw [if_neg hj0']
            rw [hfar _ (hother j' V'' hj' hj0').1] at hl'
            exact hb2 j j' V' V'' hj hj' hl hl' hne
    | @store t T ty x pos after V j0 E hV hs hT ht he hf hx hsz hl0 h1 =>
      subst hs hT ht
      have hds := (varsOk_get hv hV).2.2.2.2.2.2
      have hna : V.a ≠ V.s := (varsOk_get hv hV).2.2.2.2.2.1
      have hla : listed.getD V.a false = true := by
        obtain ⟨e, he1, he2⟩ := Array.any_eq_true'.1 he
        simp only [Bool.and_eq_true, beq_iff_eq] at he2
        have hl := hall e he1 he2.1
        rwa [he2.2] at hl
      obtain ⟨g1, g2, g3, g4⟩ := hb1 j0 V hV hla
      rw [huf] at g4
      simp only [Bool.false_eq_true, if_false] at g4
      have hp' : a.eval (.tmp V.t) = .pointer (some ⟨bs j0, 0, none⟩) := g3
      have hx' : a.eval x = aggV V.ys := (hE hf).at_ x _ hx
      have hrun : (execOp a.eval ⟨none, .store V.T (.tmp V.t) x, ty, pos, after, none⟩).run P w = .ok .skip (w.setRow (bs j0) V.ys.toArray) := by
        have := run_storeVar_row (P := P) w (bs j0) V.T V.T V.zs.toArray V.ys.toArray g4 (by simpa [SizeIs] using hsz) (by simpa using hl0) (by simpa using h1)
        simp [execOp, hp', hx', Instr.storeAt, Instr.sureAddr, aggV, this]
      refine opR (by nofun) ?_
      unfold Oper.wp
      rw [hrun, Oper.upon_skip]
      have hput : a.put (none : Option Tmp) undef = a := rfl
      try rw [hput]
      have hwr := Wrote.setRow (B := w1.heap.size) g1 g4 V.ys.toArray
      have hbw : Below w1.heap.size w (w.setRow (bs j0) V.ys.toArray) := hwr.below I.bel.size
      have hsame : ∀ k, k ≠ bs j0 → (w.setRow (bs j0) V.ys.toArray).heap[k]? = w.heap[k]? := fun k hk => setRow_other w (bs j0) k V.ys.toArray hk
      have hhere : (w.setRow (bs j0) V.ys.toArray).heap[bs j0]? = some (.cells V.ys.toArray V.T (0, 0)) := by simp [World.setRow, Array.getElem?_modify, g4]
      have hsz' : (w.setRow (bs j0) V.ys.toArray).heap.size = w.heap.size := by simp [World.setRow]
      have hother : ∀ (j : Nat) (V' : VarN), vs[j]? = some V' → j ≠ j0 → V'.a ≠ V.s ∧ V'.s ≠ V.s := fun j V' hj hne => by
        obtain ⟨h1, h2, h3, h4⟩ := hds j V' hj (fun e => hne e.symm)
        exact ⟨fun e => h4 e.symm, fun e => h2 e.symm⟩
      refine hK _ _ (ih _ _ _ hcl ⟨I.base, I.bel.trans hbw, I.defers, I.size, fun s d hs' => (I.facts s d hs').keep hbw, by simp [I.lsize], fun j q s u hj hl hds hvs => ?_, fun j V' hj hl => ?_, bs, fun j V' hj hl => ?_, fun j j' V' V'' hj hj' hl hl' hne => ?_⟩)
      · have hji : j ≠ V.s := fun e => by
          subst e
          rw [(varsOk_get hv hV).2.2.1] at hvs; cases hvs
        rw [hfar _ hji] at hl
        exact I.got j q s u hj hl hds hvs
      · by_cases hj0 : j = j0
        · subst hj0; rw [hV] at hj; injection hj with hj; subst hj
          rw [hfar _ hna]; exact hla
        · obtain ⟨h1, h2⟩ := hother j V' hj hj0
          rw [hfar _ h2] at hl
          rw [hfar _ h1]; exact I.cl j V' hj hl
      · by_cases hj0 : j = j0
        · subst hj0; rw [hV] at hj; injection hj with hj; subst hj
          rw [setD_self hli, if_pos rfl]
          exact ⟨g1, by rw [hsz']; exact g2, g3, hhere⟩
        · obtain ⟨h1, h2⟩ := hother j V' hj hj0
          rw [hfar _ h1] at hl
          obtain ⟨k1, k2, k3, k4⟩ := hb1 j V' hj hl
          rw [hfar _ h2]
          exact ⟨k1, by rw [hsz']; exact k2, k3, by rw [hsame _ (hb2 j j0 V' V hj hV hl hla hj0)]; exact k4⟩
      · have e1 : ∀ {j : Nat} {V' : VarN}, vs[j]? = some V' → (listed.setIfInBounds V.s true).getD V'.a false = true → listed.getD V'.a false = true := fun {j V'} hj hl => by
          by_cases hj0 : j = j0
          · subst hj0; rw [hV] at hj; injection hj with hj; subst hj; exact hla
          · rwa [hfar _ (hother j V' hj hj0).1] at hl
        exact hb2 j j' V' V'' hj hj' (e1 hj hl) (e1 hj' hl') hne
/-- The environment that the new variables give. -/
def varEnv (bs : Nat → Nat) : Nat → List VarN → Env → Env
  | _, [], E => E
  | j, V :: r, E => (V.t, .v (.pointer (some ⟨bs j, 0, none⟩))) :: (1000000 + V.t, blk (bs j) V.T V.ys) :: varEnv bs (j + 1) r E
theorem varEnv_look {bs : Nat → Nat} {E : Env} {t : Nat} {d : D} : ∀ {l : List VarN} {j : Nat}, (varEnv bs j l E).look t = some d → (∃ k V, l[k]? = some V ∧ ((t = V.t ∧ d = .v (.pointer (some ⟨bs (j + k), 0, none⟩))) ∨ (t = 1000000 + V.t ∧ d = blk (bs (j + k)) V.T V.ys))) ∨ E.look t = some d
  | [], _, h => .inr h
  | V :: r, j, h => by
    unfold varEnv at h
    by_cases h1 : V.t = t
    · subst h1; rw [look_here] at h; injection h with h
      exact .inl ⟨0, V, rfl, .inl ⟨rfl, h.symm⟩⟩
    · rw [look_past _ _ h1] at h
      by_cases h2 : 1000000 + V.t = t
      · subst h2; rw [look_here] at h; injection h with h
        exact .inl ⟨0, V, rfl, .inr ⟨rfl, h.symm⟩⟩
      · rw [look_past _ _ h2] at h
        rcases varEnv_look h with ⟨k, V', h3, h4⟩ | h3
        · exact .inl ⟨k + 1, V', by simpa using h3, by rw [show j + (k + 1) = j + 1 + k from by omega]; exact h4⟩
        · exact .inr h3
theorem A.regsV {w₀ : World} {y : Code} {E1 : Env} {id : Nat} (vals : List (Option Value)) (vs : List VarN) (hm : P.follows .mixedOrders = true) (hfit : fits n ops = true) (hd : downsN ops = true) (hv : varsOk ops vals vs = true) (hn : Kops P ops vals vs E0 0 ops.toList) (hf : FromW ops vals E0 E1)
    (h : ∀ bs : Nat → Nat, (∀ j, j < vs.length → NewB w₀.heap.size E0 (bs j)) → (∀ j j', j < vs.length → j' < vs.length → j ≠ j' → bs j ≠ bs j') → A κ P w₀ n y (varEnv bs 0 vs E1) Q) : A κ P w₀ n (.seq (.region id ops true) y) E0 Q := A.seq fun a w hg hst => by
  have hdr : Below w₀.heap.size w w.drew := (Below.refl _ w).drew
  have hn0 := fits_base hfit
  have hst' := hst.grow (Grow.refl w).drew
  have hfin : ∀ l a' w', InvV κ n w₀.heap.size ops vals vs E0 w.drew l a' w' → (∀ i, i < ops.size → l.getD i false = true) → Exit.then (y.wpIn (FR κ.rd) 0 P Q) Q .normal a' w' := fun l a' w' I hall => by
    have key : ∀ t d, E1.look t = some d → d.Of w' (a'.tmps.getD t undef) := by
      clear h
      induction hf with
      | all => exact I.st.of
      | @op s v E j hdj hvj _ ih =>
        intro t d hl
        by_cases hts : s = t
        · subst hts; rw [look_here] at hl; injection hl with hl; subst hl
          cases hq : ops[j]? with
          | none => rw [hq] at hdj; cases hdj
          | some q =>
            rw [hq] at hdj
            exact I.got j q _ _ hq (hall j (Array.getElem?_eq_some_iff.1 hq).1) hdj hvj
        · rw [look_past _ _ hts] at hl; exact ih t d hl
    obtain ⟨bs, hb1, hb2⟩ := I.var
    have hla : ∀ (j : Nat) (V : VarN), vs[j]? = some V → l.getD V.a false = true := fun j V hj => hall _ (varsOk_get hv hj).2.2.2.1
    have hls : ∀ (j : Nat) (V : VarN), vs[j]? = some V → l.getD V.s false = true := fun j V hj => hall _ (varsOk_get hv hj).2.2.2.2.1
    refine h bs (fun j hj => ?_) (fun j j' hj hj' hne => hb2 j j' _ _ (List.getElem?_eq_getElem hj) (List.getElem?_eq_getElem hj') (hla _ _ (List.getElem?_eq_getElem hj)) (hla _ _ (List.getElem?_eq_getElem hj')) hne) a' w' (hg.trans (hdr.trans (Below.mono I.bel I.base))) ⟨Nat.le_trans I.base I.bel.size, I.defers, I.size, fun t d hl => ?_⟩
    · have hk := (hb1 j _ (List.getElem?_eq_getElem hj) (hla _ _ (List.getElem?_eq_getElem hj))).1
      exact ⟨Nat.le_trans I.base hk, fun s b' e xs hs => Nat.lt_of_lt_of_le (hst'.of s _ hs).1 hk⟩
    · rcases varEnv_look hl with ⟨k, V, hk, hd'⟩ | hl
      · rw [Nat.zero_add] at hd'
        obtain ⟨g1, g2, g3, g4⟩ := hb1 k V hk (hla k V hk)
        rw [hls k V hk, if_pos rfl] at g4
        rcases hd' with ⟨rfl, rfl⟩ | ⟨rfl, rfl⟩
        · exact g3
        · exact ⟨g2, g4⟩
      · exact key t d hl
  refine wpIn_region_any hm (wp_vars hn0 hfit hd hv hn hfin _ _ _ _ ?_ ⟨hst'.base, Below.refl _ _, hst'.defers, hst'.size, fun t d hl => hst'.of t d hl, by simp, fun i o t v hi hl => ?_, fun j V hj hl => ?_, fun _ => 0, fun j V hj hl => ?_, fun j j' V V' hj _ hl => ?_⟩)
  · refine Nat.le_trans List.countP_le_length ?_
    simp
  · simp [(Array.getElem?_eq_some_iff.1 hi).1] at hl
  · simp [(varsOk_get hv hj).2.2.2.2.1] at hl
  · simp [(varsOk_get hv hj).2.2.2.1] at hl
  · simp [(varsOk_get hv hj).2.2.2.1] at hl
/-! ### The same, operation by operation -/
theorem FromV.more {vals : List (Option Value)} {o : Oper} {E : Env} {pre : List (Option Value)} (hp : ∀ (j : Nat) (v : Option Value), pre[j]? = some v → vals[j]? = some v) (h : FromV ops pre E0 o E) : FromV ops vals E0 o E := by
  induction h with
  | nil => exact .nil
  | all => exact .all
  | op j he hd hv _ ih => exact .op j he hd (hp _ _ hv) ih
/-- From here on; pre is what the operations before have yielded. -/
def KopsK (P : Program) (ops : Array Oper) (vs : List VarN) (E0 : Env) (rest : List Oper) (pre : List (Option Value)) (C : List (Option Value) → Prop) : Prop :=
  ∃ vals : List (Option Value), (∀ (j : Nat) (v : Option Value), pre[j]? = some v → vals[j]? = some v) ∧ Kops P ops vals vs E0 pre.length rest ∧ C vals
theorem pre_snoc {α : Type} {pre vals : List α} {v : α} (h : ∀ (j : Nat) (u : α), (pre ++ [v])[j]? = some u → vals[j]? = some u) : (∀ (j : Nat) (u : α), pre[j]? = some u → vals[j]? = some u) ∧ vals[pre.length]? = some v :=
  ⟨fun j u hu => h j u (by rw [List.getElem?_append_left (List.getElem?_eq_some_iff.1 hu).1]; exact hu), h _ _ (by simp)⟩
theorem KopsK.nil {pre : List (Option Value)} {C : List (Option Value) → Prop} (h : C pre) : KopsK P ops vs E0 [] pre C := ⟨pre, fun _ _ h => h, .nil, h⟩
theorem KopsK.pure {o : Oper} {rest : List Oper} {pre : List (Option Value)} {C : List (Option Value) → Prop} {t : Nat} {v : Value} (E : Env) (hd : o.dst = some t) (h0 : E0.look t = none ∨ E0.look t = some (.v v)) (hf : FromV ops pre E0 o E) (hok : ∀ B', OpOk P B' o E (.v v))
    (hr : KopsK P ops vs E0 rest (pre ++ [some v]) C) : KopsK P ops vs E0 (o :: rest) pre C := by
  obtain ⟨vals, h1, h2, h3⟩ := hr
  obtain ⟨h4, h5⟩ := pre_snoc h1
  exact ⟨vals, h4, .cons (.pure E h5 hd h0 (hf.more h4) hok) (by simpa using h2), h3⟩
theorem KopsK.alloc {rest : List Oper} {pre : List (Option Value)} {C : List (Option Value) → Prop} {t : Tmp} {T ty : TypeId} {pos : String} {after : Array Edge} {V : VarN} (j : Nat) (hV : vs[j]? = some V) (ha : V.a = pre.length) (hT : V.T = T) (ht : V.t = t) (hz : ZeroIs P T V.zs) (h0 : E0.look t = none)
    (hr : KopsK P ops vs E0 rest (pre ++ [none]) C) : KopsK P ops vs E0 (⟨some t, .alloc T, ty, pos, after, none⟩ :: rest) pre C := by
  obtain ⟨vals, h1, h2, h3⟩ := hr
  obtain ⟨h4, _⟩ := pre_snoc h1
  exact ⟨vals, h4, .cons (.alloc j hV ha hT ht hz h0) (by simpa using h2), h3⟩
theorem KopsK.store {rest : List Oper} {pre : List (Option Value)} {C : List (Option Value) → Prop} {t T ty : TypeId} {x : Operand} {pos : String} {after : Array Edge} {V : VarN} (j : Nat) (E : Env) (hV : vs[j]? = some V) (hs : V.s = pre.length) (hT : V.T = T) (ht : V.t = t) (he : (after.any fun e => Region.binds .any e && e.on == V.a) = true)
    (hf : FromV ops pre E0 ⟨none, .store T (.tmp t) x, ty, pos, after, none⟩ E) (hx : E.at x = some (.v (aggV V.ys))) (hsz : SizeIs P T V.ys.length) (hl : V.zs.length = V.ys.length) (h1 : V.ys.all (·.oneCell') = true)
    (hr : KopsK P ops vs E0 rest (pre ++ [none]) C) : KopsK P ops vs E0 (⟨none, .store T (.tmp t) x, ty, pos, after, none⟩ :: rest) pre C := by
  obtain ⟨vals, g1, g2, g3⟩ := hr
  obtain ⟨g4, _⟩ := pre_snoc g1
  exact ⟨vals, g4, .cons (.store j E hV hs hT ht he (hf.more g4) hx hsz hl h1) (by simpa using g2), g3⟩
theorem A.regsK {w₀ : World} {y : Code} {id : Nat} (vs : List VarN) (hm : P.follows .mixedOrders = true) (hfit : fits n ops = true) (hd : downsN ops = true)
    (h : KopsK P ops vs E0 ops.toList [] fun vals => varsOk ops vals vs = true ∧ ∃ E1, FromW ops vals E0 E1 ∧ ∀ bs : Nat → Nat, (∀ j, j < vs.length → NewB w₀.heap.size E0 (bs j)) → (∀ j j', j < vs.length → j' < vs.length → j ≠ j' → bs j ≠ bs j') → A κ P w₀ n y (varEnv bs 0 vs E1) Q) : A κ P w₀ n (.seq (.region id ops true) y) E0 Q := by
  obtain ⟨vals, _, h2, h3, E1, h4, h5⟩ := h
  exact A.regsV vals vs hm hfit hd h3 h2 h4 h5
end
end Go.Proofs.YtffiflfjlemggaaGreatDoor
