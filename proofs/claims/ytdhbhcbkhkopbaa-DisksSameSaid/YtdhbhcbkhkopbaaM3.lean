/-
  OWN TEXTS of this seat, put together, part 3: C14c, Disk3, LedM, Disk4, C14d, Acts, Cut, Gf, Aes, SealE, Rec, Node, C14e.
-/
import Derived.Test.YtdhbhcbkhkopbaaM1
import Derived.Test.YtdhbhcbkhkopbaaM2
namespace Go.Proofs.Ytdhbhcbkhkopbaa
open Go Go.RowKit
set_option linter.unusedVariables false
set_option maxRecDepth 20000
set_option linter.unusedSimpArgs false
theorem dsz_v {n : Nat} {c p : Value} (hc : c.oneCell' = true) (hp : p.oneCell' = true) : Le (.v (aggV [nI n, c, p])) (dszD n) := fun _ _ x h => ⟨c, p, hc, hp, h⟩
theorem conty_bytD {T : DTy} {X : Nat → Prop} {c : Con} : Le (contyD T X c) (byt (c.getD [])) := fun B w x h => by
 cases c with
 | none => rw [show x = _ from h]; exact byt_nil_le _ _ _ rfl
 | some l => exact conty_byt _ _ _ h
theorem con_eq (c c' : Con) : decide (c = c') = (c.isSome == c'.isSome && c.getD [] == c'.getD []) := by
 cases c <;> cases c' <;> simp
 rename_i a b
 by_cases h : a = b <;> simp [h]
section
variable {P : Program} {B : Nat} {E : Env} {dst : Option Tmp} {ty : TypeId} {pos : String} {after : Array Edge} {guard : Option (Nat × Bool)}
theorem ok_buildCont {k t : Nat} {ps : Array (Nat × Operand)} {x : Operand} {T : DTy} {X : Nat → Prop} {S : Dk} {v : Value} {l : List UInt8} (hps : ps.toList = [(0, .const (.bool true)), (1, x)]) (hx : E.at x = some (fresh B T.b (l.map byteV) l.length)) (hkv : vbase ≤ k) (hk : E.look k = some (old B (valM v (partsD' T X S)))) (hl : l.length ≤ 256)
  (hb : ∀ b n m, P.built t [(0, .bool true), (1, .slice (some ⟨b, 0, none⟩) n m)] = some ([.bool true, .slice (some ⟨b, 0, none⟩) n m] : List Value).toArray) : OpOk P B ⟨dst, .build t ps, ty, pos, after, guard⟩ E (contD T X (some l)) := fun ρ w hB hv hρ => by
 obtain ⟨b, h1, h2, h3, h4⟩ := hρ x (by simp [Op.operands, hps]) _ hx
 have h0 : ρ (.const (.bool true)) = .bool true := hρ (.const (.bool true)) (by simp [Op.operands, hps]) _ rfl
 obtain ⟨_, hX, _⟩ := hv k _ hkv hk
 rw [List.length_map] at h1
 have h5 : (ps.map fun (i, x) => (i, ρ x)).toList = [(0, .bool true), (1, .slice (some ⟨b, 0, none⟩) l.length l.length)] := by simp [hps, h0, h1]
 have := run_build (P := P) w t (ps.map fun (i, x) => (i, ρ x)) _ (by rw [h5]; exact hb b l.length l.length)
 exact out_val (x := aggV [.bool true, .slice (some ⟨b, 0, none⟩) l.length l.length]) (w' := w) (by simp [execOp, this, aggV]) ⟨Grow.refl w, _, rfl, rfl, hl, b, rfl, BlkX.of_new hX h2 h3 h4⟩
/-- A field of a struct's value, of which a fact is known. -/
theorem ok_fieldCont {t off : Nat} {x : Operand} {T : DTy} {X : Nat → Prop} {c : Con} {f : D} (hf : (P.underlying t).bind (fun d => match d with | .struct fs => (fs[0]?).bind fun f => (P.underlying f.type).map fun _ => (f.offset, isAggT P f.type) | _ => none) = some (0, false)) (hx : E.at x = some f) (hle : Le f (contD T X c)) : OpOk P B ⟨dst, .field t x 0, ty, pos, after, guard⟩ E (.v (.bool c.isSome)) := fun ρ w hB hv hρ => by
 obtain ⟨y, h1, h2, h3⟩ := hle.of (hρ x (by simp [Op.operands]) _ hx)
 have h0 := ok_fieldV (P := P) (B := B) (E := [(0, .v (aggV ([.bool c.isSome] ++ [y])))]) (dst := dst) (ty := ty) (pos := pos) (after := after) (guard := guard) (t := t) (x := .tmp 0) (i := 0) (u := .bool c.isSome) hf rfl rfl (fun _ => aggV ([.bool c.isSome] ++ [y])) w hB (fun t e ht he => by
  rw [Env.look] at he
  have : Nat.beq 0 t = false := by cases t with | zero => exact absurd ht (by decide) | succ t => rfl
  rw [this] at he; cases he) (fun z hz e he => by
  simp [Op.operands] at hz; subst hz
  simp [Env.at, Env.look] at he; subst he; rfl)
 unfold Out at h0 ⊢
 simp only [execOp, h2] at h0 ⊢
 exact h0
end
def presL (S : Dk) : List Nat := (List.range S.length).filter fun i => (lastC (hisC S i)).isSome
def presV (S : Dk) : List Value := (presL S).map nI
def presU (S : Dk) (i : Nat) : List Value := ((List.range i).filter fun i => (lastC (hisC S i)).isSome).map nI
theorem presU_y {S : Dk} {i : Nat} (h : (lastC (hisC S i)).isSome = true) : presU S i ++ [nI i] = presU S (i + 1) := by
 unfold presU
 rw [List.range_succ, List.filter_append, List.filter_cons, if_pos h, List.filter_nil, List.map_append]; rfl
theorem presU_n {S : Dk} {i : Nat} (h : (lastC (hisC S i)).isSome = false) : presU S i = presU S (i + 1) := by
 unfold presU
 rw [List.range_succ, List.filter_append, List.filter_cons, if_neg (by simp [h]), List.filter_nil, List.append_nil]
theorem presU_len (S : Dk) (i : Nat) : (presU S i).length ≤ i := by
 unfold presU
 rw [List.length_map]
 exact Nat.le_trans (List.length_filter_le _ _) (by simp)
def sameC (S S' : Dk) : Prop := S.length = S'.length ∧ ∀ i, i < S.length → lastC (hisC S i) = lastC (hisC S' i)
open Classical in
noncomputable def sameB (S S' : Dk) : Bool := decide (sameC S S')
theorem sameB_t {S S' : Dk} (h : sameC S S') : sameB S S' = true := by classical exact decide_eq_true h
theorem sameB_f {S S' : Dk} (h : ¬ sameC S S') : sameB S S' = false := by classical exact decide_eq_false h
theorem sameB_comm (S S' : Dk) : sameB S S' = sameB S' S := by
 have h : sameC S S' → sameC S' S := fun h => ⟨h.1.symm, fun i hi => (h.2 i (by rw [h.1]; exact hi)).symm⟩
 have h' : sameC S' S → sameC S S' := fun h => ⟨h.1.symm, fun i hi => (h.2 i (by rw [h.1]; exact hi)).symm⟩
 by_cases hs : sameC S S'
 ·rw [sameB_t hs, sameB_t (h hs)]
 ·rw [sameB_f hs, sameB_f fun k => hs (h' k)]

theorem dRead_fn (X : Nat → Prop) (S : Dk) (i : Nat) (hi : i < S.length) (hn : S.length ≤ 10922)  : FnB Try.prog 18 [diskD dT X S, .v (nI (i))] (fun B => tup [conD B 5 (lastC (hisC S i)), .v (.int .i64 (errC (lastC (hisC S i))))]) := by
 refine FnB.of Try.func18 rfl (by kernel_rfl) Try.ntmps18 (by simp) (fun w => [(0, old w.heap.size (diskD dT X S)), (1, .v (nI (i)))]) (fun w => (Start.old rfl (Start.v rfl Start.nil))) fun w₀ => ?_
 refine A.nameTl (t := 0) (k := 1000200) rfl fun v hv1 => ?_
 refine GS ?_
 refine TN 0 ?_
 refine RN ?_
 refine ⟨_, _, eff_box (n := 17) (d := 2) (k := 1000002) rfl (by decide), fun b2 hb2 => ?_⟩
 have hBb2 := hb2.1
 refine TL ?_
 refine RA rfl ?_
 refine RA rfl ?_
 refine RN ?_
 refine A.seq ?_
 refine GS ?_
 refine TL ?_
 refine RS (OpOk.tlO (k := 1000200) [nI S.length, nI (totC S)] (ok_loadA (s := 1000002) (by decide) Try.underlying27 rfl (size27.of (rfl)) rfl rfl) rfl hv1 (by decide) rfl) ?_
 refine RM rfl ?_
 refine RS (ok_call (dHas_fn S.length (i : Int)) (Args.cons rfl ((Le.old _ _).trans disk_sz) (Args.cons rfl LA Args.nil))) ?_; refine RZ (.bool true) (congrArg Value.bool (decide_eq_true ⟨by omega, by omega⟩)) ?_
 refine RS (ok_not rfl) ?_; refine RZ (.bool false) (rfl) ?_
 refine RN ?_
 refine A.no rfl ?_
 refine A.skip ?_
 refine EN ?_
 refine GS ?_
 refine TL ?_
 refine RS (OpOk.tlO (k := 1000200) [nI S.length, nI (totC S)] (ok_loadA (s := 1000002) (by decide) Try.underlying27 rfl (size27.of (rfl)) rfl rfl) rfl hv1 (by decide) rfl) ?_
 refine RM rfl ?_
 refine RS (ok_call (dNewest_fn X S i hi hn) (Args.cons rfl (Le.old _ _) (Args.cons rfl LA Args.nil))) ?_
 refine RS (ok_call (vNow_fn X (hisC S i)) (A1 rfl)) ?_
 refine RS (ok_callB (cRead_fn X (lastC (hisC S i))) con_tup_mono (A1 rfl)) ?_
 refine RS (ok_extract rfl rfl) ?_
 refine RS (ok_extract rfl rfl) ?_
 refine RA rfl ?_
 refine RA rfl ?_
 refine RN ?_
 refine A.ret ?_
 exact End.ret2 rfl rfl (by first | exact Le.refl _ | exact Le.old _ _) rfl (by first | exact Le.refl _ | exact Le.old _ _)
theorem dRead_bad (n : Nat) (i : Int) (h : ¬ (0 ≤ i ∧ i < (n : Int)))  : Fn Try.prog 18 [dszD n, .v (.int .i64 (i))] (.v (.tuple #[.slice none 0 0, .int .i64 1])) := by
 refine Fn.of Try.func18 rfl (by kernel_rfl) Try.ntmps18 (by simp) (fun w => [(0, old w.heap.size (dszD n)), (1, .v (.int .i64 (i)))]) (fun w => (Start.old rfl (Start.v rfl Start.nil))) fun w₀ => ?_
 refine A.nameDsz (t := 0) rfl fun c₁ p₁ hc₁ hp₁ => ?_
 refine GS ?_
 refine TN 0 ?_
 refine RN ?_
 refine ⟨_, _, eff_box (n := 17) (d := 2) (k := 1000002) rfl (by decide), fun b2 hb2 => ?_⟩
 have hBb2 := hb2.1
 refine TL ?_
 refine RA rfl ?_
 refine RA rfl ?_
 refine RN ?_
 refine A.seq ?_
 refine GS ?_
 refine TL ?_
 refine RS (ok_loadA (s := 1000002) (by decide) Try.underlying27 rfl (size27.of (rfl)) rfl rfl) ?_
 refine RM rfl ?_
 refine RS (ok_call (dHas_fn n i) (Args.cons rfl (dsz_v hc₁ hp₁) (Args.cons rfl LA Args.nil))) ?_; refine RZ (.bool false) (congrArg Value.bool (decide_eq_false h)) ?_
 refine RS (ok_not rfl) ?_; refine RZ (.bool true) (rfl) ?_
 refine RN ?_
 refine A.yes rfl ?_
 refine GS ?_
 refine TL ?_
 refine RA rfl ?_
 refine RA rfl ?_
 refine RN ?_
 refine A.ret ?_
 refine End.ret_then ?_
 exact End.ret2V rfl rfl rfl
theorem dVersions_fn (X : Nat → Prop) (S : Dk) (i : Nat) (hi : i < S.length) (hn : S.length ≤ 10922)  : Fn Try.prog 24 [diskD dT X S, .v (nI (i))] (.v (.tuple #[nI (hisC S i).length, .int .i64 0])) := by
 refine Fn.of Try.func24 rfl (by kernel_rfl) Try.ntmps24 (by simp) (fun w => [(0, old w.heap.size (diskD dT X S)), (1, .v (nI (i)))]) (fun w => (Start.old rfl (Start.v rfl Start.nil))) fun w₀ => ?_
 refine A.nameTl (t := 0) (k := 1000200) rfl fun v hv1 => ?_
 refine GS ?_
 refine TN 0 ?_
 refine RN ?_
 refine ⟨_, _, eff_box (n := 14) (d := 2) (k := 1000002) rfl (by decide), fun b2 hb2 => ?_⟩
 have hBb2 := hb2.1
 refine TL ?_
 refine RA rfl ?_
 refine RA rfl ?_
 refine RN ?_
 refine A.seq ?_
 refine GS ?_
 refine TL ?_
 refine RS (OpOk.tlO (k := 1000200) [nI S.length, nI (totC S)] (ok_loadA (s := 1000002) (by decide) Try.underlying27 rfl (size27.of (rfl)) rfl rfl) rfl hv1 (by decide) rfl) ?_
 refine RM rfl ?_
 refine RS (ok_call (dHas_fn S.length (i : Int)) (Args.cons rfl ((Le.old _ _).trans disk_sz) (Args.cons rfl LA Args.nil))) ?_; refine RZ (.bool true) (congrArg Value.bool (decide_eq_true ⟨by omega, by omega⟩)) ?_
 refine RS (ok_not rfl) ?_; refine RZ (.bool false) (rfl) ?_
 refine RN ?_
 refine A.no rfl ?_
 refine A.skip ?_
 refine EN ?_
 refine GS ?_
 refine TL ?_
 refine RS (OpOk.tlO (k := 1000200) [nI S.length, nI (totC S)] (ok_loadA (s := 1000002) (by decide) Try.underlying27 rfl (size27.of (rfl)) rfl rfl) rfl hv1 (by decide) rfl) ?_
 refine RM rfl ?_
 refine RS (ok_call (dNewest_fn X S i hi hn) (Args.cons rfl (Le.old _ _) (Args.cons rfl LA Args.nil))) ?_
 refine RS (ok_call (vChanges_fn X (hisC S i)) (A1 rfl)) ?_
 refine RA rfl ?_
 refine RA rfl ?_
 refine RN ?_
 refine A.ret ?_
 exact End.ret2V rfl rfl rfl
theorem dVersions_bad (n : Nat) (i : Int) (h : ¬ (0 ≤ i ∧ i < (n : Int)))  : Fn Try.prog 24 [dszD n, .v (.int .i64 (i))] (.v (.tuple #[.int .i64 0, .int .i64 1])) := by
 refine Fn.of Try.func24 rfl (by kernel_rfl) Try.ntmps24 (by simp) (fun w => [(0, old w.heap.size (dszD n)), (1, .v (.int .i64 (i)))]) (fun w => (Start.old rfl (Start.v rfl Start.nil))) fun w₀ => ?_
 refine A.nameDsz (t := 0) rfl fun c₁ p₁ hc₁ hp₁ => ?_
 refine GS ?_
 refine TN 0 ?_
 refine RN ?_
 refine ⟨_, _, eff_box (n := 14) (d := 2) (k := 1000002) rfl (by decide), fun b2 hb2 => ?_⟩
 have hBb2 := hb2.1
 refine TL ?_
 refine RA rfl ?_
 refine RA rfl ?_
 refine RN ?_
 refine A.seq ?_
 refine GS ?_
 refine TL ?_
 refine RS (ok_loadA (s := 1000002) (by decide) Try.underlying27 rfl (size27.of (rfl)) rfl rfl) ?_
 refine RM rfl ?_
 refine RS (ok_call (dHas_fn n i) (Args.cons rfl (dsz_v hc₁ hp₁) (Args.cons rfl LA Args.nil))) ?_; refine RZ (.bool false) (congrArg Value.bool (decide_eq_false h)) ?_
 refine RS (ok_not rfl) ?_; refine RZ (.bool true) (rfl) ?_
 refine RN ?_
 refine A.yes rfl ?_
 refine GS ?_
 refine TL ?_
 refine RA rfl ?_
 refine RA rfl ?_
 refine RN ?_
 refine A.ret ?_
 refine End.ret_then ?_
 exact End.ret2V rfl rfl rfl
theorem dVersion_fn (X : Nat → Prop) (S : Dk) (i : Nat) (hi : i < S.length) (hn : S.length ≤ 10922) (j : Nat) (hj : j ≤ (hisC S i).length) (ht : totC S ≤ 1000000) : FnB Try.prog 25 [diskD dT X S, .v (nI (i)), .v (nI (j))] (fun B => tup [conD B 5 (atC (hisC S i) j), .v (.int .i64 (errC (atC (hisC S i) j)))]) := by
 refine FnB.of Try.func25 rfl (by kernel_rfl) Try.ntmps25 (by simp) (fun w => [(0, old w.heap.size (diskD dT X S)), (1, .v (nI (i))), (2, .v (nI (j)))]) (fun w => (Start.old rfl (Start.v rfl (Start.v rfl Start.nil)))) fun w₀ => ?_
 refine A.nameTl (t := 0) (k := 1000200) rfl fun v hv1 => ?_
 rw [atC_drop hj]
 have hle := his_le S i
 refine GS ?_
 refine TN 0 ?_
 refine RN ?_
 refine ⟨_, _, eff_box (n := 34) (d := 3) (k := 1000003) rfl (by decide), fun b3 hb3 => ?_⟩
 have hBb3 := hb3.1
 refine TL ?_
 refine RA rfl ?_
 refine RA rfl ?_
 refine RN ?_
 refine A.seq ?_
 refine GS ?_
 refine TL ?_
 refine RS (OpOk.tlO (k := 1000200) [nI S.length, nI (totC S)] (ok_loadA (s := 1000003) (by decide) Try.underlying27 rfl (size27.of (rfl)) rfl rfl) rfl hv1 (by decide) rfl) ?_
 refine RM rfl ?_
 refine RS (ok_call (dHas_fn S.length (i : Int)) (Args.cons rfl ((Le.old _ _).trans disk_sz) (Args.cons rfl LA Args.nil))) ?_; refine RZ (.bool true) (congrArg Value.bool (decide_eq_true ⟨by omega, by omega⟩)) ?_
 refine RS (ok_not rfl) ?_; refine RZ (.bool false) (rfl) ?_
 refine RN ?_
 refine A.no rfl ?_
 refine A.skip ?_
 refine EN ?_
 refine GS ?_
 refine TL ?_
 refine RS (OpOk.tlO (k := 1000200) [nI S.length, nI (totC S)] (ok_loadA (s := 1000003) (by decide) Try.underlying27 rfl (size27.of (rfl)) rfl rfl) rfl hv1 (by decide) rfl) ?_
 refine RM rfl ?_
 refine RS (ok_call (dNewest_fn X S i hi hn) (Args.cons rfl (Le.old _ _) (Args.cons rfl LA Args.nil))) ?_
 refine RA rfl ?_
 refine RN ?_
 refine A.seq ?_
 refine GS ?_
 refine TL ?_
 refine RM rfl ?_
 refine RBS rfl rfl rfl (.bool false) (congrArg Value.bool (by simp)) ?_
 refine RM rfl ?_
 refine RQ (ok_move rfl) ?_
 refine RQ (ok_move rfl) ?_
 refine RQ (ok_call (vChanges_fn X (hisC S i)) (A1 rfl)) ?_
 refine RQ (ok_bin rfl rfl rfl) ?_; refine RZ (.bool false) (congrArg Value.bool (by simp; omega)) ?_
 refine RP rfl rfl ?_
 refine RN ?_
 refine A.no rfl ?_
 refine A.skip ?_
 refine EN ?_
 refine GS ?_
 refine TL ?_
 refine RM rfl ?_
 refine RM rfl ?_
 refine RS (ok_call (vChanges_fn X (hisC S i)) (A1 rfl)) ?_
 refine RM rfl ?_
 refine RBS rfl rfl rfl (nI ((hisC S i).length - j)) (wrap_eq (by omega) (by omega)) ?_
 refine RS (ok_call (vEarlier_fn X (hisC S i) ((hisC S i).length - j) (Nat.sub_le _ _) (by omega)) (A2 rfl rfl)) ?_
 refine RS (ok_call (vNow_fn X ((hisC S i).drop ((hisC S i).length - j))) (A1 rfl)) ?_
 refine RS (ok_callB (cRead_fn X (lastC ((hisC S i).drop ((hisC S i).length - j)))) con_tup_mono (A1 rfl)) ?_
 refine RS (ok_extract rfl rfl) ?_
 refine RS (ok_extract rfl rfl) ?_
 refine RA rfl ?_
 refine RA rfl ?_
 refine RN ?_
 refine A.sub (KC 6 rfl (KC 7 rfl (KC 1000003 rfl (KC 1000200 rfl KN)))) ?_
 refine A.ret ?_
 exact End.ret2 rfl rfl (by first | exact Le.refl _ | exact Le.old _ _) rfl (by first | exact Le.refl _ | exact Le.old _ _)
theorem dVersion_bad (n : Nat) (i : Int) (h : ¬ (0 ≤ i ∧ i < (n : Int))) (j : Int) : Fn Try.prog 25 [dszD n, .v (.int .i64 (i)), .v (.int .i64 (j))] (.v (.tuple #[.slice none 0 0, .int .i64 1])) := by
 refine Fn.of Try.func25 rfl (by kernel_rfl) Try.ntmps25 (by simp) (fun w => [(0, old w.heap.size (dszD n)), (1, .v (.int .i64 (i))), (2, .v (.int .i64 (j)))]) (fun w => (Start.old rfl (Start.v rfl (Start.v rfl Start.nil)))) fun w₀ => ?_
 refine A.nameDsz (t := 0) rfl fun c₁ p₁ hc₁ hp₁ => ?_
 refine GS ?_
 refine TN 0 ?_
 refine RN ?_
 refine ⟨_, _, eff_box (n := 34) (d := 3) (k := 1000003) rfl (by decide), fun b3 hb3 => ?_⟩
 have hBb3 := hb3.1
 refine TL ?_
 refine RA rfl ?_
 refine RA rfl ?_
 refine RN ?_
 refine A.seq ?_
 refine GS ?_
 refine TL ?_
 refine RS (ok_loadA (s := 1000003) (by decide) Try.underlying27 rfl (size27.of (rfl)) rfl rfl) ?_
 refine RM rfl ?_
 refine RS (ok_call (dHas_fn n i) (Args.cons rfl (dsz_v hc₁ hp₁) (Args.cons rfl LA Args.nil))) ?_; refine RZ (.bool false) (congrArg Value.bool (decide_eq_false h)) ?_
 refine RS (ok_not rfl) ?_; refine RZ (.bool true) (rfl) ?_
 refine RN ?_
 refine A.yes rfl ?_
 refine GS ?_
 refine TL ?_
 refine RA rfl ?_
 refine RA rfl ?_
 refine RN ?_
 refine A.ret ?_
 refine End.ret_then ?_
 exact End.ret2V rfl rfl rfl
theorem dVersion_neg (X : Nat → Prop) (S : Dk) (i : Nat) (hi : i < S.length) (hn : S.length ≤ 10922) (j : Int) (hj : j < 0) : Fn Try.prog 25 [diskD dT X S, .v (nI (i)), .v (.int .i64 (j))] (.v (.tuple #[.slice none 0 0, .int .i64 1])) := by
 refine Fn.of Try.func25 rfl (by kernel_rfl) Try.ntmps25 (by simp) (fun w => [(0, old w.heap.size (diskD dT X S)), (1, .v (nI (i))), (2, .v (.int .i64 (j)))]) (fun w => (Start.old rfl (Start.v rfl (Start.v rfl Start.nil)))) fun w₀ => ?_
 refine A.nameTl (t := 0) (k := 1000200) rfl fun v hv1 => ?_
 refine GS ?_
 refine TN 0 ?_
 refine RN ?_
 refine ⟨_, _, eff_box (n := 34) (d := 3) (k := 1000003) rfl (by decide), fun b3 hb3 => ?_⟩
 have hBb3 := hb3.1
 refine TL ?_
 refine RA rfl ?_
 refine RA rfl ?_
 refine RN ?_
 refine A.seq ?_
 refine GS ?_
 refine TL ?_
 refine RS (OpOk.tlO (k := 1000200) [nI S.length, nI (totC S)] (ok_loadA (s := 1000003) (by decide) Try.underlying27 rfl (size27.of (rfl)) rfl rfl) rfl hv1 (by decide) rfl) ?_
 refine RM rfl ?_
 refine RS (ok_call (dHas_fn S.length (i : Int)) (Args.cons rfl ((Le.old _ _).trans disk_sz) (Args.cons rfl LA Args.nil))) ?_; refine RZ (.bool true) (congrArg Value.bool (decide_eq_true ⟨by omega, by omega⟩)) ?_
 refine RS (ok_not rfl) ?_; refine RZ (.bool false) (rfl) ?_
 refine RN ?_
 refine A.no rfl ?_
 refine A.skip ?_
 refine EN ?_
 refine GS ?_
 refine TL ?_
 refine RS (OpOk.tlO (k := 1000200) [nI S.length, nI (totC S)] (ok_loadA (s := 1000003) (by decide) Try.underlying27 rfl (size27.of (rfl)) rfl rfl) rfl hv1 (by decide) rfl) ?_
 refine RM rfl ?_
 refine RS (ok_call (dNewest_fn X S i hi hn) (Args.cons rfl (Le.old _ _) (Args.cons rfl LA Args.nil))) ?_
 refine RA rfl ?_
 refine RN ?_
 refine A.seq ?_
 refine GS ?_
 refine TL ?_
 refine RM rfl ?_
 refine RBS rfl rfl rfl (.bool true) (congrArg Value.bool (decide_eq_true hj)) ?_
 refine RM rfl ?_
 refine RK ?_
 refine RK ?_
 refine RK ?_
 refine RK ?_
 refine RP rfl rfl ?_
 refine RN ?_
 refine A.yes rfl ?_
 refine GS ?_
 refine TL ?_
 refine RA rfl ?_
 refine RA rfl ?_
 refine RN ?_
 refine A.ret ?_
 refine End.ret_then ?_
 exact End.ret2V rfl rfl rfl
theorem dVersion_big (X : Nat → Prop) (S : Dk) (i : Nat) (hi : i < S.length) (hn : S.length ≤ 10922) (j : Int) (hj : ((hisC S i).length : Int) < j) : Fn Try.prog 25 [diskD dT X S, .v (nI (i)), .v (.int .i64 (j))] (.v (.tuple #[.slice none 0 0, .int .i64 1])) := by
 refine Fn.of Try.func25 rfl (by kernel_rfl) Try.ntmps25 (by simp) (fun w => [(0, old w.heap.size (diskD dT X S)), (1, .v (nI (i))), (2, .v (.int .i64 (j)))]) (fun w => (Start.old rfl (Start.v rfl (Start.v rfl Start.nil)))) fun w₀ => ?_
 refine A.nameTl (t := 0) (k := 1000200) rfl fun v hv1 => ?_
 refine GS ?_
 refine TN 0 ?_
 refine RN ?_
 refine ⟨_, _, eff_box (n := 34) (d := 3) (k := 1000003) rfl (by decide), fun b3 hb3 => ?_⟩
 have hBb3 := hb3.1
 refine TL ?_
 refine RA rfl ?_
 refine RA rfl ?_
 refine RN ?_
 refine A.seq ?_
 refine GS ?_
 refine TL ?_
 refine RS (OpOk.tlO (k := 1000200) [nI S.length, nI (totC S)] (ok_loadA (s := 1000003) (by decide) Try.underlying27 rfl (size27.of (rfl)) rfl rfl) rfl hv1 (by decide) rfl) ?_
 refine RM rfl ?_
 refine RS (ok_call (dHas_fn S.length (i : Int)) (Args.cons rfl ((Le.old _ _).trans disk_sz) (Args.cons rfl LA Args.nil))) ?_; refine RZ (.bool true) (congrArg Value.bool (decide_eq_true ⟨by omega, by omega⟩)) ?_
 refine RS (ok_not rfl) ?_; refine RZ (.bool false) (rfl) ?_
 refine RN ?_
 refine A.no rfl ?_
 refine A.skip ?_
 refine EN ?_
 refine GS ?_
 refine TL ?_
 refine RS (OpOk.tlO (k := 1000200) [nI S.length, nI (totC S)] (ok_loadA (s := 1000003) (by decide) Try.underlying27 rfl (size27.of (rfl)) rfl rfl) rfl hv1 (by decide) rfl) ?_
 refine RM rfl ?_
 refine RS (ok_call (dNewest_fn X S i hi hn) (Args.cons rfl (Le.old _ _) (Args.cons rfl LA Args.nil))) ?_
 refine RA rfl ?_
 refine RN ?_
 refine A.seq ?_
 refine GS ?_
 refine TL ?_
 refine RM rfl ?_
 refine RBS rfl rfl rfl (.bool false) (congrArg Value.bool (decide_eq_false (by omega))) ?_
 refine RM rfl ?_
 refine RQ (ok_move rfl) ?_
 refine RQ (ok_move rfl) ?_
 refine RQ (ok_call (vChanges_fn X (hisC S i)) (A1 rfl)) ?_
 refine RQ (ok_bin rfl rfl rfl) ?_; refine RZ (.bool true) (congrArg Value.bool (decide_eq_true hj)) ?_
 refine RP rfl rfl ?_
 refine RN ?_
 refine A.yes rfl ?_
 refine GS ?_
 refine TL ?_
 refine RA rfl ?_
 refine RA rfl ?_
 refine RN ?_
 refine A.ret ?_
 refine End.ret_then ?_
 exact End.ret2V rfl rfl rfl
theorem dWrite_fn (X : Nat → Prop) (S : Dk) (i : Nat) (hi : i < S.length) (hn : S.length ≤ 10922) (l : List UInt8) (hl : l.length ≤ 256) (ht : totC S ≤ 1000000) : Fn Try.prog 23 [diskD dT X S, .v (nI (i)), byt l] (tup [diskD dT X (putC S i (some l)), .v (.int .i64 0)]) := by
 refine Fn.of Try.func23 rfl (by kernel_rfl) Try.ntmps23 (by simp) (fun w => [(0, old w.heap.size (diskD dT X S)), (1, .v (nI (i))), (2, old w.heap.size (byt l))]) (fun w => (Start.old rfl (Start.v rfl (Start.old rfl Start.nil)))) fun w₀ => ?_
 refine A.nameTl (t := 0) (k := 1000200) rfl fun v hv1 => ?_
 refine GS ?_
 refine TN 0 ?_
 refine RN ?_
 refine ⟨_, _, eff_box (n := 25) (d := 3) (k := 1000003) rfl (by decide), fun b3 hb3 => ?_⟩
 have hBb3 := hb3.1
 refine TN 1 ?_
 refine RN ?_
 refine ⟨_, _, eff_alloc (n := 25) (d := 6) (k := 1000006) zero27 (by decide), fun b6 hb6 => ?_⟩
 have hBb6 := hb6.1
 have hlt_b3_b6 : b3 < b6 := hb6.2 1000003 _ _ _ rfl
 refine TL ?_
 refine RA rfl ?_
 refine RN ?_
 refine A.seq ?_
 refine A.block ?_
 refine GS ?_
 refine TL ?_
 refine RS (OpOk.tlO (k := 1000200) [nI S.length, nI (totC S)] (ok_loadA (s := 1000003) (by decide) Try.underlying27 rfl (size27.of (rfl)) rfl rfl) rfl hv1 (by decide) rfl) ?_
 refine RM rfl ?_
 refine RS (ok_call (dHas_fn S.length (i : Int)) (Args.cons rfl ((Le.old _ _).trans disk_sz) (Args.cons rfl LA Args.nil))) ?_; refine RZ (.bool true) (congrArg Value.bool (decide_eq_true ⟨by omega, by omega⟩)) ?_
 refine RS (ok_not rfl) ?_; refine RZ (.bool false) (rfl) ?_
 refine RA rfl ?_
 refine RN ?_
 refine A.no rfl ?_
 refine GS ?_
 refine TL ?_
 refine RM rfl ?_
 refine RS (ok_lenB Try.underlying37 rfl (Le.old _ _)) ?_
 refine RBS rfl rfl rfl (.bool false) (congrArg Value.bool (decide_eq_false (by omega))) ?_
 refine RA rfl ?_
 refine RN ?_
 refine A.no rfl ?_
 refine A.skip ?_
 refine End.normal_block ?_
 refine EN ?_
 refine GD ?_
 refine TD 6 ?_
 refine RS (OpOk.tlO (k := 1000200) [nI S.length, nI (totC S)] (ok_loadA (s := 1000003) (by decide) Try.underlying27 rfl (size27.of (rfl)) rfl rfl) rfl hv1 (by decide) rfl) ?_
 refine RM rfl ?_
 refine RM rfl ?_
 refine RS (ok_callB (dCopied_fn l (by omega)) (fun B B' h => fresh_mono B B' h) (Args.cons rfl (Le.old _ _) Args.nil)) ?_
 refine RS (ok_buildCont (k := 1000200) rfl rfl (by decide) rfl hl buildCs) ?_
 refine RS (ok_call (dChange_fn X S i hi hn (some l) ht) (Args.cons rfl (Le.old _ _) (Args.cons rfl LA (Args.cons rfl LA Args.nil)))) ?_
 refine RN ?_
 refine ⟨_, eff_storeK (n := 25) (s := 1000006) size27 rfl rfl (Le.refl _) (Agg.disk) hBb6 rfl (rfl) (Surv.disk (.inl (by decide))) (LV 6 rfl (LB 1000003 rfl (LO 1000200 rfl LN))), ?_⟩
 refine TL ?_
 refine RA rfl ?_
 refine RN ?_
 refine A.ret ?_
 exact End.varK2 (s := 1000006) rfl Try.underlying27 rfl size27 rfl rfl (by first | exact Le.refl _ | exact Le.old _ _) rfl (by first | exact Le.refl _ | exact Le.old _ _)
theorem dWrite_bad (n : Nat) (i : Int) (h : ¬ (0 ≤ i ∧ i < (n : Int))) (l : List UInt8) : Fn Try.prog 23 [dszD n, .v (.int .i64 (i)), byt l] (.v (.tuple #[aggV [nI 0, nI 0, .slice none 0 0], .int .i64 1])) := by
 refine Fn.of Try.func23 rfl (by kernel_rfl) Try.ntmps23 (by simp) (fun w => [(0, old w.heap.size (dszD n)), (1, .v (.int .i64 (i))), (2, old w.heap.size (byt l))]) (fun w => (Start.old rfl (Start.v rfl (Start.old rfl Start.nil)))) fun w₀ => ?_
 refine A.nameDsz (t := 0) rfl fun c₁ p₁ hc₁ hp₁ => ?_
 refine GS ?_
 refine TN 0 ?_
 refine RN ?_
 refine ⟨_, _, eff_box (n := 25) (d := 3) (k := 1000003) rfl (by decide), fun b3 hb3 => ?_⟩
 have hBb3 := hb3.1
 refine TN 1 ?_
 refine RN ?_
 refine ⟨_, _, eff_alloc (n := 25) (d := 6) (k := 1000006) zero27 (by decide), fun b6 hb6 => ?_⟩
 have hBb6 := hb6.1
 have hlt_b3_b6 : b3 < b6 := hb6.2 1000003 _ _ _ rfl
 refine TL ?_
 refine RA rfl ?_
 refine RN ?_
 refine A.seq ?_
 refine A.block ?_
 refine GS ?_
 refine TL ?_
 refine RS (ok_loadA (s := 1000003) (by decide) Try.underlying27 rfl (size27.of (rfl)) rfl rfl) ?_
 refine RM rfl ?_
 refine RS (ok_call (dHas_fn n i) (Args.cons rfl (dsz_v hc₁ hp₁) (Args.cons rfl LA Args.nil))) ?_; refine RZ (.bool false) (congrArg Value.bool (decide_eq_false h)) ?_
 refine RS (ok_not rfl) ?_; refine RZ (.bool true) (rfl) ?_
 refine RA rfl ?_
 refine RN ?_
 refine A.yes rfl ?_
 refine GS ?_
 refine TF 1 ?_
 refine RS (ok_lit [] ([.int .i64 0] ++ [.int .i64 0] ++ [.slice none 0 0]) (fun _ _ => rfl) (by kernel_rfl)) ?_
 refine RN ?_
 refine ⟨_, eff_storeA (n := 25) (s := 1000006) (size27.of (rfl)) rfl rfl (rfl) hBb6 rfl (rfl) (LV 6 rfl (LB 1000003 rfl LN)), ?_⟩
 refine TL ?_
 refine RA rfl ?_
 refine RN ?_
 refine A.ret ?_
 refine End.ret_block ?_
 refine End.ret_then ?_
 exact End.cellV (s := 1000006) rfl Try.underlying27 rfl (size27.of rfl) rfl rfl rfl
theorem dWrite_big (n : Nat) (i : Int) (h : 0 ≤ i ∧ i < (n : Int)) (l : List UInt8) (hl : 256 < l.length) : Fn Try.prog 23 [dszD n, .v (.int .i64 (i)), byt l] (.v (.tuple #[aggV [nI 0, nI 0, .slice none 0 0], .int .i64 3])) := by
 refine Fn.of Try.func23 rfl (by kernel_rfl) Try.ntmps23 (by simp) (fun w => [(0, old w.heap.size (dszD n)), (1, .v (.int .i64 (i))), (2, old w.heap.size (byt l))]) (fun w => (Start.old rfl (Start.v rfl (Start.old rfl Start.nil)))) fun w₀ => ?_
 refine A.nameDsz (t := 0) rfl fun c₁ p₁ hc₁ hp₁ => ?_
 refine GS ?_
 refine TN 0 ?_
 refine RN ?_
 refine ⟨_, _, eff_box (n := 25) (d := 3) (k := 1000003) rfl (by decide), fun b3 hb3 => ?_⟩
 have hBb3 := hb3.1
 refine TN 1 ?_
 refine RN ?_
 refine ⟨_, _, eff_alloc (n := 25) (d := 6) (k := 1000006) zero27 (by decide), fun b6 hb6 => ?_⟩
 have hBb6 := hb6.1
 have hlt_b3_b6 : b3 < b6 := hb6.2 1000003 _ _ _ rfl
 refine TL ?_
 refine RA rfl ?_
 refine RN ?_
 refine A.seq ?_
 refine A.block ?_
 refine GS ?_
 refine TL ?_
 refine RS (ok_loadA (s := 1000003) (by decide) Try.underlying27 rfl (size27.of (rfl)) rfl rfl) ?_
 refine RM rfl ?_
 refine RS (ok_call (dHas_fn n i) (Args.cons rfl (dsz_v hc₁ hp₁) (Args.cons rfl LA Args.nil))) ?_; refine RZ (.bool true) (congrArg Value.bool (decide_eq_true h)) ?_
 refine RS (ok_not rfl) ?_; refine RZ (.bool false) (rfl) ?_
 refine RA rfl ?_
 refine RN ?_
 refine A.no rfl ?_
 refine GS ?_
 refine TL ?_
 refine RM rfl ?_
 refine RS (ok_lenB Try.underlying37 rfl (Le.old _ _)) ?_
 refine RBS rfl rfl rfl (.bool true) (congrArg Value.bool (decide_eq_true (by omega))) ?_
 refine RA rfl ?_
 refine RN ?_
 refine A.yes rfl ?_
 refine GS ?_
 refine TF 1 ?_
 refine RS (ok_lit [] ([.int .i64 0] ++ [.int .i64 0] ++ [.slice none 0 0]) (fun _ _ => rfl) (by kernel_rfl)) ?_
 refine RN ?_
 refine ⟨_, eff_storeA (n := 25) (s := 1000006) (size27.of (rfl)) rfl rfl (rfl) hBb6 rfl (rfl) (LV 6 rfl (LB 1000003 rfl LN)), ?_⟩
 refine TL ?_
 refine RA rfl ?_
 refine RN ?_
 refine A.ret ?_
 refine End.ret_block ?_
 refine End.ret_then ?_
 exact End.cellV (s := 1000006) rfl Try.underlying27 rfl (size27.of rfl) rfl rfl rfl
theorem dErase_fn (X : Nat → Prop) (S : Dk) (i : Nat) (hi : i < S.length) (hn : S.length ≤ 10922) (ht : totC S ≤ 1000000) : Fn Try.prog 22 [diskD dT X S, .v (nI (i))] (tup [diskD dT X (putC S i none), .v (.int .i64 0)]) := by
 refine Fn.of Try.func22 rfl (by kernel_rfl) Try.ntmps22 (by simp) (fun w => [(0, old w.heap.size (diskD dT X S)), (1, .v (nI (i)))]) (fun w => (Start.old rfl (Start.v rfl Start.nil))) fun w₀ => ?_
 refine A.nameTl (t := 0) (k := 1000200) rfl fun v hv1 => ?_
 refine GS ?_
 refine TN 0 ?_
 refine RN ?_
 refine ⟨_, _, eff_box (n := 15) (d := 2) (k := 1000002) rfl (by decide), fun b2 hb2 => ?_⟩
 have hBb2 := hb2.1
 refine TN 1 ?_
 refine RN ?_
 refine ⟨_, _, eff_alloc (n := 15) (d := 4) (k := 1000004) zero27 (by decide), fun b4 hb4 => ?_⟩
 have hBb4 := hb4.1
 have hlt_b2_b4 : b2 < b4 := hb4.2 1000002 _ _ _ rfl
 refine TL ?_
 refine RA rfl ?_
 refine RN ?_
 refine A.seq ?_
 refine GS ?_
 refine TL ?_
 refine RS (OpOk.tlO (k := 1000200) [nI S.length, nI (totC S)] (ok_loadA (s := 1000002) (by decide) Try.underlying27 rfl (size27.of (rfl)) rfl rfl) rfl hv1 (by decide) rfl) ?_
 refine RM rfl ?_
 refine RS (ok_call (dHas_fn S.length (i : Int)) (Args.cons rfl ((Le.old _ _).trans disk_sz) (Args.cons rfl LA Args.nil))) ?_; refine RZ (.bool true) (congrArg Value.bool (decide_eq_true ⟨by omega, by omega⟩)) ?_
 refine RS (ok_not rfl) ?_; refine RZ (.bool false) (rfl) ?_
 refine RN ?_
 refine A.no rfl ?_
 refine A.skip ?_
 refine EN ?_
 refine GS ?_
 refine TF 4 ?_
 refine RS (OpOk.tlO (k := 1000200) [nI S.length, nI (totC S)] (ok_loadA (s := 1000002) (by decide) Try.underlying27 rfl (size27.of (rfl)) rfl rfl) rfl hv1 (by decide) rfl) ?_
 refine RM rfl ?_
 refine RS (ok_lit [] ([.bool false] ++ [.slice none 0 0]) (fun _ _ => rfl) (by kernel_rfl)) ?_
 refine RS (ok_call (dChange_fn X S i hi hn none ht) (Args.cons rfl (Le.old _ _) (Args.cons rfl LA (Args.cons rfl (zero_cont) Args.nil)))) ?_
 refine RN ?_
 refine ⟨_, eff_storeK (n := 15) (s := 1000004) size27 rfl rfl (Le.refl _) (Agg.disk) hBb4 rfl (rfl) (Surv.disk (.inl (by decide))) (LV 4 rfl (LB 1000002 rfl (LO 1000200 rfl LN))), ?_⟩
 refine TL ?_
 refine RA rfl ?_
 refine RN ?_
 refine A.ret ?_
 exact End.varK2 (s := 1000004) rfl Try.underlying27 rfl size27 rfl rfl (by first | exact Le.refl _ | exact Le.old _ _) rfl (by first | exact Le.refl _ | exact Le.old _ _)
theorem dErase_bad (n : Nat) (i : Int) (h : ¬ (0 ≤ i ∧ i < (n : Int)))  : Fn Try.prog 22 [dszD n, .v (.int .i64 (i))] (.v (.tuple #[aggV [nI 0, nI 0, .slice none 0 0], .int .i64 1])) := by
 refine Fn.of Try.func22 rfl (by kernel_rfl) Try.ntmps22 (by simp) (fun w => [(0, old w.heap.size (dszD n)), (1, .v (.int .i64 (i)))]) (fun w => (Start.old rfl (Start.v rfl Start.nil))) fun w₀ => ?_
 refine A.nameDsz (t := 0) rfl fun c₁ p₁ hc₁ hp₁ => ?_
 refine GS ?_
 refine TN 0 ?_
 refine RN ?_
 refine ⟨_, _, eff_box (n := 15) (d := 2) (k := 1000002) rfl (by decide), fun b2 hb2 => ?_⟩
 have hBb2 := hb2.1
 refine TN 1 ?_
 refine RN ?_
 refine ⟨_, _, eff_alloc (n := 15) (d := 4) (k := 1000004) zero27 (by decide), fun b4 hb4 => ?_⟩
 have hBb4 := hb4.1
 have hlt_b2_b4 : b2 < b4 := hb4.2 1000002 _ _ _ rfl
 refine TL ?_
 refine RA rfl ?_
 refine RN ?_
 refine A.seq ?_
 refine GS ?_
 refine TL ?_
 refine RS (ok_loadA (s := 1000002) (by decide) Try.underlying27 rfl (size27.of (rfl)) rfl rfl) ?_
 refine RM rfl ?_
 refine RS (ok_call (dHas_fn n i) (Args.cons rfl (dsz_v hc₁ hp₁) (Args.cons rfl LA Args.nil))) ?_; refine RZ (.bool false) (congrArg Value.bool (decide_eq_false h)) ?_
 refine RS (ok_not rfl) ?_; refine RZ (.bool true) (rfl) ?_
 refine RN ?_
 refine A.yes rfl ?_
 refine GS ?_
 refine TF 1 ?_
 refine RS (ok_lit [] ([.int .i64 0] ++ [.int .i64 0] ++ [.slice none 0 0]) (fun _ _ => rfl) (by kernel_rfl)) ?_
 refine RN ?_
 refine ⟨_, eff_storeA (n := 15) (s := 1000004) (size27.of (rfl)) rfl rfl (rfl) hBb4 rfl (rfl) (LV 4 rfl (LB 1000002 rfl LN)), ?_⟩
 refine TL ?_
 refine RA rfl ?_
 refine RN ?_
 refine A.ret ?_
 refine End.ret_then ?_
 exact End.cellV (s := 1000004) rfl Try.underlying27 rfl (size27.of rfl) rfl rfl rfl
theorem dReplay_fn (X : Nat → Prop) (S : Dk) (i : Nat) (hi : i < S.length) (hn : S.length ≤ 10922) (m : Nat) (hm : m ≤ (hisC S i).length) (ht : totC S ≤ 1000000) : Fn Try.prog 26 [diskD dT X S, .v (nI (i)), .v (nI (m))] (tup [diskD dT X (putC S i (lastC ((hisC S i).drop m))), .v (.int .i64 0)]) := by
 refine Fn.of Try.func26 rfl (by kernel_rfl) Try.ntmps26 (by simp) (fun w => [(0, old w.heap.size (diskD dT X S)), (1, .v (nI (i))), (2, .v (nI (m)))]) (fun w => (Start.old rfl (Start.v rfl (Start.v rfl Start.nil)))) fun w₀ => ?_
 refine A.nameTl (t := 0) (k := 1000200) rfl fun v hv1 => ?_
 have hle := his_le S i
 refine GS ?_
 refine TN 0 ?_
 refine RN ?_
 refine ⟨_, _, eff_box (n := 33) (d := 3) (k := 1000003) rfl (by decide), fun b3 hb3 => ?_⟩
 have hBb3 := hb3.1
 refine TN 1 ?_
 refine RN ?_
 refine ⟨_, _, eff_alloc (n := 33) (d := 6) (k := 1000006) zero27 (by decide), fun b6 hb6 => ?_⟩
 have hBb6 := hb6.1
 have hlt_b3_b6 : b3 < b6 := hb6.2 1000003 _ _ _ rfl
 refine TL ?_
 refine RA rfl ?_
 refine RN ?_
 refine A.seq ?_
 refine GS ?_
 refine TL ?_
 refine RS (OpOk.tlO (k := 1000200) [nI S.length, nI (totC S)] (ok_loadA (s := 1000003) (by decide) Try.underlying27 rfl (size27.of (rfl)) rfl rfl) rfl hv1 (by decide) rfl) ?_
 refine RM rfl ?_
 refine RS (ok_call (dHas_fn S.length (i : Int)) (Args.cons rfl ((Le.old _ _).trans disk_sz) (Args.cons rfl LA Args.nil))) ?_; refine RZ (.bool true) (congrArg Value.bool (decide_eq_true ⟨by omega, by omega⟩)) ?_
 refine RS (ok_not rfl) ?_; refine RZ (.bool false) (rfl) ?_
 refine RM rfl ?_
 refine RQ (ok_move rfl) ?_
 refine RQ (ok_bin rfl rfl rfl) ?_; refine RZ (.bool false) (congrArg Value.bool (by simp)) ?_
 refine RP rfl rfl ?_
 refine RN ?_
 refine A.no rfl ?_
 refine A.skip ?_
 refine EN ?_
 refine GS ?_
 refine TL ?_
 refine RS (OpOk.tlO (k := 1000200) [nI S.length, nI (totC S)] (ok_loadA (s := 1000003) (by decide) Try.underlying27 rfl (size27.of (rfl)) rfl rfl) rfl hv1 (by decide) rfl) ?_
 refine RM rfl ?_
 refine RS (ok_call (dNewest_fn X S i hi hn) (Args.cons rfl (Le.old _ _) (Args.cons rfl LA Args.nil))) ?_
 refine RA rfl ?_
 refine RN ?_
 refine A.seq ?_
 refine GS ?_
 refine TL ?_
 refine RM rfl ?_
 refine RM rfl ?_
 refine RS (ok_call (vChanges_fn X (hisC S i)) (A1 rfl)) ?_
 refine RBS rfl rfl rfl (.bool false) (congrArg Value.bool (by simp; omega)) ?_
 refine RN ?_
 refine A.no rfl ?_
 refine A.skip ?_
 refine EN ?_
 refine GD ?_
 refine TD 7 ?_
 refine RS (OpOk.tlO (k := 1000200) [nI S.length, nI (totC S)] (ok_loadA (s := 1000003) (by decide) Try.underlying27 rfl (size27.of (rfl)) rfl rfl) rfl hv1 (by decide) rfl) ?_
 refine RM rfl ?_
 refine RM rfl ?_
 refine RM rfl ?_
 refine RS (ok_call (vEarlier_fn X (hisC S i) m hm (by omega)) (A2 rfl rfl)) ?_
 refine RS (ok_call (vNow_fn X ((hisC S i).drop m)) (A1 rfl)) ?_
 refine RS (ok_call (dChange_fn X S i hi hn (lastC ((hisC S i).drop m)) ht) (Args.cons rfl (Le.old _ _) (Args.cons rfl LA (Args.cons rfl LA Args.nil)))) ?_
 refine RN ?_
 refine ⟨_, eff_storeK (n := 33) (s := 1000006) size27 rfl rfl (Le.refl _) (Agg.disk) hBb6 rfl (rfl) (Surv.disk (.inl (by decide))) (LV 6 rfl (LB 1000003 rfl (LO 1000200 rfl LN))), ?_⟩
 refine TL ?_
 refine RA rfl ?_
 refine RN ?_
 refine A.sub (KC 6 rfl (KC 7 rfl (KC 1000003 rfl (KC 1000006 rfl (KC 1000200 rfl KN))))) ?_
 refine A.ret ?_
 exact End.varK2 (s := 1000006) rfl Try.underlying27 rfl size27 rfl rfl (by first | exact Le.refl _ | exact Le.old _ _) rfl (by first | exact Le.refl _ | exact Le.old _ _)
theorem dReplay_bad (n : Nat) (i : Int) (h : ¬ (0 ≤ i ∧ i < (n : Int))) (m : Int) : Fn Try.prog 26 [dszD n, .v (.int .i64 (i)), .v (.int .i64 (m))] (.v (.tuple #[aggV [nI 0, nI 0, .slice none 0 0], .int .i64 1])) := by
 refine Fn.of Try.func26 rfl (by kernel_rfl) Try.ntmps26 (by simp) (fun w => [(0, old w.heap.size (dszD n)), (1, .v (.int .i64 (i))), (2, .v (.int .i64 (m)))]) (fun w => (Start.old rfl (Start.v rfl (Start.v rfl Start.nil)))) fun w₀ => ?_
 refine A.nameDsz (t := 0) rfl fun c₁ p₁ hc₁ hp₁ => ?_
 refine GS ?_
 refine TN 0 ?_
 refine RN ?_
 refine ⟨_, _, eff_box (n := 33) (d := 3) (k := 1000003) rfl (by decide), fun b3 hb3 => ?_⟩
 have hBb3 := hb3.1
 refine TN 1 ?_
 refine RN ?_
 refine ⟨_, _, eff_alloc (n := 33) (d := 6) (k := 1000006) zero27 (by decide), fun b6 hb6 => ?_⟩
 have hBb6 := hb6.1
 have hlt_b3_b6 : b3 < b6 := hb6.2 1000003 _ _ _ rfl
 refine TL ?_
 refine RA rfl ?_
 refine RN ?_
 refine A.seq ?_
 refine GS ?_
 refine TL ?_
 refine RS (ok_loadA (s := 1000003) (by decide) Try.underlying27 rfl (size27.of (rfl)) rfl rfl) ?_
 refine RM rfl ?_
 refine RS (ok_call (dHas_fn n i) (Args.cons rfl (dsz_v hc₁ hp₁) (Args.cons rfl LA Args.nil))) ?_; refine RZ (.bool false) (congrArg Value.bool (decide_eq_false h)) ?_
 refine RS (ok_not rfl) ?_; refine RZ (.bool true) (rfl) ?_
 refine RM rfl ?_
 refine RK ?_
 refine RK ?_
 refine RP rfl rfl ?_
 refine RN ?_
 refine A.yes rfl ?_
 refine GS ?_
 refine TF 1 ?_
 refine RS (ok_lit [] ([.int .i64 0] ++ [.int .i64 0] ++ [.slice none 0 0]) (fun _ _ => rfl) (by kernel_rfl)) ?_
 refine RN ?_
 refine ⟨_, eff_storeA (n := 33) (s := 1000006) (size27.of (rfl)) rfl rfl (rfl) hBb6 rfl (rfl) (LV 6 rfl (LB 1000003 rfl LN)), ?_⟩
 refine TL ?_
 refine RA rfl ?_
 refine RN ?_
 refine A.ret ?_
 refine End.ret_then ?_
 exact End.cellV (s := 1000006) rfl Try.underlying27 rfl (size27.of rfl) rfl rfl rfl
theorem dReplay_neg (n : Nat) (i : Int) (h : 0 ≤ i ∧ i < (n : Int)) (m : Int) (hm : m < 0) : Fn Try.prog 26 [dszD n, .v (.int .i64 (i)), .v (.int .i64 (m))] (.v (.tuple #[aggV [nI 0, nI 0, .slice none 0 0], .int .i64 1])) := by
 refine Fn.of Try.func26 rfl (by kernel_rfl) Try.ntmps26 (by simp) (fun w => [(0, old w.heap.size (dszD n)), (1, .v (.int .i64 (i))), (2, .v (.int .i64 (m)))]) (fun w => (Start.old rfl (Start.v rfl (Start.v rfl Start.nil)))) fun w₀ => ?_
 refine A.nameDsz (t := 0) rfl fun c₁ p₁ hc₁ hp₁ => ?_
 refine GS ?_
 refine TN 0 ?_
 refine RN ?_
 refine ⟨_, _, eff_box (n := 33) (d := 3) (k := 1000003) rfl (by decide), fun b3 hb3 => ?_⟩
 have hBb3 := hb3.1
 refine TN 1 ?_
 refine RN ?_
 refine ⟨_, _, eff_alloc (n := 33) (d := 6) (k := 1000006) zero27 (by decide), fun b6 hb6 => ?_⟩
 have hBb6 := hb6.1
 have hlt_b3_b6 : b3 < b6 := hb6.2 1000003 _ _ _ rfl
 refine TL ?_
 refine RA rfl ?_
 refine RN ?_
 refine A.seq ?_
 refine GS ?_
 refine TL ?_
 refine RS (ok_loadA (s := 1000003) (by decide) Try.underlying27 rfl (size27.of (rfl)) rfl rfl) ?_
 refine RM rfl ?_
 refine RS (ok_call (dHas_fn n i) (Args.cons rfl (dsz_v hc₁ hp₁) (Args.cons rfl LA Args.nil))) ?_; refine RZ (.bool true) (congrArg Value.bool (decide_eq_true h)) ?_
 refine RS (ok_not rfl) ?_; refine RZ (.bool false) (rfl) ?_
 refine RM rfl ?_
 refine RQ (ok_move rfl) ?_
 refine RQ (ok_bin rfl rfl rfl) ?_; refine RZ (.bool true) (congrArg Value.bool (decide_eq_true hm)) ?_
 refine RP rfl rfl ?_
 refine RN ?_
 refine A.yes rfl ?_
 refine GS ?_
 refine TF 1 ?_
 refine RS (ok_lit [] ([.int .i64 0] ++ [.int .i64 0] ++ [.slice none 0 0]) (fun _ _ => rfl) (by kernel_rfl)) ?_
 refine RN ?_
 refine ⟨_, eff_storeA (n := 33) (s := 1000006) (size27.of (rfl)) rfl rfl (rfl) hBb6 rfl (rfl) (LV 6 rfl (LB 1000003 rfl LN)), ?_⟩
 refine TL ?_
 refine RA rfl ?_
 refine RN ?_
 refine A.ret ?_
 refine End.ret_then ?_
 exact End.cellV (s := 1000006) rfl Try.underlying27 rfl (size27.of rfl) rfl rfl rfl
theorem dReplay_big (X : Nat → Prop) (S : Dk) (i : Nat) (hi : i < S.length) (hn : S.length ≤ 10922) (m : Int) (hm : ((hisC S i).length : Int) < m) : Fn Try.prog 26 [diskD dT X S, .v (nI (i)), .v (.int .i64 (m))] (.v (.tuple #[aggV [nI 0, nI 0, .slice none 0 0], .int .i64 11])) := by
 refine Fn.of Try.func26 rfl (by kernel_rfl) Try.ntmps26 (by simp) (fun w => [(0, old w.heap.size (diskD dT X S)), (1, .v (nI (i))), (2, .v (.int .i64 (m)))]) (fun w => (Start.old rfl (Start.v rfl (Start.v rfl Start.nil)))) fun w₀ => ?_
 refine A.nameTl (t := 0) (k := 1000200) rfl fun v hv1 => ?_
 refine GS ?_
 refine TN 0 ?_
 refine RN ?_
 refine ⟨_, _, eff_box (n := 33) (d := 3) (k := 1000003) rfl (by decide), fun b3 hb3 => ?_⟩
 have hBb3 := hb3.1
 refine TN 1 ?_
 refine RN ?_
 refine ⟨_, _, eff_alloc (n := 33) (d := 6) (k := 1000006) zero27 (by decide), fun b6 hb6 => ?_⟩
 have hBb6 := hb6.1
 have hlt_b3_b6 : b3 < b6 := hb6.2 1000003 _ _ _ rfl
 refine TL ?_
 refine RA rfl ?_
 refine RN ?_
 refine A.seq ?_
 refine GS ?_
 refine TL ?_
 refine RS (OpOk.tlO (k := 1000200) [nI S.length, nI (totC S)] (ok_loadA (s := 1000003) (by decide) Try.underlying27 rfl (size27.of (rfl)) rfl rfl) rfl hv1 (by decide) rfl) ?_
 refine RM rfl ?_
 refine RS (ok_call (dHas_fn S.length (i : Int)) (Args.cons rfl ((Le.old _ _).trans disk_sz) (Args.cons rfl LA Args.nil))) ?_; refine RZ (.bool true) (congrArg Value.bool (decide_eq_true ⟨by omega, by omega⟩)) ?_
 refine RS (ok_not rfl) ?_; refine RZ (.bool false) (rfl) ?_
 refine RM rfl ?_
 refine RQ (ok_move rfl) ?_
 refine RQ (ok_bin rfl rfl rfl) ?_; refine RZ (.bool false) (congrArg Value.bool (decide_eq_false (by omega))) ?_
 refine RP rfl rfl ?_
 refine RN ?_
 refine A.no rfl ?_
 refine A.skip ?_
 refine EN ?_
 refine GS ?_
 refine TL ?_
 refine RS (OpOk.tlO (k := 1000200) [nI S.length, nI (totC S)] (ok_loadA (s := 1000003) (by decide) Try.underlying27 rfl (size27.of (rfl)) rfl rfl) rfl hv1 (by decide) rfl) ?_
 refine RM rfl ?_
 refine RS (ok_call (dNewest_fn X S i hi hn) (Args.cons rfl (Le.old _ _) (Args.cons rfl LA Args.nil))) ?_
 refine RA rfl ?_
 refine RN ?_
 refine A.seq ?_
 refine GS ?_
 refine TL ?_
 refine RM rfl ?_
 refine RM rfl ?_
 refine RS (ok_call (vChanges_fn X (hisC S i)) (A1 rfl)) ?_
 refine RBS rfl rfl rfl (.bool true) (congrArg Value.bool (decide_eq_true hm)) ?_
 refine RN ?_
 refine A.yes rfl ?_
 refine GS ?_
 refine TF 1 ?_
 refine RS (ok_lit [] ([.int .i64 0] ++ [.int .i64 0] ++ [.slice none 0 0]) (fun _ _ => rfl) (by kernel_rfl)) ?_
 refine RN ?_
 refine ⟨_, eff_storeA (n := 33) (s := 1000006) (size27.of (rfl)) rfl rfl (rfl) hBb6 rfl (rfl) (LV 6 rfl (LB 1000003 rfl (LO 1000200 rfl LN))), ?_⟩
 refine TL ?_
 refine RA rfl ?_
 refine RN ?_
 refine A.ret ?_
 refine End.ret_then ?_
 exact End.cellV (s := 1000006) rfl Try.underlying27 rfl (size27.of rfl) rfl rfl rfl
theorem clipI_fn (B₁ m : Nat) (xs : List Value) (hm : m = xs.length) (hmax : m ≤ maxLen) : Fn Try.prog 42 [own B₁ 3 m xs] (vlist xs m) := by
 refine Fn.of Try.func42 rfl (by kernel_rfl) Try.ntmps42 (by simp) (fun w => [(0, old w.heap.size (own B₁ 3 m xs))]) (fun w => (Start.old rfl Start.nil)) fun w₀ => ?_
 refine GS ?_
 refine TL ?_
 refine RA rfl ?_
 refine RN ?_
 refine GS ?_
 refine TL ?_
 refine RM rfl ?_
 refine RM rfl ?_
 refine RS (ok_lenU m Try.underlying67 rfl ((Le.old _ _).trans (own_vlst hm)) hm.symm) ?_
 refine RM rfl ?_
 refine RS (ok_lenU m Try.underlying67 rfl ((Le.old _ _).trans (own_vlst hm)) hm.symm) ?_
 refine RS (ok_clip Try.underlying67 info3 rfl (Le.old _ _) rfl rfl hm hmax) ?_
 refine RA rfl ?_
 refine RN ?_
 refine A.ret ?_
 exact End.ret1 rfl rfl (by first | exact Le.refl _ | exact Le.old _ _)
theorem bytesEqual_fn (l l' : List UInt8) : Fn Try.prog 43 [byt l, byt l'] (.v (.bool (l == l'))) := by
 refine Fn.of Try.func43 rfl (by kernel_rfl) Try.ntmps43 (by simp) (fun w => [(0, old w.heap.size (byt l)), (1, old w.heap.size (byt l'))]) (fun w => (Start.old rfl (Start.old rfl Start.nil))) fun w₀ => ?_
 refine GS ?_
 refine TL ?_
 refine RA rfl ?_
 refine RN ?_
 refine GS ?_
 refine TL ?_
 refine RM rfl ?_
 refine RS (ok_str (l := l) Try.underlying37 Try.underlying5 Try.underlying9 rfl (Le.old _ _)) ?_
 refine RM rfl ?_
 refine RS (ok_str (l := l') Try.underlying37 Try.underlying5 Try.underlying9 rfl (Le.old _ _)) ?_
 refine RS (ok_seq rfl rfl) ?_
 refine RA rfl ?_
 refine RN ?_
 refine A.ret ?_
 exact End.ret1 rfl rfl (by first | exact Le.refl _ | exact Le.old _ _)
theorem cEquals_fn (X X' : Nat → Prop) (c c' : Con) : Fn Try.prog 41 [contD dT X c, contD dT X' c'] (.v (.bool (decide (c = c')))) := by
 refine Fn.of Try.func41 rfl (by kernel_rfl) Try.ntmps41 (by simp) (fun w => [(0, old w.heap.size (contD dT X c)), (1, old w.heap.size (contD dT X' c'))]) (fun w => (Start.old rfl (Start.old rfl Start.nil))) fun w₀ => ?_
 refine A.nameTl (t := 0) (k := 1000200) rfl fun y hy => ?_
 refine A.nameTl (t := 1) (k := 1000201) rfl fun y' hy' => ?_
 rw [con_eq]
 refine GS ?_
 refine TN 0 ?_
 refine RN ?_
 refine ⟨_, _, eff_box (n := 17) (d := 2) (k := 1000002) rfl (by decide), fun b2 hb2 => ?_⟩
 have hBb2 := hb2.1
 refine TN 1 ?_
 refine RN ?_
 refine ⟨_, _, eff_box (n := 17) (d := 3) (k := 1000003) rfl (by decide), fun b3 hb3 => ?_⟩
 have hBb3 := hb3.1
 have hlt_b2_b3 : b2 < b3 := hb3.2 1000002 _ _ _ rfl
 refine TL ?_
 refine RA rfl ?_
 refine RN ?_
 rcases Bool.eq_false_or_eq_true (c.isSome == c'.isSome) with hsp | hsp
 ·refine GS ?_
  refine TL ?_
  refine RS (ok_field field79_0 (by decide) rfl) ?_
  refine RS (ok_loadV (s := 1000002) (by decide) Try.underlying4 rfl rfl rfl (rfl)) ?_
  refine RS (ok_field field79_0 (by decide) rfl) ?_
  refine RS (ok_loadV (s := 1000003) (by decide) Try.underlying4 rfl rfl rfl (rfl)) ?_
  refine RS (ok_beq Try.underlying4 rfl rfl) ?_; refine RZ (.bool true) (congrArg Value.bool hsp) ?_
  refine RM rfl ?_
  refine RQ (ok_field field79_1 (by decide) rfl) ?_
  refine RQ ((OpOk.valO (k := 1000200) (ok_loadV (s := 1000002) (by decide) Try.underlying37 rfl rfl rfl (rfl)) (by decide) rfl).le ((Le.old _ _).trans conty_bytD)) ?_
  refine RQ (ok_field field79_1 (by decide) rfl) ?_
  refine RQ ((OpOk.valO (k := 1000201) (ok_loadV (s := 1000003) (by decide) Try.underlying37 rfl rfl rfl (rfl)) (by decide) rfl).le ((Le.old _ _).trans conty_bytD)) ?_
  refine RQ (ok_call (bytesEqual_fn (c.getD []) (c'.getD [])) (A2 rfl rfl)) ?_
  refine RP rfl rfl ?_
  refine RA rfl ?_
  refine RN ?_
  refine A.ret ?_
  rw [hsp]
  exact End.ret1 rfl rfl (Le.v (congrArg Value.bool (by simp)))
 ·refine GS ?_
  refine TL ?_
  refine RS (ok_field field79_0 (by decide) rfl) ?_
  refine RS (ok_loadV (s := 1000002) (by decide) Try.underlying4 rfl rfl rfl (rfl)) ?_
  refine RS (ok_field field79_0 (by decide) rfl) ?_
  refine RS (ok_loadV (s := 1000003) (by decide) Try.underlying4 rfl rfl rfl (rfl)) ?_
  refine RS (ok_beq Try.underlying4 rfl rfl) ?_; refine RZ (.bool false) (congrArg Value.bool hsp) ?_
  refine RM rfl ?_
  refine RK ?_
  refine RK ?_
  refine RK ?_
  refine RK ?_
  refine RK ?_
  refine RP rfl rfl ?_
  refine RA rfl ?_
  refine RN ?_
  refine A.ret ?_
  rw [hsp]
  exact End.ret1 rfl rfl (Le.v (congrArg Value.bool (by simp)))
set_option maxHeartbeats 1000000 in
theorem dPresent_fn (X : Nat → Prop) (S : Dk) (hn : S.length ≤ 10922) : Fn Try.prog 29 [diskD dT X S] (vlist (presV S) (presV S).length) := by
 refine Fn.of Try.func29 rfl (by kernel_rfl) Try.ntmps29 (by simp) (fun w => [(0, old w.heap.size (diskD dT X S))]) (fun w => (Start.old rfl Start.nil)) fun w₀ => ?_
 refine A.nameTl (t := 0) (k := 1000200) rfl fun v hv1 => ?_
 refine GS ?_
 refine TN 0 ?_
 refine RN ?_
 refine ⟨_, _, eff_box (n := 22) (d := 1) (k := 1000001) rfl (by decide), fun b1 hb1 => ?_⟩
 have hBb1 := hb1.1
 refine TL ?_
 refine RA rfl ?_
 refine RN ?_
 refine GS ?_
 refine TL ?_
 refine RA rfl ?_
 refine RN ?_
 refine A.seq ?_
 refine GS ?_
 refine TL ?_
 refine RS (ok_field field27_0 (by decide) rfl) ?_
 refine RS (ok_loadV (s := 1000001) (by decide) Try.underlying3 rfl rfl rfl (rfl)) ?_
 refine RM rfl ?_
 refine RN ?_
 refine A.block ?_
 refine A.subL (SubL.cons (t := 1) rfl (Le.refl _) (SubL.cons (t := 3) rfl (own_nil (B := w₀.heap.size) (e := 3)) (SubL.cons (t := 6) rfl (Le.refl _) (SubL.cons (t := 7) rfl (Le.refl _) (SubL.cons (t := 1000001) rfl (Le.refl _) (SubL.cons (t := 1000200) rfl (Le.refl _) SubL.nil)))))) ?_
 refine A.loop (ι := Nat) (fun i => i ≤ S.length) (fun i => [(1, .v (ptr b1)), (3, own w₀.heap.size 3 (presU S i).length (presU S i)), (6, .v (nI (S.length))), (7, .v (nI (i))), (1000001, blk b1 27 [nI S.length, nI (totC S), v]), (1000200, old w₀.heap.size (valM v (partsD' dT X S)))]) (fun i => S.length - i) 0 ?_ ?_ ?_
 ·exact Nat.zero_le _
 ·exact (KC 1 rfl (KE 3 rfl (by rfl) (KC 6 rfl (KE 7 rfl (by rfl) (KC 1000001 rfl (KC 1000200 rfl KN))))))
 intro i hG
 refine GS ?_
 refine TL ?_
 refine RB rfl rfl rfl ?_
 refine RN ?_
 refine A.seq ?_
 refine A.cond rfl (fun hc8 => ?_) (fun hc8 => ?_)
 ·have hi : i < S.length := by simp at hc8; omega
  refine A.skip ?_
  refine EN ?_
  refine A.seq ?_
  refine A.block ?_
  refine GS ?_
  refine TL ?_
  refine RM rfl ?_
  refine RA rfl ?_
  refine RN ?_
  refine GS ?_
  refine TL ?_
  refine RS (OpOk.tlO (k := 1000200) [nI S.length, nI (totC S)] (ok_loadA (s := 1000001) (by decide) Try.underlying27 rfl (size27.of (rfl)) rfl rfl) rfl hv1 (by decide) rfl) ?_
  refine RM rfl ?_
  refine RS (ok_call (dNewest_fn X S i hi hn) (Args.cons rfl (Le.old _ _) (Args.cons rfl LA Args.nil))) ?_
  refine RS (ok_call (vNow_fn X (hisC S i)) (A1 rfl)) ?_
  refine RS (ok_fieldCont (off := 0) (by kernel_rfl) rfl (Le.refl _)) ?_
  refine RN ?_
  refine A.cond rfl (fun hc14 => ?_) (fun hc14 => ?_)
  ·refine GE ?_
   refine TF 3 ?_
   refine RM rfl ?_
   refine RM rfl ?_
   refine RS (ok_build [.v (nI i)] Try.underlying67 info3 rfl (by decide) (by decide) rfl ⟨rfl, rfl, trivial⟩ (fun d hd w x h => by simp only [List.mem_cons, List.not_mem_nil, or_false] at hd; subst hd; exact v_one rfl h)) ?_
   refine RN ?_
   refine ⟨_, eff_appendS (n := 22) (vs := [nI i]) Try.underlying67 info3 (by decide) rfl rfl rfl (le_lst _ _) (fun u hu => by rw [List.mem_singleton.1 hu]; rfl) (by have := presU_len S i; simp only [List.length_singleton]; omega) (by decide) (fun g hg => (LV 1 rfl (LV 6 rfl (LV 7 rfl (LT 1000001 rfl (LO 1000200 rfl LN)))))), ?_⟩
   refine TL ?_
   refine RA rfl ?_
   refine RN ?_
   refine End.normal_block ?_
   refine EN ?_
   refine GE ?_
   refine TL ?_
   refine RBS rfl rfl rfl (nI (i + 1)) (wrap_eq (by omega) (by omega)) ?_
   refine RM rfl ?_
   refine RN ?_
   refine End.normal_then ?_
   refine End.again (i + 1) ?_ ?_ ?_
   ·show _ ≤ _; omega
   ·show _ - _ < _ - _; omega
   ·exact (KC 1 rfl (KE 3 rfl (by first | rw [← presU_n hc14] | rw [← presU_y hc14, List.length_append, List.length_singleton]) (KC 6 rfl (KC 7 rfl (KC 1000001 rfl (KC 1000200 rfl KN))))))
  ·refine A.skip ?_
   refine End.normal_block ?_
   refine EN ?_
   refine GE ?_
   refine TL ?_
   refine RBS rfl rfl rfl (nI (i + 1)) (wrap_eq (by omega) (by omega)) ?_
   refine RM rfl ?_
   refine RN ?_
   refine End.normal_then ?_
   refine End.again (i + 1) ?_ ?_ ?_
   ·show _ ≤ _; omega
   ·show _ - _ < _ - _; omega
   ·exact (KC 1 rfl (KE 3 rfl (by first | rw [← presU_n hc14] | rw [← presU_y hc14, List.length_append, List.length_singleton]) (KC 6 rfl (KC 7 rfl (KC 1000001 rfl (KC 1000200 rfl KN))))))
 ·have hi2 : i = S.length := by simp at hc8; omega
  subst hi2
  refine A.exit ?_
  refine End.exit_then ?_
  refine End.exit_then ?_
  refine End.exit_here ?_
  refine EN ?_
  refine GS ?_
  refine TL ?_
  refine RM rfl ?_
  refine RS (ok_call (clipI_fn w₀.heap.size (presU S S.length).length (presU S S.length) rfl (by have := presU_len S S.length; simp only [maxLen]; omega)) (A1 rfl)) ?_
  refine RA rfl ?_
  refine RN ?_
  refine A.ret ?_
  exact End.ret1 rfl rfl (Le.refl _)
set_option maxHeartbeats 1000000 in
theorem dSame_fn (X X' : Nat → Prop) (S S' : Dk) (hn : S.length ≤ 10922) (hn' : S'.length ≤ 10922) : Fn Try.prog 28 [diskD dT X S, diskD dT X' S'] (.v (.bool (sameB S S'))) := by
 refine Fn.of Try.func28 rfl (by kernel_rfl) Try.ntmps28 (by simp) (fun w => [(0, old w.heap.size (diskD dT X S)), (1, old w.heap.size (diskD dT X' S'))]) (fun w => (Start.old rfl (Start.old rfl Start.nil))) fun w₀ => ?_
 refine A.nameTl (t := 0) (k := 1000200) rfl fun v hv1 => ?_
 refine A.nameTl (t := 1) (k := 1000201) rfl fun v' hv1' => ?_
 refine GS ?_
 refine TN 0 ?_
 refine RN ?_
 refine ⟨_, _, eff_box (n := 27) (d := 2) (k := 1000002) rfl (by decide), fun b2 hb2 => ?_⟩
 have hBb2 := hb2.1
 refine TN 1 ?_
 refine RN ?_
 refine ⟨_, _, eff_box (n := 27) (d := 3) (k := 1000003) rfl (by decide), fun b3 hb3 => ?_⟩
 have hBb3 := hb3.1
 have hlt_b2_b3 : b2 < b3 := hb3.2 1000002 _ _ _ rfl
 refine TL ?_
 refine RA rfl ?_
 refine RN ?_
 refine A.seq ?_
 refine GS ?_
 refine TL ?_
 refine RS (ok_field field27_0 (by decide) rfl) ?_
 refine RS (ok_loadV (s := 1000002) (by decide) Try.underlying3 rfl rfl rfl (rfl)) ?_
 refine RS (ok_field field27_0 (by decide) rfl) ?_
 refine RS (ok_loadV (s := 1000003) (by decide) Try.underlying3 rfl rfl rfl (rfl)) ?_
 refine RB rfl rfl rfl ?_
 refine RN ?_
 refine A.cond rfl (fun hc10 => ?_) (fun hc10 => ?_)
 ·have hne : S.length ≠ S'.length := by intro h; simp [h] at hc10
  refine GS ?_
  refine TL ?_
  refine RA rfl ?_
  refine RN ?_
  refine A.ret ?_
  refine End.ret_then ?_
  first | exact End.ret1 rfl rfl (Le.v (congrArg Value.bool (sameB_f fun h => hne h.1).symm)) | exact End.ret1 rfl rfl (Le.v (congrArg Value.bool (sameB_f fun h => hd (h.2 i hi)).symm)) | exact End.ret1 rfl rfl (Le.v (congrArg Value.bool (sameB_t ⟨heq, fun j hj => hG.2 j (by omega)⟩).symm))
 ·have heq : S.length = S'.length := by simp at hc10; omega
  refine A.skip ?_
  refine EN ?_
  refine A.seq ?_
  refine GS ?_
  refine TL ?_
  refine RS (ok_field field27_0 (by decide) rfl) ?_
  refine RS (ok_loadV (s := 1000002) (by decide) Try.underlying3 rfl rfl rfl (rfl)) ?_
  refine RM rfl ?_
  refine RN ?_
  refine A.block ?_
  refine A.loop (ι := Nat) (fun i => i ≤ S.length ∧ ∀ j, j < i → lastC (hisC S j) = lastC (hisC S' j)) (fun i => [(2, .v (ptr b2)), (3, .v (ptr b3)), (12, .v (nI (S.length))), (13, .v (nI (i))), (1000002, blk b2 27 [nI S.length, nI (totC S), v]), (1000003, blk b3 27 [nI S'.length, nI (totC S'), v']), (1000200, old w₀.heap.size (valM v (partsD' dT X S))), (1000201, old w₀.heap.size (valM v' (partsD' dT X' S')))]) (fun i => S.length - i) 0 ?_ ?_ ?_
  ·exact ⟨Nat.zero_le _, fun j h => absurd h (Nat.not_lt_zero _)⟩
  ·exact (KC 2 rfl (KC 3 rfl (KC 12 rfl (KE 13 rfl (by rfl) (KC 1000002 rfl (KC 1000003 rfl (KC 1000200 rfl (KC 1000201 rfl KN))))))))
  intro i hG
  refine GS ?_
  refine TL ?_
  refine RB rfl rfl rfl ?_
  refine RN ?_
  refine A.seq ?_
  refine A.cond rfl (fun hc14 => ?_) (fun hc14 => ?_)
  ·have hi : i < S.length := by simp at hc14; omega
   refine A.skip ?_
   refine EN ?_
   refine A.seq ?_
   refine A.block ?_
   refine GS ?_
   refine TL ?_
   refine RM rfl ?_
   refine RA rfl ?_
   refine RN ?_
   refine GD ?_
   refine TL ?_
   refine RS (OpOk.tlO (k := 1000200) [nI S.length, nI (totC S)] (ok_loadA (s := 1000002) (by decide) Try.underlying27 rfl (size27.of (rfl)) rfl rfl) rfl hv1 (by decide) rfl) ?_
   refine RM rfl ?_
   refine RS (ok_call (dNewest_fn X S i hi hn) (Args.cons rfl (Le.old _ _) (Args.cons rfl LA Args.nil))) ?_
   refine RS (ok_call (vNow_fn X (hisC S i)) (A1 rfl)) ?_
   refine RS (OpOk.tlO (k := 1000201) [nI S'.length, nI (totC S')] (ok_loadA (s := 1000003) (by decide) Try.underlying27 rfl (size27.of (rfl)) rfl rfl) rfl hv1' (by decide) rfl) ?_
   refine RM rfl ?_
   refine RS (ok_call (dNewest_fn X' S' i (by omega) hn') (Args.cons rfl (Le.old _ _) (Args.cons rfl LA Args.nil))) ?_
   refine RS (ok_call (vNow_fn X' (hisC S' i)) (A1 rfl)) ?_
   refine RS (ok_call (cEquals_fn X X' (lastC (hisC S i)) (lastC (hisC S' i))) (A2 rfl rfl)) ?_
   refine RS (ok_not rfl) ?_
   refine RN ?_
   refine A.cond rfl (fun hc25 => ?_) (fun hc25 => ?_)
   ·have hd : ¬ lastC (hisC S i) = lastC (hisC S' i) := by simpa using hc25
    refine GS ?_
    refine TL ?_
    refine RA rfl ?_
    refine RN ?_
    refine A.ret ?_
    refine End.ret_block ?_
    refine End.ret_then ?_
    refine End.ret_then ?_
    refine End.ret_block ?_
    refine End.ret_then ?_
    first | exact End.ret1 rfl rfl (Le.v (congrArg Value.bool (sameB_f fun h => hne h.1).symm)) | exact End.ret1 rfl rfl (Le.v (congrArg Value.bool (sameB_f fun h => hd (h.2 i hi)).symm)) | exact End.ret1 rfl rfl (Le.v (congrArg Value.bool (sameB_t ⟨heq, fun j hj => hG.2 j (by omega)⟩).symm))
   ·have hd : lastC (hisC S i) = lastC (hisC S' i) := by simpa using hc25
    refine A.skip ?_
    refine End.normal_block ?_
    refine EN ?_
    refine GE ?_
    refine TL ?_
    refine RBS rfl rfl rfl (nI (i + 1)) (wrap_eq (by omega) (by omega)) ?_
    refine RM rfl ?_
    refine RN ?_
    refine End.normal_then ?_
    refine End.again (i + 1) ?_ ?_ ?_
    ·exact ⟨by omega, fun j hj => (Nat.lt_or_ge j i).elim (hG.2 j) fun h => by rw [show j = i from by omega]; exact hd⟩
    ·show _ - _ < _ - _; omega
    ·exact (KC 2 rfl (KC 3 rfl (KC 12 rfl (KC 13 rfl (KC 1000002 rfl (KC 1000003 rfl (KC 1000200 rfl (KC 1000201 rfl KN))))))))
  ·have hi2 : i = S.length := by have := hG.1; simp at hc14; omega
   refine A.exit ?_
   refine End.exit_then ?_
   refine End.exit_then ?_
   refine End.exit_here ?_
   refine EN ?_
   refine GS ?_
   refine TL ?_
   refine RA rfl ?_
   refine RN ?_
   refine A.ret ?_
   first | exact End.ret1 rfl rfl (Le.v (congrArg Value.bool (sameB_f fun h => hne h.1).symm)) | exact End.ret1 rfl rfl (Le.v (congrArg Value.bool (sameB_f fun h => hd (h.2 i hi)).symm)) | exact End.ret1 rfl rfl (Le.v (congrArg Value.bool (sameB_t ⟨heq, fun j hj => hG.2 j (by omega)⟩).symm))
end Go.Proofs.Ytdhbhcbkhkopbaa
namespace Go.Proofs.Ytdhbhcbkhkopbaa
open Go Go.RowKit
set_option linter.unusedVariables false
set_option linter.unusedSimpArgs false
variable {κ : Cx}
/-! ### Rows of a type -/
theorem RowX.keepB {lo : Nat} {e : TypeId} {B : Nat} {w w' : World} {A : Option Addr} {xs : List Value} (h : RowX lo e B w A xs) (g : Below B w w') : RowX lo e B w' A xs := h.other (Nat.le_refl _) fun b _ _ _ hb _ => g.block b hb
theorem RowX.upB {lo : Nat} {e : TypeId} {B B' : Nat} {w : World} {A : Option Addr} {xs : List Value} (h : RowX lo e B w A xs) (g : B ≤ B') : RowX lo e B' w A xs := h.other g fun _ _ _ _ _ _ => rfl
theorem RowX.wrote {lo : Nat} {e : TypeId} {B T g : Nat} {w w' : World} {A : Option Addr} {xs : List Value} (h : RowX lo e w.heap.size w A xs) (k : Wrote B T g w w') (hne : e ≠ T) : RowX lo e w'.heap.size w' A xs :=
  h.other k.size fun b cur fr _ hb hh => k.other b hb fun hbg => by subst hbg; exact hne (k.row _ _ _ hh)
theorem RowX.blk {lo b : Nat} {e : TypeId} {B : Nat} {w : World} {cs : Array Value} {fr : Nat × Nat} {xs : List Value} (hlo : lo ≤ b) (hb : b < B) (hh : w.heap[b]? = some (.cells cs e fr)) (hx : ∀ (j : Nat) (u : Value), xs[j]? = some u → cs[j]? = some u) : RowX lo e B w (some ⟨b, 0, none⟩) xs := fun j u hu =>
  ⟨_, rfl, hlo, hb, ⟨cs, fr, hh⟩, by rw [add_lit0, Nat.zero_add]; simp [World.cell?, hh, hx j u hu]⟩
/-- A slice of n elements whose cells, of type e, read as xs. -/
def rowXD (e : TypeId) (n : Nat) (xs : List Value) : D :=
  .p (fun B w x => ∃ A q, x = .slice A n q ∧ RowX 0 e B w A xs) (fun _ _ _ _ g ⟨A, q, h1, h2⟩ => ⟨A, q, h1, h2.keepB g⟩) (fun _ _ _ _ g ⟨A, q, h1, h2⟩ => ⟨A, q, h1, h2.upB g⟩)
def rowT (e : TypeId) (h : List Con) : D := rowXD e (h.length + 1) (rowC h)
theorem rowX_row {e : TypeId} {n : Nat} {xs : List Value} : Le (rowXD e n xs) (rowD n xs) := fun B w x ⟨A, q, h1, h2⟩ => ⟨A, q, h1, h2.row⟩
theorem rowT_row {e : TypeId} {h : List Con} : Le (rowT e h) (rowD (h.length + 1) (rowC h)) := rowX_row
theorem rowX_one {e : TypeId} {n : Nat} {xs : List Value} (B : Nat) (w : World) (x : Value) (h : (rowXD e n xs).OfB B w x) : x.oneCell' = true := by
  obtain ⟨A, q, rfl, _⟩ := h; rfl
theorem rowXD_one' {e : TypeId} {n : Nat} {xs : List Value} {B : Nat} {w : World} {x : Value} (h : (rowXD e n xs).OfB B w x) : x.oneCell' = true := rowX_one B w x h
theorem Surv.rowX {B T g n : Nat} {e : TypeId} {xs : List Value} (h : e ≠ T) : Surv B T g (rowXD e n xs) := fun w w' x k ⟨A, q, h1, h2⟩ => ⟨A, q, h1, h2.wrote k h⟩
theorem Surv.rowT {B T g : Nat} {e : TypeId} {h : List Con} (hne : e ≠ T) : Surv B T g (Go.Proofs.Ytdhbhcbkhkopbaa.rowT e h) := Surv.rowX hne
theorem ownP_rowX {base sz n : Nat} {e : TypeId} {xs : List Value} : Le (ownP base e sz n xs) (rowXD e n xs) := fun B w x ⟨⟨hl, h2⟩, hlt⟩ => by
  rcases h2 with ⟨rfl, rfl⟩ | ⟨g, cap, cur, rfl, _, hh, _, _, _, htk⟩
  · refine ⟨none, 0, rfl, fun j u hu => ?_⟩
    have : xs = [] := List.length_eq_zero_iff.1 (by omega)
    subst this; cases hu
  · refine ⟨_, _, rfl, RowX.blk (Nat.zero_le _) (hlt g rfl) hh fun j u hu => ?_⟩
    rw [← htk, List.getElem?_take] at hu
    split at hu
    · simpa using hu
    · cases hu
/-- A slice whose elements, of type e and of one cell each, are as ds says. -/
def lstT (e : TypeId) (ds : List D) : D :=
  .p (fun B w x => ∃ (A : Option Addr) (q : Nat) (vs : List Value), x = .slice A ds.length q ∧ ds.length ≤ q ∧ q ≤ maxLen ∧ vs.length = ds.length ∧ RowX 0 e B w A vs ∧ ∀ (j : Nat) (d : D) (u : Value), ds[j]? = some d → vs[j]? = some u → d.OfB B w u)
    (fun _ _ _ _ g ⟨A, q, vs, h1, h2, h3, h4, h5, h6⟩ => ⟨A, q, vs, h1, h2, h3, h4, h5.keepB g, fun j d u hd hu => (h6 j d u hd hu).keep g⟩) (fun _ _ _ _ g ⟨A, q, vs, h1, h2, h3, h4, h5, h6⟩ => ⟨A, q, vs, h1, h2, h3, h4, h5.upB g, fun j d u hd hu => (h6 j d u hd hu).up g⟩)
theorem lstT_lst {e : TypeId} {ds : List D} : Le (lstT e ds) (lst ds) := fun B w x ⟨A, q, vs, h1, h2, h3, h4, h5, h6⟩ => ⟨q, A, vs, h1, h2, h3, h4, h5.row, h6⟩
theorem Surv.lstT {B T g : Nat} {e : TypeId} {ds : List D} (h : e ≠ T) (hd : ∀ d ∈ ds, Surv B T g d) : Surv B T g (Go.Proofs.Ytdhbhcbkhkopbaa.lstT e ds) := fun w w' x k ⟨A, q, vs, h1, h2, h3, h4, h5, h6⟩ =>
  ⟨A, q, vs, h1, h2, h3, h4, h5.wrote k h, fun j d u hd' hu => hd d (List.mem_of_getElem? hd') _ _ _ k (h6 j d u hd' hu)⟩
/-- The same of a slice that the call owns. -/
def ownL (base : Nat) (e : TypeId) (ds : List D) : D :=
  .p (fun B w x => ∃ vs : List Value, (own base e ds.length vs).OfB B w x ∧ vs.length = ds.length ∧ ∀ (j : Nat) (d : D) (u : Value), ds[j]? = some d → vs[j]? = some u → d.OfB B w u)
    (fun _ _ _ _ g ⟨vs, h1, h2, h3⟩ => ⟨vs, h1.keep g, h2, fun j d u hd hu => (h3 j d u hd hu).keep g⟩) (fun _ _ _ _ g ⟨vs, h1, h2, h3⟩ => ⟨vs, h1.up g, h2, fun j d u hd hu => (h3 j d u hd hu).up g⟩)
theorem ownL_lstT {base : Nat} {e : TypeId} {ds : List D} : Le (ownL base e ds) (lstT e ds) := fun B w x ⟨vs, ⟨⟨_, h2⟩, h3⟩, h4, h5⟩ => by
  rcases h2 with ⟨rfl, h0⟩ | ⟨g, cap, cur, rfl, _, hh, hnc, hcm, _, htk⟩
  · refine ⟨none, 0, vs, by rw [h0], by omega, Nat.zero_le _, h4, fun j u hu => ?_, h5⟩
    have : vs = [] := List.length_eq_zero_iff.1 (by omega)
    subst this; cases hu
  · refine ⟨_, cap, vs, rfl, hnc, hcm, h4, RowX.blk (Nat.zero_le _) (h3 g rfl) hh fun j u hu => ?_, h5⟩
    rw [← htk, List.getElem?_take] at hu
    split at hu
    · simpa using hu
    · cases hu
theorem ownL_nil {base : Nat} {e : TypeId} : Le (.v (.slice none 0 0)) (ownL base e []) := fun B w x h => ⟨[], own_nil _ _ _ h, rfl, fun j d u hd => by simp at hd⟩
theorem ownL_one {base : Nat} {e : TypeId} {ds : List D} (w : World) (x : Value) (h : (ownL base e ds).Of w x) : x.oneCell' = true := by
  obtain ⟨vs, h1, _⟩ := h; exact own_one h1
theorem Surv.ownL {B T g base : Nat} {e : TypeId} {ds : List D} (h : e ≠ T) (hd : ∀ d ∈ ds, Surv B T g d) : Surv B T g (Go.Proofs.Ytdhbhcbkhkopbaa.ownL base e ds) := fun w w' x k ⟨vs, h1, h2, h3⟩ =>
  ⟨vs, Surv.own h w w' x k h1, h2, fun j d u hd' hu => hd d (List.mem_of_getElem? hd') _ _ _ k (h3 j d u hd' hu)⟩
theorem ownL_eq {base : Nat} {e : TypeId} {ds es : List D} (h : ds = es) : ownL base e ds = ownL base e es := by rw [h]
def refD (tl tv : TypeId) (S : Dk) : D := tlD [] (lstT tl (S.map (rowT tv)))
theorem Agg.ref {tl tv : TypeId} {S : Dk} : Agg 1 (refD tl tv S) := Agg.tl rfl rfl
theorem Surv.rows {B T g : Nat} {tv : TypeId} {S : Dk} (h : tv ≠ T) : ∀ d ∈ S.map (Go.Proofs.Ytdhbhcbkhkopbaa.rowT tv), Surv B T g d := fun d hd => by
  obtain ⟨x, _, rfl⟩ := List.mem_map.1 hd
  exact Surv.rowT h
theorem Surv.rowsA {B T g : Nat} {tv : TypeId} {S : Dk} {x : List Con} (h : tv ≠ T) : ∀ d ∈ S.map (Go.Proofs.Ytdhbhcbkhkopbaa.rowT tv) ++ [Go.Proofs.Ytdhbhcbkhkopbaa.rowT tv x], Surv B T g d := fun d hd => (List.mem_append.1 hd).elim (Surv.rows h d) fun hd => by
  rw [List.mem_singleton.1 hd]; exact Surv.rowT h
theorem rep_next (f : List Con → D) (i : Nat) : (List.replicate i []).map f ++ [f []] = (List.replicate (i + 1) []).map f := by rw [List.replicate_succ', List.map_append]; rfl
theorem ownP_one {base sz n : Nat} {e : TypeId} {xs : List Value} {w : World} {x : Value} (h : (ownP base e sz n xs).Of w x) : x.oneCell' = true := rowXD_one' (ownP_rowX _ _ _ h)
theorem put_row0 {base i i0 : Nat} {e : TypeId} {S : Dk} {c : Con} (h : i0 ≠ i) : Le (ownP base e 2 ((hisC S i).length + 1) (rowC (hisC S i))) (rowT e (hisC (putC S i0 c) i)) := by
  rw [his_put_ne c h]; exact ownP_rowX
theorem put_row1 {base i : Nat} {e : TypeId} {S : Dk} {c : Con} (h : i < S.length) : Le (ownP base e 2 ((hisC S i).length + 1 + 1) (rowC (hisC S i) ++ cV c)) (rowT e (hisC (putC S i c) i)) := by
  rw [his_put c h, ← rowC_cons]; exact ownP_rowX
theorem Surv.ref {B T g : Nat} {tl tv : TypeId} {S : Dk} (h1 : tl ≠ T) (h2 : tv ≠ T) : Surv B T g (refD tl tv S) := Surv.tl (Surv.lstT h1 (Surv.rows h2))
theorem row_get {S : Dk} {i : Nat} {tv : TypeId} (h : i < S.length) : (S.map (rowT tv))[i]? = some (rowT tv (hisC S i)) := by rw [List.getElem?_map, his_get h]; rfl
theorem rows_take {S : Dk} {i : Nat} {tv : TypeId} (h : i < S.length) : (S.take i).map (rowT tv) ++ [rowT tv (hisC S i)] = (S.take (i + 1)).map (rowT tv) := by
  rw [List.take_succ_eq_append_getElem h, List.map_append]
  have : S[i] = hisC S i := by have := his_get h; rw [List.getElem?_eq_getElem h] at this; injection this
  rw [this]; rfl
theorem blk_varD {b : Nat} {T : TypeId} {u : Value} {d : D} (h : Le (.v u) d) : Le (blk b T [u]) (varD b T d) := fun B w x ⟨h1, h2⟩ => ⟨h1, u, h2, h _ _ _ rfl⟩
section
variable {P : Program} {w₀ : World} {n : Nat} {c : Code} {E : Env} {Q : Exit → Act → World → Prop}
theorem A.openD {k k' b : Nat} {T : TypeId} {d : D} (hk : E.look k = some (varD b T d)) (h1 : ∀ w x, d.Of w x → x.oneCell' = true) (h : ∀ v : Value, v.oneCell' = true → A κ P w₀ n c ((k, blk b T [v]) :: (k', valM v d) :: E) Q) : A κ P w₀ n c E Q := fun a w g hs => by
  obtain ⟨h2, v, h3, h4⟩ := hs.of k _ hk
  exact h v (h1 w v h4) a w g ((hs.push (t := k') (d := valM v d) h4).push (t := k) (d := blk b T [v]) ⟨h2, h3⟩)
end
section
variable {P : Program} {B : Nat} {E : Env} {dst : Option Tmp} {ty : TypeId} {pos : String} {after : Array Edge} {guard : Option (Nat × Bool)}
/-- A variable of a struct of one field, read whole. -/
theorem ok_loadDS {T : TypeId} {td : TypeDesc} {x : Operand} {b s : Nat} {e : TypeId} {d : D} (hsl : vbase ≤ s) (ht : P.underlying T = some td) (hp : (match td with | .struct _ | .array _ _ => true | _ => false) = true) (hsz : SizeIs P T 1) (h1 : ∀ w x, d.Of w x → x.oneCell' = true)
    (hx : E.at x = some (.v (.pointer (some ⟨b, 0, none⟩)))) (hblk : E.look s = some (varD b e d)) : OpOk P B ⟨dst, .load T x, ty, pos, after, guard⟩ E (tlD [] d) := fun ρ w _ hv hρ => by
  have h0 : ρ x = _ := hρ x (by simp [Op.operands]) _ hx
  obtain ⟨hlt, u, hh, hd⟩ := hv s _ hsl hblk
  exact out_val (x := aggV [u]) (w' := w) (by simp [execOp, h0, Instr.loadAt, Instr.sureAddr, load_cell (xs := [u]) ht hp hsz hh]) ⟨Grow.refl w, u, h1 w u hd, rfl, hd⟩
/-- A literal of one struct: a new row. -/
theorem ok_build1X {t e : TypeId} {z : Value} {nb sz : Nat} {x : Operand} {us : List Value} (ht : P.underlying t = some (.slice e)) (hs : InfoP P e z sz nb) (hz : z.cells.size = sz) (h0 : sz ≤ 65536) (hsz : 0 < sz) (hx : E.at x = some (.v (aggV us))) (hu : us.length = sz) :
    OpOk P B ⟨dst, .buildSlice t 1 #[(0, x)], ty, pos, after, guard⟩ E (rowXD e 1 us) := fun ρ w _ _ hρ => by
  obtain ⟨i, hi, hzv, hsize, _⟩ := hs.get
  have h1 : ρ x = aggV us := hρ x (by simp [Op.operands]) _ hx
  have hfill : Instr.fill (fun j => some (j * i.size, i.size)) ((Array.range (1 * i.size)).map (z.cells[· % z.cells.size]!)) [(0, ρ x)] = some us.toArray := by
    have hlen : ((Array.range (1 * i.size)).map (z.cells[· % z.cells.size]!)).size = us.length := by simp [hsize, hu]
    rw [h1]
    have hc : (aggV us).cells = us.toArray := rfl
    unfold Instr.fill
    simp only [Nat.zero_mul]
    rw [hc, if_neg (by simp [hsize, hu])]
    have hg := fill_go us ((Array.range (1 * i.size)).map (z.cells[· % z.cells.size]!)).toList [] (by rw [Array.length_toList, hlen])
    simp only [List.nil_append, List.length_nil, Array.toArray_toList] at hg
    rw [show us.toArray.zipIdx.foldl (fun cs (x : Value × Nat) => match x with | (c, j) => cs.setIfInBounds (0 + j) c) ((Array.range (1 * i.size)).map (z.cells[· % z.cells.size]!)) = us.toArray from by
      rw [← Array.foldl_toList, Array.toList_zipIdx]; exact hg]
    rfl
  have hr := run_buildSlice (P := P) w t e 1 #[(0, ρ x)] us.toArray i z ht hi hzv (by rw [hsize]; omega) (by rw [hsize]; omega) (by simpa using hfill)
  refine out_val (x := .slice (some ⟨w.heap.size, 0, none⟩) 1 1) (w' := w.alloc (.cells us.toArray e)) (by simp [execOp, hr]) ⟨Grow.alloc w _, _, _, rfl, RowX.blk (Nat.zero_le _) (by simp) (heap_alloc_new w (.cells us.toArray e)) fun j u hu => by simpa using hu⟩
/-- append of a slice of structs to nil. -/
theorem ok_appendNil {t e : TypeId} {z : Value} {sz nb m : Nat} {x : Operand} {f : D} {ys : List Value} (ht : P.underlying t = some (.slice e)) (hinfo : InfoP P e z sz nb) (hsz : 0 < sz) (hnb : nb ≤ 64) (hz1 : z.cells.size = sz)
    (hx : E.at x = some f) (hf : Le f (rowD m ys)) (h1 : ys.all (·.oneCell') = true) (hl : ys.length = m * sz) (hk : m ≤ 1099511627776) :
    OpOk P B ⟨dst, .call { callee := .builtin .append, args := #[.const (.slice none 0 0), x], argTypes := #[t, t] }, ty, pos, after, guard⟩ E (ownP B e sz m ys) := fun ρ w hB hv hρ => by
  have h0 : ρ (.const (.slice none 0 0)) = .slice none 0 0 := hρ (.const (.slice none 0 0)) (by simp [Op.operands, Call.operands]) _ rfl
  obtain ⟨A, c, hxe, hrow⟩ := hf.of (hρ x (by simp [Op.operands, Call.operands]) _ hx)
  obtain ⟨v', w', hrun, h3, h4⟩ := append_ownP (B := w.heap.size) (ty := ty) (k := 0) (xs := []) (v := .slice none 0 0) ht hinfo hsz hnb hz1 ⟨by simp, .inl ⟨rfl, rfl⟩⟩ hxe hrow h1 hl (by omega) (Nat.le_refl _)
  rw [Nat.zero_add, List.nil_append] at h3
  have h5 : w'.ownsRow B e sz v' m ys := ⟨h3.1, h3.2.imp id (by rintro ⟨g, cap, cur, h6, h7, h8⟩; exact ⟨g, cap, cur, h6, by omega, h8⟩)⟩
  exact out_val (x := v') (w' := w') (by simp [execOp, resolve, invoke, builtin, h0, hrun]) ⟨h4, h5, lt_of_row h5⟩
theorem bytes_beq (a b : List UInt8) : ((⟨a.toArray⟩ : ByteArray) == ⟨b.toArray⟩) = (a == b) := by
  by_cases h : a = b
  · subst h
    rw [show (a == a) = true from by simp]
    show (a.toArray == a.toArray) = true
    simp
  · rw [show (a == b) = false from by simp [h]]
    show (a.toArray == b.toArray) = false
    simp [h]
/-- == of two structs of a bool and a string. -/
theorem run_eqCV {t : TypeId} {f0 f1 : Field} {c d : Con} (w : World) (ht : P.underlying t = some (.struct #[f0, f1])) (n0 : f0.name ≠ "_") (n1 : f1.name ≠ "_") (o0 : f0.offset = 0) (o1 : f1.offset = 1) (t0 : P.underlying f0.type = some .bool) (t1 : P.underlying f1.type = some .string)
    (hst : P.stoodInHeld t = false) : (Op.equalIn 10000 t (.agg (cV c).toArray) (.agg (cV d).toArray)).run P w = .ok (decide (c = d)) w := by
  have a0 : (isAgg f0.type).run P w = .ok false w := by unfold isAgg; simp only [Sem.run_bind, run_underlying t0, Result.andThen_ok]; rfl
  have a1 : (isAgg f1.type).run P w = .ok false w := by unfold isAgg; simp only [Sem.run_bind, run_underlying t1, Result.andThen_ok]; rfl
  have p0 : ∀ c : Con, (part f0.type (cV c).toArray 0).run P w = .ok (.bool c.isSome) w := fun c => by simp [part, a0, cV]
  have p1 : ∀ c : Con, (part f1.type (cV c).toArray 1).run P w = .ok (.string ⟨(c.getD []).toArray⟩) w := fun c => by simp [part, a1, cV]
  have e0 : ∀ a b : Bool, (Op.equalIn 9999 f0.type (.bool a) (.bool b)).run P w = .ok (a == b) w := fun a b => by rw [show 9999 = 9998 + 1 from rfl, Op.equalIn]; simp [run_underlying t0]
  have e1 : ∀ a b : List UInt8, (Op.equalIn 9999 f1.type (.string ⟨a.toArray⟩) (.string ⟨b.toArray⟩)).run P w = .ok (a == b) w := fun a b => by rw [show 9999 = 9998 + 1 from rfl, Op.equalIn]; simp [run_underlying t1, bytes_beq]
  have hd : decide (c = d) = (c.isSome == d.isSome && (c.getD [] == d.getD [])) := by
    cases c <;> cases d <;> simp
    rename_i a b
    by_cases h : a = b <;> simp [h]
  have hfo : P.fieldsOf t = #[f0, f1] := by unfold Program.fieldsOf; rw [ht]
  rw [hd, show 10000 = 9999 + 1 from rfl, run_equalIn_struct w 9999 t (cV c).toArray (cV d).toArray (by rw [hfo]; exact ht) hst, hfo]
  simp only [Op.eqFields]
  cases hbb : (c.isSome == d.isSome)
  · simp [n0, n1, o0, o1, p0, p1, e0, e1, hbb]
  · simp [n0, n1, o0, o1, p0, p1, e0, e1, hbb]
    try (by_cases h : c.getD [] = d.getD [] <;> simp [h])
theorem ok_neqCV {t t' : TypeId} {f0 f1 : Field} {x y : Operand} {c d : Con} (ht : P.underlying t = some (.struct #[f0, f1])) (n0 : f0.name ≠ "_") (n1 : f1.name ≠ "_") (o0 : f0.offset = 0) (o1 : f1.offset = 1) (t0 : P.underlying f0.type = some .bool) (t1 : P.underlying f1.type = some .string)
    (hst : P.stoodInHeld t = false) (hm : P.eqGuardType P.depth t = false) (hx : E.at x = some (.v (aggV (cV c)))) (hy : E.at y = some (.v (aggV (cV d)))) : OpOk P B ⟨dst, .binOp .neq t x y t', ty, pos, after, guard⟩ E (.v (.bool (!decide (c = d)))) := fun ρ w _ _ hρ => by
  have h1 : ρ x = .agg (cV c).toArray := hρ x (by simp [Op.operands]) _ hx
  have h2 : ρ y = .agg (cV d).toArray := hρ y (by simp [Op.operands]) _ hy
  have h3 := run_eqCV (c := c) (d := d) w ht n0 n1 o0 o1 t0 t1 hst
  have h4 : (binOp .neq t (.agg (cV c).toArray) (.agg (cV d).toArray)).run P w = .ok (.bool (!decide (c = d))) w := by
    simp only [binOp, Op.equal, Op.maxDepth, Sem.run_bind, h3, Result.andThen_ok, Sem.run_pure]
  have h5 : (eqGuard .neq t x y (.agg (cV c).toArray) (.agg (cV d).toArray)).run P w = .ok () w := by simp [eqGuard, hm]
  exact out_val (w' := w) (by simp [execOp, h1, h2, h4, h5]) ⟨Grow.refl w, rfl⟩
end
section
variable {P : Program} {n B : Nat} {ops : Array Oper} {E : Env} {ty : TypeId} {pos : String} {after : Array Edge}
/-- append of one element to a slice that the call owns. -/
theorem eff_appendL {t e : TypeId} {z : Value} {nb : Nat} {r x : Operand} {dst : Nat} {f₀ f d : D} {ds : List D} {E' : Env} (ht : P.underlying t = some (.slice e)) (hinfo : InfoIs P e z nb) (hnb : nb ≤ 64) (hz1 : z.cells.size = 1)
    (hr : E.at r = some f₀) (hr' : Le f₀ (ownL B e ds)) (hx : E.at x = some f) (hf : Le f (lst [d])) (h1 : ∀ w u, d.Of w u → u.oneCell' = true) (hs : ∀ g, ∀ d' ∈ ds, Surv B e g d') (hs' : ∀ g, Surv B e g d) (hk : ds.length + 1 ≤ 1099511627776) (hdst : dst < n) (hl : ∀ g, B ≤ g → LeftS B e g E' E) :
    Eff P n B ops ⟨some dst, .call { callee := .builtin .append, args := #[r, x], argTypes := #[t, t] }, ty, pos, after, none⟩ E ((dst, ownL B e (ds ++ [d])) :: E') := by
  obtain ⟨i, hi, hz, hs1, hby⟩ := hinfo.get
  intro κ a w K Q h hK
  obtain ⟨vs, ⟨hown, hob⟩, hvl, hvd⟩ := hr'.of (h.at_ r _ hr)
  obtain ⟨c, A, us, hxe, hle, hcm, hul, hrow, hus⟩ := hf.of (h.at_ x _ hx)
  simp only [List.length_cons, List.length_nil, Nat.zero_add] at hxe hle hul
  match us, hul with
  | [u], _ =>
  obtain ⟨ad, hA, hab, hc0⟩ := hrow 0 u rfl
  subst hA
  have hdu : d.Of w u := hus 0 d u rfl rfl
  have hu1 := h1 w u hdu
  have hbb : (ds.length + 1) * i.bytes ≤ (ds.length + 1) * 64 := Nat.mul_le_mul_left _ (by omega)
  obtain ⟨v', w', hrun, h3, h4, _, h6⟩ := run_append_own_at (P := P) w B t ty e i z 1 i.bytes ht hi hz hs1 rfl hz1 (by omega) (a.eval r) ds.length vs hown ad 1 c [u] (by simp) hrow.cell (fun v hv => by rw [List.mem_singleton.1 hv]; exact hu1) (by simp only [maxLen]; omega) (by omega) h.base
  have hexec : (execOp a.eval ⟨some dst, .call { callee := .builtin .append, args := #[r, x], argTypes := #[t, t] }, ty, pos, after, none⟩).run P w = .ok (.value v') w' := by
    simp [execOp, resolve, invoke, builtin, hxe, hrun]
  rw [if_pos (by simp [Region.wanted])]
  refine opR (by nofun) ?_
  unfold Oper.wp
  rw [hexec, Oper.upon_value]
  have hbase : ∀ g, (a.eval r).ownBlock = some g → B ≤ g := fun g hg => by
    rcases hown.2 with ⟨hv, _⟩ | ⟨g', cap, cur, hv, hb, _⟩
    · rw [hv] at hg; simp [Value.ownBlock] at hg
    · rw [hv] at hg; simp [Value.ownBlock] at hg; omega
  have hbel : Below B w w' := (Below.refl B w).grown h4 h.base hbase
  have hwr : ∃ g, B ≤ g ∧ Wrote B e g w w' := by
    rcases hown.2 with ⟨hv, _⟩ | ⟨g', cap, cur, hv, hb, hh, _⟩
    · refine ⟨w.heap.size, h.base, h.base, h4.os, h4.tape, h4.output, h4.size, fun o hx => ?_, fun k hk _ => h4.block k hk (by rw [hv]; simp [Value.ownBlock])⟩
      rw [Array.getElem?_eq_none (Nat.le_refl _)] at hx; cases hx
    · refine ⟨g', hb, hb, h4.os, h4.tape, h4.output, h4.size, fun o hx => ?_, fun k hk hne => h4.block k hk (by rw [hv]; simp [Value.ownBlock]; omega)⟩
      rw [hh] at hx; injection hx with hx; exact ⟨_, _, hx.symm⟩
  obtain ⟨g, hg, hwr⟩ := hwr
  have hst : St κ n B E' a w' := (hl g hg).st h hwr
  refine hK _ _ hbel (hst.put hdst ⟨vs ++ [u], ⟨by simpa using h3, lt_of_row h3⟩, by simp [hvl], fun j d' u' hd' hu' => ?_⟩)
  rcases Nat.lt_or_ge j ds.length with hj | hj
  · rw [List.getElem?_append_left hj] at hd'
    rw [List.getElem?_append_left (by omega)] at hu'
    exact hs g d' (List.mem_of_getElem? hd') _ _ _ hwr (hvd j d' u' hd' hu')
  · rw [List.getElem?_append_right hj] at hd'
    rw [List.getElem?_append_right (by omega)] at hu'
    have hj0 : j - ds.length = 0 := by
      have := (List.getElem?_eq_some_iff.1 hd').1
      simp at this; omega
    rw [hj0] at hd'
    rw [hvl, hj0] at hu'
    simp at hd' hu'
    subst hd'; subst hu'
    exact hs' g _ _ _ hwr hdu
end
/-! ### Changes as plain data -/
structure OpT where
  k : UInt8
  s : UInt8
  b : UInt8
  l : List UInt8
def opD (o : OpT) : D := tlD [byteV o.k, byteV o.s, byteV o.b] (byt o.l)
def xD (z : UInt8) (L : List OpT) : D := tlD [byteV z] (lstK 4 (L.map opD))
theorem Agg.op {o : OpT} : Agg 4 (opD o) := Agg.tl rfl rfl
theorem op_get {L : List OpT} {i : Nat} (h : i < L.length) : (L.map opD)[i]? = some (opD L[i]) := by rw [List.getElem?_map, List.getElem?_eq_getElem h]; rfl
def nOf (z : UInt8) : Nat := 1 + z.toNat % 130
def opAt (o : OpT) (n : Nat) : Nat := o.s.toNat % n
def opStep (o : OpT) (S : Dk) : Dk × Int :=
  if o.k.toNat % 3 = 0 then (if 256 < o.l.length then (S, 3) else (putC S (opAt o S.length) (some o.l), 0))
  else if o.k.toNat % 3 = 1 then (putC S (opAt o S.length) none, 0)
  else if o.b.toNat % 8 ≤ (hisC S (opAt o S.length)).length then (putC S (opAt o S.length) (lastC ((hisC S (opAt o S.length)).drop (o.b.toNat % 8))), 0) else (S, 11)
theorem opStep_len (o : OpT) (S : Dk) : (opStep o S).1.length = S.length := by
  unfold opStep
  repeat' split
  all_goals first | rfl | exact putC_length _ _ _
theorem opStep_tot (o : OpT) (S : Dk) (h : 0 < S.length) : totC (opStep o S).1 ≤ totC S + 1 := by
  have hi : opAt o S.length < S.length := Nat.mod_lt _ h
  unfold opStep
  repeat' split
  all_goals first | exact Nat.le_succ _ | exact Nat.le_of_eq (totC_put _ hi)
def runOps (n : Nat) (L : List OpT) : Dk := L.foldl (fun S o => (opStep o S).1) (List.replicate n [])
theorem runOps_len (n : Nat) (L : List OpT) : (runOps n L).length = n := by
  have : ∀ (L : List OpT) (S : Dk), (L.foldl (fun S o => (opStep o S).1) S).length = S.length := by
    intro L
    induction L with
    | nil => intro S; rfl
    | cons o L ih => intro S; rw [List.foldl_cons, ih, opStep_len]
  rw [runOps, this]; simp
theorem runOps_tot (n : Nat) (hn : 0 < n) (L : List OpT) : totC (runOps n L) ≤ L.length := by
  have : ∀ (L : List OpT) (S : Dk), 0 < S.length → totC (L.foldl (fun S o => (opStep o S).1) S) ≤ totC S + L.length := by
    intro L
    induction L with
    | nil => intro S _; exact Nat.le_refl _
    | cons o L ih =>
      intro S hS
      have h1 := ih (opStep o S).1 (by rw [opStep_len]; exact hS)
      have h2 := opStep_tot o S hS
      rw [List.foldl_cons, List.length_cons]; omega
  have h := this L (List.replicate n []) (by simpa using hn)
  rw [totC_rep] at h
  exact Nat.le_trans h (by omega)
theorem runOps_next {n i : Nat} {L : List OpT} (h : i < L.length) : (opStep L[i] (runOps n (L.take i))).1 = runOps n (L.take (i + 1)) := by
  unfold runOps
  rw [List.take_succ_eq_append_getElem h, List.foldl_append]; rfl
theorem runOps_zero (n : Nat) (L : List OpT) : runOps n (L.take 0) = List.replicate n [] := by rw [List.take_zero]; rfl
theorem nOf_pos (z : UInt8) : 1 ≤ nOf z := by unfold nOf; omega
theorem nOf_le (z : UInt8) : nOf z ≤ 130 := by unfold nOf; omega
/-- The disk that a law is about. -/
def xS (z : UInt8) (L : List OpT) : Dk := runOps (nOf z) (L.take 60)
theorem xS_len (z : UInt8) (L : List OpT) : (xS z L).length = nOf z := runOps_len _ _
theorem xS_tot (z : UInt8) (L : List OpT) : totC (xS z L) ≤ 60 := Nat.le_trans (runOps_tot _ (nOf_pos z) _) (by simp; omega)
theorem xS_end {z : UInt8} {L : List OpT} {i : Nat} (h : i = min L.length 60) : runOps (nOf z) (L.take i) = xS z L := by
  subst h; unfold xS
  rcases Nat.lt_or_ge 60 L.length with h | h
  · rw [Nat.min_eq_right (by omega)]
  · rw [Nat.min_eq_left h, List.take_of_length_le (Nat.le_refl _), List.take_of_length_le h]
/-! ### What is counted -/
theorem totC_take {S : Dk} {i : Nat} (h : i < S.length) : totC (S.take (i + 1)) = totC (S.take i) + (hisC S i).length := by
  have h0 : S[i] = hisC S i := by have := his_get h; rw [List.getElem?_eq_getElem h] at this; injection this
  rw [List.take_succ_eq_append_getElem h, h0]
  unfold totC
  rw [List.map_append, List.sum_append]; simp
theorem totC_take_le (S : Dk) (i : Nat) : totC (S.take i) ≤ totC S := by
  induction S generalizing i with
  | nil => simp
  | cons x S ih =>
    cases i with
    | zero => simp [totC]
    | succ i => have := ih i; simp only [totC, List.take_succ_cons, List.map_cons, List.sum_cons] at this ⊢; omega
end Go.Proofs.Ytdhbhcbkhkopbaa
namespace Go.Proofs.Ytdhbhcbkhkopbaa
open Go Go.RowKit
set_option linter.unusedVariables false
set_option linter.unusedSimpArgs false
section
variable {P : Program} {B : Nat} {E : Env} {dst : Option Tmp} {ty : TypeId} {pos : String} {after : Array Edge} {guard : Option (Nat × Bool)}
theorem ok_neBool {t t' : TypeId} {x y : Operand} {a b : Bool} (ht : P.underlying t = some .bool) (hx : E.at x = some (.v (.bool a))) (hy : E.at y = some (.v (.bool b))) : OpOk P B ⟨dst, .binOp .neq t x y t', ty, pos, after, guard⟩ E (.v (.bool (!(a == b)))) := fun ρ w _ _ hρ => by
  have h1 : ρ x = .bool a := hρ x (by simp [Op.operands]) _ hx
  have h2 : ρ y = .bool b := hρ y (by simp [Op.operands]) _ hy
  have h3 := run_equalIn_bool' (P := P) w 9999 t a b ht
  exact out_val (w' := w) (by simp [execOp, h1, h2, eqGuard, binOp, Op.equal, Op.maxDepth, h3]) ⟨Grow.refl w, rfl⟩
end
section
end
end Go.Proofs.Ytdhbhcbkhkopbaa
namespace Go.Proofs.Ytdhbhcbkhkopbaa
open Go Go.RowKit
set_option linter.unusedVariables false
set_option linter.unusedSimpArgs false
theorem row_getI {S : Dk} {i : Nat} {tv : TypeId} (h : i < S.length) : (S.map (rowT tv))[((i : Nat) : Int).toNat]? = some (rowT tv (hisC S i)) := row_get h
section
variable {P : Program} {B : Nat} {E : Env} {dst : Option Tmp} {ty : TypeId} {pos : String} {after : Array Edge} {guard : Option (Nat × Bool)}
theorem ok_loadC {T : TypeId} {td : TypeDesc} {x : Operand} {h : List Con} {j : Nat} (ht : P.underlying T = some td) (hp : (match td with | .struct _ | .array _ _ => true | _ => false) = true) (hsz : SizeIs P T 2) (hj : j ≤ h.length) (hx : E.at x = some (elemP (((rowC h).drop (j * 2)).take 2))) :
    OpOk P B ⟨dst, .load T x, ty, pos, after, guard⟩ E (.v (aggV (cV (atC h j)))) := by
  rw [rowC_at hj] at hx
  exact ok_loadElemP ht hp (hsz.of rfl) hx
end
/-- A contract with a first argument of which more is known. -/
theorem Fn.arg0 {P : Program} {f : FuncId} {a a' : D} {ds : List D} {d : D} (h : Fn P f (a :: ds) d) (ha : Le a' a) : Fn P f (a' :: ds) d :=
  ⟨h.body, fun vs w h1 h2 => h.calls vs w h1 fun j e u he hu => by
    cases j with
    | zero => simp at he; subst he; exact ha.of (h2 0 _ u rfl hu)
    | succ j => exact h2 (j + 1) e u he hu⟩
section
variable {κ : Cx} {P : Program} {w₀ : World} {n : Nat} {c : Code} {E : Env} {Q : Exit → Act → World → Prop}
/-- A variable of a disk of the definition: its slice gets a name. -/
theorem A.openRef {k k' b : Nat} {T tl tv : TypeId} {S : Dk} (hk : E.look k = some (varK b T 1 (refD tl tv S))) (h : ∀ v : Value, v.oneCell' = true → A κ P w₀ n c ((k, blk b T [v]) :: (k', valM v (lstT tl (S.map (rowT tv)))) :: E) Q) : A κ P w₀ n c E Q := fun a w g hs => by
  obtain ⟨hlt, cs, _, _, hh, v, h1, h2, h3⟩ := hs.of k _ hk
  have : cs = [v] := by simpa [aggV] using h2
  subst this
  exact h v h1 a w g ((hs.push (t := k') (d := valM v (lstT tl (S.map (rowT tv)))) h3).push (t := k) (d := blk b T [v]) ⟨hlt, hh⟩)
end
theorem remU16 (a k : Nat) : Value.int .u16 ((a : Int).tmod (k : Int)) = .int .u16 ((a % k : Nat) : Int) := by
  rw [Int.tmod_eq_emod_of_nonneg (Int.natCast_nonneg _), ← Int.natCast_emod]
theorem errC_ne1 (c : Con) : errC c ≠ 1 := by cases c <;> simp [errC]
end Go.Proofs.Ytdhbhcbkhkopbaa
namespace Go.Proofs.Ytdhbhcbkhkopbaa
open Go Go.RowKit
set_option linter.unusedVariables false
set_option maxRecDepth 20000
set_option linter.unusedSimpArgs false

theorem info61 : InfoIs Try.prog 61 (.slice none 0 0) 24 := by unfold InfoIs; kernel_rfl
theorem info32 : InfoIs Try.prog 32 (.slice none 0 0) 24 := by unfold InfoIs; kernel_rfl
theorem zero34 : ZeroIs Try.prog 34 ([.slice none 0 0]) := by unfold ZeroIs; kernel_rfl
theorem size34 : SizeIs Try.prog 34 1 := by unfold SizeIs; kernel_rfl
theorem field34_0 : FieldIs Try.prog 34 0 0 1 := by unfold FieldIs; kernel_rfl
theorem zero51 : ZeroIs Try.prog 51 ([.bool false] ++ [.string ⟨#[]⟩]) := by unfold ZeroIs; kernel_rfl
theorem size51 : SizeIs Try.prog 51 2 := by unfold SizeIs; kernel_rfl
theorem field51_0 : FieldIs Try.prog 51 0 0 1 := by unfold FieldIs; kernel_rfl
theorem field51_1 : FieldIs Try.prog 51 1 1 1 := by unfold FieldIs; kernel_rfl
theorem infoPW : InfoP Try.prog 51 (.agg #[.bool false, .string ⟨#[]⟩]) 2 24 := by unfold InfoP; kernel_rfl
theorem rNew_fn (m : Nat) (hm : m ≤ 10922) : Fn Try.prog 11 [.v (nI (m))] (refD 61 51 ((List.replicate m []))) := by
 refine Fn.of Try.func11 rfl (by kernel_rfl) Try.ntmps11 (by simp) (fun w => [(0, .v (nI (m)))]) (fun w => (Start.v rfl Start.nil)) fun w₀ => ?_
 refine GS ?_
 refine TN 0 ?_
 refine RN ?_
 refine ⟨_, _, eff_alloc (n := 18) (d := 2) (k := 1000002) zero34 (by decide), fun b2 hb2 => ?_⟩
 have hBb2 := hb2.1
 refine TL ?_
 refine RN ?_
 refine GS ?_
 refine TN 0 ?_
 refine RN ?_
 refine ⟨_, _, eff_alloc (n := 18) (d := 3) (k := 1000003) zero34 (by decide), fun b3 hb3 => ?_⟩
 have hBb3 := hb3.1
 have hlt_b2_b3 : b2 < b3 := hb3.2 1000002 _ _ _ rfl
 refine TL ?_
 refine RN ?_
 refine A.seq ?_
 refine GS ?_
 refine TL ?_
 refine RA rfl ?_
 refine RN ?_
 refine A.block ?_
 refine A.subL (SubL.cons (t := 0) rfl (Le.refl _) (SubL.cons (t := 2) rfl (Le.refl _) (SubL.cons (t := 3) rfl (Le.refl _) (SubL.cons (t := 4) rfl (Le.refl _) (SubL.cons (t := 1000002) rfl (Le.refl _) (SubL.cons (t := 1000003) rfl (blk_varD (ownL_nil (base := w₀.heap.size) (e := 61))) SubL.nil)))))) ?_
 refine A.loop (ι := Nat) (fun i => i ≤ m) (fun i => [(0, .v (nI (m))), (2, .v (ptr b2)), (3, .v (ptr b3)), (4, .v (nI (i))), (1000002, blk b2 34 [.slice none 0 0]), (1000003, varD b3 34 (ownL w₀.heap.size 61 (((List.replicate i [])).map (rowT 51))))]) (fun i => m - i) 0 ?_ ?_ ?_
 ·exact Nat.zero_le _
 ·exact (KC 0 rfl (KC 2 rfl (KC 3 rfl (KE 4 rfl (by rfl) (KC 1000002 rfl (KC 1000003 rfl KN))))))
 intro i hG
 refine A.seq ?_
 refine GS ?_
 refine TL ?_
 refine RM rfl ?_
 refine RM rfl ?_
 refine RB rfl rfl rfl ?_
 refine RN ?_
 refine A.cond rfl (fun hc7 => ?_) (fun hc7 => ?_)
 ·have hi : i < m := by simp at hc7; omega
  refine A.skip ?_
  refine EN ?_
  refine A.seq ?_
  refine A.block ?_
  refine A.openD (k := 1000003) (k' := 1000303) rfl ownL_one fun u hu1 => ?_
  refine GE ?_
  refine TF 5 ?_
  refine RS (ok_field field34_0 (by decide) rfl) ?_
  refine RS (OpOk.valP (k := 1000303) (ok_loadV (s := 1000003) (by decide) Try.underlying32 rfl rfl rfl (rfl)) (by decide) rfl) ?_
  refine RS (ok_lit [] ([.bool false] ++ [.string ⟨#[]⟩]) (fun _ _ => rfl) (by kernel_rfl)) ?_
  refine RS ((ok_build1X Try.underlying61 infoPW rfl (by decide) (by decide) rfl rfl).le (Le.eq (show rowXD 51 1 _ = rowT 51 [] from rfl))) ?_
  refine RS (ok_build [rowT 51 []] Try.underlying32 info61 rfl (by decide) (by decide) rfl ⟨rfl, rfl, trivial⟩ (fun d hd w x h => by rw [List.mem_singleton.1 hd] at h; exact rowXD_one' h)) ?_
  refine RN ?_
  refine ⟨_, eff_appendL (n := 18) Try.underlying32 info61 (by decide) rfl rfl (Le.refl _) rfl (le_lst _ _) (d := rowT 51 ([])) (fun w u h => rowX_one _ w u h) (fun g => Surv.rows (S := (List.replicate i [])) (by decide)) (fun g => Surv.rowT (by decide)) (by rw [List.length_map, List.length_replicate]; omega) (by decide) (fun g hg => (LV 0 rfl (LV 2 rfl (LV 3 rfl (LV 4 rfl (LT 1000002 rfl (LT 1000003 rfl LN))))))), ?_⟩
  refine TF 7 ?_
  refine RS (ok_field field34_0 (by decide) rfl) ?_
  refine RN ?_
  refine ⟨_, eff_storeD (n := 18) (s := 1000003) info32 rfl rfl (ownL_one) hBb3 rfl (Surv.ownL (by decide) (Surv.rowsA (by decide))) (LV 0 rfl (LV 2 rfl (LV 3 rfl (LV 4 rfl (LB 1000002 rfl LN))))), ?_⟩
  refine TL ?_
  refine RN ?_
  refine End.normal_block ?_
  refine EN ?_
  refine GE ?_
  refine TL ?_
  refine RM rfl ?_
  refine RBS rfl rfl rfl (nI (i + 1)) (wrap_eq (by omega) (by omega)) ?_
  refine RA rfl ?_
  refine RN ?_
  refine End.normal_then ?_
  refine End.again (i + 1) ?_ ?_ ?_
  ·show _ ≤ _; omega
  ·show _ - _ < _ - _; omega
  ·exact (KC 0 rfl (KC 2 rfl (KC 3 rfl (KC 4 rfl (KC 1000002 rfl (KE 1000003 rfl (varD_eq (ownL_eq (rep_next _ i))) KN))))))
 ·have hi2 : i = m := by simp at hc7; omega
  refine A.exit ?_
  refine End.exit_then ?_
  refine End.exit_then ?_
  refine End.exit_here ?_
  refine EN ?_
  refine GS ?_
  refine TF 1 ?_
  refine RS (ok_loadDS (s := 1000003) (by decide) Try.underlying34 rfl size34 ownL_one rfl rfl) ?_
  refine RN ?_
  refine ⟨_, eff_storeK (n := 18) (s := 1000002) size34 rfl rfl (tl_le ownL_lstT) (Agg.ref) hBb2 rfl (rfl) (Surv.ref (by decide) (by decide)) (LV 2 rfl (LeftS.cons (t := 1000003) rfl (Surv.varD (by omega) (Surv.ownL (by decide) (Surv.rows (by decide)))) LN)), ?_⟩
  refine TL ?_
  refine RN ?_
  refine A.ret ?_
  exact End.varK1 (s := 1000002) rfl Try.underlying34 rfl size34 rfl rfl (by subst hi2; exact Le.refl _)
theorem rLast_fn (S : Dk) (hn : S.length ≤ 10922) (ht : totC S ≤ 1000000) (i : Nat) (hi : i < S.length)  : Fn Try.prog 20 [refD 61 51 (S), .v (nI (i))] (.v (aggV (cV (lastC (hisC S i))))) := by
 refine Fn.of Try.func20 rfl (by kernel_rfl) Try.ntmps20 (by simp) (fun w => [(0, old w.heap.size (refD 61 51 (S))), (1, .v (nI (i)))]) (fun w => (Start.old rfl (Start.v rfl Start.nil))) fun w₀ => ?_
 refine A.nameTl (t := 0) (k := 1000200) rfl fun v hv1 => ?_
 have hle := his_le S i
 refine GS ?_
 refine TN 0 ?_
 refine RN ?_
 refine ⟨_, _, eff_box (n := 19) (d := 2) (k := 1000002) rfl (by decide), fun b2 hb2 => ?_⟩
 have hBb2 := hb2.1
 refine TN 1 ?_
 refine RN ?_
 refine ⟨_, _, eff_alloc (n := 19) (d := 4) (k := 1000004) zero51 (by decide), fun b4 hb4 => ?_⟩
 have hBb4 := hb4.1
 refine TL ?_
 refine RN ?_
 refine GD ?_
 refine TD 14 ?_
 refine RS (ok_field field34_0 (by decide) rfl) ?_
 refine RS (OpOk.valO (k := 1000200) (ok_loadV (s := 1000002) (by decide) Try.underlying32 rfl rfl rfl (rfl)) (by decide) rfl) ?_
 refine RM rfl ?_
 refine RS (ok_index (j := ((i : Nat) : Int)) Try.underlying32 info61 rfl ((Le.old _ _).trans lstT_lst) rfl (by omega) (row_getI hi)) ?_
 refine RS (ok_load Try.underlying61 rfl rfl) ?_
 refine RS (ok_field field34_0 (by decide) rfl) ?_
 refine RS (OpOk.valO (k := 1000200) (ok_loadV (s := 1000002) (by decide) Try.underlying32 rfl rfl rfl (rfl)) (by decide) rfl) ?_
 refine RM rfl ?_
 refine RS (ok_index (j := ((i : Nat) : Int)) Try.underlying32 info61 rfl ((Le.old _ _).trans lstT_lst) rfl (by omega) (row_getI hi)) ?_
 refine RS (ok_load Try.underlying61 rfl rfl) ?_
 refine RS (ok_lenRD Try.underlying61 rfl rowT_row) ?_
 refine RBS rfl rfl rfl (nI ((hisC S i).length)) (wrap_eq (by omega) (by omega)) ?_
 refine RS (ok_indexRD (hisC S i).length Try.underlying61 infoPW rfl rowT_row rfl (by omega) (by rw [rowC_length]; omega)) ?_
 refine RS (ok_loadC Try.underlying51 rfl size51 (Nat.le_refl _) rfl) ?_; refine RZ (aggV (cV (lastC (hisC S i)))) (by rw [atC_len]) ?_
 refine RN ?_
 refine ⟨_, eff_storeA (n := 19) (s := 1000004) (size51.of (rfl)) rfl rfl (rfl) hBb4 rfl (rfl) (LV 4 rfl (LT 1000002 rfl (LO 1000200 rfl LN))), ?_⟩
 refine TL ?_
 refine RN ?_
 refine A.ret ?_
 exact End.cell1 (s := 1000004) rfl Try.underlying51 rfl (size51.of (rfl)) rfl rfl (Le.refl _)
theorem rBack_fn (S : Dk) (hn : S.length ≤ 10922) (ht : totC S ≤ 1000000) (i : Nat) (hi : i < S.length) (m : Nat) (hm : m ≤ (hisC S i).length) : Fn Try.prog 32 [refD 61 51 (S), .v (nI (i)), .v (nI (m))] (.v (.tuple #[aggV (cV (lastC ((hisC S i).drop m))), .bool true])) := by
 refine Fn.of Try.func32 rfl (by kernel_rfl) Try.ntmps32 (by simp) (fun w => [(0, old w.heap.size (refD 61 51 (S))), (1, .v (nI (i))), (2, .v (nI (m)))]) (fun w => (Start.old rfl (Start.v rfl (Start.v rfl Start.nil)))) fun w₀ => ?_
 refine A.nameTl (t := 0) (k := 1000200) rfl fun v hv1 => ?_
 have hle := his_le S i
 refine GS ?_
 refine TN 0 ?_
 refine RN ?_
 refine ⟨_, _, eff_box (n := 33) (d := 3) (k := 1000003) rfl (by decide), fun b3 hb3 => ?_⟩
 have hBb3 := hb3.1
 refine TN 1 ?_
 refine RN ?_
 refine ⟨_, _, eff_alloc (n := 33) (d := 6) (k := 1000006) zero51 (by decide), fun b6 hb6 => ?_⟩
 have hBb6 := hb6.1
 refine TL ?_
 refine RA rfl ?_
 refine RN ?_
 refine GS ?_
 refine TL ?_
 refine RS (ok_field field34_0 (by decide) rfl) ?_
 refine RS (OpOk.valO (k := 1000200) (ok_loadV (s := 1000003) (by decide) Try.underlying32 rfl rfl rfl (rfl)) (by decide) rfl) ?_
 refine RM rfl ?_
 refine RS (ok_index (j := ((i : Nat) : Int)) Try.underlying32 info61 rfl ((Le.old _ _).trans lstT_lst) rfl (by omega) (row_getI hi)) ?_
 refine RS (ok_load Try.underlying61 rfl rfl) ?_
 refine RS (ok_lenRD Try.underlying61 rfl rowT_row) ?_
 refine RBS rfl rfl rfl (nI ((hisC S i).length)) (wrap_eq (by omega) (by omega)) ?_
 refine RM rfl ?_
 refine RBS rfl rfl rfl (nI ((hisC S i).length - m)) (wrap_eq (by omega) (by omega)) ?_
 refine RA rfl ?_
 refine RN ?_
 refine A.seq ?_
 refine GS ?_
 refine TL ?_
 refine RM rfl ?_
 refine RBS rfl rfl rfl (.bool false) (congrArg Value.bool (decide_eq_false (by omega))) ?_
 refine RM rfl ?_
 refine RQ (ok_move rfl) ?_
 refine RQ (ok_bin rfl rfl rfl) ?_; refine RZ (.bool false) (congrArg Value.bool (decide_eq_false (by omega))) ?_
 refine RP rfl rfl ?_
 refine RN ?_
 refine A.no rfl ?_
 refine A.skip ?_
 refine EN ?_
 refine GS ?_
 refine TF 8 ?_
 refine RS (ok_field field34_0 (by decide) rfl) ?_
 refine RS (OpOk.valO (k := 1000200) (ok_loadV (s := 1000003) (by decide) Try.underlying32 rfl rfl rfl (rfl)) (by decide) rfl) ?_
 refine RM rfl ?_
 refine RS (ok_index (j := ((i : Nat) : Int)) Try.underlying32 info61 rfl ((Le.old _ _).trans lstT_lst) rfl (by omega) (row_getI hi)) ?_
 refine RS (ok_load Try.underlying61 rfl rfl) ?_
 refine RM rfl ?_
 refine RS (ok_indexRD ((hisC S i).length - m) Try.underlying61 infoPW rfl rowT_row rfl (by omega) (by rw [rowC_length]; omega)) ?_
 refine RS (ok_loadC Try.underlying51 rfl size51 (Nat.sub_le _ _) rfl) ?_; refine RZ (aggV (cV (lastC ((hisC S i).drop m)))) (by rw [atC_drop (Nat.sub_le _ _), show (hisC S i).length - ((hisC S i).length - m) = m from by omega]) ?_
 refine RN ?_
 refine ⟨_, eff_storeA (n := 33) (s := 1000006) (size51.of (rfl)) rfl rfl (rfl) hBb6 rfl (rfl) (LV 6 rfl (LT 1000003 rfl (LO 1000200 rfl LN))), ?_⟩
 refine TL ?_
 refine RA rfl ?_
 refine RN ?_
 refine A.sub (KC 6 rfl (KC 7 rfl (KC 1000003 rfl (KC 1000006 rfl (KC 1000200 rfl KN))))) ?_
 refine A.ret ?_
 exact End.cellV (s := 1000006) rfl Try.underlying51 rfl (size51.of rfl) rfl rfl rfl
theorem rBack_no (S : Dk) (hn : S.length ≤ 10922) (ht : totC S ≤ 1000000) (i : Nat) (hi : i < S.length) (m : Nat) (hm : (hisC S i).length < m) (hm2 : m ≤ 1000000) : Fn Try.prog 32 [refD 61 51 (S), .v (nI (i)), .v (nI (m))] (.v (.tuple #[aggV (cV none), .bool false])) := by
 refine Fn.of Try.func32 rfl (by kernel_rfl) Try.ntmps32 (by simp) (fun w => [(0, old w.heap.size (refD 61 51 (S))), (1, .v (nI (i))), (2, .v (nI (m)))]) (fun w => (Start.old rfl (Start.v rfl (Start.v rfl Start.nil)))) fun w₀ => ?_
 refine A.nameTl (t := 0) (k := 1000200) rfl fun v hv1 => ?_
 have hle := his_le S i
 refine GS ?_
 refine TN 0 ?_
 refine RN ?_
 refine ⟨_, _, eff_box (n := 33) (d := 3) (k := 1000003) rfl (by decide), fun b3 hb3 => ?_⟩
 have hBb3 := hb3.1
 refine TN 1 ?_
 refine RN ?_
 refine ⟨_, _, eff_alloc (n := 33) (d := 6) (k := 1000006) zero51 (by decide), fun b6 hb6 => ?_⟩
 have hBb6 := hb6.1
 refine TL ?_
 refine RA rfl ?_
 refine RN ?_
 refine GS ?_
 refine TL ?_
 refine RS (ok_field field34_0 (by decide) rfl) ?_
 refine RS (OpOk.valO (k := 1000200) (ok_loadV (s := 1000003) (by decide) Try.underlying32 rfl rfl rfl (rfl)) (by decide) rfl) ?_
 refine RM rfl ?_
 refine RS (ok_index (j := ((i : Nat) : Int)) Try.underlying32 info61 rfl ((Le.old _ _).trans lstT_lst) rfl (by omega) (row_getI hi)) ?_
 refine RS (ok_load Try.underlying61 rfl rfl) ?_
 refine RS (ok_lenRD Try.underlying61 rfl rowT_row) ?_
 refine RBS rfl rfl rfl (nI ((hisC S i).length)) (wrap_eq (by omega) (by omega)) ?_
 refine RM rfl ?_
 refine RBS rfl rfl rfl (.int .i64 (((hisC S i).length : Int) - (m : Int))) (congrArg (Value.int .i64) (wrap_i64 (by omega) (by omega))) ?_
 refine RA rfl ?_
 refine RN ?_
 refine A.seq ?_
 refine GS ?_
 refine TL ?_
 refine RM rfl ?_
 refine RBS rfl rfl rfl (.bool false) (congrArg Value.bool (decide_eq_false (by omega))) ?_
 refine RM rfl ?_
 refine RQ (ok_move rfl) ?_
 refine RQ (ok_bin rfl rfl rfl) ?_; refine RZ (.bool true) (congrArg Value.bool (decide_eq_true (by omega))) ?_
 refine RP rfl rfl ?_
 refine RN ?_
 refine A.yes rfl ?_
 refine GS ?_
 refine TF 1 ?_
 refine RS (ok_lit [] ([.bool false] ++ [.string ⟨#[]⟩]) (fun _ _ => rfl) (by kernel_rfl)) ?_
 refine RN ?_
 refine ⟨_, eff_storeA (n := 33) (s := 1000006) (size51.of (rfl)) rfl rfl (rfl) hBb6 rfl (rfl) (LV 6 rfl (LT 1000003 rfl (LO 1000200 rfl LN))), ?_⟩
 refine TL ?_
 refine RA rfl ?_
 refine RN ?_
 refine A.ret ?_
 refine End.ret_then ?_
 exact End.cellV (s := 1000006) rfl Try.underlying51 rfl (size51.of rfl) rfl rfl rfl
set_option maxHeartbeats 1000000 in
theorem rWith_fn (S : Dk) (hn : S.length ≤ 10922) (ht : totC S ≤ 1000000) (k : Nat) (hk : k < S.length) (c : Con) : Fn Try.prog 31 [refD 61 51 (S), .v (nI (k)), .v (aggV (cV c))] (refD 61 51 (putC S k c)) := by
 refine Fn.of Try.func31 rfl (by kernel_rfl) Try.ntmps31 (by simp) (fun w => [(0, old w.heap.size (refD 61 51 (S))), (1, .v (nI (k))), (2, .v (aggV (cV c)))]) (fun w => (Start.old rfl (Start.v rfl (Start.v rfl Start.nil)))) fun w₀ => ?_
 refine A.nameTl (t := 0) (k := 1000200) rfl fun v hv1 => ?_
 refine GS ?_
 refine TN 0 ?_
 refine RN ?_
 refine ⟨_, _, eff_box (n := 37) (d := 3) (k := 1000003) rfl (by decide), fun b3 hb3 => ?_⟩
 have hBb3 := hb3.1
 refine TN 1 ?_
 refine RN ?_
 refine ⟨_, _, eff_box (n := 37) (d := 5) (k := 1000005) rfl (by decide), fun b5 hb5 => ?_⟩
 have hBb5 := hb5.1
 refine TN 2 ?_
 refine RN ?_
 refine ⟨_, _, eff_alloc (n := 37) (d := 6) (k := 1000006) zero34 (by decide), fun b6 hb6 => ?_⟩
 have hBb6 := hb6.1
 have hlt_b3_b6 : b3 < b6 := hb6.2 1000003 _ _ _ rfl
 refine TL ?_
 refine RN ?_
 refine GS ?_
 refine TN 0 ?_
 refine RN ?_
 refine ⟨_, _, eff_alloc (n := 37) (d := 7) (k := 1000007) zero34 (by decide), fun b7 hb7 => ?_⟩
 have hBb7 := hb7.1
 have hlt_b3_b7 : b3 < b7 := hb7.2 1000003 _ _ _ rfl
 have hlt_b6_b7 : b6 < b7 := hb7.2 1000006 _ _ _ rfl
 refine TL ?_
 refine RN ?_
 refine A.seq ?_
 refine GS ?_
 refine TL ?_
 refine RA rfl ?_
 refine RN ?_
 refine A.block ?_
 refine A.subL (SubL.cons (t := 1) rfl (Le.refl _) (SubL.cons (t := 3) rfl (Le.refl _) (SubL.cons (t := 5) rfl (Le.refl _) (SubL.cons (t := 6) rfl (Le.refl _) (SubL.cons (t := 7) rfl (Le.refl _) (SubL.cons (t := 8) rfl (Le.refl _) (SubL.cons (t := 1000003) rfl (Le.refl _) (SubL.cons (t := 1000005) rfl (Le.refl _) (SubL.cons (t := 1000006) rfl (Le.refl _) (SubL.cons (t := 1000007) rfl (blk_varD (ownL_nil (base := w₀.heap.size) (e := 61))) (SubL.cons (t := 1000200) rfl (Le.refl _) SubL.nil))))))))))) ?_
 refine A.loop (ι := Nat) (fun i => i ≤ S.length) (fun i => [(1, .v (nI (k))), (3, .v (ptr b3)), (5, .v (ptr b5)), (6, .v (ptr b6)), (7, .v (ptr b7)), (8, .v (nI (i))), (1000003, blk b3 34 [v]), (1000005, blk b5 51 (cV c)), (1000006, blk b6 34 [.slice none 0 0]), (1000007, varD b7 34 (ownL w₀.heap.size 61 (((putC S k c).take i).map (rowT 51)))), (1000200, old w₀.heap.size (valM v (lstT 61 (S.map (rowT 51)))))]) (fun i => S.length - i) 0 ?_ ?_ ?_
 ·exact Nat.zero_le _
 ·exact (KC 1 rfl (KC 3 rfl (KC 5 rfl (KC 6 rfl (KC 7 rfl (KE 8 rfl (by rfl) (KC 1000003 rfl (KC 1000005 rfl (KC 1000006 rfl (KC 1000007 rfl (KC 1000200 rfl KN)))))))))))
 intro i hG
 have hle := his_le S i
 refine A.seq ?_
 refine GS ?_
 refine TL ?_
 refine RM rfl ?_
 refine RS (ok_field field34_0 (by decide) rfl) ?_
 refine RS (OpOk.valO (k := 1000200) (ok_loadV (s := 1000003) (by decide) Try.underlying32 rfl rfl rfl (rfl)) (by decide) rfl) ?_
 refine RS (ok_len Try.underlying32 rfl ((Le.old _ _).trans lstT_lst)) ?_; refine RZ (nI (S.length)) (by rw [List.length_map]) ?_
 refine RB rfl rfl rfl ?_
 refine RN ?_
 refine A.cond rfl (fun hc14 => ?_) (fun hc14 => ?_)
 ·have hi : i < S.length := by simp at hc14; omega
  refine A.skip ?_
  refine EN ?_
  refine A.seq ?_
  refine A.block ?_
  refine A.dup (k := 1000005) (k' := 1000305) rfl (fun _ _ _ _ h => h) ?_
  refine A.dup (k := 1000200) (k' := 1000500) rfl (fun _ _ _ _ h => h) ?_
  refine A.raise _ (fun w => (UpTo.same (t := 1) rfl (UpTo.same (t := 3) rfl (UpTo.same (t := 5) rfl (UpTo.same (t := 6) rfl (UpTo.same (t := 7) rfl (UpTo.same (t := 8) rfl (UpTo.same (t := 14) rfl (UpTo.same (t := 1000003) rfl (UpTo.same (t := 1000005) rfl (UpTo.same (t := 1000006) rfl (UpTo.new (t := 1000007) rfl (UpTo.old (t := 1000200) rfl (UpTo.new (t := 1000305) rfl (UpTo.new (t := 1000500) rfl UpTo.nil))))))))))))))) fun w₁ hg₁ => ?_
  have hgs₁ := hg₁.size
  refine GS ?_
  refine TL ?_
  refine RS (ok_field field34_0 (by decide) rfl) ?_
  refine RS (OpOk.valO (k := 1000200) (ok_loadV (s := 1000003) (by decide) Try.underlying32 rfl rfl rfl (rfl)) (by decide) rfl) ?_
  refine RM rfl ?_
  refine RS (ok_index (j := ((i : Nat) : Int)) Try.underlying32 info61 rfl ((Le.old _ _).trans lstT_lst) rfl (by omega) (row_getI hi)) ?_
  refine RS (ok_load Try.underlying61 rfl rfl) ?_
  refine RS (ok_appendNil Try.underlying61 infoPW (by decide) (by decide) rfl rfl rowT_row (rowC_one _) (rowC_length _) (by omega)) ?_
  refine RA rfl ?_
  refine RN ?_
  refine A.seq ?_
  refine GS ?_
  refine TL ?_
  refine RM rfl ?_
  refine RM rfl ?_
  refine RB rfl rfl rfl ?_
  refine RN ?_
  refine A.cond rfl (fun hc25 => ?_) (fun hc25 => ?_)
  ·have hik : i = k := by simp at hc25; omega
   refine GE ?_
   refine TF 3 ?_
   refine RM rfl ?_
   refine RS (ok_loadA (s := 1000005) (by decide) Try.underlying51 rfl (size51.of (rfl)) rfl rfl) ?_
   refine RS (ok_build1P Try.underlying61 infoPW rfl rfl) ?_
   refine RN ?_
   refine ⟨_, eff_appendP (n := 37) Try.underlying61 infoPW (by decide) (by decide) rfl rfl rfl rfl rfl (by omega) (by decide) (fun g hg => (LV 1 rfl (LV 3 rfl (LV 5 rfl (LV 6 rfl (LV 7 rfl (LV 8 rfl (LT 1000003 rfl (LT 1000006 rfl (LO 1000007 rfl (LO 1000200 rfl (LO 1000305 rfl (LO 1000500 rfl LN))))))))))))), ?_⟩
   refine TL ?_
   refine RA rfl ?_
   refine RN ?_
   refine EN ?_
   refine A.lower hg₁ ?_
   refine A.dup (k := 1000305) (k' := 1000005) rfl (fun _ _ _ _ h => h) ?_
   refine A.dup (k := 1000500) (k' := 1000200) rfl (fun _ _ _ _ h => h) ?_
   refine A.subL (SubL.cons (t := 1) rfl (Le.refl _) (SubL.cons (t := 3) rfl (Le.refl _) (SubL.cons (t := 5) rfl (Le.refl _) (SubL.cons (t := 6) rfl (Le.refl _) (SubL.cons (t := 7) rfl (Le.refl _) (SubL.cons (t := 8) rfl (Le.refl _) (SubL.cons (t := 9) rfl (Le.refl _) (SubL.cons (t := 1000003) rfl (Le.refl _) (SubL.cons (t := 1000005) rfl (Le.old _ _) (SubL.cons (t := 1000006) rfl (Le.refl _) (SubL.cons (t := 1000007) rfl (Le.old _ _) (SubL.cons (t := 1000200) rfl (Le.old _ _) SubL.nil)))))))))))) ?_
   refine A.openD (k := 1000007) (k' := 1000307) rfl ownL_one fun u hu1 => ?_
   refine GE ?_
   refine TF 4 ?_
   refine RS (ok_field field34_0 (by decide) rfl) ?_
   refine RS (OpOk.valP (k := 1000307) (ok_loadV (s := 1000007) (by decide) Try.underlying32 rfl rfl rfl (rfl)) (by decide) rfl) ?_
   refine RM rfl ?_
   refine RS (ok_build [_] Try.underlying32 info61 rfl (by decide) (by decide) rfl ⟨rfl, rfl, trivial⟩ (fun d hd w x h => by rw [List.mem_singleton.1 hd] at h; exact ownP_one h)) ?_
   refine RN ?_
   refine ⟨_, eff_appendL (n := 37) Try.underlying32 info61 (by decide) rfl rfl (Le.refl _) rfl (list_lst1 (by first | (subst hik; exact put_row1 hi) | exact put_row0 hik)) (d := rowT 51 (hisC (putC S k c) i)) (fun w u h => rowX_one _ w u h) (fun g => Surv.rows (S := (putC S k c).take i) (by decide)) (fun g => Surv.rowT (by decide)) (by rw [List.length_map, List.length_take]; omega) (by decide) (fun g hg => (LV 1 rfl (LV 3 rfl (LV 5 rfl (LV 6 rfl (LV 7 rfl (LV 8 rfl (LT 1000003 rfl (LT 1000005 rfl (LT 1000006 rfl (LT 1000007 rfl (LO 1000200 rfl LN)))))))))))), ?_⟩
   refine TF 6 ?_
   refine RS (ok_field field34_0 (by decide) rfl) ?_
   refine RN ?_
   refine ⟨_, eff_storeD (n := 37) (s := 1000007) info32 rfl rfl (ownL_one) hBb7 rfl (Surv.ownL (by decide) (Surv.rowsA (by decide))) (LV 1 rfl (LV 3 rfl (LV 5 rfl (LV 6 rfl (LV 7 rfl (LV 8 rfl (LB 1000003 rfl (LT 1000005 rfl (LB 1000006 rfl (LO 1000200 rfl LN)))))))))), ?_⟩
   refine TL ?_
   refine RN ?_
   refine End.sub (KC 1 rfl (KC 3 rfl (KC 5 rfl (KC 6 rfl (KC 7 rfl (KC 8 rfl (KC 1000003 rfl (KC 1000005 rfl (KC 1000006 rfl (KC 1000007 rfl (KC 1000200 rfl KN))))))))))) ?_
   refine End.normal_block ?_
   refine EN ?_
   refine GE ?_
   refine TL ?_
   refine RM rfl ?_
   refine RBS rfl rfl rfl (nI (i + 1)) (wrap_eq (by omega) (by omega)) ?_
   refine RA rfl ?_
   refine RN ?_
   refine End.normal_then ?_
   refine End.again (i + 1) ?_ ?_ ?_
   ·show _ ≤ _; omega
   ·show _ - _ < _ - _; omega
   ·exact (KC 1 rfl (KC 3 rfl (KC 5 rfl (KC 6 rfl (KC 7 rfl (KC 8 rfl (KC 1000003 rfl (KC 1000005 rfl (KC 1000006 rfl (KE 1000007 rfl (varD_eq (ownL_eq (rows_take (by rw [putC_length]; exact hi)))) (KC 1000200 rfl KN)))))))))))
  ·have hik : k ≠ i := by simp at hc25; omega
   refine A.skip ?_
   refine EN ?_
   refine A.lower hg₁ ?_
   refine A.dup (k := 1000305) (k' := 1000005) rfl (fun _ _ _ _ h => h) ?_
   refine A.dup (k := 1000500) (k' := 1000200) rfl (fun _ _ _ _ h => h) ?_
   refine A.subL (SubL.cons (t := 1) rfl (Le.refl _) (SubL.cons (t := 3) rfl (Le.refl _) (SubL.cons (t := 5) rfl (Le.refl _) (SubL.cons (t := 6) rfl (Le.refl _) (SubL.cons (t := 7) rfl (Le.refl _) (SubL.cons (t := 8) rfl (Le.refl _) (SubL.cons (t := 9) rfl (Le.refl _) (SubL.cons (t := 25) rfl (Le.refl _) (SubL.cons (t := 1000003) rfl (Le.refl _) (SubL.cons (t := 1000005) rfl (Le.old _ _) (SubL.cons (t := 1000006) rfl (Le.refl _) (SubL.cons (t := 1000007) rfl (Le.old _ _) (SubL.cons (t := 1000200) rfl (Le.old _ _) SubL.nil))))))))))))) ?_
   refine A.openD (k := 1000007) (k' := 1000307) rfl ownL_one fun u hu1 => ?_
   refine GE ?_
   refine TF 4 ?_
   refine RS (ok_field field34_0 (by decide) rfl) ?_
   refine RS (OpOk.valP (k := 1000307) (ok_loadV (s := 1000007) (by decide) Try.underlying32 rfl rfl rfl (rfl)) (by decide) rfl) ?_
   refine RM rfl ?_
   refine RS (ok_build [_] Try.underlying32 info61 rfl (by decide) (by decide) rfl ⟨rfl, rfl, trivial⟩ (fun d hd w x h => by rw [List.mem_singleton.1 hd] at h; exact ownP_one h)) ?_
   refine RN ?_
   refine ⟨_, eff_appendL (n := 37) Try.underlying32 info61 (by decide) rfl rfl (Le.refl _) rfl (list_lst1 (by first | (subst hik; exact put_row1 hi) | exact put_row0 hik)) (d := rowT 51 (hisC (putC S k c) i)) (fun w u h => rowX_one _ w u h) (fun g => Surv.rows (S := (putC S k c).take i) (by decide)) (fun g => Surv.rowT (by decide)) (by rw [List.length_map, List.length_take]; omega) (by decide) (fun g hg => (LV 1 rfl (LV 3 rfl (LV 5 rfl (LV 6 rfl (LV 7 rfl (LV 8 rfl (LT 1000003 rfl (LT 1000005 rfl (LT 1000006 rfl (LT 1000007 rfl (LO 1000200 rfl LN)))))))))))), ?_⟩
   refine TF 6 ?_
   refine RS (ok_field field34_0 (by decide) rfl) ?_
   refine RN ?_
   refine ⟨_, eff_storeD (n := 37) (s := 1000007) info32 rfl rfl (ownL_one) hBb7 rfl (Surv.ownL (by decide) (Surv.rowsA (by decide))) (LV 1 rfl (LV 3 rfl (LV 5 rfl (LV 6 rfl (LV 7 rfl (LV 8 rfl (LB 1000003 rfl (LT 1000005 rfl (LB 1000006 rfl (LO 1000200 rfl LN)))))))))), ?_⟩
   refine TL ?_
   refine RN ?_
   refine End.normal_block ?_
   refine EN ?_
   refine GE ?_
   refine TL ?_
   refine RM rfl ?_
   refine RBS rfl rfl rfl (nI (i + 1)) (wrap_eq (by omega) (by omega)) ?_
   refine RA rfl ?_
   refine RN ?_
   refine End.sub (KC 1 rfl (KC 3 rfl (KC 5 rfl (KC 6 rfl (KC 7 rfl (KC 8 rfl (KC 1000003 rfl (KC 1000005 rfl (KC 1000006 rfl (KC 1000007 rfl (KC 1000200 rfl KN))))))))))) ?_
   refine End.normal_then ?_
   refine End.again (i + 1) ?_ ?_ ?_
   ·show _ ≤ _; omega
   ·show _ - _ < _ - _; omega
   ·exact (KC 1 rfl (KC 3 rfl (KC 5 rfl (KC 6 rfl (KC 7 rfl (KC 8 rfl (KC 1000003 rfl (KC 1000005 rfl (KC 1000006 rfl (KE 1000007 rfl (varD_eq (ownL_eq (rows_take (by rw [putC_length]; exact hi)))) (KC 1000200 rfl KN)))))))))))
 ·have hi2 : i = S.length := by simp at hc14; omega
  refine A.exit ?_
  refine End.exit_then ?_
  refine End.exit_then ?_
  refine End.exit_here ?_
  refine EN ?_
  refine GS ?_
  refine TF 1 ?_
  refine RS (ok_loadDS (s := 1000007) (by decide) Try.underlying34 rfl size34 ownL_one rfl rfl) ?_
  refine RN ?_
  refine ⟨_, eff_storeK (n := 37) (s := 1000006) size34 rfl rfl (tl_le ownL_lstT) (Agg.ref) hBb6 rfl (rfl) (Surv.ref (by decide) (by decide)) (LV 6 rfl (LB 1000003 rfl (LT 1000005 rfl (LeftS.cons (t := 1000007) rfl (Surv.varD (by omega) (Surv.ownL (by decide) (Surv.rows (by decide)))) (LO 1000200 rfl LN))))), ?_⟩
  refine TL ?_
  refine RN ?_
  refine A.ret ?_
  exact End.varK1 (s := 1000006) rfl Try.underlying34 rfl size34 rfl rfl (Le.eq (by rw [hi2, List.take_of_length_le (by rw [putC_length]; exact Nat.le_refl _)]; rfl))
set_option maxHeartbeats 1000000 in
theorem rSame_fn (S S' : Dk) (hn : S.length ≤ 10922) (hn' : S'.length ≤ 10922) (ht : totC S ≤ 1000000) (ht' : totC S' ≤ 1000000) : Fn Try.prog 27 [refD 61 51 (S), refD 61 51 (S')] (.v (.bool (sameB S S'))) := by
 refine Fn.of Try.func27 rfl (by kernel_rfl) Try.ntmps27 (by simp) (fun w => [(0, old w.heap.size (refD 61 51 (S))), (1, old w.heap.size (refD 61 51 (S')))]) (fun w => (Start.old rfl (Start.old rfl Start.nil))) fun w₀ => ?_
 refine A.nameTl (t := 0) (k := 1000200) rfl fun v hv1 => ?_
 refine A.nameTl (t := 1) (k := 1000201) rfl fun v' hv1' => ?_
 refine GS ?_
 refine TN 0 ?_
 refine RN ?_
 refine ⟨_, _, eff_box (n := 27) (d := 2) (k := 1000002) rfl (by decide), fun b2 hb2 => ?_⟩
 have hBb2 := hb2.1
 refine TN 1 ?_
 refine RN ?_
 refine ⟨_, _, eff_box (n := 27) (d := 3) (k := 1000003) rfl (by decide), fun b3 hb3 => ?_⟩
 have hBb3 := hb3.1
 have hlt_b2_b3 : b2 < b3 := hb3.2 1000002 _ _ _ rfl
 refine TL ?_
 refine RA rfl ?_
 refine RN ?_
 refine A.seq ?_
 refine GS ?_
 refine TL ?_
 refine RS (ok_field field34_0 (by decide) rfl) ?_
 refine RS (OpOk.valO (k := 1000200) (ok_loadV (s := 1000002) (by decide) Try.underlying32 rfl rfl rfl (rfl)) (by decide) rfl) ?_
 refine RS (ok_len Try.underlying32 rfl ((Le.old _ _).trans lstT_lst)) ?_; refine RZ (nI (S.length)) (by rw [List.length_map]) ?_
 refine RS (ok_field field34_0 (by decide) rfl) ?_
 refine RS (OpOk.valO (k := 1000201) (ok_loadV (s := 1000003) (by decide) Try.underlying32 rfl rfl rfl (rfl)) (by decide) rfl) ?_
 refine RS (ok_len Try.underlying32 rfl ((Le.old _ _).trans lstT_lst)) ?_; refine RZ (nI (S'.length)) (by rw [List.length_map]) ?_
 refine RB rfl rfl rfl ?_
 refine RN ?_
 refine A.cond rfl (fun hc12 => ?_) (fun hc12 => ?_)
 ·have hne : S.length ≠ S'.length := by intro h; simp [h] at hc12
  refine GS ?_
  refine TL ?_
  refine RA rfl ?_
  refine RN ?_
  refine A.ret ?_
  refine End.ret_then ?_
  first | exact End.ret1 rfl rfl (Le.v (congrArg Value.bool (sameB_f fun h => hne h.1).symm)) | exact End.ret1 rfl rfl (Le.v (congrArg Value.bool (sameB_f fun h => hd (h.2 i hi)).symm)) | exact End.ret1 rfl rfl (Le.v (congrArg Value.bool (sameB_t ⟨heq, fun j hj => hG.2 j (by omega)⟩).symm))
 ·have heq : S.length = S'.length := by simp at hc12; omega
  refine A.skip ?_
  refine EN ?_
  refine A.seq ?_
  refine GS ?_
  refine TL ?_
  refine RA rfl ?_
  refine RN ?_
  refine A.block ?_
  refine A.loop (ι := Nat) (fun i => i ≤ S.length ∧ ∀ j, j < i → lastC (hisC S j) = lastC (hisC S' j)) (fun i => [(2, .v (ptr b2)), (3, .v (ptr b3)), (5, .v (nI (i))), (1000002, blk b2 34 [v]), (1000003, blk b3 34 [v']), (1000200, old w₀.heap.size (valM v (lstT 61 (S.map (rowT 51))))), (1000201, old w₀.heap.size (valM v' (lstT 61 (S'.map (rowT 51)))))]) (fun i => S.length - i) 0 ?_ ?_ ?_
  ·exact ⟨Nat.zero_le _, fun j h => absurd h (Nat.not_lt_zero _)⟩
  ·exact (KC 2 rfl (KC 3 rfl (KE 5 rfl (by rfl) (KC 1000002 rfl (KC 1000003 rfl (KC 1000200 rfl (KC 1000201 rfl KN)))))))
  intro i hG
  refine A.seq ?_
  refine GS ?_
  refine TL ?_
  refine RM rfl ?_
  refine RS (ok_field field34_0 (by decide) rfl) ?_
  refine RS (OpOk.valO (k := 1000200) (ok_loadV (s := 1000002) (by decide) Try.underlying32 rfl rfl rfl (rfl)) (by decide) rfl) ?_
  refine RS (ok_len Try.underlying32 rfl ((Le.old _ _).trans lstT_lst)) ?_; refine RZ (nI (S.length)) (by rw [List.length_map]) ?_
  refine RB rfl rfl rfl ?_
  refine RN ?_
  refine A.cond rfl (fun hc17 => ?_) (fun hc17 => ?_)
  ·have hi : i < S.length := by simp at hc17; omega
   refine A.skip ?_
   refine EN ?_
   refine A.seq ?_
   refine A.block ?_
   refine GD ?_
   refine TL ?_
   refine RS (OpOk.tlO (k := 1000200) [] (ok_loadA (s := 1000002) (by decide) Try.underlying34 rfl (size34.of (rfl)) rfl rfl) rfl hv1 (by decide) rfl) ?_
   refine RM rfl ?_
   refine RS (ok_call (rLast_fn S hn ht i hi) (Args.cons rfl (Le.old _ _) (Args.cons rfl LA Args.nil))) ?_
   refine RS (OpOk.tlO (k := 1000201) [] (ok_loadA (s := 1000003) (by decide) Try.underlying34 rfl (size34.of (rfl)) rfl rfl) rfl hv1' (by decide) rfl) ?_
   refine RM rfl ?_
   refine RS (ok_call (rLast_fn S' hn' ht' i (by omega)) (Args.cons rfl (Le.old _ _) (Args.cons rfl LA Args.nil))) ?_
   refine RS (ok_neqCV (c := lastC (hisC S i)) (d := lastC (hisC S' i)) Try.underlying51 (by decide) (by decide) rfl rfl Try.underlying4 Try.underlying9 (by kernel_rfl) (by kernel_rfl) rfl rfl) ?_
   refine RN ?_
   refine A.cond rfl (fun hc26 => ?_) (fun hc26 => ?_)
   ·have hd : ¬ lastC (hisC S i) = lastC (hisC S' i) := by simpa using hc26
    refine GS ?_
    refine TL ?_
    refine RA rfl ?_
    refine RN ?_
    refine A.ret ?_
    refine End.ret_block ?_
    refine End.ret_then ?_
    refine End.ret_then ?_
    refine End.ret_block ?_
    refine End.ret_then ?_
    first | exact End.ret1 rfl rfl (Le.v (congrArg Value.bool (sameB_f fun h => hne h.1).symm)) | exact End.ret1 rfl rfl (Le.v (congrArg Value.bool (sameB_f fun h => hd (h.2 i hi)).symm)) | exact End.ret1 rfl rfl (Le.v (congrArg Value.bool (sameB_t ⟨heq, fun j hj => hG.2 j (by omega)⟩).symm))
   ·have hd : lastC (hisC S i) = lastC (hisC S' i) := by simpa using hc26
    refine A.skip ?_
    refine End.normal_block ?_
    refine EN ?_
    refine GE ?_
    refine TL ?_
    refine RM rfl ?_
    refine RBS rfl rfl rfl (nI (i + 1)) (wrap_eq (by omega) (by omega)) ?_
    refine RA rfl ?_
    refine RN ?_
    refine End.normal_then ?_
    refine End.again (i + 1) ?_ ?_ ?_
    ·exact ⟨by omega, fun j hj => (Nat.lt_or_ge j i).elim (hG.2 j) fun h => by rw [show j = i from by omega]; exact hd⟩
    ·show _ - _ < _ - _; omega
    ·exact (KC 2 rfl (KC 3 rfl (KC 5 rfl (KC 1000002 rfl (KC 1000003 rfl (KC 1000200 rfl (KC 1000201 rfl KN)))))))
  ·have hi2 : i = S.length := by have := hG.1; simp at hc17; omega
   refine A.exit ?_
   refine End.exit_then ?_
   refine End.exit_then ?_
   refine End.exit_here ?_
   refine EN ?_
   refine GS ?_
   refine TL ?_
   refine RA rfl ?_
   refine RN ?_
   refine A.ret ?_
   first | exact End.ret1 rfl rfl (Le.v (congrArg Value.bool (sameB_f fun h => hne h.1).symm)) | exact End.ret1 rfl rfl (Le.v (congrArg Value.bool (sameB_f fun h => hd (h.2 i hi)).symm)) | exact End.ret1 rfl rfl (Le.v (congrArg Value.bool (sameB_t ⟨heq, fun j hj => hG.2 j (by omega)⟩).symm))
end Go.Proofs.Ytdhbhcbkhkopbaa
namespace Go.Proofs.Ytdhbhcbkhkopbaa
open Go Go.RowKit
variable {κ : Cx}

theorem vL {k : Nat} (h : Nat.ble vbase k = true) : vbase ≤ k := Nat.le_of_ble_eq_true h
/-! ### Several blocks are written -/
/-- At most the blocks that gs names (each with its cells' type) have changed of what was there. -/
structure WroteL (gs : List (TypeId × Nat)) (w w' : World) : Prop where
  os : w'.os = w.os
  tape : w'.tape = w.tape
  output : w'.output = w.output
  size : w.heap.size ≤ w'.heap.size
  lt : ∀ p ∈ gs, p.2 < w.heap.size
  cel : ∀ p ∈ gs, ∀ o, w.heap[p.2]? = some o → ∃ cs fr, o = .cells cs p.1 fr
  other : ∀ k, k < w.heap.size → (∀ p ∈ gs, k ≠ p.2) → w'.heap[k]? = w.heap[k]?
theorem WroteL.refl {gs : List (TypeId × Nat)} {w : World} (h : ∀ p ∈ gs, p.2 < w.heap.size) (hc : ∀ p ∈ gs, ∀ o, w.heap[p.2]? = some o → ∃ cs fr, o = .cells cs p.1 fr) : WroteL gs w w :=
  ⟨rfl, rfl, rfl, Nat.le_refl _, h, hc, fun _ _ _ => rfl⟩
/-- A fact that survives a write of each of them survives that of all. -/
theorem WroteL.keep {B : Nat} {d : D} : ∀ {gs : List (TypeId × Nat)}, (∀ p ∈ gs, B ≤ p.2) → (∀ p ∈ gs, Surv B p.1 p.2 d) → ∀ {w w' : World} {x : Value}, WroteL gs w w' → d.Of w x → d.Of w' x
  | [], _, _, w, w', x, h, hx => D.Of.grow hx ⟨h.os, h.tape, h.output, h.size, fun k hk => h.other k hk (fun _ hp => by cases hp)⟩
  | p :: gs, hB, hs, w, w', x, h, hx => by
    have hlt := h.lt p List.mem_cons_self
    have hlt' : p.2 < w'.heap.size := Nat.lt_of_lt_of_le hlt h.size
    obtain ⟨wm, e1, e2, e3, e4, hat⟩ : ∃ wm : World, wm.os = w'.os ∧ wm.tape = w'.tape ∧ wm.output = w'.output ∧ wm.heap.size = w'.heap.size ∧ ∀ k, wm.heap[k]? = if k = p.2 then w.heap[k]? else w'.heap[k]? :=
      ⟨{ w' with heap := w'.heap.setIfInBounds p.2 w.heap[p.2] }, rfl, rfl, rfl, by simp, fun k => by
        show (w'.heap.setIfInBounds p.2 w.heap[p.2])[k]? = _
        split
        · rename_i hk; subst hk; simp [hlt', hlt]
        · rename_i hk; exact Array.getElem?_setIfInBounds_ne (fun e => hk e.symm)⟩
    have h1 : WroteL gs w wm := ⟨e1.trans h.os, e2.trans h.tape, e3.trans h.output, by rw [e4]; exact h.size, fun q hq => h.lt q (List.mem_cons_of_mem _ hq), fun q hq => h.cel q (List.mem_cons_of_mem _ hq), fun k hk hne => by
      rw [hat]
      split
      · rfl
      · rename_i hkp
        exact h.other k hk fun q hq => by
          rcases List.mem_cons.1 hq with rfl | hq
          · exact hkp
          · exact hne q hq⟩
    have h2 := WroteL.keep (fun q hq => hB q (List.mem_cons_of_mem _ hq)) (fun q hq => hs q (List.mem_cons_of_mem _ hq)) h1 hx
    refine hs p List.mem_cons_self wm w' x ⟨hB p List.mem_cons_self, e1.symm, e2.symm, e3.symm, Nat.le_of_eq e4, fun o ho => ?_, fun k hk hne => ?_⟩ h2
    · rw [hat, if_pos rfl] at ho
      exact h.cel p List.mem_cons_self o ho
    · rw [hat, if_neg hne]
theorem WroteL.below {gs : List (TypeId × Nat)} {B : Nat} {w w' : World} (h : WroteL gs w w') (hB : ∀ p ∈ gs, B ≤ p.2) (hw : B ≤ w.heap.size) : Below B w w' :=
  ⟨h.os, h.tape, h.output, h.size, fun k hk => h.other k (by omega) fun p hp => by have := hB p hp; omega⟩
theorem WroteL.trans {gs : List (TypeId × Nat)} {a b c : World} (h : WroteL gs a b) (k : WroteL gs b c) : WroteL gs a c :=
  ⟨k.os.trans h.os, k.tape.trans h.tape, k.output.trans h.output, Nat.le_trans h.size k.size, h.lt, h.cel, fun j hj hne => (k.other j (Nat.lt_of_lt_of_le hj h.size) hne).trans (h.other j hj hne)⟩
/-- Since the world w₁ nothing that was there has changed but the blocks that gs names. -/
def wroteL (gs : List (TypeId × Nat)) (w₁ : World) : D :=
  .p (fun B w _ => w₁.heap.size ≤ B ∧ WroteL gs w₁ w) (fun _ _ _ _ h ⟨h1, h2⟩ => ⟨h1, ⟨h.os.trans h2.os, h.tape.trans h2.tape, h.output.trans h2.output, Nat.le_trans h2.size h.size, h2.lt, h2.cel, fun k hk hne => (h.block k (Nat.lt_of_lt_of_le hk h1)).trans (h2.other k hk hne)⟩⟩)
    (fun _ _ _ _ h ⟨h1, h2⟩ => ⟨Nat.le_trans h1 h, h2⟩)
theorem Surv.wroteL {B T g : Nat} {gs : List (TypeId × Nat)} {w₁ : World} (hg : ∃ p ∈ gs, p.2 = g) : Surv B T g (wroteL gs w₁) := fun _ _ _ k ⟨h1, h2⟩ => by
  obtain ⟨p, hp, rfl⟩ := hg
  exact ⟨Nat.le_trans h1 k.size, ⟨k.os.trans h2.os, k.tape.trans h2.tape, k.output.trans h2.output, Nat.le_trans h2.size k.size, h2.lt, h2.cel, fun j hj hne => (k.other j (Nat.lt_of_lt_of_le hj h1) (hne p hp)).trans (h2.other j hj hne)⟩⟩
/-- What is left of the environment behind it. -/
def LeftL (B : Nat) (gs : List (TypeId × Nat)) (E' E : Env) : Prop := ∀ q ∈ E', E.look q.1 = some q.2 ∧ ∀ p ∈ gs, Surv B p.1 p.2 q.2
theorem LeftL.one {B T g : Nat} {E' E : Env} (h : LeftS B T g E' E) : LeftL B [(T, g)] E' E := fun q hq => ⟨(h q hq).1, fun p hp => by
  rcases List.mem_cons.1 hp with rfl | hp
  · exact (h q hq).2
  · cases hp⟩
theorem LeftL.cons {B T g : Nat} {gs : List (TypeId × Nat)} {E' E : Env} (h : LeftS B T g E' E) (hr : LeftL B gs E' E) : LeftL B ((T, g) :: gs) E' E := fun q hq => ⟨(h q hq).1, fun p hp => by
  rcases List.mem_cons.1 hp with rfl | hp
  · exact (h q hq).2
  · exact (hr q hq).2 p hp⟩
theorem LeftL.st {n B : Nat} {gs : List (TypeId × Nat)} {E E' : Env} {a : Act} {w w' : World} (hl : LeftL B gs E' E) (hB : ∀ p ∈ gs, B ≤ p.2) (h : St κ n B E a w) (k : WroteL gs w w') : St κ n B E' a w' :=
  ⟨Nat.le_trans h.base k.size, h.defers, h.size, fun t d hd => by
    obtain ⟨h1, h2⟩ := hl _ (look_mem hd)
    exact k.keep hB h2 (h.of t d h1)⟩

/-- They are there, with cells of the types named. -/
def selfL (gs : List (TypeId × Nat)) : D :=
  .p (fun B w _ => ∀ p ∈ gs, p.2 < B ∧ ∃ cs fr, w.heap[p.2]? = some (.cells cs p.1 fr)) (fun _ _ _ _ g h p hp => ⟨(h p hp).1, by rw [g.block _ (h p hp).1]; exact (h p hp).2⟩) (fun _ _ _ _ g h p hp => ⟨Nat.lt_of_lt_of_le (h p hp).1 g, (h p hp).2⟩)
/-! ### Functions that do so -/
/-- A contract at base B: called with the values us where the memory's facts M hold, it returns u i, leaves the facts M' i, and changes of what was there at most what gs names; of i it is told G (over how much there was). -/
structure FnL (P : Program) (f : FuncId) (B : Nat) (gs : List (TypeId × Nat)) (us : List Value) (M : Env) (G : Nat → Nat → Prop) (u : Nat → Value) (M' : Nat → Env) : Prop where
  body : ∃ fn, P.funcs[f]? = some fn ∧ (fn.name == "runtime.NumGoroutine") = false ∧ fn.body.isNone = false
  calls : ∀ w : World, B ≤ w.heap.size → (∀ p ∈ M, p.2.Of w undef) → WroteL gs w w →
    Calls P f us.toArray w fun e w' => ∃ i, G w.heap.size i ∧ e = .returned (u i) ∧ WroteL gs w w' ∧ ∀ p ∈ M' i, p.2.Of w' undef
def PL (gs : List (TypeId × Nat)) (w₁ : World) (G : Nat → Nat → Prop) (u : Nat → Value) (M' : Nat → Env) : Ending → World → Prop :=
  fun e w' => ∃ i, G w₁.heap.size i ∧ e = .returned (u i) ∧ WroteL gs w₁ w' ∧ ∀ p ∈ M' i, p.2.Of w' undef
theorem FnL.of {P : Program} {n : Nat} {f : FuncId} {fn : Func} {c : Code} {B : Nat} {gs : List (TypeId × Nat)} {us : List Value} {M : Env} {G : Nat → Nat → Prop} {u : Nat → Value} {M' : Nat → Env} {kw ks : Nat}
    (hf : P.funcs[f]? = some fn) (hb : fn.body = some c) (hname : (fn.name == "runtime.NumGoroutine") = false) (hn : fn.ntmps = n) (hds : us.length ≤ n) (hnv : n ≤ vbase) (hMb : ∀ p ∈ M, vbase ≤ p.1) (hkw : vbase ≤ kw) (hks : vbase ≤ ks) (args : Env) (hargs : ∀ p ∈ args, ∃ v, p.2 = .v v ∧ us[p.1]? = some v)
    (h : ∀ w₀ w₁ : World, w₀.heap.size = B → B ≤ w₁.heap.size → A Cx.top P w₀ n c (args ++ ((kw, wroteL gs w₁) :: (ks, selfL gs) :: M)) (BP P fn (PL gs w₁ G u M'))) : FnL P f B gs us M G u M' := by
  refine ⟨⟨fn, hf, hname, by rw [hb]; rfl⟩, fun w hB hM hgs => ?_⟩
  have hsz := cutW_size (w := w) (g := B) hB
  refine callsIn_FR.1 (callsIn_of_wp_marks (F := FR none) (n := 0) hf hb trivial (h (cutW w B) w hsz hB _ w (cutW_below hB) ⟨by rw [hsz]; exact hB, rfl, ?_, fun t e he => ?_⟩))
  · simp [hn]; omega
  · show e.Of w ((us.toArray ++ Array.replicate (fn.ntmps - us.toArray.size) undef).getD t undef)
    have hund : vbase ≤ t → (us.toArray ++ Array.replicate (fn.ntmps - us.toArray.size) undef).getD t undef = undef := fun ht => by
      rw [Array.getD_eq_getD_getElem?, Array.getElem?_eq_none (by simp [hn]; omega)]; rfl
    rcases List.mem_append.1 (look_mem he) with hm | hm
    · obtain ⟨v, h1, h2⟩ := hargs _ hm
      simp only at h1 h2
      have hj : t < us.length := (List.getElem?_eq_some_iff.1 h2).1
      rw [Array.getD_eq_getD_getElem?, Array.getElem?_append_left (by simpa using hj)]
      subst h1
      simp [h2]; rfl
    · rcases List.mem_cons.1 hm with h1 | hm
      · injection h1 with h1 h2; subst h1; subst h2
        exact ⟨Nat.le_refl _, hgs⟩
      · rcases List.mem_cons.1 hm with h1 | hm
        · injection h1 with h1 h2; subst h1; subst h2
          exact fun p hp => ⟨hgs.lt p hp, by
            have h3 := Array.getElem?_eq_getElem (hgs.lt p hp)
            obtain ⟨cs, fr, h4⟩ := hgs.cel p hp _ h3
            exact ⟨cs, fr, by rw [h3, h4]⟩⟩
        · have h1 := hMb _ hm
          rw [hund h1]
          exact hM _ hm
section
variable {P : Program} {n B : Nat} {ops : Array Oper} {E : Env} {ty : TypeId} {pos : String} {after : Array Edge}
/-- The end of such a function. -/
theorem End.wroteL {w₀ w₁ : World} {fn : Func} {gs : List (TypeId × Nat)} {G : Nat → Nat → Prop} {u : Nat → Value} {M' : Nat → Env} {kw : Nat} {x : Exit} (hex : x = .ret ∨ x = .normal) (hw : E.look kw = some (Go.Proofs.Ytdhbhcbkhkopbaa.wroteL gs w₁)) (i : Nat) (hG : G w₁.heap.size i) (hn : n ≤ vbase)
    (hr : ∀ (a : Act) (w : World), St Cx.top n w₀.heap.size E a w → (results fn a.tmps).run P w = .ok (u i) w) (hM : ∀ p ∈ M' i, ∃ k, vbase ≤ k ∧ E.look k = some p.2) : End Cx.top w₀ n E (BP P fn (PL gs w₁ G u M') x) := fun a w _ hs => by
  have key : LeavesInM (FR none) 0 P fn a.tmps (PL gs w₁ G u M') a.defers .returning w := by
    rw [show a.defers = [] from hs.defers]
    refine ⟨u i, hr a w hs, i, hG, rfl, (hs.of kw _ hw).2, fun p hp => ?_⟩
    obtain ⟨k, h2, h3⟩ := hM p hp
    have h4 := hs.of k _ h3
    rwa [show a.tmps.getD k undef = undef from by
      rw [Array.getD_eq_getD_getElem?, Array.getElem?_eq_none (by rw [hs.size]; omega)]; rfl] at h4
  rcases hex with rfl | rfl
  · exact key
  · exact key
end

/-! ### More ends -/
section
variable {P : Program} {n : Nat} {w₀ : World} {E : Env}
end

/-! ### Slices of bytes as arrays -/
section
variable {P : Program} {B : Nat} {E : Env} {dst : Option Tmp} {ty : TypeId} {pos : String} {after : Array Edge} {guard : Option (Nat × Bool)}
end
end Go.Proofs.Ytdhbhcbkhkopbaa
namespace Go.Proofs.Ytdhbhcbkhkopbaa
open Go Go.RowKit
variable {κ : Cx}
/-- Where the rest of a slice of room c lies, k elements behind its head. -/
def cutA (c k : Nat) (A : Option Addr) : Option Addr := if c = k then A else A.map (·.add k)
section
variable {P : Program} {B : Nat} {E : Env} {dst : Option Tmp} {ty : TypeId} {pos : String} {after : Array Edge} {guard : Option (Nat × Bool)}
end
section
variable {P : Program} {n B : Nat} {ops : Array Oper} {E : Env} {ty : TypeId} {pos : String} {after : Array Edge}
end
section
variable {P : Program} {n : Nat} {w₀ : World} {E : Env}
theorem RowIn.take {B : Nat} {w : World} {A : Option Addr} {vs : List Value} (h : RowIn B w A vs) (k : Nat) : RowIn B w A (vs.take k) := fun j u hu => by
  rw [List.getElem?_take] at hu
  split at hu
  · exact h j u hu
  · cases hu
theorem RowIn.drop {B : Nat} {w : World} {A : Option Addr} {vs : List Value} (h : RowIn B w A vs) (k : Nat) : RowIn B w (A.map (·.add k)) (vs.drop k) := fun j u hu => by
  rw [List.getElem?_drop] at hu
  obtain ⟨ad, h1, h2, h3⟩ := h _ u hu
  exact ⟨ad.add k, by rw [h1]; rfl, by rw [block_of_add]; exact h2, by rw [add_of_add]; exact h3⟩
/-- What the two parts of such a slice read as. -/
theorem A.cut {c : Code} {Q : Exit → Act → World → Prop} {k₀ k₁ k₂ B' m len i : Nat} {A₀ : Option Addr} {l : List UInt8} (hk : E.look k₀ = some (old B' (valM (.slice A₀ len m) (byt l)))) (hi : i ≤ len)
    (h : A κ P w₀ n c ((k₁, old B' (valM (.slice A₀ i m) (byt (l.take i)))) :: (k₂, old B' (valM (.slice (cutA m i A₀) (len - i) (m - i)) (byt (l.drop i)))) :: E) Q) : A κ P w₀ n c E Q := fun a w g hs => by
  obtain ⟨hB, m', hb⟩ := hs.of k₀ _ hk
  obtain ⟨A₁, h1, h2, h3, h4⟩ := bytes_open (l := l) hb
  injection h1 with h5 h6 h7
  subst h5; subst h6; subst h7
  have e1 : (bytes (l.take i) m).OfB B' w (.slice A₀ i m) := by
    have := bytes_mk (l := l.take i) (c := m) (A := A₀) (B := B') (w := w) (by simp; omega) h3 (by rw [List.map_take]; exact h4.take i)
    rwa [List.length_take, Nat.min_eq_left hi] at this
  have e2 : (bytes (l.drop i) (m - i)).OfB B' w (.slice (cutA m i A₀) (l.length - i) (m - i)) := by
    have := bytes_mk (l := l.drop i) (c := m - i) (A := cutA m i A₀) (B := B') (w := w) (by simp; omega) (by omega) (by
      rw [List.map_drop, cutA]
      split
      · rw [List.drop_eq_nil_of_le (by simp; omega)]; exact RowIn.nil
      · exact h4.drop i)
    rwa [List.length_drop] at this
  exact h a w g ((hs.push (t := k₂) (d := old B' (valM (.slice (cutA m i A₀) (l.length - i) (m - i)) (byt (l.drop i)))) ⟨hB, _, e2⟩).push (t := k₁) (d := old B' (valM (.slice A₀ i m) (byt (l.take i)))) ⟨hB, _, e1⟩)
end
end Go.Proofs.Ytdhbhcbkhkopbaa
namespace Go.Proofs.Ytdhbhcbkhkopbaa
open Go Go.RowKit
set_option maxRecDepth 100000

/-- c where t holds, else 0. -/
def mask (t : Bool) (c : Nat) : Nat := bif t then c else 0
theorem mask_xor2 (t : Bool) (c d : Nat) : mask t (c ^^^ d) = mask t c ^^^ mask t d := by cases t <;> simp [mask]
theorem xor4 (a b c d : Nat) : (a ^^^ b) ^^^ (c ^^^ d) = (a ^^^ c) ^^^ (b ^^^ d) := by
  rw [Nat.xor_assoc, ← Nat.xor_assoc b, Nat.xor_comm b c, Nat.xor_assoc, Nat.xor_assoc]

/-- A map that keeps sums. -/
def Lin (f : Nat → Nat) : Prop := ∀ x y, f (x ^^^ y) = f x ^^^ f y
theorem Lin.zero {f : Nat → Nat} (h : Lin f) : f 0 = 0 := by
  have := h 0 0
  rwa [Nat.xor_self, Nat.xor_self] at this
theorem Lin.mask {f : Nat → Nat} (h : Lin f) (t : Bool) (c : Nat) : f (mask t c) = Ytdhbhcbkhkopbaa.mask t (f c) := by cases t <;> simp [Ytdhbhcbkhkopbaa.mask, h.zero]
theorem Lin.xor {f g : Nat → Nat} (hf : Lin f) (hg : Lin g) : Lin fun x => f x ^^^ g x := fun x y => by show f _ ^^^ g _ = _; rw [hf, hg, xor4]
theorem Lin.at (t : Bool) {f : Nat → Nat} (hf : Lin f) : Lin fun x => Ytdhbhcbkhkopbaa.mask t (f x) := fun x y => by show Ytdhbhcbkhkopbaa.mask t (f _) = _; rw [hf, mask_xor2]
theorem Lin.none : Lin fun _ => 0 := fun _ _ => (Nat.xor_self 0).symm
theorem Lin.id : Lin fun x => x := fun _ _ => rfl

theorem eight : ∀ a < 256, a = mask (a.testBit 0) 1 ^^^ mask (a.testBit 1) 2 ^^^ mask (a.testBit 2) 4 ^^^ mask (a.testBit 3) 8 ^^^ mask (a.testBit 4) 16 ^^^ mask (a.testBit 5) 32 ^^^ mask (a.testBit 6) 64 ^^^ mask (a.testBit 7) 128 := by decide
theorem Lin.ext {f g : Nat → Nat} (hf : Lin f) (hg : Lin g) (h : ∀ i < 8, f (2 ^ i) = g (2 ^ i)) {a : Nat} (ha : a < 256) : f a = g a := by
  have h0 := h 0 (by decide); have h1 := h 1 (by decide); have h2 := h 2 (by decide); have h3 := h 3 (by decide)
  have h4 := h 4 (by decide); have h5 := h 5 (by decide); have h6 := h 6 (by decide); have h7 := h 7 (by decide)
  simp only [Nat.reducePow] at h0 h1 h2 h3 h4 h5 h6 h7
  rw [eight a ha]
  simp only [hf _ _, hg _ _, hf.mask, hg.mask, h0, h1, h2, h3, h4, h5, h6, h7]

/-- An element times x. -/
def xt (a : Nat) : Nat := (2 * a % 256) ^^^ mask (a.testBit 7) 27
def xts (a : Nat) : Nat → Nat
  | 0 => a
  | k + 1 => xt (xts a k)
/-- The sum of the products with the first k terms of b. -/
def gacc (a b : Nat) : Nat → Nat
  | 0 => 0
  | k + 1 => gacc a b k ^^^ mask (b.testBit k) (xts a k)
/-- The product of two elements. -/
def gm (a b : Nat) : Nat := gacc a b 8

/-! ### Inverses -/
/-- The inverses of all elements. -/
def itab : List UInt8 := [0, 1, 141, 246, 203, 82, 123, 209, 232, 79, 41, 192, 176, 225, 229, 199, 116, 180, 170, 75, 153, 43, 96, 95, 88, 63, 253, 204, 255, 64, 238, 178, 58, 110, 90, 241, 85, 77, 168, 201, 193, 10, 152, 21, 48, 68, 162, 194, 44, 69, 146, 108, 243, 57, 102, 66, 242, 53, 32, 111, 119, 187, 89, 25, 29, 254, 55, 103, 45, 49, 245, 105, 167, 100, 171, 19, 84, 37, 233, 9, 237, 92, 5, 202, 76, 36, 135, 191, 24, 62, 34, 240, 81, 236, 97, 23, 22, 94, 175, 211, 73, 166, 54, 67, 244, 71, 145, 223, 51, 147, 33, 59, 121, 183, 151, 133, 16, 181, 186, 60, 182, 112, 208, 6, 161, 250, 129, 130, 131, 126, 127, 128, 150, 115, 190, 86, 155, 158, 149, 217, 247, 2, 185, 164, 222, 106, 50, 109, 216, 138, 132, 114, 42, 20, 159, 136, 249, 220, 137, 154, 251, 124, 46, 195, 143, 184, 101, 72, 38, 200, 18, 74, 206, 231, 210, 98, 12, 224, 31, 239, 17, 117, 120, 113, 165, 142, 118, 61, 189, 188, 134, 87, 11, 40, 47, 163, 218, 212, 228, 15, 169, 39, 83, 4, 27, 252, 172, 230, 122, 7, 174, 99, 197, 219, 226, 234, 148, 139, 196, 213, 157, 248, 144, 107, 177, 13, 214, 235, 198, 14, 207, 173, 8, 78, 215, 227, 93, 80, 30, 179, 91, 35, 56, 52, 104, 70, 3, 140, 221, 156, 125, 160, 205, 26, 65, 28]
def ginv (a : Nat) : Nat := (itab.getD a 0).toNat
/-! ### Powers -/
/-! ### Substitutes -/
def rotl8 (a k : Nat) : Nat := (a * 2 ^ k % 256) ||| (a / 2 ^ (8 - k))
def subI (b : Nat) : Nat := b ^^^ rotl8 b 1 ^^^ rotl8 b 2 ^^^ rotl8 b 3 ^^^ rotl8 b 4 ^^^ 99
def sub8 (a : Nat) : Nat := subI (ginv a)
/-! ### The powers of 3 -/
/-! ### The product of the definition -/
end Go.Proofs.Ytdhbhcbkhkopbaa
namespace Go.Proofs.Ytdhbhcbkhkopbaa
open Go Go.RowKit
set_option maxRecDepth 100000
set_option linter.unusedVariables false

/-! ### Rows of bytes -/
/-! ### The transformations -/
abbrev Sta := Nat → Nat
/-- The same 16 bytes. -/
def Eq16 (f g : Sta) : Prop := ∀ i < 16, f i = g i
theorem Eq16.refl (f : Sta) : Eq16 f f := fun _ _ => rfl
theorem Eq16.symm {f g : Sta} (h : Eq16 f g) : Eq16 g f := fun i hi => (h i hi).symm
theorem Eq16.trans {f g h : Sta} (a : Eq16 f g) (b : Eq16 g h) : Eq16 f h := fun i hi => (a i hi).trans (b i hi)
def addS (f k : Sta) : Sta := fun i => f i ^^^ k i
def subS (f : Sta) : Sta := fun i => sub8 (f i)
def rotS (f : Sta) : Sta := fun i => f (4 * ((i / 4 + i % 4) % 4) + i % 4)
/-- A byte of a column, behind. -/
def col (a : Nat → Nat) (r : Nat) : Nat := gm 2 (a (r % 4) ^^^ a ((r + 1) % 4)) ^^^ a ((r + 1) % 4) ^^^ a ((r + 2) % 4) ^^^ a ((r + 3) % 4)
def mixS (f : Sta) : Sta := fun i => col (fun r => f (4 * (i / 4) + r)) (i % 4)
/-! ### The cipher -/
/-- A round key of a schedule, whose bytes stand side by side. -/
def keyS (s : Nat → Nat) (k : Nat) : Sta := fun i => s (16 * k + i)
def encR (s : Nat → Nat) (f : Sta) : Nat → Sta
  | 0 => addS f (keyS s 0)
  | r + 1 => addS (mixS (rotS (subS (encR s f r)))) (keyS s (r + 1))
def enc (s : Nat → Nat) (f : Sta) : Sta := addS (rotS (subS (encR s f 9))) (keyS s 10)
section
variable {s : Nat → Nat} {f g : Sta} (hs : ∀ i, s i < 256)
include hs
end
/-! ### The round keys -/
/-! ### The definition's rows and words -/
/-! ### The program's rows on their way -/
/-! ### Examples: the kernel goes through them round by round -/
end Go.Proofs.Ytdhbhcbkhkopbaa
namespace Go.Proofs.Ytdhbhcbkhkopbaa
open Go Go.RowKit
end Go.Proofs.Ytdhbhcbkhkopbaa
namespace Go.Proofs.Ytdhbhcbkhkopbaa
open Go Go.RowKit
set_option linter.unusedVariables false
def zD : List UInt8 := List.replicate 32 0
def recV (x : UInt8) (s c : Nat) (t : List UInt8) : List Value := byteV x :: .int .u32 ((s : Nat) : Int) :: .int .u64 ((c : Nat) : Int) :: t.map byteV
def entV (x : UInt8) (t : List UInt8) : List Value := byteV x :: t.map byteV
def recL (x : UInt8) (s c : Nat) (t : List UInt8) : List UInt8 := x :: (nonceL s c ++ t)
def entL (x : UInt8) (t : List UInt8) : List UInt8 := x :: t
def BadR (x : UInt8) (s c : Nat) (t : List UInt8) : Prop := 2 < x.toNat ∨ (x.toNat = 0 ∧ ¬ (s = 0 ∧ c = 0 ∧ t = zD))
def BadE (x : UInt8) (t : List UInt8) : Prop := 2 < x.toNat ∨ (x.toNat = 0 ∧ ¬ t = zD)
instance {x : UInt8} {s c : Nat} {t : List UInt8} : Decidable (BadR x s c t) := by unfold BadR; infer_instance
instance {x : UInt8} {t : List UInt8} : Decidable (BadE x t) := by unfold BadE; infer_instance
theorem rec_len (x : UInt8) (s c : Nat) {t : List UInt8} (h : t.length = 32) : (recV x s c t).length = 35 := by simp [recV, h]
theorem ent_len (x : UInt8) {t : List UInt8} (h : t.length = 32) : (entV x t).length = 33 := by simp [entV, h]
theorem all_byte (l : List UInt8) : (l.map byteV).all (·.oneCell') = true := by simp [List.all_eq_true, byteV, Value.oneCell']
theorem rec_one (x : UInt8) (s c : Nat) (t : List UInt8) : (recV x s c t).all (·.oneCell') = true := by simp only [recV, List.all_cons, all_byte]; rfl
theorem ent_one (x : UInt8) (t : List UInt8) : (entV x t).all (·.oneCell') = true := by simp only [entV, List.all_cons, all_byte]; rfl
/-! ### The first byte, and all others together -/
def sumL (l : List UInt8) : Nat := (l.map UInt8.toNat).sum
def rest (l : List UInt8) : Nat := sumL (l.drop 1)
end Go.Proofs.Ytdhbhcbkhkopbaa
namespace Go.Proofs.Ytdhbhcbkhkopbaa
open Go Go.RowKit
set_option linter.unusedVariables false
set_option linter.unusedSimpArgs false
variable {κ : Cx}
/-! ### Rows of parts of one size -/
section
variable {α β : Type} {v : α → List β} {k : Nat}
theorem flat_length {L : List α} (h : ∀ a ∈ L, (v a).length = k) : (L.flatMap v).length = L.length * k := by
  induction L with
  | nil => simp
  | cons a L ih =>
    rw [List.flatMap_cons, List.length_append, ih (fun x hx => h x (List.mem_cons_of_mem _ hx)), h a List.mem_cons_self, List.length_cons, Nat.succ_mul, Nat.add_comm]
theorem getD_mem4 {L : List α} (h : L.length = 4) {i : Nat} (hi : i < 4) (z : α) : L.getD i z ∈ L := by
  rw [List.getD_eq_getElem?_getD, List.getElem?_eq_getElem (by omega)]
  exact List.getElem_mem _
end
/-! ### Records and entries as parts -/
structure RecT where
  x : UInt8
  s : Nat
  c : Nat
  t : List UInt8
structure EntT where
  x : UInt8
  t : List UInt8
namespace RecT
def zero : RecT := ⟨0, 0, 0, zD⟩
def v (r : RecT) : List Value := recV r.x r.s r.c r.t
def l (r : RecT) : List UInt8 := recL r.x r.s r.c r.t
structure Fit (r : RecT) : Prop where
  t : r.t.length = 32
  s : r.s < 4294967296
  c : r.c < 18446744073709551616
def Z (r : RecT) : Prop := r.x.toNat = 0 ∧ r.s = 0 ∧ r.c = 0 ∧ r.t = zD
theorem zero_fit : zero.Fit := ⟨rfl, by decide, by decide⟩
theorem Fit.len {r : RecT} (h : r.Fit) : r.v.length = 35 := rec_len _ _ _ h.t
theorem one (r : RecT) : r.v.all (·.oneCell') = true := rec_one _ _ _ _
instance : DecidablePred Z := fun r => by unfold Z; infer_instance
end RecT
namespace EntT
def zero : EntT := ⟨0, zD⟩
def v (r : EntT) : List Value := entV r.x r.t
def l (r : EntT) : List UInt8 := entL r.x r.t
structure Fit (r : EntT) : Prop where
  t : r.t.length = 32
def Z (r : EntT) : Prop := r.x.toNat = 0 ∧ r.t = zD
theorem zero_fit : zero.Fit := ⟨rfl⟩
theorem Fit.len {r : EntT} (h : r.Fit) : r.v.length = 33 := ent_len _ h.t
theorem one (r : EntT) : r.v.all (·.oneCell') = true := ent_one _ _
instance : DecidablePred Z := fun r => by unfold Z; infer_instance
end EntT
abbrev recsV (R : List RecT) : List Value := R.flatMap RecT.v
abbrev entsV (R : List EntT) : List Value := R.flatMap EntT.v
theorem RecT.lens {R : List RecT} (h : ∀ r ∈ R, r.Fit) : ∀ r ∈ R, r.v.length = 35 := fun r hr => (h r hr).len
theorem EntT.lens {R : List EntT} (h : ∀ r ∈ R, r.Fit) : ∀ r ∈ R, r.v.length = 33 := fun r hr => (h r hr).len
theorem RecT.all1 (R : List RecT) : (recsV R).all (·.oneCell') = true := by
  rw [List.all_flatMap]; simp only [List.all_eq_true]; exact fun r _ => List.all_eq_true.1 r.one
theorem EntT.all1 (R : List EntT) : (entsV R).all (·.oneCell') = true := by
  rw [List.all_flatMap]; simp only [List.all_eq_true]; exact fun r _ => List.all_eq_true.1 r.one
/-! ### Nodes -/
structure NodT where
  l : UInt8
  j : Nat
  R : List RecT
  E : List EntT
def nodV (l : UInt8) (j : Nat) (R : List RecT) (E : List EntT) : List Value := [byteV l, .int .u32 ((j : Nat) : Int)] ++ (recsV R ++ entsV E)
namespace NodT
def v (x : NodT) : List Value := nodV x.l x.j x.R x.E
def r (x : NodT) (i : Nat) : RecT := x.R.getD i RecT.zero
def e (x : NodT) (i : Nat) : EntT := x.E.getD i EntT.zero
structure Fit (x : NodT) : Prop where
  j : x.j < 4294967296
  lr : x.R.length = 4
  le : x.E.length = 4
  fr : ∀ r ∈ x.R, r.Fit
  fe : ∀ r ∈ x.E, r.Fit
section
variable {x : NodT}
theorem Fit.r (h : x.Fit) (i : Nat) : (x.r i).Fit := by
  unfold NodT.r
  by_cases hi : i < 4
  · exact h.fr _ (getD_mem4 h.lr hi _)
  · rw [List.getD_eq_getElem?_getD, List.getElem?_eq_none (by have := h.lr; omega)]; exact RecT.zero_fit
theorem Fit.e (h : x.Fit) (i : Nat) : (x.e i).Fit := by
  unfold NodT.e
  by_cases hi : i < 4
  · exact h.fe _ (getD_mem4 h.le hi _)
  · rw [List.getD_eq_getElem?_getD, List.getElem?_eq_none (by have := h.le; omega)]; exact EntT.zero_fit
theorem Fit.lenR (h : x.Fit) : (recsV x.R).length = 140 := by rw [recsV, flat_length (RecT.lens h.fr), h.lr]
theorem Fit.lenE (h : x.Fit) : (entsV x.E).length = 132 := by rw [entsV, flat_length (EntT.lens h.fe), h.le]
theorem Fit.len (h : x.Fit) : x.v.length = 274 := by unfold NodT.v nodV; rw [List.length_append, List.length_append, h.lenR, h.lenE]; rfl
theorem one (x : NodT) : x.v.all (·.oneCell') = true := by
  unfold NodT.v nodV
  rw [List.all_append, List.all_append, RecT.all1, EntT.all1]; rfl
end
/-! The error of a node. -/
/-! The bytes of a node. -/
def sz (n : Nat) : Nat := if n = 0 then 185 else 137
end NodT
/-! ### Bytes written so far -/
/-! ### Numbers -/
/-! ### Contracts that read tables, whose result is told over the heap's size at the call -/
structure FnMB (P : Program) (f : FuncId) (M : Env) (ds : List D) (d : Nat → D) : Prop where
  body : ∃ fn, P.funcs[f]? = some fn ∧ (fn.name == "runtime.NumGoroutine") = false ∧ fn.body.isNone = false
  calls : ∀ (vs : List Value) (w : World), (∀ p ∈ M, p.2.Of w undef) → vs.length = ds.length → (∀ (j : Nat) (e : D) (u : Value), ds[j]? = some e → vs[j]? = some u → e.Of w u) → Calls P f vs.toArray w (PostOf w (d w.heap.size))
theorem FnMB.fn {P : Program} {f : FuncId} {M : Env} {ds : List D} {d : Nat → D} {d' : D} (h : FnMB P f M ds d) (hd : ∀ B, Le (d B) d') : FnM P f M ds d' :=
  ⟨h.body, fun vs w h0 h1 h2 => (h.calls vs w h0 h1 h2).mono fun _ _ ⟨x, he, g, hx⟩ => ⟨x, he, g, (hd _).of hx⟩⟩
theorem FnMB.of {P : Program} {n : Nat} {f : FuncId} {fn : Func} {c : Code} {M : Env} {ds : List D} {d : Nat → D} (hf : P.funcs[f]? = some fn) (hb : fn.body = some c) (hname : (fn.name == "runtime.NumGoroutine") = false) (hn : fn.ntmps = n) (hds : ds.length ≤ n) (hnv : n ≤ vbase) (E : World → Env)
    (hE : ∀ w, StartM w.heap.size ds M (E w)) (h : ∀ w₀, (∀ p ∈ M, p.2.Of w₀ undef) → A Cx.top P w₀ n c (E w₀) (BP P fn (PostOf w₀ (d w₀.heap.size)))) : FnMB P f M ds d := by
  refine ⟨⟨fn, hf, hname, by rw [hb]; rfl⟩, fun vs w hM hl hv => callsIn_FR.1 (callsIn_of_wp_marks (F := FR none) (n := 0) hf hb trivial (h w hM _ w (Below.refl _ _) ⟨Nat.le_refl _, rfl, ?_, fun t e he => ?_⟩))⟩
  · simp [hl, hn]; omega
  · show e.Of w ((vs.toArray ++ Array.replicate (fn.ntmps - vs.toArray.size) undef).getD t undef)
    rcases hE w _ (look_mem he) with ⟨hm, ht⟩ | ⟨d', hd', hor⟩
    · have h1 := hM _ hm
      rwa [Array.getD_eq_getD_getElem?, Array.getElem?_eq_none (by simp [hl, hn]; simp only at ht; omega)]
    · have hlt : t < vs.length := by have := (List.getElem?_eq_some_iff.1 hd').1; simp at this; omega
      have hget : (vs.toArray ++ Array.replicate (fn.ntmps - vs.toArray.size) undef).getD t undef = vs[t] := by
        rw [Array.getD_eq_getD_getElem?, Array.getElem?_append_left (by simpa using hlt)]
        simp [hlt]
      rw [hget]
      have h1 := hv t d' vs[t] hd' (List.getElem?_eq_getElem hlt)
      rcases hor with h2 | h2
      · simp only at h2; rw [h2]; exact h1
      · simp only at h2; rw [h2]; exact ⟨Nat.le_refl _, h1⟩
section
variable {P : Program} {B : Nat} {E : Env} {dst : Option Tmp} {ty : TypeId} {pos : String} {after : Array Edge} {guard : Option (Nat × Bool)}
end
/-! ### Variables of a function that writes several blocks -/
section
variable {P : Program} {n B : Nat} {ops : Array Oper} {E : Env} {ty : TypeId} {pos : String} {after : Array Edge}
end
/-! ### A drawn region whose operations may come up late, at a function's end -/
section
variable {P : Program} {n B : Nat} {ops : Array Oper} {Q : Exit → Act → World → Prop}
theorem A.regL0 {w₀ : World} {E : Env} {id : Nat} (p : Nat) (late : List Nat) (hm : P.follows .mixedOrders = true) (hf : fits n ops = true) (htied : tied ops = true) (hlate : lateOk ops p late = true) (Z : Env)
    (h : RunK P w₀.heap.size ops (ops.toList.take p) E (fun E₁ => ∀ S ∈ subs late, ∃ m, LateT P n w₀.heap.size ops (fun E₃ => SubL Z E₃) p m S E₁)) (hz : End κ w₀ n Z (Q .normal)) : A κ P w₀ n (.region id ops true) E Q := fun a w hg hst => by
  obtain ⟨E₁, hr, hC⟩ := h
  obtain ⟨ds, ht⟩ := hr.trace
  have hd : Below w₀.heap.size w w.drew := (Below.refl _ w).drew
  have hst0 : St κ n w₀.heap.size E a w.drew := hst.grow (Grow.refl w).drew
  refine wpIn_region_any hm (wp_segL htied hf hlate ht hst0 (fun S hS fuel a' w' hfu g h' => ?_) _ _ a w.drew ?_ (start_inv (Nat.zero_le _) htied (by simp) (fun i hi => by simp [hi]) hst0))
  · obtain ⟨m, hmu, E₀, hsub, hkeep, o, ho, E₂, he, hn⟩ := hC S hS
    have h0 : St κ n w₀.heap.size E₀ a' w' := ⟨h'.base, h'.defers, h'.size, fun t e he => by
      have hm := look_mem he
      exact h'.of t e (look_without (List.all_eq_true.1 hkeep t (List.mem_map.2 ⟨_, hm, rfl⟩)) (hsub _ hm))⟩
    refine wpOpR_step ho fun K hK => he κ a' w' K _ h0 fun a'' w'' g' h'' => hK _ _ (wp_anyE (hn.mono (k := fuel) (by omega)) h'' fun E3 a3 w3 hC3 g3 h3 => ?_)
    exact hz a3 w3 (Below.trans hg (Below.trans hd (Below.trans (Below.mono g hst.base) (Below.trans g' g3)))) (h3.subL hC3)
  · refine Nat.le_trans List.countP_le_length ?_
    simp
end
end Go.Proofs.Ytdhbhcbkhkopbaa
namespace Go.Proofs.Ytdhbhcbkhkopbaa
open Go Go.RowKit
set_option linter.unusedVariables false
set_option maxRecDepth 20000
set_option linter.unusedSimpArgs false

theorem size24 : SizeIs Try.prog 24 2 := by unfold SizeIs; kernel_rfl
theorem field24_0 : FieldIs Try.prog 24 0 0 1 := by unfold FieldIs; kernel_rfl
theorem field24_1 : FieldIs Try.prog 24 1 1 1 := by unfold FieldIs; kernel_rfl
theorem size39 : SizeIs Try.prog 39 4 := by unfold SizeIs; kernel_rfl
theorem field39_0 : FieldIs Try.prog 39 0 0 1 := by unfold FieldIs; kernel_rfl
theorem field39_1 : FieldIs Try.prog 39 1 1 1 := by unfold FieldIs; kernel_rfl
theorem field39_2 : FieldIs Try.prog 39 2 2 1 := by unfold FieldIs; kernel_rfl
theorem field39_3 : FieldIs Try.prog 39 3 3 1 := by unfold FieldIs; kernel_rfl
theorem tmodN (a b : Nat) : Value.int .i64 ((a : Int).tmod (b : Int)) = nI (a % b) := by
 rw [Int.tmod_eq_emod_of_nonneg (Int.natCast_nonneg _), ← Int.natCast_emod]
theorem remU8 (a k : Nat) (hk : 0 < k) : Value.int .u8 ((a : Int).tmod (k : Int)) = nB (a % k) := by
 rw [Int.tmod_eq_emod_of_nonneg (Int.natCast_nonneg _), ← Int.natCast_emod]
theorem buildV (a : Bool) (s : ByteArray) : Try.prog.built 51 [(0, .bool a), (1, .string s)] = some ([.bool a, .string s] : List Value).toArray := by kernel_rfl

theorem xSize_fn (z : UInt8) (L : List OpT)  : Fn Try.prog 10 [xD z L] (.v (nI (nOf z))) := by
 have hz := z.toNat_lt
 refine Fn.of Try.func10 rfl (by kernel_rfl) Try.ntmps10 (by simp) (fun w => [(0, old w.heap.size (xD z L))]) (fun w => (Start.old rfl Start.nil)) fun w₀ => ?_
 refine A.nameTl (t := 0) (k := 1000200) rfl fun v hv1 => ?_
 refine GS ?_
 refine TN 0 ?_
 refine RN ?_
 refine ⟨_, _, eff_box (n := 8) (d := 1) (k := 1000001) rfl (by decide), fun b1 hb1 => ?_⟩
 have hBb1 := hb1.1
 refine TL ?_
 refine RA rfl ?_
 refine RN ?_
 refine GS ?_
 refine TL ?_
 refine RS (ok_field field24_0 (by decide) rfl) ?_
 refine RS (ok_loadV (s := 1000001) (by decide) Try.underlying5 rfl rfl rfl (rfl)) ?_
 refine RS (ok_conv Try.underlying5 Try.underlying3 rfl) ?_; refine RZ (nI (z.toNat)) (wrap_eq (by omega) (by omega)) ?_
 refine RS (ok_rem rfl rfl (by decide)) ?_; refine RZ (nI ((z.toNat) % 130)) (by rw [tmod_lit _ (by decide)]; rfl) ?_
 refine RBS rfl rfl rfl (nI (nOf z)) (wrap_eq (by unfold nOf; omega) (by unfold nOf; omega)) ?_
 refine RA rfl ?_
 refine RN ?_
 refine A.ret ?_
 exact End.ret1 rfl rfl (by first | exact Le.refl _ | exact Le.old _ _)
set_option maxHeartbeats 1000000 in
theorem ref_w (o : OpT) (S : Dk) (hS : 0 < S.length) (hn : S.length ≤ 10922) (ht : totC S ≤ 1000) (h0 : o.k.toNat % 3 = 0) (hl : ¬ 256 < o.l.length) : Fn Try.prog 14 [opD o, refD 61 51 (S)] (tup [refD 61 51 (putC S (opAt o S.length) (some o.l)), .v (.int .i64 0)]) := by
 have hs := o.s.toNat_lt
 have hb := o.b.toNat_lt
 have hk : opAt o S.length < S.length := Nat.mod_lt _ hS
 have hle := his_le S (opAt o S.length)
 refine Fn.of Try.func14 rfl (by kernel_rfl) Try.ntmps14 (by simp) (fun w => [(0, old w.heap.size (opD o)), (1, old w.heap.size (refD 61 51 (S)))]) (fun w => (Start.old rfl (Start.old rfl Start.nil))) fun w₀ => ?_
 refine A.nameTl (t := 0) (k := 1000200) rfl fun v hv1 => ?_
 refine A.nameTl (t := 1) (k := 1000201) rfl fun v' hv'1 => ?_
 refine GS ?_
 refine TN 0 ?_
 refine RN ?_
 refine ⟨_, _, eff_box (n := 56) (d := 2) (k := 1000002) rfl (by decide), fun b2 hb2 => ?_⟩
 have hBb2 := hb2.1
 refine TN 1 ?_
 refine RN ?_
 refine ⟨_, _, eff_box (n := 56) (d := 3) (k := 1000003) rfl (by decide), fun b3 hb3 => ?_⟩
 have hBb3 := hb3.1
 refine TN 2 ?_
 refine RN ?_
 refine ⟨_, _, eff_alloc (n := 56) (d := 4) (k := 1000004) zero34 (by decide), fun b4 hb4 => ?_⟩
 have hBb4 := hb4.1
 have hlt_b3_b4 : b3 < b4 := hb4.2 1000003 _ _ _ rfl
 refine TL ?_
 refine RA rfl ?_
 refine RN ?_
 refine GS ?_
 refine TL ?_
 refine RS (ok_field field39_1 (by decide) rfl) ?_
 refine RS (ok_loadV (s := 1000002) (by decide) Try.underlying5 rfl rfl rfl (rfl)) ?_
 refine RS (ok_conv Try.underlying5 Try.underlying3 rfl) ?_; refine RZ (nI (o.s.toNat)) (wrap_eq (by omega) (by omega)) ?_
 refine RS (ok_field field34_0 (by decide) rfl) ?_
 refine RS (OpOk.valO (k := 1000201) (ok_loadV (s := 1000003) (by decide) Try.underlying32 rfl rfl rfl (rfl)) (by decide) rfl) ?_
 refine RS (ok_len Try.underlying32 rfl ((Le.old _ _).trans lstT_lst)) ?_; refine RZ (nI (S.length)) (by rw [List.length_map]) ?_
 refine RS (ok_rem rfl rfl (by omega)) ?_; refine RZ (nI (opAt o S.length)) (tmodN _ _) ?_
 refine RA rfl ?_
 refine RN ?_
 refine A.seq ?_
 refine GS ?_
 refine TL ?_
 refine RS (ok_field field39_0 (by decide) rfl) ?_
 refine RS (ok_loadV (s := 1000002) (by decide) Try.underlying5 rfl rfl rfl (rfl)) ?_
 refine RS (ok_rem rfl rfl (by decide)) ?_; refine RZ (nB (o.k.toNat % 3)) (remU8 _ 3 (by decide)) ?_
 refine RN ?_
 refine A.block ?_
 refine GS ?_
 refine TL ?_
 refine RBS rfl rfl rfl (.bool true) (congrArg Value.bool (decide_eq_true (by omega))) ?_
 refine RA rfl ?_
 refine RN ?_
 refine A.yes rfl ?_
 refine A.seq ?_
 refine GS ?_
 refine TL ?_
 refine RS (ok_field field39_3 (by decide) rfl) ?_
 refine RS (OpOk.valO (k := 1000200) (ok_loadV (s := 1000002) (by decide) Try.underlying37 rfl rfl rfl (rfl)) (by decide) rfl) ?_
 refine RS (ok_lenB Try.underlying37 rfl (Le.old _ _)) ?_
 refine RBS rfl rfl rfl (.bool false) (congrArg Value.bool (decide_eq_false (by omega))) ?_
 refine RN ?_
 refine A.no rfl ?_
 refine A.skip ?_
 refine EN ?_
 refine GS ?_
 refine TF 7 ?_
 refine RS (OpOk.tlO (k := 1000201) [] (ok_loadA (s := 1000003) (by decide) Try.underlying34 rfl (size34.of (rfl)) rfl rfl) rfl hv'1 (by decide) rfl) ?_
 refine RM rfl ?_
 refine RS (ok_field field39_3 (by decide) rfl) ?_
 refine RS (OpOk.valO (k := 1000200) (ok_loadV (s := 1000002) (by decide) Try.underlying37 rfl rfl rfl (rfl)) (by decide) rfl) ?_
 refine RS (ok_str (l := o.l) Try.underlying37 Try.underlying5 Try.underlying9 rfl (Le.old _ _)) ?_
 refine RS (ok_litS [(0, .bool true), (1, .string ⟨o.l.toArray⟩)] (cV (some o.l)) ⟨rfl, rfl, rfl, rfl, trivial⟩ (buildV _ _)) ?_
 refine RS (ok_call (rWith_fn S hn (by omega) (opAt o S.length) hk (some o.l)) (Args.cons rfl (Le.old _ _) (Args.cons rfl LA (Args.cons rfl LA Args.nil)))) ?_
 refine RN ?_
 refine ⟨_, eff_storeK (n := 56) (s := 1000004) size34 rfl rfl (Le.refl _) (Agg.ref) hBb4 rfl (rfl) (Surv.ref (by decide) (by decide)) (LV 4 rfl (LT 1000002 rfl (LB 1000003 rfl (LO 1000200 rfl (LO 1000201 rfl LN))))), ?_⟩
 refine TL ?_
 refine RA rfl ?_
 refine RN ?_
 refine A.sub (KC 4 rfl (KC 5 rfl (KC 1000002 rfl (KC 1000003 rfl (KC 1000004 rfl (KC 1000200 rfl (KC 1000201 rfl KN))))))) ?_
 refine A.ret ?_
 refine End.ret_block ?_
 refine End.ret_then ?_
 exact End.varK2 (s := 1000004) rfl Try.underlying34 rfl size34 rfl rfl (by first | exact Le.refl _ | exact Le.old _ _) rfl (by first | exact Le.refl _ | exact Le.old _ _)
set_option maxHeartbeats 1000000 in
theorem ref_big (o : OpT) (S : Dk) (hS : 0 < S.length) (hn : S.length ≤ 10922) (ht : totC S ≤ 1000) (h0 : o.k.toNat % 3 = 0) (hl : 256 < o.l.length) : Fn Try.prog 14 [opD o, refD 61 51 (S)] (tup [refD 61 51 (S), .v (.int .i64 3)]) := by
 have hs := o.s.toNat_lt
 have hb := o.b.toNat_lt
 have hk : opAt o S.length < S.length := Nat.mod_lt _ hS
 have hle := his_le S (opAt o S.length)
 refine Fn.of Try.func14 rfl (by kernel_rfl) Try.ntmps14 (by simp) (fun w => [(0, old w.heap.size (opD o)), (1, old w.heap.size (refD 61 51 (S)))]) (fun w => (Start.old rfl (Start.old rfl Start.nil))) fun w₀ => ?_
 refine A.nameTl (t := 0) (k := 1000200) rfl fun v hv1 => ?_
 refine A.nameTl (t := 1) (k := 1000201) rfl fun v' hv'1 => ?_
 refine GS ?_
 refine TN 0 ?_
 refine RN ?_
 refine ⟨_, _, eff_box (n := 56) (d := 2) (k := 1000002) rfl (by decide), fun b2 hb2 => ?_⟩
 have hBb2 := hb2.1
 refine TN 1 ?_
 refine RN ?_
 refine ⟨_, _, eff_box (n := 56) (d := 3) (k := 1000003) rfl (by decide), fun b3 hb3 => ?_⟩
 have hBb3 := hb3.1
 refine TN 2 ?_
 refine RN ?_
 refine ⟨_, _, eff_alloc (n := 56) (d := 4) (k := 1000004) zero34 (by decide), fun b4 hb4 => ?_⟩
 have hBb4 := hb4.1
 have hlt_b3_b4 : b3 < b4 := hb4.2 1000003 _ _ _ rfl
 refine TL ?_
 refine RA rfl ?_
 refine RN ?_
 refine GS ?_
 refine TL ?_
 refine RS (ok_field field39_1 (by decide) rfl) ?_
 refine RS (ok_loadV (s := 1000002) (by decide) Try.underlying5 rfl rfl rfl (rfl)) ?_
 refine RS (ok_conv Try.underlying5 Try.underlying3 rfl) ?_; refine RZ (nI (o.s.toNat)) (wrap_eq (by omega) (by omega)) ?_
 refine RS (ok_field field34_0 (by decide) rfl) ?_
 refine RS (OpOk.valO (k := 1000201) (ok_loadV (s := 1000003) (by decide) Try.underlying32 rfl rfl rfl (rfl)) (by decide) rfl) ?_
 refine RS (ok_len Try.underlying32 rfl ((Le.old _ _).trans lstT_lst)) ?_; refine RZ (nI (S.length)) (by rw [List.length_map]) ?_
 refine RS (ok_rem rfl rfl (by omega)) ?_; refine RZ (nI (opAt o S.length)) (tmodN _ _) ?_
 refine RA rfl ?_
 refine RN ?_
 refine A.seq ?_
 refine GS ?_
 refine TL ?_
 refine RS (ok_field field39_0 (by decide) rfl) ?_
 refine RS (ok_loadV (s := 1000002) (by decide) Try.underlying5 rfl rfl rfl (rfl)) ?_
 refine RS (ok_rem rfl rfl (by decide)) ?_; refine RZ (nB (o.k.toNat % 3)) (remU8 _ 3 (by decide)) ?_
 refine RN ?_
 refine A.block ?_
 refine GS ?_
 refine TL ?_
 refine RBS rfl rfl rfl (.bool true) (congrArg Value.bool (decide_eq_true (by omega))) ?_
 refine RA rfl ?_
 refine RN ?_
 refine A.yes rfl ?_
 refine A.seq ?_
 refine GS ?_
 refine TL ?_
 refine RS (ok_field field39_3 (by decide) rfl) ?_
 refine RS (OpOk.valO (k := 1000200) (ok_loadV (s := 1000002) (by decide) Try.underlying37 rfl rfl rfl (rfl)) (by decide) rfl) ?_
 refine RS (ok_lenB Try.underlying37 rfl (Le.old _ _)) ?_
 refine RBS rfl rfl rfl (.bool true) (congrArg Value.bool (decide_eq_true (by omega))) ?_
 refine RN ?_
 refine A.yes rfl ?_
 refine GS ?_
 refine TF 1 ?_
 refine RS (OpOk.tlO (k := 1000201) [] (ok_loadA (s := 1000003) (by decide) Try.underlying34 rfl (size34.of (rfl)) rfl rfl) rfl hv'1 (by decide) rfl) ?_
 refine RN ?_
 refine ⟨_, eff_storeK (n := 56) (s := 1000004) size34 rfl rfl (Le.old _ _) (Agg.ref) hBb4 rfl (rfl) (Surv.ref (by decide) (by decide)) (LV 4 rfl (LT 1000002 rfl (LB 1000003 rfl (LO 1000200 rfl (LO 1000201 rfl LN))))), ?_⟩
 refine TL ?_
 refine RA rfl ?_
 refine RN ?_
 refine A.ret ?_
 refine End.ret_then ?_
 refine End.ret_block ?_
 refine End.ret_then ?_
 exact End.varK2 (s := 1000004) rfl Try.underlying34 rfl size34 rfl rfl (by first | exact Le.refl _ | exact Le.old _ _) rfl (by first | exact Le.refl _ | exact Le.old _ _)
set_option maxHeartbeats 1000000 in
theorem ref_e (o : OpT) (S : Dk) (hS : 0 < S.length) (hn : S.length ≤ 10922) (ht : totC S ≤ 1000) (h0 : ¬ o.k.toNat % 3 = 0) (h1 : o.k.toNat % 3 = 1)  : Fn Try.prog 14 [opD o, refD 61 51 (S)] (tup [refD 61 51 (putC S (opAt o S.length) none), .v (.int .i64 0)]) := by
 have hs := o.s.toNat_lt
 have hb := o.b.toNat_lt
 have hk : opAt o S.length < S.length := Nat.mod_lt _ hS
 have hle := his_le S (opAt o S.length)
 refine Fn.of Try.func14 rfl (by kernel_rfl) Try.ntmps14 (by simp) (fun w => [(0, old w.heap.size (opD o)), (1, old w.heap.size (refD 61 51 (S)))]) (fun w => (Start.old rfl (Start.old rfl Start.nil))) fun w₀ => ?_
 refine A.nameTl (t := 0) (k := 1000200) rfl fun v hv1 => ?_
 refine A.nameTl (t := 1) (k := 1000201) rfl fun v' hv'1 => ?_
 refine GS ?_
 refine TN 0 ?_
 refine RN ?_
 refine ⟨_, _, eff_box (n := 56) (d := 2) (k := 1000002) rfl (by decide), fun b2 hb2 => ?_⟩
 have hBb2 := hb2.1
 refine TN 1 ?_
 refine RN ?_
 refine ⟨_, _, eff_box (n := 56) (d := 3) (k := 1000003) rfl (by decide), fun b3 hb3 => ?_⟩
 have hBb3 := hb3.1
 refine TN 2 ?_
 refine RN ?_
 refine ⟨_, _, eff_alloc (n := 56) (d := 4) (k := 1000004) zero34 (by decide), fun b4 hb4 => ?_⟩
 have hBb4 := hb4.1
 have hlt_b3_b4 : b3 < b4 := hb4.2 1000003 _ _ _ rfl
 refine TL ?_
 refine RA rfl ?_
 refine RN ?_
 refine GS ?_
 refine TL ?_
 refine RS (ok_field field39_1 (by decide) rfl) ?_
 refine RS (ok_loadV (s := 1000002) (by decide) Try.underlying5 rfl rfl rfl (rfl)) ?_
 refine RS (ok_conv Try.underlying5 Try.underlying3 rfl) ?_; refine RZ (nI (o.s.toNat)) (wrap_eq (by omega) (by omega)) ?_
 refine RS (ok_field field34_0 (by decide) rfl) ?_
 refine RS (OpOk.valO (k := 1000201) (ok_loadV (s := 1000003) (by decide) Try.underlying32 rfl rfl rfl (rfl)) (by decide) rfl) ?_
 refine RS (ok_len Try.underlying32 rfl ((Le.old _ _).trans lstT_lst)) ?_; refine RZ (nI (S.length)) (by rw [List.length_map]) ?_
 refine RS (ok_rem rfl rfl (by omega)) ?_; refine RZ (nI (opAt o S.length)) (tmodN _ _) ?_
 refine RA rfl ?_
 refine RN ?_
 refine A.seq ?_
 refine GS ?_
 refine TL ?_
 refine RS (ok_field field39_0 (by decide) rfl) ?_
 refine RS (ok_loadV (s := 1000002) (by decide) Try.underlying5 rfl rfl rfl (rfl)) ?_
 refine RS (ok_rem rfl rfl (by decide)) ?_; refine RZ (nB (o.k.toNat % 3)) (remU8 _ 3 (by decide)) ?_
 refine RN ?_
 refine A.block ?_
 refine GS ?_
 refine TL ?_
 refine RBS rfl rfl rfl (.bool false) (congrArg Value.bool (decide_eq_false (by omega))) ?_
 refine RA rfl ?_
 refine RN ?_
 refine A.no rfl ?_
 refine GS ?_
 refine TL ?_
 refine RBS rfl rfl rfl (.bool true) (congrArg Value.bool (decide_eq_true (by omega))) ?_
 refine RA rfl ?_
 refine RN ?_
 refine A.yes rfl ?_
 refine GS ?_
 refine TF 4 ?_
 refine RS (OpOk.tlO (k := 1000201) [] (ok_loadA (s := 1000003) (by decide) Try.underlying34 rfl (size34.of (rfl)) rfl rfl) rfl hv'1 (by decide) rfl) ?_
 refine RM rfl ?_
 refine RS (ok_lit [] ([.bool false] ++ [.string ⟨#[]⟩]) (fun _ _ => rfl) (by kernel_rfl)) ?_
 refine RS (ok_call (rWith_fn S hn (by omega) (opAt o S.length) hk none) (Args.cons rfl (Le.old _ _) (Args.cons rfl LA (Args.cons rfl LA Args.nil)))) ?_
 refine RN ?_
 refine ⟨_, eff_storeK (n := 56) (s := 1000004) size34 rfl rfl (Le.refl _) (Agg.ref) hBb4 rfl (rfl) (Surv.ref (by decide) (by decide)) (LV 4 rfl (LT 1000002 rfl (LB 1000003 rfl (LO 1000200 rfl (LO 1000201 rfl LN))))), ?_⟩
 refine TL ?_
 refine RA rfl ?_
 refine RN ?_
 refine A.sub (KC 4 rfl (KC 5 rfl (KC 1000002 rfl (KC 1000003 rfl (KC 1000004 rfl (KC 1000200 rfl (KC 1000201 rfl KN))))))) ?_
 refine A.ret ?_
 refine End.ret_block ?_
 refine End.ret_then ?_
 exact End.varK2 (s := 1000004) rfl Try.underlying34 rfl size34 rfl rfl (by first | exact Le.refl _ | exact Le.old _ _) rfl (by first | exact Le.refl _ | exact Le.old _ _)
set_option maxHeartbeats 1000000 in
theorem ref_r (o : OpT) (S : Dk) (hS : 0 < S.length) (hn : S.length ≤ 10922) (ht : totC S ≤ 1000) (h0 : ¬ o.k.toNat % 3 = 0) (h1 : ¬ o.k.toNat % 3 = 1) (hm : o.b.toNat % 8 ≤ (hisC S (opAt o S.length)).length) : Fn Try.prog 14 [opD o, refD 61 51 (S)] (tup [refD 61 51 (putC S (opAt o S.length) (lastC ((hisC S (opAt o S.length)).drop (o.b.toNat % 8)))), .v (.int .i64 0)]) := by
 have hs := o.s.toNat_lt
 have hb := o.b.toNat_lt
 have hk : opAt o S.length < S.length := Nat.mod_lt _ hS
 have hle := his_le S (opAt o S.length)
 refine Fn.of Try.func14 rfl (by kernel_rfl) Try.ntmps14 (by simp) (fun w => [(0, old w.heap.size (opD o)), (1, old w.heap.size (refD 61 51 (S)))]) (fun w => (Start.old rfl (Start.old rfl Start.nil))) fun w₀ => ?_
 refine A.nameTl (t := 0) (k := 1000200) rfl fun v hv1 => ?_
 refine A.nameTl (t := 1) (k := 1000201) rfl fun v' hv'1 => ?_
 refine GS ?_
 refine TN 0 ?_
 refine RN ?_
 refine ⟨_, _, eff_box (n := 56) (d := 2) (k := 1000002) rfl (by decide), fun b2 hb2 => ?_⟩
 have hBb2 := hb2.1
 refine TN 1 ?_
 refine RN ?_
 refine ⟨_, _, eff_box (n := 56) (d := 3) (k := 1000003) rfl (by decide), fun b3 hb3 => ?_⟩
 have hBb3 := hb3.1
 refine TN 2 ?_
 refine RN ?_
 refine ⟨_, _, eff_alloc (n := 56) (d := 4) (k := 1000004) zero34 (by decide), fun b4 hb4 => ?_⟩
 have hBb4 := hb4.1
 have hlt_b3_b4 : b3 < b4 := hb4.2 1000003 _ _ _ rfl
 refine TL ?_
 refine RA rfl ?_
 refine RN ?_
 refine GS ?_
 refine TL ?_
 refine RS (ok_field field39_1 (by decide) rfl) ?_
 refine RS (ok_loadV (s := 1000002) (by decide) Try.underlying5 rfl rfl rfl (rfl)) ?_
 refine RS (ok_conv Try.underlying5 Try.underlying3 rfl) ?_; refine RZ (nI (o.s.toNat)) (wrap_eq (by omega) (by omega)) ?_
 refine RS (ok_field field34_0 (by decide) rfl) ?_
 refine RS (OpOk.valO (k := 1000201) (ok_loadV (s := 1000003) (by decide) Try.underlying32 rfl rfl rfl (rfl)) (by decide) rfl) ?_
 refine RS (ok_len Try.underlying32 rfl ((Le.old _ _).trans lstT_lst)) ?_; refine RZ (nI (S.length)) (by rw [List.length_map]) ?_
 refine RS (ok_rem rfl rfl (by omega)) ?_; refine RZ (nI (opAt o S.length)) (tmodN _ _) ?_
 refine RA rfl ?_
 refine RN ?_
 refine A.seq ?_
 refine GS ?_
 refine TL ?_
 refine RS (ok_field field39_0 (by decide) rfl) ?_
 refine RS (ok_loadV (s := 1000002) (by decide) Try.underlying5 rfl rfl rfl (rfl)) ?_
 refine RS (ok_rem rfl rfl (by decide)) ?_; refine RZ (nB (o.k.toNat % 3)) (remU8 _ 3 (by decide)) ?_
 refine RN ?_
 refine A.block ?_
 refine GS ?_
 refine TL ?_
 refine RBS rfl rfl rfl (.bool false) (congrArg Value.bool (decide_eq_false (by omega))) ?_
 refine RA rfl ?_
 refine RN ?_
 refine A.no rfl ?_
 refine GS ?_
 refine TL ?_
 refine RBS rfl rfl rfl (.bool false) (congrArg Value.bool (decide_eq_false (by omega))) ?_
 refine RA rfl ?_
 refine RN ?_
 refine A.no rfl ?_
 refine A.skip ?_
 refine End.normal_block ?_
 refine EN ?_
 refine GS ?_
 refine TN 10 ?_
 refine RS (OpOk.tlO (k := 1000201) [] (ok_loadA (s := 1000003) (by decide) Try.underlying34 rfl (size34.of (rfl)) rfl rfl) rfl hv'1 (by decide) rfl) ?_
 refine RM rfl ?_
 refine RS (ok_field field39_2 (by decide) rfl) ?_
 refine RS (ok_loadV (s := 1000002) (by decide) Try.underlying5 rfl rfl rfl (rfl)) ?_
 refine RS (ok_rem rfl rfl (by decide)) ?_; refine RZ (nB (o.b.toNat % 8)) (remU8 _ 8 (by decide)) ?_
 refine RS (ok_conv Try.underlying5 Try.underlying3 rfl) ?_; refine RZ (nI (o.b.toNat % 8)) (wrap_eq (by omega) (by omega)) ?_
 refine RS (ok_call (rBack_fn S hn (by omega) (opAt o S.length) hk (o.b.toNat % 8) hm) (Args.cons rfl (Le.old _ _) (Args.cons rfl LA (Args.cons rfl LA Args.nil)))) ?_
 refine RM rfl ?_
 refine RS (ok_extractV rfl rfl) ?_
 refine RS (ok_extractV rfl rfl) ?_
 refine RN ?_
 refine ⟨_, _, eff_alloc (n := 56) (d := 7) (k := 1000007) zero51 (by decide), fun b7 hb7 => ?_⟩
 have hBb7 := hb7.1
 refine TF 11 ?_
 refine RN ?_
 refine ⟨_, eff_storeA (n := 56) (s := 1000007) (size51.of (rfl)) rfl rfl (rfl) hBb7 rfl (rfl) (LV 3 rfl (LV 4 rfl (LV 6 rfl (LV 7 rfl (LV 48 rfl (LT 1000002 rfl (LT 1000003 rfl (LT 1000004 rfl (LO 1000200 rfl (LO 1000201 rfl LN)))))))))), ?_⟩
 refine TL ?_
 refine RA rfl ?_
 refine RN ?_
 refine A.sub (KC 3 rfl (KC 4 rfl (KC 6 rfl (KC 7 rfl (KC 8 rfl (KC 1000002 rfl (KC 1000003 rfl (KC 1000004 rfl (KC 1000007 rfl (KC 1000200 rfl (KC 1000201 rfl KN))))))))))) ?_
 refine A.seq ?_
 refine GS ?_
 refine TL ?_
 refine RM rfl ?_
 refine RS (ok_not rfl) ?_
 refine RN ?_
 refine A.no rfl ?_
 refine A.skip ?_
 refine EN ?_
 refine GS ?_
 refine TF 4 ?_
 refine RS (OpOk.tlO (k := 1000201) [] (ok_loadA (s := 1000003) (by decide) Try.underlying34 rfl (size34.of (rfl)) rfl rfl) rfl hv'1 (by decide) rfl) ?_
 refine RM rfl ?_
 refine RS (ok_loadA (s := 1000007) (by decide) Try.underlying51 rfl (size51.of (rfl)) rfl rfl) ?_
 refine RS (ok_call (rWith_fn S hn (by omega) (opAt o S.length) hk (lastC ((hisC S (opAt o S.length)).drop (o.b.toNat % 8)))) (Args.cons rfl (Le.old _ _) (Args.cons rfl LA (Args.cons rfl LA Args.nil)))) ?_
 refine RN ?_
 refine ⟨_, eff_storeK (n := 56) (s := 1000004) size34 rfl rfl (Le.refl _) (Agg.ref) hBb4 rfl (rfl) (Surv.ref (by decide) (by decide)) (LV 4 rfl (LT 1000002 rfl (LB 1000003 rfl (LT 1000007 rfl (LO 1000200 rfl (LO 1000201 rfl LN)))))), ?_⟩
 refine TL ?_
 refine RA rfl ?_
 refine RN ?_
 refine A.ret ?_
 exact End.varK2 (s := 1000004) rfl Try.underlying34 rfl size34 rfl rfl (by first | exact Le.refl _ | exact Le.old _ _) rfl (by first | exact Le.refl _ | exact Le.old _ _)
set_option maxHeartbeats 1000000 in
theorem ref_no (o : OpT) (S : Dk) (hS : 0 < S.length) (hn : S.length ≤ 10922) (ht : totC S ≤ 1000) (h0 : ¬ o.k.toNat % 3 = 0) (h1 : ¬ o.k.toNat % 3 = 1) (hm : ¬ o.b.toNat % 8 ≤ (hisC S (opAt o S.length)).length) : Fn Try.prog 14 [opD o, refD 61 51 (S)] (tup [refD 61 51 (S), .v (.int .i64 11)]) := by
 have hs := o.s.toNat_lt
 have hb := o.b.toNat_lt
 have hk : opAt o S.length < S.length := Nat.mod_lt _ hS
 have hle := his_le S (opAt o S.length)
 refine Fn.of Try.func14 rfl (by kernel_rfl) Try.ntmps14 (by simp) (fun w => [(0, old w.heap.size (opD o)), (1, old w.heap.size (refD 61 51 (S)))]) (fun w => (Start.old rfl (Start.old rfl Start.nil))) fun w₀ => ?_
 refine A.nameTl (t := 0) (k := 1000200) rfl fun v hv1 => ?_
 refine A.nameTl (t := 1) (k := 1000201) rfl fun v' hv'1 => ?_
 refine GS ?_
 refine TN 0 ?_
 refine RN ?_
 refine ⟨_, _, eff_box (n := 56) (d := 2) (k := 1000002) rfl (by decide), fun b2 hb2 => ?_⟩
 have hBb2 := hb2.1
 refine TN 1 ?_
 refine RN ?_
 refine ⟨_, _, eff_box (n := 56) (d := 3) (k := 1000003) rfl (by decide), fun b3 hb3 => ?_⟩
 have hBb3 := hb3.1
 refine TN 2 ?_
 refine RN ?_
 refine ⟨_, _, eff_alloc (n := 56) (d := 4) (k := 1000004) zero34 (by decide), fun b4 hb4 => ?_⟩
 have hBb4 := hb4.1
 have hlt_b3_b4 : b3 < b4 := hb4.2 1000003 _ _ _ rfl
 refine TL ?_
 refine RA rfl ?_
 refine RN ?_
 refine GS ?_
 refine TL ?_
 refine RS (ok_field field39_1 (by decide) rfl) ?_
 refine RS (ok_loadV (s := 1000002) (by decide) Try.underlying5 rfl rfl rfl (rfl)) ?_
 refine RS (ok_conv Try.underlying5 Try.underlying3 rfl) ?_; refine RZ (nI (o.s.toNat)) (wrap_eq (by omega) (by omega)) ?_
 refine RS (ok_field field34_0 (by decide) rfl) ?_
 refine RS (OpOk.valO (k := 1000201) (ok_loadV (s := 1000003) (by decide) Try.underlying32 rfl rfl rfl (rfl)) (by decide) rfl) ?_
 refine RS (ok_len Try.underlying32 rfl ((Le.old _ _).trans lstT_lst)) ?_; refine RZ (nI (S.length)) (by rw [List.length_map]) ?_
 refine RS (ok_rem rfl rfl (by omega)) ?_; refine RZ (nI (opAt o S.length)) (tmodN _ _) ?_
 refine RA rfl ?_
 refine RN ?_
 refine A.seq ?_
 refine GS ?_
 refine TL ?_
 refine RS (ok_field field39_0 (by decide) rfl) ?_
 refine RS (ok_loadV (s := 1000002) (by decide) Try.underlying5 rfl rfl rfl (rfl)) ?_
 refine RS (ok_rem rfl rfl (by decide)) ?_; refine RZ (nB (o.k.toNat % 3)) (remU8 _ 3 (by decide)) ?_
 refine RN ?_
 refine A.block ?_
 refine GS ?_
 refine TL ?_
 refine RBS rfl rfl rfl (.bool false) (congrArg Value.bool (decide_eq_false (by omega))) ?_
 refine RA rfl ?_
 refine RN ?_
 refine A.no rfl ?_
 refine GS ?_
 refine TL ?_
 refine RBS rfl rfl rfl (.bool false) (congrArg Value.bool (decide_eq_false (by omega))) ?_
 refine RA rfl ?_
 refine RN ?_
 refine A.no rfl ?_
 refine A.skip ?_
 refine End.normal_block ?_
 refine EN ?_
 refine GS ?_
 refine TN 10 ?_
 refine RS (OpOk.tlO (k := 1000201) [] (ok_loadA (s := 1000003) (by decide) Try.underlying34 rfl (size34.of (rfl)) rfl rfl) rfl hv'1 (by decide) rfl) ?_
 refine RM rfl ?_
 refine RS (ok_field field39_2 (by decide) rfl) ?_
 refine RS (ok_loadV (s := 1000002) (by decide) Try.underlying5 rfl rfl rfl (rfl)) ?_
 refine RS (ok_rem rfl rfl (by decide)) ?_; refine RZ (nB (o.b.toNat % 8)) (remU8 _ 8 (by decide)) ?_
 refine RS (ok_conv Try.underlying5 Try.underlying3 rfl) ?_; refine RZ (nI (o.b.toNat % 8)) (wrap_eq (by omega) (by omega)) ?_
 refine RS (ok_call (rBack_no S hn (by omega) (opAt o S.length) hk (o.b.toNat % 8) (by omega) (by omega)) (Args.cons rfl (Le.old _ _) (Args.cons rfl LA (Args.cons rfl LA Args.nil)))) ?_
 refine RM rfl ?_
 refine RS (ok_extractV rfl rfl) ?_
 refine RS (ok_extractV rfl rfl) ?_
 refine RN ?_
 refine ⟨_, _, eff_alloc (n := 56) (d := 7) (k := 1000007) zero51 (by decide), fun b7 hb7 => ?_⟩
 have hBb7 := hb7.1
 refine TF 11 ?_
 refine RN ?_
 refine ⟨_, eff_storeA (n := 56) (s := 1000007) (size51.of (rfl)) rfl rfl (rfl) hBb7 rfl (rfl) (LV 3 rfl (LV 4 rfl (LV 6 rfl (LV 7 rfl (LV 48 rfl (LT 1000002 rfl (LT 1000003 rfl (LT 1000004 rfl (LO 1000200 rfl (LO 1000201 rfl LN)))))))))), ?_⟩
 refine TL ?_
 refine RA rfl ?_
 refine RN ?_
 refine A.sub (KC 3 rfl (KC 4 rfl (KC 6 rfl (KC 7 rfl (KC 8 rfl (KC 1000002 rfl (KC 1000003 rfl (KC 1000004 rfl (KC 1000007 rfl (KC 1000200 rfl (KC 1000201 rfl KN))))))))))) ?_
 refine A.seq ?_
 refine GS ?_
 refine TL ?_
 refine RM rfl ?_
 refine RS (ok_not rfl) ?_
 refine RN ?_
 refine A.yes rfl ?_
 refine GS ?_
 refine TF 1 ?_
 refine RS (OpOk.tlO (k := 1000201) [] (ok_loadA (s := 1000003) (by decide) Try.underlying34 rfl (size34.of (rfl)) rfl rfl) rfl hv'1 (by decide) rfl) ?_
 refine RN ?_
 refine ⟨_, eff_storeK (n := 56) (s := 1000004) size34 rfl rfl (Le.old _ _) (Agg.ref) hBb4 rfl (rfl) (Surv.ref (by decide) (by decide)) (LV 4 rfl (LT 1000002 rfl (LB 1000003 rfl (LT 1000007 rfl (LO 1000200 rfl (LO 1000201 rfl LN)))))), ?_⟩
 refine TL ?_
 refine RA rfl ?_
 refine RN ?_
 refine A.ret ?_
 refine End.ret_then ?_
 exact End.varK2 (s := 1000004) rfl Try.underlying34 rfl size34 rfl rfl (by first | exact Le.refl _ | exact Le.old _ _) rfl (by first | exact Le.refl _ | exact Le.old _ _)
theorem ref_fn (o : OpT) (S : Dk) (hS : 0 < S.length) (hn : S.length ≤ 10922) (ht : totC S ≤ 1000) : Fn Try.prog 14 [opD o, refD 61 51 (S)] (tup [refD 61 51 ((opStep o S).1), .v (.int .i64 (opStep o S).2)]) := by
 unfold opStep
 by_cases h0 : o.k.toNat % 3 = 0
 ·rw [if_pos h0]
  by_cases hl : 256 < o.l.length
  ·rw [if_pos hl]; exact ref_big o S hS hn ht h0 hl
  ·rw [if_neg hl]; exact ref_w o S hS hn ht h0 hl
 ·rw [if_neg h0]
  by_cases h1 : o.k.toNat % 3 = 1
  ·rw [if_pos h1]; exact ref_e o S hS hn ht h0 h1
  ·rw [if_neg h1]
   by_cases hm : o.b.toNat % 8 ≤ (hisC S (opAt o S.length)).length
   ·rw [if_pos hm]; exact ref_r o S hS hn ht h0 h1 hm
   ·rw [if_neg hm]; exact ref_no o S hS hn ht h0 h1 hm
set_option maxHeartbeats 1000000 in
theorem do_w (X : Nat → Prop) (o : OpT) (S : Dk) (hS : 0 < S.length) (hn : S.length ≤ 10922) (ht : totC S ≤ 1000) (h0 : o.k.toNat % 3 = 0) (hl : ¬ 256 < o.l.length) : Fn Try.prog 13 [opD o, diskD dT X S, .v (nI (S.length))] (tup [diskD dT X (putC S (opAt o S.length) (some o.l)), .v (.int .i64 0)]) := by
 have hs := o.s.toNat_lt
 have hb := o.b.toNat_lt
 have hk : opAt o S.length < S.length := Nat.mod_lt _ hS
 have hle := his_le S (opAt o S.length)
 refine Fn.of Try.func13 rfl (by kernel_rfl) Try.ntmps13 (by simp) (fun w => [(0, old w.heap.size (opD o)), (1, old w.heap.size (diskD dT X S)), (2, .v (nI (S.length)))]) (fun w => (Start.old rfl (Start.old rfl (Start.v rfl Start.nil)))) fun w₀ => ?_
 refine A.nameTl (t := 0) (k := 1000200) rfl fun v hv1 => ?_
 refine A.nameTl (t := 1) (k := 1000201) rfl fun v' hv'1 => ?_
 refine GS ?_
 refine TN 0 ?_
 refine RN ?_
 refine ⟨_, _, eff_box (n := 52) (d := 3) (k := 1000003) rfl (by decide), fun b3 hb3 => ?_⟩
 have hBb3 := hb3.1
 refine TN 1 ?_
 refine RN ?_
 refine ⟨_, _, eff_box (n := 52) (d := 4) (k := 1000004) rfl (by decide), fun b4 hb4 => ?_⟩
 have hBb4 := hb4.1
 refine TN 2 ?_
 refine RN ?_
 refine ⟨_, _, eff_alloc (n := 52) (d := 6) (k := 1000006) zero27 (by decide), fun b6 hb6 => ?_⟩
 have hBb6 := hb6.1
 have hlt_b4_b6 : b4 < b6 := hb6.2 1000004 _ _ _ rfl
 refine TL ?_
 refine RA rfl ?_
 refine RN ?_
 refine GS ?_
 refine TL ?_
 refine RS (ok_field field39_1 (by decide) rfl) ?_
 refine RS (ok_loadV (s := 1000003) (by decide) Try.underlying5 rfl rfl rfl (rfl)) ?_
 refine RS (ok_conv Try.underlying5 Try.underlying3 rfl) ?_; refine RZ (nI (o.s.toNat)) (wrap_eq (by omega) (by omega)) ?_
 refine RM rfl ?_
 refine RS (ok_rem rfl rfl (by omega)) ?_; refine RZ (nI (opAt o S.length)) (tmodN _ _) ?_
 refine RA rfl ?_
 refine RN ?_
 refine GS ?_
 refine TN 0 ?_
 refine RN ?_
 refine ⟨_, _, eff_alloc (n := 52) (d := 9) (k := 1000009) zero27 (by decide), fun b9 hb9 => ?_⟩
 have hBb9 := hb9.1
 have hlt_b4_b9 : b4 < b9 := hb9.2 1000004 _ _ _ rfl
 have hlt_b6_b9 : b6 < b9 := hb9.2 1000006 _ _ _ rfl
 refine TL ?_
 refine RN ?_
 refine GS ?_
 refine TL ?_
 refine RA rfl ?_
 refine RN ?_
 refine A.seq ?_
 refine GS ?_
 refine TL ?_
 refine RS (ok_field field39_0 (by decide) rfl) ?_
 refine RS (ok_loadV (s := 1000003) (by decide) Try.underlying5 rfl rfl rfl (rfl)) ?_
 refine RS (ok_rem rfl rfl (by decide)) ?_; refine RZ (nB (o.k.toNat % 3)) (remU8 _ 3 (by decide)) ?_
 refine RN ?_
 refine A.block ?_
 refine GS ?_
 refine TL ?_
 refine RBS rfl rfl rfl (.bool true) (congrArg Value.bool (decide_eq_true (by omega))) ?_
 refine RA rfl ?_
 refine RN ?_
 refine A.yes rfl ?_
 refine GE ?_
 refine TF 8 ?_
 refine RS (OpOk.tlO (k := 1000201) [nI S.length, nI (totC S)] (ok_loadA (s := 1000004) (by decide) Try.underlying27 rfl (size27.of (rfl)) rfl rfl) rfl hv'1 (by decide) rfl) ?_
 refine RM rfl ?_
 refine RS (ok_field field39_3 (by decide) rfl) ?_
 refine RS (OpOk.valO (k := 1000200) (ok_loadV (s := 1000003) (by decide) Try.underlying37 rfl rfl rfl (rfl)) (by decide) rfl) ?_
 refine RS (ok_call (dWrite_fn X S (opAt o S.length) hk hn o.l (by omega) (by omega)) (Args.cons rfl (Le.old _ _) (Args.cons rfl LA (Args.cons rfl (Le.old _ _) Args.nil)))) ?_
 refine RM rfl ?_
 refine RS (ok_extract rfl rfl) ?_
 refine RS (ok_extract rfl rfl) ?_
 refine RN ?_
 refine ⟨_, eff_storeK (n := 52) (s := 1000009) size27 rfl rfl (Le.refl _) (Agg.disk) hBb9 rfl (rfl) (Surv.disk (.inl (by decide))) (LV 4 rfl (LV 6 rfl (LV 9 rfl (LV 38 rfl (LT 1000003 rfl (LB 1000004 rfl (LB 1000006 rfl (LO 1000200 rfl (LO 1000201 rfl LN))))))))), ?_⟩
 refine TL ?_
 refine RA rfl ?_
 refine RN ?_
 refine End.sub (KC 4 rfl (KC 6 rfl (KC 9 rfl (KC 10 rfl (KC 1000003 rfl (KC 1000004 rfl (KC 1000006 rfl (KC 1000009 rfl (KC 1000200 rfl (KC 1000201 rfl KN)))))))))) ?_
 refine End.normal_block ?_
 refine EN ?_
 refine A.seq ?_
 refine GS ?_
 refine TL ?_
 refine RM rfl ?_
 refine RB rfl rfl rfl ?_
 refine RN ?_
 refine A.no rfl ?_
 refine A.skip ?_
 refine EN ?_
 refine GS ?_
 refine TF 1 ?_
 refine RS (ok_loadVK (s := 1000009) (by decide) Try.underlying27 rfl size27 rfl rfl) ?_
 refine RN ?_
 refine ⟨_, eff_storeK (n := 52) (s := 1000006) size27 rfl rfl (Le.refl _) (Agg.disk) hBb6 rfl (rfl) (Surv.disk (.inl (by decide))) (LV 6 rfl (LT 1000003 rfl (LB 1000004 rfl (LeftS.cons (t := 1000009) rfl (Surv.varK (by omega) (Surv.disk (.inl (by decide)))) (LO 1000200 rfl (LO 1000201 rfl LN)))))), ?_⟩
 refine TL ?_
 refine RA rfl ?_
 refine RN ?_
 refine A.ret ?_
 exact End.varK2 (s := 1000006) rfl Try.underlying27 rfl size27 rfl rfl (by first | exact Le.refl _ | exact Le.old _ _) rfl (by first | exact Le.refl _ | exact Le.old _ _)
set_option maxHeartbeats 1000000 in
theorem do_big (X : Nat → Prop) (o : OpT) (S : Dk) (hS : 0 < S.length) (hn : S.length ≤ 10922) (ht : totC S ≤ 1000) (h0 : o.k.toNat % 3 = 0) (hl : 256 < o.l.length) : Fn Try.prog 13 [opD o, diskD dT X S, .v (nI (S.length))] (tup [diskD dT X (S), .v (.int .i64 3)]) := by
 have hs := o.s.toNat_lt
 have hb := o.b.toNat_lt
 have hk : opAt o S.length < S.length := Nat.mod_lt _ hS
 have hle := his_le S (opAt o S.length)
 refine Fn.of Try.func13 rfl (by kernel_rfl) Try.ntmps13 (by simp) (fun w => [(0, old w.heap.size (opD o)), (1, old w.heap.size (diskD dT X S)), (2, .v (nI (S.length)))]) (fun w => (Start.old rfl (Start.old rfl (Start.v rfl Start.nil)))) fun w₀ => ?_
 refine A.nameTl (t := 0) (k := 1000200) rfl fun v hv1 => ?_
 refine A.nameTl (t := 1) (k := 1000201) rfl fun v' hv'1 => ?_
 refine GS ?_
 refine TN 0 ?_
 refine RN ?_
 refine ⟨_, _, eff_box (n := 52) (d := 3) (k := 1000003) rfl (by decide), fun b3 hb3 => ?_⟩
 have hBb3 := hb3.1
 refine TN 1 ?_
 refine RN ?_
 refine ⟨_, _, eff_box (n := 52) (d := 4) (k := 1000004) rfl (by decide), fun b4 hb4 => ?_⟩
 have hBb4 := hb4.1
 refine TN 2 ?_
 refine RN ?_
 refine ⟨_, _, eff_alloc (n := 52) (d := 6) (k := 1000006) zero27 (by decide), fun b6 hb6 => ?_⟩
 have hBb6 := hb6.1
 have hlt_b4_b6 : b4 < b6 := hb6.2 1000004 _ _ _ rfl
 refine TL ?_
 refine RA rfl ?_
 refine RN ?_
 refine GS ?_
 refine TL ?_
 refine RS (ok_field field39_1 (by decide) rfl) ?_
 refine RS (ok_loadV (s := 1000003) (by decide) Try.underlying5 rfl rfl rfl (rfl)) ?_
 refine RS (ok_conv Try.underlying5 Try.underlying3 rfl) ?_; refine RZ (nI (o.s.toNat)) (wrap_eq (by omega) (by omega)) ?_
 refine RM rfl ?_
 refine RS (ok_rem rfl rfl (by omega)) ?_; refine RZ (nI (opAt o S.length)) (tmodN _ _) ?_
 refine RA rfl ?_
 refine RN ?_
 refine GS ?_
 refine TN 0 ?_
 refine RN ?_
 refine ⟨_, _, eff_alloc (n := 52) (d := 9) (k := 1000009) zero27 (by decide), fun b9 hb9 => ?_⟩
 have hBb9 := hb9.1
 have hlt_b4_b9 : b4 < b9 := hb9.2 1000004 _ _ _ rfl
 have hlt_b6_b9 : b6 < b9 := hb9.2 1000006 _ _ _ rfl
 refine TL ?_
 refine RN ?_
 refine GS ?_
 refine TL ?_
 refine RA rfl ?_
 refine RN ?_
 refine A.seq ?_
 refine GS ?_
 refine TL ?_
 refine RS (ok_field field39_0 (by decide) rfl) ?_
 refine RS (ok_loadV (s := 1000003) (by decide) Try.underlying5 rfl rfl rfl (rfl)) ?_
 refine RS (ok_rem rfl rfl (by decide)) ?_; refine RZ (nB (o.k.toNat % 3)) (remU8 _ 3 (by decide)) ?_
 refine RN ?_
 refine A.block ?_
 refine GS ?_
 refine TL ?_
 refine RBS rfl rfl rfl (.bool true) (congrArg Value.bool (decide_eq_true (by omega))) ?_
 refine RA rfl ?_
 refine RN ?_
 refine A.yes rfl ?_
 refine GE ?_
 refine TF 8 ?_
 refine RS (OpOk.tlO (k := 1000201) [nI S.length, nI (totC S)] (ok_loadA (s := 1000004) (by decide) Try.underlying27 rfl (size27.of (rfl)) rfl rfl) rfl hv'1 (by decide) rfl) ?_
 refine RM rfl ?_
 refine RS (ok_field field39_3 (by decide) rfl) ?_
 refine RS (OpOk.valO (k := 1000200) (ok_loadV (s := 1000003) (by decide) Try.underlying37 rfl rfl rfl (rfl)) (by decide) rfl) ?_
 refine RS (ok_call (dWrite_big S.length (opAt o S.length) (by omega) o.l hl) (Args.cons rfl ((Le.old _ _).trans disk_sz) (Args.cons rfl LA (Args.cons rfl (Le.old _ _) Args.nil)))) ?_
 refine RM rfl ?_
 refine RS (ok_extractV rfl rfl) ?_
 refine RS (ok_extractV rfl rfl) ?_
 refine RN ?_
 refine ⟨_, eff_storeA (n := 52) (s := 1000009) (size27.of (rfl)) rfl rfl (rfl) hBb9 rfl (rfl) (LV 4 rfl (LV 6 rfl (LV 9 rfl (LV 38 rfl (LT 1000003 rfl (LB 1000004 rfl (LB 1000006 rfl (LO 1000200 rfl (LO 1000201 rfl LN))))))))), ?_⟩
 refine TL ?_
 refine RA rfl ?_
 refine RN ?_
 refine End.sub (KC 4 rfl (KC 6 rfl (KC 9 rfl (KC 10 rfl (KC 1000003 rfl (KC 1000004 rfl (KC 1000006 rfl (KC 1000009 rfl (KC 1000200 rfl (KC 1000201 rfl KN)))))))))) ?_
 refine End.normal_block ?_
 refine EN ?_
 refine A.seq ?_
 refine GS ?_
 refine TL ?_
 refine RM rfl ?_
 refine RB rfl rfl rfl ?_
 refine RN ?_
 refine A.yes rfl ?_
 refine GS ?_
 refine TF 2 ?_
 refine RS (OpOk.tlO (k := 1000201) [nI S.length, nI (totC S)] (ok_loadA (s := 1000004) (by decide) Try.underlying27 rfl (size27.of (rfl)) rfl rfl) rfl hv'1 (by decide) rfl) ?_
 refine RM rfl ?_
 refine RN ?_
 refine ⟨_, eff_storeK (n := 52) (s := 1000006) size27 rfl rfl (Le.old _ _) (Agg.disk) hBb6 rfl (rfl) (Surv.disk (.inl (by decide))) (LV 6 rfl (LV 50 rfl (LT 1000003 rfl (LB 1000004 rfl (LB 1000009 rfl (LO 1000200 rfl (LO 1000201 rfl LN))))))), ?_⟩
 refine TL ?_
 refine RA rfl ?_
 refine RN ?_
 refine A.ret ?_
 refine End.ret_then ?_
 exact End.varK2 (s := 1000006) rfl Try.underlying27 rfl size27 rfl rfl (by first | exact Le.refl _ | exact Le.old _ _) rfl (by first | exact Le.refl _ | exact Le.old _ _)
set_option maxHeartbeats 1000000 in
theorem do_e (X : Nat → Prop) (o : OpT) (S : Dk) (hS : 0 < S.length) (hn : S.length ≤ 10922) (ht : totC S ≤ 1000) (h0 : ¬ o.k.toNat % 3 = 0) (h1 : o.k.toNat % 3 = 1)  : Fn Try.prog 13 [opD o, diskD dT X S, .v (nI (S.length))] (tup [diskD dT X (putC S (opAt o S.length) none), .v (.int .i64 0)]) := by
 have hs := o.s.toNat_lt
 have hb := o.b.toNat_lt
 have hk : opAt o S.length < S.length := Nat.mod_lt _ hS
 have hle := his_le S (opAt o S.length)
 refine Fn.of Try.func13 rfl (by kernel_rfl) Try.ntmps13 (by simp) (fun w => [(0, old w.heap.size (opD o)), (1, old w.heap.size (diskD dT X S)), (2, .v (nI (S.length)))]) (fun w => (Start.old rfl (Start.old rfl (Start.v rfl Start.nil)))) fun w₀ => ?_
 refine A.nameTl (t := 0) (k := 1000200) rfl fun v hv1 => ?_
 refine A.nameTl (t := 1) (k := 1000201) rfl fun v' hv'1 => ?_
 refine GS ?_
 refine TN 0 ?_
 refine RN ?_
 refine ⟨_, _, eff_box (n := 52) (d := 3) (k := 1000003) rfl (by decide), fun b3 hb3 => ?_⟩
 have hBb3 := hb3.1
 refine TN 1 ?_
 refine RN ?_
 refine ⟨_, _, eff_box (n := 52) (d := 4) (k := 1000004) rfl (by decide), fun b4 hb4 => ?_⟩
 have hBb4 := hb4.1
 refine TN 2 ?_
 refine RN ?_
 refine ⟨_, _, eff_alloc (n := 52) (d := 6) (k := 1000006) zero27 (by decide), fun b6 hb6 => ?_⟩
 have hBb6 := hb6.1
 have hlt_b4_b6 : b4 < b6 := hb6.2 1000004 _ _ _ rfl
 refine TL ?_
 refine RA rfl ?_
 refine RN ?_
 refine GS ?_
 refine TL ?_
 refine RS (ok_field field39_1 (by decide) rfl) ?_
 refine RS (ok_loadV (s := 1000003) (by decide) Try.underlying5 rfl rfl rfl (rfl)) ?_
 refine RS (ok_conv Try.underlying5 Try.underlying3 rfl) ?_; refine RZ (nI (o.s.toNat)) (wrap_eq (by omega) (by omega)) ?_
 refine RM rfl ?_
 refine RS (ok_rem rfl rfl (by omega)) ?_; refine RZ (nI (opAt o S.length)) (tmodN _ _) ?_
 refine RA rfl ?_
 refine RN ?_
 refine GS ?_
 refine TN 0 ?_
 refine RN ?_
 refine ⟨_, _, eff_alloc (n := 52) (d := 9) (k := 1000009) zero27 (by decide), fun b9 hb9 => ?_⟩
 have hBb9 := hb9.1
 have hlt_b4_b9 : b4 < b9 := hb9.2 1000004 _ _ _ rfl
 have hlt_b6_b9 : b6 < b9 := hb9.2 1000006 _ _ _ rfl
 refine TL ?_
 refine RN ?_
 refine GS ?_
 refine TL ?_
 refine RA rfl ?_
 refine RN ?_
 refine A.seq ?_
 refine GS ?_
 refine TL ?_
 refine RS (ok_field field39_0 (by decide) rfl) ?_
 refine RS (ok_loadV (s := 1000003) (by decide) Try.underlying5 rfl rfl rfl (rfl)) ?_
 refine RS (ok_rem rfl rfl (by decide)) ?_; refine RZ (nB (o.k.toNat % 3)) (remU8 _ 3 (by decide)) ?_
 refine RN ?_
 refine A.block ?_
 refine GS ?_
 refine TL ?_
 refine RBS rfl rfl rfl (.bool false) (congrArg Value.bool (decide_eq_false (by omega))) ?_
 refine RA rfl ?_
 refine RN ?_
 refine A.no rfl ?_
 refine GS ?_
 refine TL ?_
 refine RBS rfl rfl rfl (.bool true) (congrArg Value.bool (decide_eq_true (by omega))) ?_
 refine RA rfl ?_
 refine RN ?_
 refine A.yes rfl ?_
 refine GE ?_
 refine TF 6 ?_
 refine RS (OpOk.tlO (k := 1000201) [nI S.length, nI (totC S)] (ok_loadA (s := 1000004) (by decide) Try.underlying27 rfl (size27.of (rfl)) rfl rfl) rfl hv'1 (by decide) rfl) ?_
 refine RM rfl ?_
 refine RS (ok_call (dErase_fn X S (opAt o S.length) hk hn (by omega)) (Args.cons rfl (Le.old _ _) (Args.cons rfl LA Args.nil))) ?_
 refine RM rfl ?_
 refine RS (ok_extract rfl rfl) ?_
 refine RS (ok_extract rfl rfl) ?_
 refine RN ?_
 refine ⟨_, eff_storeK (n := 52) (s := 1000009) size27 rfl rfl (Le.refl _) (Agg.disk) hBb9 rfl (rfl) (Surv.disk (.inl (by decide))) (LV 4 rfl (LV 6 rfl (LV 9 rfl (LV 46 rfl (LT 1000003 rfl (LB 1000004 rfl (LB 1000006 rfl (LO 1000200 rfl (LO 1000201 rfl LN))))))))), ?_⟩
 refine TL ?_
 refine RA rfl ?_
 refine RN ?_
 refine End.sub (KC 4 rfl (KC 6 rfl (KC 9 rfl (KC 10 rfl (KC 1000003 rfl (KC 1000004 rfl (KC 1000006 rfl (KC 1000009 rfl (KC 1000200 rfl (KC 1000201 rfl KN)))))))))) ?_
 refine End.normal_block ?_
 refine EN ?_
 refine A.seq ?_
 refine GS ?_
 refine TL ?_
 refine RM rfl ?_
 refine RB rfl rfl rfl ?_
 refine RN ?_
 refine A.no rfl ?_
 refine A.skip ?_
 refine EN ?_
 refine GS ?_
 refine TF 1 ?_
 refine RS (ok_loadVK (s := 1000009) (by decide) Try.underlying27 rfl size27 rfl rfl) ?_
 refine RN ?_
 refine ⟨_, eff_storeK (n := 52) (s := 1000006) size27 rfl rfl (Le.refl _) (Agg.disk) hBb6 rfl (rfl) (Surv.disk (.inl (by decide))) (LV 6 rfl (LT 1000003 rfl (LB 1000004 rfl (LeftS.cons (t := 1000009) rfl (Surv.varK (by omega) (Surv.disk (.inl (by decide)))) (LO 1000200 rfl (LO 1000201 rfl LN)))))), ?_⟩
 refine TL ?_
 refine RA rfl ?_
 refine RN ?_
 refine A.ret ?_
 exact End.varK2 (s := 1000006) rfl Try.underlying27 rfl size27 rfl rfl (by first | exact Le.refl _ | exact Le.old _ _) rfl (by first | exact Le.refl _ | exact Le.old _ _)
set_option maxHeartbeats 1000000 in
theorem do_r (X : Nat → Prop) (o : OpT) (S : Dk) (hS : 0 < S.length) (hn : S.length ≤ 10922) (ht : totC S ≤ 1000) (h0 : ¬ o.k.toNat % 3 = 0) (h1 : ¬ o.k.toNat % 3 = 1) (hm : o.b.toNat % 8 ≤ (hisC S (opAt o S.length)).length) : Fn Try.prog 13 [opD o, diskD dT X S, .v (nI (S.length))] (tup [diskD dT X (putC S (opAt o S.length) (lastC ((hisC S (opAt o S.length)).drop (o.b.toNat % 8)))), .v (.int .i64 0)]) := by
 have hs := o.s.toNat_lt
 have hb := o.b.toNat_lt
 have hk : opAt o S.length < S.length := Nat.mod_lt _ hS
 have hle := his_le S (opAt o S.length)
 refine Fn.of Try.func13 rfl (by kernel_rfl) Try.ntmps13 (by simp) (fun w => [(0, old w.heap.size (opD o)), (1, old w.heap.size (diskD dT X S)), (2, .v (nI (S.length)))]) (fun w => (Start.old rfl (Start.old rfl (Start.v rfl Start.nil)))) fun w₀ => ?_
 refine A.nameTl (t := 0) (k := 1000200) rfl fun v hv1 => ?_
 refine A.nameTl (t := 1) (k := 1000201) rfl fun v' hv'1 => ?_
 refine GS ?_
 refine TN 0 ?_
 refine RN ?_
 refine ⟨_, _, eff_box (n := 52) (d := 3) (k := 1000003) rfl (by decide), fun b3 hb3 => ?_⟩
 have hBb3 := hb3.1
 refine TN 1 ?_
 refine RN ?_
 refine ⟨_, _, eff_box (n := 52) (d := 4) (k := 1000004) rfl (by decide), fun b4 hb4 => ?_⟩
 have hBb4 := hb4.1
 refine TN 2 ?_
 refine RN ?_
 refine ⟨_, _, eff_alloc (n := 52) (d := 6) (k := 1000006) zero27 (by decide), fun b6 hb6 => ?_⟩
 have hBb6 := hb6.1
 have hlt_b4_b6 : b4 < b6 := hb6.2 1000004 _ _ _ rfl
 refine TL ?_
 refine RA rfl ?_
 refine RN ?_
 refine GS ?_
 refine TL ?_
 refine RS (ok_field field39_1 (by decide) rfl) ?_
 refine RS (ok_loadV (s := 1000003) (by decide) Try.underlying5 rfl rfl rfl (rfl)) ?_
 refine RS (ok_conv Try.underlying5 Try.underlying3 rfl) ?_; refine RZ (nI (o.s.toNat)) (wrap_eq (by omega) (by omega)) ?_
 refine RM rfl ?_
 refine RS (ok_rem rfl rfl (by omega)) ?_; refine RZ (nI (opAt o S.length)) (tmodN _ _) ?_
 refine RA rfl ?_
 refine RN ?_
 refine GS ?_
 refine TN 0 ?_
 refine RN ?_
 refine ⟨_, _, eff_alloc (n := 52) (d := 9) (k := 1000009) zero27 (by decide), fun b9 hb9 => ?_⟩
 have hBb9 := hb9.1
 have hlt_b4_b9 : b4 < b9 := hb9.2 1000004 _ _ _ rfl
 have hlt_b6_b9 : b6 < b9 := hb9.2 1000006 _ _ _ rfl
 refine TL ?_
 refine RN ?_
 refine GS ?_
 refine TL ?_
 refine RA rfl ?_
 refine RN ?_
 refine A.seq ?_
 refine GS ?_
 refine TL ?_
 refine RS (ok_field field39_0 (by decide) rfl) ?_
 refine RS (ok_loadV (s := 1000003) (by decide) Try.underlying5 rfl rfl rfl (rfl)) ?_
 refine RS (ok_rem rfl rfl (by decide)) ?_; refine RZ (nB (o.k.toNat % 3)) (remU8 _ 3 (by decide)) ?_
 refine RN ?_
 refine A.block ?_
 refine GS ?_
 refine TL ?_
 refine RBS rfl rfl rfl (.bool false) (congrArg Value.bool (decide_eq_false (by omega))) ?_
 refine RA rfl ?_
 refine RN ?_
 refine A.no rfl ?_
 refine GS ?_
 refine TL ?_
 refine RBS rfl rfl rfl (.bool false) (congrArg Value.bool (decide_eq_false (by omega))) ?_
 refine RA rfl ?_
 refine RN ?_
 refine A.no rfl ?_
 refine GE ?_
 refine TF 10 ?_
 refine RS (OpOk.tlO (k := 1000201) [nI S.length, nI (totC S)] (ok_loadA (s := 1000004) (by decide) Try.underlying27 rfl (size27.of (rfl)) rfl rfl) rfl hv'1 (by decide) rfl) ?_
 refine RM rfl ?_
 refine RS (ok_field field39_2 (by decide) rfl) ?_
 refine RS (ok_loadV (s := 1000003) (by decide) Try.underlying5 rfl rfl rfl (rfl)) ?_
 refine RS (ok_rem rfl rfl (by decide)) ?_; refine RZ (nB (o.b.toNat % 8)) (remU8 _ 8 (by decide)) ?_
 refine RS (ok_conv Try.underlying5 Try.underlying3 rfl) ?_; refine RZ (nI (o.b.toNat % 8)) (wrap_eq (by omega) (by omega)) ?_
 refine RS (ok_call (dReplay_fn X S (opAt o S.length) hk hn (o.b.toNat % 8) hm (by omega)) (Args.cons rfl (Le.old _ _) (Args.cons rfl LA (Args.cons rfl LA Args.nil)))) ?_
 refine RM rfl ?_
 refine RS (ok_extract rfl rfl) ?_
 refine RS (ok_extract rfl rfl) ?_
 refine RN ?_
 refine ⟨_, eff_storeK (n := 52) (s := 1000009) size27 rfl rfl (Le.refl _) (Agg.disk) hBb9 rfl (rfl) (Surv.disk (.inl (by decide))) (LV 4 rfl (LV 6 rfl (LV 9 rfl (LV 28 rfl (LT 1000003 rfl (LB 1000004 rfl (LB 1000006 rfl (LO 1000200 rfl (LO 1000201 rfl LN))))))))), ?_⟩
 refine TL ?_
 refine RA rfl ?_
 refine RN ?_
 refine End.sub (KC 4 rfl (KC 6 rfl (KC 9 rfl (KC 10 rfl (KC 1000003 rfl (KC 1000004 rfl (KC 1000006 rfl (KC 1000009 rfl (KC 1000200 rfl (KC 1000201 rfl KN)))))))))) ?_
 refine End.normal_block ?_
 refine EN ?_
 refine A.seq ?_
 refine GS ?_
 refine TL ?_
 refine RM rfl ?_
 refine RB rfl rfl rfl ?_
 refine RN ?_
 refine A.no rfl ?_
 refine A.skip ?_
 refine EN ?_
 refine GS ?_
 refine TF 1 ?_
 refine RS (ok_loadVK (s := 1000009) (by decide) Try.underlying27 rfl size27 rfl rfl) ?_
 refine RN ?_
 refine ⟨_, eff_storeK (n := 52) (s := 1000006) size27 rfl rfl (Le.refl _) (Agg.disk) hBb6 rfl (rfl) (Surv.disk (.inl (by decide))) (LV 6 rfl (LT 1000003 rfl (LB 1000004 rfl (LeftS.cons (t := 1000009) rfl (Surv.varK (by omega) (Surv.disk (.inl (by decide)))) (LO 1000200 rfl (LO 1000201 rfl LN)))))), ?_⟩
 refine TL ?_
 refine RA rfl ?_
 refine RN ?_
 refine A.ret ?_
 exact End.varK2 (s := 1000006) rfl Try.underlying27 rfl size27 rfl rfl (by first | exact Le.refl _ | exact Le.old _ _) rfl (by first | exact Le.refl _ | exact Le.old _ _)
set_option maxHeartbeats 1000000 in
theorem do_no (X : Nat → Prop) (o : OpT) (S : Dk) (hS : 0 < S.length) (hn : S.length ≤ 10922) (ht : totC S ≤ 1000) (h0 : ¬ o.k.toNat % 3 = 0) (h1 : ¬ o.k.toNat % 3 = 1) (hm : ¬ o.b.toNat % 8 ≤ (hisC S (opAt o S.length)).length) : Fn Try.prog 13 [opD o, diskD dT X S, .v (nI (S.length))] (tup [diskD dT X (S), .v (.int .i64 11)]) := by
 have hs := o.s.toNat_lt
 have hb := o.b.toNat_lt
 have hk : opAt o S.length < S.length := Nat.mod_lt _ hS
 have hle := his_le S (opAt o S.length)
 refine Fn.of Try.func13 rfl (by kernel_rfl) Try.ntmps13 (by simp) (fun w => [(0, old w.heap.size (opD o)), (1, old w.heap.size (diskD dT X S)), (2, .v (nI (S.length)))]) (fun w => (Start.old rfl (Start.old rfl (Start.v rfl Start.nil)))) fun w₀ => ?_
 refine A.nameTl (t := 0) (k := 1000200) rfl fun v hv1 => ?_
 refine A.nameTl (t := 1) (k := 1000201) rfl fun v' hv'1 => ?_
 refine GS ?_
 refine TN 0 ?_
 refine RN ?_
 refine ⟨_, _, eff_box (n := 52) (d := 3) (k := 1000003) rfl (by decide), fun b3 hb3 => ?_⟩
 have hBb3 := hb3.1
 refine TN 1 ?_
 refine RN ?_
 refine ⟨_, _, eff_box (n := 52) (d := 4) (k := 1000004) rfl (by decide), fun b4 hb4 => ?_⟩
 have hBb4 := hb4.1
 refine TN 2 ?_
 refine RN ?_
 refine ⟨_, _, eff_alloc (n := 52) (d := 6) (k := 1000006) zero27 (by decide), fun b6 hb6 => ?_⟩
 have hBb6 := hb6.1
 have hlt_b4_b6 : b4 < b6 := hb6.2 1000004 _ _ _ rfl
 refine TL ?_
 refine RA rfl ?_
 refine RN ?_
 refine GS ?_
 refine TL ?_
 refine RS (ok_field field39_1 (by decide) rfl) ?_
 refine RS (ok_loadV (s := 1000003) (by decide) Try.underlying5 rfl rfl rfl (rfl)) ?_
 refine RS (ok_conv Try.underlying5 Try.underlying3 rfl) ?_; refine RZ (nI (o.s.toNat)) (wrap_eq (by omega) (by omega)) ?_
 refine RM rfl ?_
 refine RS (ok_rem rfl rfl (by omega)) ?_; refine RZ (nI (opAt o S.length)) (tmodN _ _) ?_
 refine RA rfl ?_
 refine RN ?_
 refine GS ?_
 refine TN 0 ?_
 refine RN ?_
 refine ⟨_, _, eff_alloc (n := 52) (d := 9) (k := 1000009) zero27 (by decide), fun b9 hb9 => ?_⟩
 have hBb9 := hb9.1
 have hlt_b4_b9 : b4 < b9 := hb9.2 1000004 _ _ _ rfl
 have hlt_b6_b9 : b6 < b9 := hb9.2 1000006 _ _ _ rfl
 refine TL ?_
 refine RN ?_
 refine GS ?_
 refine TL ?_
 refine RA rfl ?_
 refine RN ?_
 refine A.seq ?_
 refine GS ?_
 refine TL ?_
 refine RS (ok_field field39_0 (by decide) rfl) ?_
 refine RS (ok_loadV (s := 1000003) (by decide) Try.underlying5 rfl rfl rfl (rfl)) ?_
 refine RS (ok_rem rfl rfl (by decide)) ?_; refine RZ (nB (o.k.toNat % 3)) (remU8 _ 3 (by decide)) ?_
 refine RN ?_
 refine A.block ?_
 refine GS ?_
 refine TL ?_
 refine RBS rfl rfl rfl (.bool false) (congrArg Value.bool (decide_eq_false (by omega))) ?_
 refine RA rfl ?_
 refine RN ?_
 refine A.no rfl ?_
 refine GS ?_
 refine TL ?_
 refine RBS rfl rfl rfl (.bool false) (congrArg Value.bool (decide_eq_false (by omega))) ?_
 refine RA rfl ?_
 refine RN ?_
 refine A.no rfl ?_
 refine GE ?_
 refine TF 10 ?_
 refine RS (OpOk.tlO (k := 1000201) [nI S.length, nI (totC S)] (ok_loadA (s := 1000004) (by decide) Try.underlying27 rfl (size27.of (rfl)) rfl rfl) rfl hv'1 (by decide) rfl) ?_
 refine RM rfl ?_
 refine RS (ok_field field39_2 (by decide) rfl) ?_
 refine RS (ok_loadV (s := 1000003) (by decide) Try.underlying5 rfl rfl rfl (rfl)) ?_
 refine RS (ok_rem rfl rfl (by decide)) ?_; refine RZ (nB (o.b.toNat % 8)) (remU8 _ 8 (by decide)) ?_
 refine RS (ok_conv Try.underlying5 Try.underlying3 rfl) ?_; refine RZ (nI (o.b.toNat % 8)) (wrap_eq (by omega) (by omega)) ?_
 refine RS (ok_call (dReplay_big X S (opAt o S.length) hk hn (o.b.toNat % 8 : Nat) (by omega)) (Args.cons rfl (Le.old _ _) (Args.cons rfl LA (Args.cons rfl LA Args.nil)))) ?_
 refine RM rfl ?_
 refine RS (ok_extractV rfl rfl) ?_
 refine RS (ok_extractV rfl rfl) ?_
 refine RN ?_
 refine ⟨_, eff_storeA (n := 52) (s := 1000009) (size27.of (rfl)) rfl rfl (rfl) hBb9 rfl (rfl) (LV 4 rfl (LV 6 rfl (LV 9 rfl (LV 28 rfl (LT 1000003 rfl (LB 1000004 rfl (LB 1000006 rfl (LO 1000200 rfl (LO 1000201 rfl LN))))))))), ?_⟩
 refine TL ?_
 refine RA rfl ?_
 refine RN ?_
 refine End.sub (KC 4 rfl (KC 6 rfl (KC 9 rfl (KC 10 rfl (KC 1000003 rfl (KC 1000004 rfl (KC 1000006 rfl (KC 1000009 rfl (KC 1000200 rfl (KC 1000201 rfl KN)))))))))) ?_
 refine End.normal_block ?_
 refine EN ?_
 refine A.seq ?_
 refine GS ?_
 refine TL ?_
 refine RM rfl ?_
 refine RB rfl rfl rfl ?_
 refine RN ?_
 refine A.yes rfl ?_
 refine GS ?_
 refine TF 2 ?_
 refine RS (OpOk.tlO (k := 1000201) [nI S.length, nI (totC S)] (ok_loadA (s := 1000004) (by decide) Try.underlying27 rfl (size27.of (rfl)) rfl rfl) rfl hv'1 (by decide) rfl) ?_
 refine RM rfl ?_
 refine RN ?_
 refine ⟨_, eff_storeK (n := 52) (s := 1000006) size27 rfl rfl (Le.old _ _) (Agg.disk) hBb6 rfl (rfl) (Surv.disk (.inl (by decide))) (LV 6 rfl (LV 50 rfl (LT 1000003 rfl (LB 1000004 rfl (LB 1000009 rfl (LO 1000200 rfl (LO 1000201 rfl LN))))))), ?_⟩
 refine TL ?_
 refine RA rfl ?_
 refine RN ?_
 refine A.ret ?_
 refine End.ret_then ?_
 exact End.varK2 (s := 1000006) rfl Try.underlying27 rfl size27 rfl rfl (by first | exact Le.refl _ | exact Le.old _ _) rfl (by first | exact Le.refl _ | exact Le.old _ _)
theorem do_fn (X : Nat → Prop) (o : OpT) (S : Dk) (hS : 0 < S.length) (hn : S.length ≤ 10922) (ht : totC S ≤ 1000) : Fn Try.prog 13 [opD o, diskD dT X S, .v (nI (S.length))] (tup [diskD dT X (opStep o S).1, .v (.int .i64 (opStep o S).2)]) := by
 unfold opStep
 by_cases h0 : o.k.toNat % 3 = 0
 ·rw [if_pos h0]
  by_cases hl : 256 < o.l.length
  ·rw [if_pos hl]; exact do_big X o S hS hn ht h0 hl
  ·rw [if_neg hl]; exact do_w X o S hS hn ht h0 hl
 ·rw [if_neg h0]
  by_cases h1 : o.k.toNat % 3 = 1
  ·rw [if_pos h1]; exact do_e X o S hS hn ht h0 h1
  ·rw [if_neg h1]
   by_cases hm : o.b.toNat % 8 ≤ (hisC S (opAt o S.length)).length
   ·rw [if_pos hm]; exact do_r X o S hS hn ht h0 h1 hm
   ·rw [if_neg hm]; exact do_no X o S hS hn ht h0 h1 hm
set_option maxHeartbeats 1000000 in
theorem xRef_fn (z : UInt8) (L : List OpT)  : Fn Try.prog 17 [xD z L] (refD 61 51 (xS z L)) := by
 refine Fn.of Try.func17 rfl (by kernel_rfl) Try.ntmps17 (by simp) (fun w => [(0, old w.heap.size (xD z L))]) (fun w => (Start.old rfl Start.nil)) fun w₀ => ?_
 refine A.nameTl (t := 0) (k := 1000200) rfl fun v hv1 => ?_
 refine GS ?_
 refine TN 0 ?_
 refine RN ?_
 refine ⟨_, _, eff_box (n := 30) (d := 1) (k := 1000001) rfl (by decide), fun b1 hb1 => ?_⟩
 have hBb1 := hb1.1
 refine TN 1 ?_
 refine RN ?_
 refine ⟨_, _, eff_alloc (n := 30) (d := 2) (k := 1000002) zero34 (by decide), fun b2 hb2 => ?_⟩
 have hBb2 := hb2.1
 refine TL ?_
 refine RN ?_
 refine GS ?_
 refine TN 3 ?_
 refine RS (OpOk.tlO (k := 1000200) [byteV z] (ok_loadA (s := 1000001) (by decide) Try.underlying24 rfl (size24.of (rfl)) rfl rfl) rfl hv1 (by decide) rfl) ?_
 refine RS (ok_call (xSize_fn z L) (Args.cons rfl (Le.old _ _) Args.nil)) ?_
 refine RS (ok_call (rNew_fn (nOf z) (by have := nOf_le z; omega)) (A1 rfl)) ?_
 refine RN ?_
 refine ⟨_, _, eff_alloc (n := 30) (d := 3) (k := 1000003) zero34 (by decide), fun b3 hb3 => ?_⟩
 have hBb3 := hb3.1
 have hlt_b2_b3 : b2 < b3 := hb3.2 1000002 _ _ _ rfl
 refine TF 4 ?_
 refine RN ?_
 refine ⟨_, eff_storeK (n := 30) (s := 1000003) size34 rfl rfl (Le.refl _) (Agg.ref) hBb3 rfl (rfl) (Surv.ref (by decide) (by decide)) (LV 1 rfl (LV 2 rfl (LV 3 rfl (LT 1000001 rfl (LB 1000002 rfl (LO 1000200 rfl LN)))))), ?_⟩
 refine TL ?_
 refine RN ?_
 refine A.seq ?_
 refine GS ?_
 refine TL ?_
 refine RA rfl ?_
 refine RN ?_
 refine A.block ?_
 refine A.loop (ι := Nat) (fun i => i ≤ min L.length 60) (fun i => [(1, .v (ptr b1)), (2, .v (ptr b2)), (3, .v (ptr b3)), (4, .v (nI (i))), (1000001, blk b1 24 [byteV z, v]), (1000002, blk b2 34 [.slice none 0 0]), (1000003, varK b3 34 1 (refD 61 51 (runOps (nOf z) (L.take i)))), (1000200, old w₀.heap.size (valM v (lstK 4 (L.map opD))))]) (fun i => min L.length 60 - i) 0 ?_ ?_ ?_
 ·exact Nat.zero_le _
 ·exact (KC 1 rfl (KC 2 rfl (KC 3 rfl (KE 4 rfl (by rfl) (KC 1000001 rfl (KC 1000002 rfl (KE 1000003 rfl (by rw [runOps_zero]) (KC 1000200 rfl KN))))))))
 intro i hG
 replace hG : i ≤ min L.length 60 := hG
 refine A.seq ?_
 rcases Bool.eq_false_or_eq_true (decide (i < L.length)) with hsp | hsp
 ·refine GS ?_
  refine TL ?_
  refine RM rfl ?_
  refine RS (ok_field field24_1 (by decide) rfl) ?_
  refine RS (OpOk.valO (k := 1000200) (ok_loadV (s := 1000001) (by decide) Try.underlying22 rfl rfl rfl (rfl)) (by decide) rfl) ?_
  refine RS (ok_lenK Try.underlying22 rfl (Le.old _ _)) ?_; refine RZ (nI (L.length)) (by rw [List.length_map]) ?_
  refine RBS rfl rfl rfl (.bool true) (congrArg Value.bool (by simpa using hsp)) ?_
  refine RM rfl ?_
  refine RQ (ok_move rfl) ?_
  refine RQ (ok_bin rfl rfl rfl) ?_
  refine RP rfl rfl ?_
  refine RN ?_
  refine A.cond rfl (fun hc16 => ?_) (fun hc16 => ?_)
  ·have hi : i < L.length ∧ i < 60 := ⟨of_decide_eq_true hsp, by simp at hc16; omega⟩
   refine A.skip ?_
   refine EN ?_
   refine A.seq ?_
   refine A.block ?_
   refine A.regL0 10 [9] (by kernel_rfl) (by kernel_rfl) (by kernel_rfl) (by kernel_rfl) [(1, .v (ptr b1)), (2, .v (ptr b2)), (3, .v (ptr b3)), (4, .v (nI (i))), (1000001, blk b1 24 [byteV z, v]), (1000002, blk b2 34 [.slice none 0 0]), (1000003, varK b3 34 1 (refD 61 51 ((opStep L[i] (runOps (nOf z) (L.take i))).1))), (1000200, old w₀.heap.size (valM v (lstK 4 (L.map opD))))] ?_ ?_
   ·refine RS (ok_field field24_1 (by decide) rfl) ?_
    refine RS (OpOk.valO (k := 1000200) (ok_loadV (s := 1000001) (by decide) Try.underlying22 rfl rfl rfl (rfl)) (by decide) rfl) ?_
    refine RM rfl ?_
    refine RS (ok_indexK i Try.underlying22 size39 rfl (Le.old _ _) rfl (op_get hi.1)) ?_
    refine RS (ok_loadK Try.underlying39 rfl size39 rfl (Le.refl _)) ?_
    refine RS (ok_loadVK (s := 1000003) (by decide) Try.underlying34 rfl size34 rfl rfl) ?_
    refine RS (ok_call (ref_fn L[i] (runOps (nOf z) (L.take i)) (by rw [runOps_len]; exact nOf_pos z) (by rw [runOps_len]; have := nOf_le z; omega) (Nat.le_trans (runOps_tot _ (nOf_pos z) _) (by rw [List.length_take]; omega))) (A2 rfl rfl)) ?_
    refine RM rfl ?_
    refine RS (ok_extract rfl rfl) ?_
    refine RS (ok_extract rfl rfl) ?_
    refine RN ?_
    intro S hS
    simp only [subs, List.map_cons, List.map_nil, List.cons_append, List.nil_append, List.mem_cons, List.not_mem_nil, or_false] at hS
    rcases hS with rfl | rfl
    ·refine ⟨0, Nat.le_of_ble_eq_true (by kernel_rfl), _, (KC 1 rfl (KC 2 rfl (KC 3 rfl (KC 4 rfl (KC 16 rfl (KC 19 rfl (KC 20 rfl (KC 21 rfl (KC 22 rfl (KC 23 rfl (KC 24 rfl (KC 25 rfl (KC 26 rfl (KC 27 rfl (KC 28 rfl (KC 1000001 rfl (KC 1000002 rfl (KC 1000003 rfl (KC 1000200 rfl KN))))))))))))))))))), by kernel_rfl, _, rfl, _, eff_storeKK (n := 30) (s := 1000003) size34 rfl rfl (Le.refl _) (Agg.ref) hBb3 rfl (Surv.ref (by decide) (by decide)) (LV 1 rfl (LV 2 rfl (LV 3 rfl (LV 4 rfl (LV 16 rfl (LeftS.cons (t := 19) rfl (Surv.tup2 (Surv.ref (by decide) (by decide)) (Surv.v _)) (LV 20 rfl (LO 21 rfl (LV 22 rfl (LeftS.cons (t := 25) rfl (Surv.ref (by decide) (by decide)) (LeftS.cons (t := 26) rfl (Surv.tup2 (Surv.ref (by decide) (by decide)) (Surv.v _)) (LeftS.cons (t := 27) rfl (Surv.ref (by decide) (by decide)) (LV 28 rfl (LT 1000001 rfl (LB 1000002 rfl (LO 1000200 rfl LN)))))))))))))))), ?_⟩
     refine AnyT.last (by kernel_rfl) ?_
     exact (SubL.cons (t := 1) rfl (Le.refl _) (SubL.cons (t := 2) rfl (Le.refl _) (SubL.cons (t := 3) rfl (Le.refl _) (SubL.cons (t := 4) rfl (Le.refl _) (SubL.cons (t := 1000001) rfl (Le.refl _) (SubL.cons (t := 1000002) rfl (Le.refl _) (SubL.cons (t := 1000003) rfl (Le.refl _) (SubL.cons (t := 1000200) rfl (Le.refl _) SubL.nil))))))))
    ·refine ⟨1, Nat.le_of_ble_eq_true (by kernel_rfl), _, (KC 1 rfl (KC 2 rfl (KC 3 rfl (KC 4 rfl (KC 16 rfl (KC 19 rfl (KC 20 rfl (KC 21 rfl (KC 22 rfl (KC 23 rfl (KC 24 rfl (KC 25 rfl (KC 26 rfl (KC 27 rfl (KC 1000001 rfl (KC 1000002 rfl (KC 1000003 rfl (KC 1000200 rfl KN)))))))))))))))))), by kernel_rfl, _, rfl, _, eff_storeKK (n := 30) (s := 1000003) size34 rfl rfl (Le.refl _) (Agg.ref) hBb3 rfl (Surv.ref (by decide) (by decide)) (LV 1 rfl (LV 2 rfl (LV 3 rfl (LV 4 rfl (LV 16 rfl (LeftS.cons (t := 19) rfl (Surv.tup2 (Surv.ref (by decide) (by decide)) (Surv.v _)) (LV 20 rfl (LO 21 rfl (LV 22 rfl (LeftS.cons (t := 25) rfl (Surv.ref (by decide) (by decide)) (LeftS.cons (t := 26) rfl (Surv.tup2 (Surv.ref (by decide) (by decide)) (Surv.v _)) (LeftS.cons (t := 27) rfl (Surv.ref (by decide) (by decide)) (LT 1000001 rfl (LB 1000002 rfl (LO 1000200 rfl LN))))))))))))))), ?_⟩
     refine AnyT.step 9 [] (by kernel_rfl) ?_
     refine NextT.pure (by kernel_rfl) rfl rfl rfl (ok_extract rfl rfl) ?_ ?_
     ·refine AnyT.last (by kernel_rfl) ?_
      exact (SubL.cons (t := 1) rfl (Le.refl _) (SubL.cons (t := 2) rfl (Le.refl _) (SubL.cons (t := 3) rfl (Le.refl _) (SubL.cons (t := 4) rfl (Le.refl _) (SubL.cons (t := 1000001) rfl (Le.refl _) (SubL.cons (t := 1000002) rfl (Le.refl _) (SubL.cons (t := 1000003) rfl (Le.refl _) (SubL.cons (t := 1000200) rfl (Le.refl _) SubL.nil))))))))
     exact trivial
   ·refine End.normal_block ?_
    refine EN ?_
    refine GE ?_
    refine TL ?_
    refine RM rfl ?_
    refine RBS rfl rfl rfl (nI (i + 1)) (wrap_eq (by omega) (by omega)) ?_
    refine RA rfl ?_
    refine RN ?_
    refine End.normal_then ?_
    refine End.again (i + 1) ?_ ?_ ?_
    ·show _ ≤ _; omega
    ·show _ - _ < _ - _; omega
    ·exact (KC 1 rfl (KC 2 rfl (KC 3 rfl (KC 4 rfl (KC 1000001 rfl (KC 1000002 rfl (KE 1000003 rfl (by rw [runOps_next hi.1]) (KC 1000200 rfl KN))))))))
  ·have hi2 : i = min L.length 60 := by have h9 := of_decide_eq_true hsp; simp at hc16; omega
   refine A.exit ?_
   refine End.exit_then ?_
   refine End.exit_then ?_
   refine End.exit_here ?_
   refine EN ?_
   refine GS ?_
   refine TF 1 ?_
   refine RS (ok_loadVK (s := 1000003) (by decide) Try.underlying34 rfl size34 rfl rfl) ?_
   refine RN ?_
   refine ⟨_, eff_storeK (n := 30) (s := 1000002) size34 rfl rfl (Le.refl _) (Agg.ref) hBb2 rfl (rfl) (Surv.ref (by decide) (by decide)) (LV 2 rfl (LT 1000001 rfl (LeftS.cons (t := 1000003) rfl (Surv.varK (by omega) (Surv.ref (by decide) (by decide))) (LO 1000200 rfl LN)))), ?_⟩
   refine TL ?_
   refine RN ?_
   refine A.ret ?_
   exact End.varK1 (s := 1000002) rfl Try.underlying34 rfl size34 rfl rfl (Le.eq (by rw [xS_end (by first | exact hi2 | (have h9 := of_decide_eq_false hsp; have h8 : i ≤ min L.length 60 := hG; omega))]))
 ·refine GS ?_
  refine TL ?_
  refine RM rfl ?_
  refine RS (ok_field field24_1 (by decide) rfl) ?_
  refine RS (OpOk.valO (k := 1000200) (ok_loadV (s := 1000001) (by decide) Try.underlying22 rfl rfl rfl (rfl)) (by decide) rfl) ?_
  refine RS (ok_lenK Try.underlying22 rfl (Le.old _ _)) ?_; refine RZ (nI (L.length)) (by rw [List.length_map]) ?_
  refine RBS rfl rfl rfl (.bool false) (congrArg Value.bool (by simpa using hsp)) ?_
  refine RM rfl ?_
  refine RK ?_
  refine RK ?_
  refine RP rfl rfl ?_
  refine RN ?_
  refine A.no rfl ?_
  refine A.exit ?_
  refine End.exit_then ?_
  refine End.exit_then ?_
  refine End.exit_here ?_
  refine EN ?_
  refine GS ?_
  refine TF 1 ?_
  refine RS (ok_loadVK (s := 1000003) (by decide) Try.underlying34 rfl size34 rfl rfl) ?_
  refine RN ?_
  refine ⟨_, eff_storeK (n := 30) (s := 1000002) size34 rfl rfl (Le.refl _) (Agg.ref) hBb2 rfl (rfl) (Surv.ref (by decide) (by decide)) (LV 2 rfl (LT 1000001 rfl (LeftS.cons (t := 1000003) rfl (Surv.varK (by omega) (Surv.ref (by decide) (by decide))) (LO 1000200 rfl LN)))), ?_⟩
  refine TL ?_
  refine RN ?_
  refine A.ret ?_
  exact End.varK1 (s := 1000002) rfl Try.underlying34 rfl size34 rfl rfl (Le.eq (by rw [xS_end (by first | exact hi2 | (have h9 := of_decide_eq_false hsp; have h8 : i ≤ min L.length 60 := hG; omega))]))
set_option maxHeartbeats 1000000 in
theorem xOf_fn (z : UInt8) (L : List OpT)  : Fn Try.prog 16 [xD z L] (diskD dT X0 (xS z L)) := by
 refine Fn.of Try.func16 rfl (by kernel_rfl) Try.ntmps16 (by simp) (fun w => [(0, old w.heap.size (xD z L))]) (fun w => (Start.old rfl Start.nil)) fun w₀ => ?_
 refine A.nameTl (t := 0) (k := 1000200) rfl fun v hv1 => ?_
 refine GS ?_
 refine TN 0 ?_
 refine RN ?_
 refine ⟨_, _, eff_box (n := 36) (d := 1) (k := 1000001) rfl (by decide), fun b1 hb1 => ?_⟩
 have hBb1 := hb1.1
 refine TN 1 ?_
 refine RN ?_
 refine ⟨_, _, eff_alloc (n := 36) (d := 2) (k := 1000002) zero27 (by decide), fun b2 hb2 => ?_⟩
 have hBb2 := hb2.1
 refine TL ?_
 refine RN ?_
 refine GS ?_
 refine TN 6 ?_
 refine RS (OpOk.tlO (k := 1000200) [byteV z] (ok_loadA (s := 1000001) (by decide) Try.underlying24 rfl (size24.of (rfl)) rfl rfl) rfl hv1 (by decide) rfl) ?_
 refine RS (ok_call (xSize_fn z L) (Args.cons rfl (Le.old _ _) Args.nil)) ?_
 refine RS (ok_call (dNew_ok (nOf z) (nOf_pos z) (by have := nOf_le z; omega)) (A1 rfl)) ?_
 refine RM rfl ?_
 refine RS (ok_extract rfl rfl) ?_
 refine RS (ok_extract rfl rfl) ?_
 refine RN ?_
 refine ⟨_, _, eff_alloc (n := 36) (d := 3) (k := 1000003) zero27 (by decide), fun b3 hb3 => ?_⟩
 have hBb3 := hb3.1
 have hlt_b2_b3 : b2 < b3 := hb3.2 1000002 _ _ _ rfl
 refine TF 7 ?_
 refine RN ?_
 refine ⟨_, eff_storeK (n := 36) (s := 1000003) size27 rfl rfl (Le.refl _) (Agg.disk) hBb3 rfl (rfl) (Surv.disk (.inl (by decide))) (LV 1 rfl (LV 2 rfl (LV 3 rfl (LV 11 rfl (LT 1000001 rfl (LB 1000002 rfl (LO 1000200 rfl LN))))))), ?_⟩
 refine TL ?_
 refine RA rfl ?_
 refine RN ?_
 refine A.seq ?_
 refine GS ?_
 refine TL ?_
 refine RA rfl ?_
 refine RN ?_
 refine A.block ?_
 refine A.loop (ι := Nat) (fun i => i ≤ min L.length 60) (fun i => [(1, .v (ptr b1)), (2, .v (ptr b2)), (3, .v (ptr b3)), (5, .v (nI (i))), (1000001, blk b1 24 [byteV z, v]), (1000002, blk b2 27 [nI 0, nI 0, .slice none 0 0]), (1000003, varK b3 27 3 (diskD dT X0 (runOps (nOf z) (L.take i)))), (1000200, old w₀.heap.size (valM v (lstK 4 (L.map opD))))]) (fun i => min L.length 60 - i) 0 ?_ ?_ ?_
 ·exact Nat.zero_le _
 ·exact (KC 1 rfl (KC 2 rfl (KC 3 rfl (KE 5 rfl (by rfl) (KC 1000001 rfl (KC 1000002 rfl (KE 1000003 rfl (by rw [runOps_zero]) (KC 1000200 rfl KN))))))))
 intro i hG
 replace hG : i ≤ min L.length 60 := hG
 refine A.seq ?_
 rcases Bool.eq_false_or_eq_true (decide (i < L.length)) with hsp | hsp
 ·refine GS ?_
  refine TL ?_
  refine RM rfl ?_
  refine RS (ok_field field24_1 (by decide) rfl) ?_
  refine RS (OpOk.valO (k := 1000200) (ok_loadV (s := 1000001) (by decide) Try.underlying22 rfl rfl rfl (rfl)) (by decide) rfl) ?_
  refine RS (ok_lenK Try.underlying22 rfl (Le.old _ _)) ?_; refine RZ (nI (L.length)) (by rw [List.length_map]) ?_
  refine RBS rfl rfl rfl (.bool true) (congrArg Value.bool (by simpa using hsp)) ?_
  refine RM rfl ?_
  refine RQ (ok_move rfl) ?_
  refine RQ (ok_bin rfl rfl rfl) ?_
  refine RP rfl rfl ?_
  refine RN ?_
  refine A.cond rfl (fun hc20 => ?_) (fun hc20 => ?_)
  ·have hi : i < L.length ∧ i < 60 := ⟨of_decide_eq_true hsp, by simp at hc20; omega⟩
   refine A.skip ?_
   refine EN ?_
   refine A.seq ?_
   refine A.block ?_
   refine A.regL0 12 [11] (by kernel_rfl) (by kernel_rfl) (by kernel_rfl) (by kernel_rfl) [(1, .v (ptr b1)), (2, .v (ptr b2)), (3, .v (ptr b3)), (5, .v (nI (i))), (1000001, blk b1 24 [byteV z, v]), (1000002, blk b2 27 [nI 0, nI 0, .slice none 0 0]), (1000003, varK b3 27 3 (diskD dT X0 ((opStep L[i] (runOps (nOf z) (L.take i))).1))), (1000200, old w₀.heap.size (valM v (lstK 4 (L.map opD))))] ?_ ?_
   ·refine RS (ok_field field24_1 (by decide) rfl) ?_
    refine RS (OpOk.valO (k := 1000200) (ok_loadV (s := 1000001) (by decide) Try.underlying22 rfl rfl rfl (rfl)) (by decide) rfl) ?_
    refine RM rfl ?_
    refine RS (ok_indexK i Try.underlying22 size39 rfl (Le.old _ _) rfl (op_get hi.1)) ?_
    refine RS (ok_loadK Try.underlying39 rfl size39 rfl (Le.refl _)) ?_
    refine RS (ok_loadVK (s := 1000003) (by decide) Try.underlying27 rfl size27 rfl rfl) ?_
    refine RS (OpOk.tlO (k := 1000200) [byteV z] (ok_loadA (s := 1000001) (by decide) Try.underlying24 rfl (size24.of (rfl)) rfl rfl) rfl hv1 (by decide) rfl) ?_
    refine RS (ok_call (xSize_fn z L) (Args.cons rfl (Le.old _ _) Args.nil)) ?_
    refine RS (ok_call (do_fn X0 L[i] (runOps (nOf z) (L.take i)) (by rw [runOps_len]; exact nOf_pos z) (by rw [runOps_len]; have := nOf_le z; omega) (Nat.le_trans (runOps_tot _ (nOf_pos z) _) (by rw [List.length_take]; omega))) (Args.cons rfl LA (Args.cons rfl LA (Args.cons rfl (Le.v (by rw [runOps_len])) Args.nil)))) ?_
    refine RM rfl ?_
    refine RS (ok_extract rfl rfl) ?_
    refine RS (ok_extract rfl rfl) ?_
    refine RN ?_
    intro S hS
    simp only [subs, List.map_cons, List.map_nil, List.cons_append, List.nil_append, List.mem_cons, List.not_mem_nil, or_false] at hS
    rcases hS with rfl | rfl
    ·refine ⟨0, Nat.le_of_ble_eq_true (by kernel_rfl), _, (KC 1 rfl (KC 2 rfl (KC 3 rfl (KC 5 rfl (KC 20 rfl (KC 23 rfl (KC 24 rfl (KC 25 rfl (KC 26 rfl (KC 27 rfl (KC 28 rfl (KC 29 rfl (KC 30 rfl (KC 31 rfl (KC 32 rfl (KC 33 rfl (KC 34 rfl (KC 1000001 rfl (KC 1000002 rfl (KC 1000003 rfl (KC 1000200 rfl KN))))))))))))))))))))), by kernel_rfl, _, rfl, _, eff_storeKK (n := 36) (s := 1000003) size27 rfl rfl (Le.refl _) (Agg.disk) hBb3 rfl (Surv.disk (.inl (by decide))) (LV 1 rfl (LV 2 rfl (LV 3 rfl (LV 5 rfl (LV 20 rfl (LeftS.cons (t := 23) rfl (Surv.tup2 (Surv.disk (.inl (by decide))) (Surv.v _)) (LV 24 rfl (LO 25 rfl (LV 26 rfl (LeftS.cons (t := 29) rfl (Surv.disk (.inl (by decide))) (LO 30 rfl (LV 31 rfl (LeftS.cons (t := 32) rfl (Surv.tup2 (Surv.disk (.inl (by decide))) (Surv.v _)) (LeftS.cons (t := 33) rfl (Surv.disk (.inl (by decide))) (LV 34 rfl (LT 1000001 rfl (LB 1000002 rfl (LO 1000200 rfl LN)))))))))))))))))), ?_⟩
     refine AnyT.last (by kernel_rfl) ?_
     exact (SubL.cons (t := 1) rfl (Le.refl _) (SubL.cons (t := 2) rfl (Le.refl _) (SubL.cons (t := 3) rfl (Le.refl _) (SubL.cons (t := 5) rfl (Le.refl _) (SubL.cons (t := 1000001) rfl (Le.refl _) (SubL.cons (t := 1000002) rfl (Le.refl _) (SubL.cons (t := 1000003) rfl (Le.refl _) (SubL.cons (t := 1000200) rfl (Le.refl _) SubL.nil))))))))
    ·refine ⟨1, Nat.le_of_ble_eq_true (by kernel_rfl), _, (KC 1 rfl (KC 2 rfl (KC 3 rfl (KC 5 rfl (KC 20 rfl (KC 23 rfl (KC 24 rfl (KC 25 rfl (KC 26 rfl (KC 27 rfl (KC 28 rfl (KC 29 rfl (KC 30 rfl (KC 31 rfl (KC 32 rfl (KC 33 rfl (KC 1000001 rfl (KC 1000002 rfl (KC 1000003 rfl (KC 1000200 rfl KN)))))))))))))))))))), by kernel_rfl, _, rfl, _, eff_storeKK (n := 36) (s := 1000003) size27 rfl rfl (Le.refl _) (Agg.disk) hBb3 rfl (Surv.disk (.inl (by decide))) (LV 1 rfl (LV 2 rfl (LV 3 rfl (LV 5 rfl (LV 20 rfl (LeftS.cons (t := 23) rfl (Surv.tup2 (Surv.disk (.inl (by decide))) (Surv.v _)) (LV 24 rfl (LO 25 rfl (LV 26 rfl (LeftS.cons (t := 29) rfl (Surv.disk (.inl (by decide))) (LO 30 rfl (LV 31 rfl (LeftS.cons (t := 32) rfl (Surv.tup2 (Surv.disk (.inl (by decide))) (Surv.v _)) (LeftS.cons (t := 33) rfl (Surv.disk (.inl (by decide))) (LT 1000001 rfl (LB 1000002 rfl (LO 1000200 rfl LN))))))))))))))))), ?_⟩
     refine AnyT.step 11 [] (by kernel_rfl) ?_
     refine NextT.pure (by kernel_rfl) rfl rfl rfl (ok_extract rfl rfl) ?_ ?_
     ·refine AnyT.last (by kernel_rfl) ?_
      exact (SubL.cons (t := 1) rfl (Le.refl _) (SubL.cons (t := 2) rfl (Le.refl _) (SubL.cons (t := 3) rfl (Le.refl _) (SubL.cons (t := 5) rfl (Le.refl _) (SubL.cons (t := 1000001) rfl (Le.refl _) (SubL.cons (t := 1000002) rfl (Le.refl _) (SubL.cons (t := 1000003) rfl (Le.refl _) (SubL.cons (t := 1000200) rfl (Le.refl _) SubL.nil))))))))
     exact trivial
   ·refine End.normal_block ?_
    refine EN ?_
    refine GE ?_
    refine TL ?_
    refine RM rfl ?_
    refine RBS rfl rfl rfl (nI (i + 1)) (wrap_eq (by omega) (by omega)) ?_
    refine RA rfl ?_
    refine RN ?_
    refine End.normal_then ?_
    refine End.again (i + 1) ?_ ?_ ?_
    ·show _ ≤ _; omega
    ·show _ - _ < _ - _; omega
    ·exact (KC 1 rfl (KC 2 rfl (KC 3 rfl (KC 5 rfl (KC 1000001 rfl (KC 1000002 rfl (KE 1000003 rfl (by rw [runOps_next hi.1]) (KC 1000200 rfl KN))))))))
  ·have hi2 : i = min L.length 60 := by have h9 := of_decide_eq_true hsp; simp at hc20; omega
   refine A.exit ?_
   refine End.exit_then ?_
   refine End.exit_then ?_
   refine End.exit_here ?_
   refine EN ?_
   refine GS ?_
   refine TF 1 ?_
   refine RS (ok_loadVK (s := 1000003) (by decide) Try.underlying27 rfl size27 rfl rfl) ?_
   refine RN ?_
   refine ⟨_, eff_storeK (n := 36) (s := 1000002) size27 rfl rfl (Le.refl _) (Agg.disk) hBb2 rfl (rfl) (Surv.disk (.inl (by decide))) (LV 2 rfl (LT 1000001 rfl (LeftS.cons (t := 1000003) rfl (Surv.varK (by omega) (Surv.disk (.inl (by decide)))) (LO 1000200 rfl LN)))), ?_⟩
   refine TL ?_
   refine RN ?_
   refine A.ret ?_
   exact End.varK1 (s := 1000002) rfl Try.underlying27 rfl size27 rfl rfl (Le.eq (by rw [xS_end (by first | exact hi2 | (have h9 := of_decide_eq_false hsp; have h8 : i ≤ min L.length 60 := hG; omega))]))
 ·refine GS ?_
  refine TL ?_
  refine RM rfl ?_
  refine RS (ok_field field24_1 (by decide) rfl) ?_
  refine RS (OpOk.valO (k := 1000200) (ok_loadV (s := 1000001) (by decide) Try.underlying22 rfl rfl rfl (rfl)) (by decide) rfl) ?_
  refine RS (ok_lenK Try.underlying22 rfl (Le.old _ _)) ?_; refine RZ (nI (L.length)) (by rw [List.length_map]) ?_
  refine RBS rfl rfl rfl (.bool false) (congrArg Value.bool (by simpa using hsp)) ?_
  refine RM rfl ?_
  refine RK ?_
  refine RK ?_
  refine RP rfl rfl ?_
  refine RN ?_
  refine A.no rfl ?_
  refine A.exit ?_
  refine End.exit_then ?_
  refine End.exit_then ?_
  refine End.exit_here ?_
  refine EN ?_
  refine GS ?_
  refine TF 1 ?_
  refine RS (ok_loadVK (s := 1000003) (by decide) Try.underlying27 rfl size27 rfl rfl) ?_
  refine RN ?_
  refine ⟨_, eff_storeK (n := 36) (s := 1000002) size27 rfl rfl (Le.refl _) (Agg.disk) hBb2 rfl (rfl) (Surv.disk (.inl (by decide))) (LV 2 rfl (LT 1000001 rfl (LeftS.cons (t := 1000003) rfl (Surv.varK (by omega) (Surv.disk (.inl (by decide)))) (LO 1000200 rfl LN)))), ?_⟩
  refine TL ?_
  refine RN ?_
  refine A.ret ?_
  exact End.varK1 (s := 1000002) rfl Try.underlying27 rfl size27 rfl rfl (Le.eq (by rw [xS_end (by first | exact hi2 | (have h9 := of_decide_eq_false hsp; have h8 : i ≤ min L.length 60 := hG; omega))]))
end Go.Proofs.Ytdhbhcbkhkopbaa
