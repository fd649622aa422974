/-
  OWN TEXTS of this seat, put together, part 3: C01d, C08a, Acts, Cut, Gf, Aes, SealE, Rec, Flow, C10a, C10b, Late, Node, C13a, Rets.
-/
import Derived.Test.YtmkpekmhhbcifaaGreatDoorQo0
import Derived.Test.YtmkpekmhhbcifaaGreatDoorQo2
import Derived.Test.YtmkpekmhhbcifaaGreatDoorQo1
namespace Go.Proofs.YtmkpekmhhbcifaaGreatDoor
set_option linter.unusedVariables false
set_option linter.unusedSimpArgs false
set_option maxRecDepth 20000
open Go Go.RowKit
theorem Join_fnB (ps : List (List UInt8)) (hps : ps.length ≤ 1000000) (htot : ps.flatten.length ≤ 1000000) : FnB Tryz.prog 145 [lst (ps.map byt)] (fun B => fresh B 5 (ps.flatten.map byteV) ps.flatten.length) := by
 refine FnB.of Tryz.func145 rfl (by kernel_rfl) Tryz.ntmps145 (by simp) (fun w => [(0, old w.heap.size (lst (ps.map byt)))]) (fun w => (Start.old rfl Start.nil)) fun w₀ => ?_
 refine GV rfl (GV rfl (QS (GT (RM rfl ?_))));refine RS (ok_len U222 rfl LA) ?_;refine RZ (.int .i64 (ps.length : Int)) (by simp) ?_;refine RVN 1 rfl ?_;refine A.block ?_;refine A.loop (ι := Nat) (fun i => i ≤ ps.length) (fun i => [(0, old w₀.heap.size (lst (ps.map byt))), (3, .v (nI ((ps.take i).flatten.length))), (10, old w₀.heap.size (lst (ps.map byt))), (11, .v (.int .i64 (ps.length : Int))), (12, .v (.int .i64 (i : Int)))]) (fun i => ps.length - i) 0 ?_ ?_ ?_
 ·exact Nat.zero_le _
 ·exact (Sv [0,3,10,11,12] rfl)
 intro i hi
 refine GV rfl (QS ?_);refine A.cond rfl (fun hc13 => ?_) (fun hc13 => ?_)
 ·have hlt : i < ps.length := by simpa using hc13
  have hget : ps[i]? = some ps[i] := List.getElem?_eq_getElem hlt
  have hT := flatten_take_le ps (i + 1)
  rw [flatten_take_succ hget, List.length_append] at hT
  refine QK (QSB (GT (RS (ok_index (d := byt ps[i]) U222 info23 rfl LA rfl (by omega) (by simp [hlt])) ?_)));refine RS (ok_load U23 rfl rfl) ?_;refine RVN 1 rfl ?_;refine GTE (RV 2 rfl ?_);refine RS (ok_lenB U23 rfl LA) ?_;refine RB rfl rfl rfl ?_;refine RZ (nI ((ps.take (i + 1)).flatten.length)) (by rw [wrap_i64 (by omega) (by omega), flatten_take_succ hget, List.length_append]; congr 1) ?_;refine RVN 1 rfl ?_;refine End.normal_block (EN (GTE (RB rfl rfl rfl ?_)));refine RZ (nI (i + 1)) (by rw [wrap_i64 (by omega) (by omega)]; congr 1) ?_;refine RVN 1 rfl ?_;refine End.normal_then ?_;refine End.again (i + 1) ?_ ?_ ?_
  ·show _ ≤ _; omega
  ·show _ - _ < _ - _; omega
  ·exact (Sv [0,3,10,11,12] rfl)
 ·have hi2 : i = ps.length := by simp at hc13; omega
  refine A.exit (End.exit_then (End.exit_then (End.exit_here (EN (GT (RM rfl ?_))))));refine RS (ok_make ps.flatten.length U23 info5 (by decide) rfl rfl rfl (by rw [hi2, List.take_length]) (by rw [hi2, List.take_length]) (by omega)) ?_;refine RVN 1 rfl ?_;refine A.open (t := 6) (k := 1000000) rfl fun b hb => ?_
  refine GV rfl (QS (GT (RM rfl ?_)));refine RS (ok_len U222 rfl LA) ?_;refine RZ (.int .i64 (ps.length : Int)) (by simp) ?_;refine RVN 1 rfl ?_;refine A.block ?_;refine A.loop (ι := Nat) (fun i => i ≤ ps.length) (fun i => [(6, .v (.slice (some ⟨b, 0, none⟩) ps.flatten.length ps.flatten.length)), (7, .v (nI ((ps.take i).flatten.length))), (23, old w₀.heap.size (lst (ps.map byt))), (24, .v (.int .i64 (ps.length : Int))), (25, .v (.int .i64 (i : Int))), (1000000, blk b 5 ((ps.take i).flatten.map byteV ++ List.replicate (ps.flatten.length - (ps.take i).flatten.length) (.int .u8 0)))]) (fun i => ps.length - i) 0 ?_ ?_ ?_
  ·exact Nat.zero_le _
  ·exact (KE 6 rfl (by simp) (KC 7 rfl (KC 23 rfl (KC 24 rfl (KC 25 rfl (KE 1000000 rfl (by simp) KN))))))
  intro i hi
  refine GV rfl (QS ?_);refine A.cond rfl (fun hc26 => ?_) (fun hc26 => ?_)
  ·have hlt : i < ps.length := by simpa using hc26
   have hget : ps[i]? = some ps[i] := List.getElem?_eq_getElem hlt
   have hT := flatten_take_le ps (i + 1)
   rw [flatten_take_succ hget, List.length_append] at hT
   refine QK (QSB (GT (RS (ok_index (d := byt ps[i]) U222 info23 rfl LA rfl (by omega) (by simp [hlt])) ?_)));refine RS (ok_load U23 rfl rfl) ?_;refine RVN 1 rfl ?_;refine GE (TF 5 (RV 3 rfl ?_));refine RS (ok_sliceV (ps.take i).flatten.length U23 info5 rfl rfl (by omega) (Nat.le_refl _)) ?_;refine RVN 1 rfl ?_;refine ⟨_, eff_copy (s := 1000000) (l := ps[i]) U23 info5 rfl rfl (Le.refl _) (by omega) hb rfl (by simp only [List.length_append, List.length_map, List.length_replicate]; split <;> omega) (by decide) (Left.cons (t := 6) rfl (Stays.v _ _) (Left.cons (t := 23) rfl (Stays.old _ _) (Left.cons (t := 24) rfl (Stays.v _ _) (Left.cons (t := 25) rfl (Stays.v _ _) (Left.cons (t := 29) rfl (Stays.v _ _) Left.nil))))), ?_⟩
   refine TL (RB rfl rfl rfl ?_);refine RZ (nI ((ps.take (i + 1)).flatten.length)) (by rw [wrap_i64 (by omega) (by omega), flatten_take_succ hget, List.length_append]; congr 1) ?_;refine RVN 1 rfl ?_;refine End.normal_block (EN (GTE (RB rfl rfl rfl ?_)));refine RZ (nI (i + 1)) (by rw [wrap_i64 (by omega) (by omega)]; congr 1) ?_;refine RVN 1 rfl ?_;refine End.normal_then ?_;refine End.again (i + 1) ?_ ?_ ?_
   ·show _ ≤ _; omega
   ·show _ - _ < _ - _; omega
   ·exact (KC 6 rfl (KC 7 rfl (KC 23 rfl (KC 24 rfl (KC 25 rfl (KE 1000000 rfl (congrArg _ (copy_step hget (by omega) rfl)) KN))))))
  ·have hi2 : i = ps.length := by simp at hc26; omega
   refine A.exit (End.exit_then (End.exit_then (End.exit_here (EN (GV rfl (A.ret ?_))))))
   subst hi2
   exact End.fresh rfl hb rfl (by rw [List.length_map]) (k := 1000000) rfl (by rw [List.take_length, Nat.sub_self, List.replicate_zero, List.append_nil])
theorem Join_fn (ps : List (List UInt8)) (hps : ps.length ≤ 1000000) (htot : ps.flatten.length ≤ 1000000) : Fn Tryz.prog 145 [lst (ps.map byt)] (bytes ps.flatten ps.flatten.length) :=
 (Join_fnB ps hps htot).fn fun _ => fresh_bytes rfl (by simp only [maxLen]; omega)
theorem info46 : InfoIs Tryz.prog 46 (.int .u32 0) 4 := by unfold InfoIs; kernel_rfl
theorem info47 : InfoIs Tryz.prog 47 (.int .u64 0) 8 := by unfold InfoIs; kernel_rfl
theorem size49 : SizeIs Tryz.prog 49 2 := by unfold SizeIs; kernel_rfl
theorem field49_0 : FieldIs Tryz.prog 49 0 0 1 := by unfold FieldIs; kernel_rfl
theorem field49_1 : FieldIs Tryz.prog 49 1 1 1 := by unfold FieldIs; kernel_rfl
theorem buildN (s c : Nat) : Tryz.prog.built 49 [(0, .int .u32 (s : Int)), (1, .int .u64 (c : Int))] = some ([nW s, nQ c] : List Value).toArray := by kernel_rfl
theorem ref8Put_fn (s c : Nat) (hs : s < 4294967296) (hc : c < 18446744073709551616) : Fn Tryz.prog 119 [.v (aggV ([nW s, nQ c]))] (byt (nonceL s c)) := by
 refine FV Tryz.func119 rfl Tryz.ntmps119 rfl fun w₀ => ?_
 refine GS (TN 0 (RN ?_));refine ZB 1000001 rfl fun b1 ⟨hBb1, hb1⟩ => ?_
 refine TL (RVN 1 rfl ?_);refine GTD (RS (ok_field field49_0 (by decide) rfl) ?_);refine RLV 1000001 U46 rfl rfl rfl ?_;refine RS (ok_call ((refPut32_fn ((s : Nat) : Int) (by omega) (by omega)).le (d' := bytes (be 4 s) 4) (Le.refl _)) (A1 rfl)) ?_;refine RS (ok_field field49_1 (by decide) rfl) ?_;refine RLV 1000001 U47 rfl rfl rfl ?_;refine RS (ok_call ((refPut64_fn ((c : Nat) : Int) (by omega) (by omega)).le (d' := bytes (be 8 c) 8) (Le.refl _)) (A1 rfl)) ?_;refine RS (ok_appendFull (l := be 4 s) (m := be 8 c) U23 info5 (by decide) rfl rfl (Le.eq (by rw [be_length])) rfl (le_byt _ _) (by rw [be_length]; decide) (by rw [be_length]; decide) (by rw [be_length, be_length]; decide)) ?_;refine RVN 1 rfl ?_;refine A.ret ?_;exact End.ret1 rfl rfl (own_byt (B := w₀.heap.size) (e := 5) (n := (be 4 s).length + (be 8 c).length) (l := nonceL s c) (by rw [nonceL_length, be_length, be_length]))
theorem Put_fn (s c : Nat) (hs : s < 4294967296) (hc : c < 18446744073709551616) : Fn Tryz.prog 146 [.v (aggV ([nW s, nQ c]))] (bytes (nonceL s c) 12) := by
 refine FV Tryz.func146 rfl Tryz.ntmps146 rfl fun w₀ => ?_
 refine GS (TN 0 (RN ?_));refine ZB 1000001 rfl fun b1 ⟨hBb1, hb1⟩ => ?_
 refine TL (RVN 1 rfl ?_);refine GTD (RS (ok_field field49_0 (by decide) rfl) ?_);refine RLV 1000001 U46 rfl rfl rfl ?_;refine RS (ok_call ((Put32_fn ((s : Nat) : Int) (by omega) (by omega)).le (d' := bytes (be 4 s) 4) (Le.refl _)) (A1 rfl)) ?_;refine RS (ok_field field49_1 (by decide) rfl) ?_;refine RLV 1000001 U47 rfl rfl rfl ?_;refine RS (ok_call ((Put64_fn ((c : Nat) : Int) (by omega) (by omega)).le (d' := bytes (be 8 c) 8) (Le.refl _)) (A1 rfl)) ?_;refine RS (ok_build [bytes (be 4 s) 4, bytes (be 8 c) 8] U222 info23 rfl (by decide) (by decide) rfl ⟨rfl, rfl, rfl, rfl, trivial⟩ (fun d hd w x h => by simp only [List.mem_cons, List.not_mem_nil, or_false] at hd; rcases hd with rfl | rfl <;> exact list_one h)) ?_;refine RS ((ok_call (Join_fn [be 4 s, be 8 c] (by simp) (by simp [be_length])) (Args.cons rfl (list_lst2 (le_byt _ 4) (le_byt _ 8)) Args.nil)).le (d' := bytes (nonceL s c) 12) (Le.eq (by simp [be_length]; rfl))) ?_;refine RVN 1 rfl ?_;refine A.ret ?_;exact ER rfl rfl
section
variable {κ : Cx}
theorem vL {k : Nat} (h : Nat.ble vbase k = true) : vbase ≤ k := Nat.le_of_ble_eq_true h
structure WroteL (gs : List (TypeId × Nat)) (w w' : World) : Prop where
 os : w'.os = w.os
 tape : w'.tape = w.tape
 output : w'.output = w.output
 size : w.heap.size ≤ w'.heap.size
 lt : ∀ p ∈ gs, p.2 < w.heap.size
 cel : ∀ p ∈ gs, ∀ o, w.heap[p.2]? = some o → ∃ cs fr, o = .cells cs p.1 fr
 other : ∀ k, k < w.heap.size → (∀ p ∈ gs, k ≠ p.2) → w'.heap[k]? = w.heap[k]?
theorem WroteL.refl {gs : List (TypeId × Nat)} {w : World} (h : ∀ p ∈ gs, p.2 < w.heap.size) (hc : ∀ p ∈ gs, ∀ o, w.heap[p.2]? = some o → ∃ cs fr, o = .cells cs p.1 fr) : WroteL gs w w :=
 ⟨rfl, rfl, rfl, Nat.le_refl _, h, hc, fun _ _ _ => rfl⟩
theorem WroteL.keep {B : Nat} {d : D} : ∀ {gs : List (TypeId × Nat)}, (∀ p ∈ gs, B ≤ p.2) → (∀ p ∈ gs, Surv B p.1 p.2 d) → ∀ {w w' : World} {x : Value}, WroteL gs w w' → d.Of w x → d.Of w' x
 | [], _, _, w, w', x, h, hx => D.Of.grow hx ⟨h.os, h.tape, h.output, h.size, fun k hk => h.other k hk (fun _ hp => by cases hp)⟩
 | p :: gs, hB, hs, w, w', x, h, hx => by
  have hlt := h.lt p List.mem_cons_self
  have hlt' : p.2 < w'.heap.size := Nat.lt_of_lt_of_le hlt h.size
  obtain ⟨wm, e1, e2, e3, e4, hat⟩ : ∃ wm : World, wm.os = w'.os ∧ wm.tape = w'.tape ∧ wm.output = w'.output ∧ wm.heap.size = w'.heap.size ∧ ∀ k, wm.heap[k]? = if k = p.2 then w.heap[k]? else w'.heap[k]? :=
   ⟨{ w' with heap := w'.heap.setIfInBounds p.2 w.heap[p.2] }, rfl, rfl, rfl, by simp, fun k => by
    show (w'.heap.setIfInBounds p.2 w.heap[p.2])[k]? = _
    split
    ·rename_i hk; subst hk; simp [hlt', hlt]
    ·rename_i hk; exact Array.getElem?_setIfInBounds_ne (fun e => hk e.symm)⟩
  have h1 : WroteL gs w wm := ⟨e1.trans h.os, e2.trans h.tape, e3.trans h.output, by rw [e4]; exact h.size, fun q hq => h.lt q (List.mem_cons_of_mem _ hq), fun q hq => h.cel q (List.mem_cons_of_mem _ hq), fun k hk hne => by
   rw [hat]
   split
   ·rfl
   ·rename_i hkp
    exact h.other k hk fun q hq => by
     rcases List.mem_cons.1 hq with rfl | hq
     ·exact hkp
     ·exact hne q hq⟩
  have h2 := WroteL.keep (fun q hq => hB q (List.mem_cons_of_mem _ hq)) (fun q hq => hs q (List.mem_cons_of_mem _ hq)) h1 hx
  refine hs p List.mem_cons_self wm w' x ⟨hB p List.mem_cons_self, e1.symm, e2.symm, e3.symm, Nat.le_of_eq e4, fun o ho => ?_, fun k hk hne => ?_⟩ h2
  ·rw [hat, if_pos rfl] at ho
   exact h.cel p List.mem_cons_self o ho
  ·rw [hat, if_neg hne]
theorem WroteL.below {gs : List (TypeId × Nat)} {B : Nat} {w w' : World} (h : WroteL gs w w') (hB : ∀ p ∈ gs, B ≤ p.2) (hw : B ≤ w.heap.size) : Below B w w' :=
 ⟨h.os, h.tape, h.output, h.size, fun k hk => h.other k (by omega) fun p hp => by have := hB p hp; omega⟩
def wroteL (gs : List (TypeId × Nat)) (w₁ : World) : D :=
 .p (fun B w _ => w₁.heap.size ≤ B ∧ WroteL gs w₁ w) (fun _ _ _ _ h ⟨h1, h2⟩ => ⟨h1, ⟨h.os.trans h2.os, h.tape.trans h2.tape, h.output.trans h2.output, Nat.le_trans h2.size h.size, h2.lt, h2.cel, fun k hk hne => (h.block k (Nat.lt_of_lt_of_le hk h1)).trans (h2.other k hk hne)⟩⟩)
  (fun _ _ _ _ h ⟨h1, h2⟩ => ⟨Nat.le_trans h1 h, h2⟩)
theorem Surv.wroteL {B T g : Nat} {gs : List (TypeId × Nat)} {w₁ : World} (hg : ∃ p ∈ gs, p.2 = g) : Surv B T g (wroteL gs w₁) := fun _ _ _ k ⟨h1, h2⟩ => by
 obtain ⟨p, hp, rfl⟩ := hg
 exact ⟨Nat.le_trans h1 k.size, ⟨k.os.trans h2.os, k.tape.trans h2.tape, k.output.trans h2.output, Nat.le_trans h2.size k.size, h2.lt, h2.cel, fun j hj hne => (k.other j (Nat.lt_of_lt_of_le hj h1) (hne p hp)).trans (h2.other j hj hne)⟩⟩
theorem Surv.wroteLN {B T b : Nat} {gs : List (TypeId × Nat)} {w₁ : World} (h : w₁.heap.size ≤ b) : Surv B T b (Go.Proofs.YtmkpekmhhbcifaaGreatDoor.wroteL gs w₁) := fun _ _ _ k ⟨h1, h2⟩ =>
 ⟨Nat.le_trans h1 k.size, ⟨k.os.trans h2.os, k.tape.trans h2.tape, k.output.trans h2.output, Nat.le_trans h2.size k.size, h2.lt, h2.cel, fun j hj hne => (k.other j (Nat.lt_of_lt_of_le hj h1) (by omega)).trans (h2.other j hj hne)⟩⟩
def LeftL (B : Nat) (gs : List (TypeId × Nat)) (E' E : Env) : Prop := ∀ q ∈ E', E.look q.1 = some q.2 ∧ ∀ p ∈ gs, Surv B p.1 p.2 q.2
theorem LeftL.one {B T g : Nat} {E' E : Env} (h : LeftS B T g E' E) : LeftL B [(T, g)] E' E := fun q hq => ⟨(h q hq).1, fun p hp => by
 rcases List.mem_cons.1 hp with rfl | hp
 ·exact (h q hq).2
 ·cases hp⟩
theorem LeftL.cons {B T g : Nat} {gs : List (TypeId × Nat)} {E' E : Env} (h : LeftS B T g E' E) (hr : LeftL B gs E' E) : LeftL B ((T, g) :: gs) E' E := fun q hq => ⟨(h q hq).1, fun p hp => by
 rcases List.mem_cons.1 hp with rfl | hp
 ·exact (h q hq).2
 ·exact (hr q hq).2 p hp⟩
theorem LeftL.st {n B : Nat} {gs : List (TypeId × Nat)} {E E' : Env} {a : Act} {w w' : World} (hl : LeftL B gs E' E) (hB : ∀ p ∈ gs, B ≤ p.2) (h : St κ n B E a w) (k : WroteL gs w w') : St κ n B E' a w' :=
 ⟨Nat.le_trans h.base k.size, h.defers, h.size, fun t d hd => by
  obtain ⟨h1, h2⟩ := hl _ (look_mem hd)
  exact k.keep hB h2 (h.of t d h1)⟩
theorem look_append {E₁ E₂ : Env} {t : Nat} {d : D} (h : (E₁ ++ E₂).look t = some d) : E₁.look t = some d ∨ E₂.look t = some d := by
 induction E₁ with
 | nil => exact .inr h
 | cons p r ih =>
  obtain ⟨s, e⟩ := p
  by_cases hs : s = t
  ·subst hs
   rw [List.cons_append, look_here] at h
   exact .inl (by rw [look_here]; exact h)
  ·rw [List.cons_append, look_past _ _ hs] at h
   rw [look_past _ _ hs]
   exact ih h
def selfL (gs : List (TypeId × Nat)) : D :=
 .p (fun B w _ => ∀ p ∈ gs, p.2 < B ∧ ∃ cs fr, w.heap[p.2]? = some (.cells cs p.1 fr)) (fun _ _ _ _ g h p hp => ⟨(h p hp).1, by rw [g.block _ (h p hp).1]; exact (h p hp).2⟩) (fun _ _ _ _ g h p hp => ⟨Nat.lt_of_lt_of_le (h p hp).1 g, (h p hp).2⟩)
structure FnL (P : Program) (f : FuncId) (B : Nat) (gs : List (TypeId × Nat)) (us : List Value) (M : Env) (G : Nat → Nat → Prop) (u : Nat → Value) (M' : Nat → Env) : Prop where
 body : ∃ fn, P.funcs[f]? = some fn ∧ (fn.name == "runtime.NumGoroutine") = false ∧ fn.body.isNone = false
 calls : ∀ w : World, B ≤ w.heap.size → (∀ p ∈ M, p.2.Of w undef) → WroteL gs w w →
  Calls P f us.toArray w fun e w' => ∃ i, G w.heap.size i ∧ e = .returned (u i) ∧ WroteL gs w w' ∧ ∀ p ∈ M' i, p.2.Of w' undef
def PL (gs : List (TypeId × Nat)) (w₁ : World) (G : Nat → Nat → Prop) (u : Nat → Value) (M' : Nat → Env) : Ending → World → Prop :=
 fun e w' => ∃ i, G w₁.heap.size i ∧ e = .returned (u i) ∧ WroteL gs w₁ w' ∧ ∀ p ∈ M' i, p.2.Of w' undef
theorem FnL.of {P : Program} {n : Nat} {f : FuncId} {fn : Func} {c : Code} {B : Nat} {gs : List (TypeId × Nat)} {us : List Value} {M : Env} {G : Nat → Nat → Prop} {u : Nat → Value} {M' : Nat → Env} {kw ks : Nat}
  (hf : P.funcs[f]? = some fn) (hb : fn.body = some c) (hname : (fn.name == "runtime.NumGoroutine") = false) (hn : fn.ntmps = n) (hds : us.length ≤ n) (hnv : n ≤ vbase) (hMb : ∀ p ∈ M, vbase ≤ p.1) (hkw : vbase ≤ kw) (hks : vbase ≤ ks) (args : Env) (hargs : ∀ p ∈ args, ∃ v, p.2 = .v v ∧ us[p.1]? = some v)
  (h : ∀ w₀ w₁ : World, w₀.heap.size = B → B ≤ w₁.heap.size → A Cx.top P w₀ n c (args ++ ((kw, wroteL gs w₁) :: (ks, selfL gs) :: M)) (BP P fn (PL gs w₁ G u M'))) : FnL P f B gs us M G u M' := by
 refine ⟨⟨fn, hf, hname, by rw [hb]; rfl⟩, fun w hB hM hgs => ?_⟩
 have hsz := cutW_size (w := w) (g := B) hB
 refine callsIn_FR.1 (callsIn_of_wp_marks (F := FR none) (n := 0) hf hb trivial (h (cutW w B) w hsz hB _ w (cutW_below hB) ⟨by rw [hsz]; exact hB, rfl, ?_, fun t e he => ?_⟩))
 ·simp [hn]; omega
 ·show e.Of w ((us.toArray ++ Array.replicate (fn.ntmps - us.toArray.size) undef).getD t undef)
  have hund : vbase ≤ t → (us.toArray ++ Array.replicate (fn.ntmps - us.toArray.size) undef).getD t undef = undef := fun ht => by
   rw [Array.getD_eq_getD_getElem?, Array.getElem?_eq_none (by simp [hn]; omega)]; rfl
  rcases List.mem_append.1 (look_mem he) with hm | hm
  ·obtain ⟨v, h1, h2⟩ := hargs _ hm
   simp only at h1 h2
   have hj : t < us.length := (List.getElem?_eq_some_iff.1 h2).1
   rw [Array.getD_eq_getD_getElem?, Array.getElem?_append_left (by simpa using hj)]
   subst h1
   simp [h2]; rfl
  ·rcases List.mem_cons.1 hm with h1 | hm
   ·injection h1 with h1 h2; subst h1; subst h2
    exact ⟨Nat.le_refl _, hgs⟩
   ·rcases List.mem_cons.1 hm with h1 | hm
    ·injection h1 with h1 h2; subst h1; subst h2
     exact fun p hp => ⟨hgs.lt p hp, by
      have h3 := Array.getElem?_eq_getElem (hgs.lt p hp)
      obtain ⟨cs, fr, h4⟩ := hgs.cel p hp _ h3
      exact ⟨cs, fr, by rw [h3, h4]⟩⟩
    ·have h1 := hMb _ hm
     rw [hund h1]
     exact hM _ hm
section
variable {P : Program} {n B : Nat} {ops : Array Oper} {E : Env} {ty : TypeId} {pos : String} {after : Array Edge}
def NewL (B : Nat) (E : Env) (b : Nat) : Prop := B ≤ b ∧ (∀ s b' e xs, E.look s = some (blk b' e xs) → b' < b) ∧ ∀ s gs w₁, E.look s = some (wroteL gs w₁) → w₁.heap.size ≤ b
theorem eff_nameL {o : Oper} {d k : Nat} {e : TypeId} {val : Nat → Value} {xs : List Value} (ht : o.dst = some d) (hg : o.guard = none) (hok : ∀ B', OpOk P B' o E (newD B' e val xs)) (hdn : d < n) (hnv : n ≤ vbase) :
  EffG P n B ops o E (NewL B E) (fun b => (d, .v (val b)) :: (k, blk b e xs) :: E) := by
 intro κ a w K Q h hK
 rw [if_pos (by simp [Region.wanted, hg])]
 refine wp_of_out ht ((hok w.heap.size a.eval w (Nat.le_refl _) (h.virt hnv) fun x _ u hu => h.at_ x _ hu).mono ?_)
 rintro x w' ⟨hgr, b, rfl, hb, hlt, hh⟩
 refine hK b _ _ ⟨Nat.le_trans h.base hb, fun s b' e ys hs => Nat.lt_of_lt_of_le (h.of s _ hs).1 hb, fun s gs w₁ hs => Nat.le_trans (h.of s _ hs).2.size hb⟩ (Below.mono hgr h.base) (St.put ?_ hdn rfl)
 exact (h.grow hgr).push (t := k) (d := blk b e xs) ⟨hlt, hh⟩
theorem subL_M {M : Env} (h : Sub M E) (hb : ∀ p ∈ M, vbase ≤ p.1) : ∀ p ∈ M, ∃ k, vbase ≤ k ∧ E.look k = some p.2 := fun p hp => ⟨p.1, hb p hp, h p hp⟩
theorem vbL_nil : ∀ p ∈ ([] : Env), vbase ≤ p.1 := fun _ h => by cases h
theorem vbL_cons {M : Env} {t : Nat} {d : D} (h : vbase ≤ t) (hr : ∀ p ∈ M, vbase ≤ p.1) : ∀ p ∈ (t, d) :: M, vbase ≤ p.1 := fun p hp => by
 rcases List.mem_cons.1 hp with rfl | hp
 ·exact h
 ·exact hr p hp
def GsL (B : Nat) (gs : List (TypeId × Nat)) (E : Env) : Prop := ∀ p ∈ gs, B ≤ p.2 ∧ ∃ k xs, E.look k = some (blk p.2 p.1 xs)
theorem gsL_nil : GsL B [] E := fun _ h => by cases h
theorem gsL_cons {gs : List (TypeId × Nat)} {T : TypeId} {g k : Nat} {xs : List Value} (hB : B ≤ g) (hk : E.look k = some (blk g T xs)) (hr : GsL B gs E) : GsL B ((T, g) :: gs) E := fun p hp => by
 rcases List.mem_cons.1 hp with rfl | hp
 ·exact ⟨hB, k, xs, hk⟩
 ·exact hr p hp
theorem GsL.self {gs : List (TypeId × Nat)} (h : GsL B gs E) {a : Act} {w : World} (hs : St κ n B E a w) : WroteL gs w w :=
 WroteL.refl (fun p hp => by obtain ⟨_, k, xs, h4⟩ := h p hp; exact (hs.of k _ h4).1) fun p hp o ho => by
  obtain ⟨_, k, xs, h4⟩ := h p hp
  have h5 := (hs.of k _ h4).2
  rw [h5] at ho; injection ho with ho; exact ⟨_, _, ho.symm⟩
theorem eff_callL {f : FuncId} {gs : List (TypeId × Nat)} {us vs : List Value} {M : Env} {G : Nat → Nat → Prop} {u : Nat → Value} {M' : Nat → Env} {dst : Nat} {x : Operand} {args : Array Operand} {argTypes : Array TypeId} {E' : Env}
  (hf : FnL P f B gs (vs ++ us) M G u M') (hx : E.at x = some (.v (.func (.func f) #[] us.toArray))) (ha : Args E (vs.map D.v) args.toList) (hM : ∀ p ∈ M, ∃ k, vbase ≤ k ∧ E.look k = some p.2) (hMb : ∀ i, ∀ p ∈ M' i, vbase ≤ p.1)
  (hgB : ∀ p ∈ gs, B ≤ p.2) (hgs : ∀ (κ : Cx) (a : Act) (w : World), St κ n B E a w → WroteL gs w w) (hn : n ≤ vbase) (hdst : dst < n) (hl : LeftL B gs E' E) :
  EffG P n B ops ⟨some dst, .call { callee := .value x, args := args, argTypes := argTypes }, ty, pos, after, none⟩ E (fun i => ∃ m, B ≤ m ∧ (∀ s b' e xs, E.look s = some (blk b' e xs) → b' < m) ∧ (∀ s gs w₁, E.look s = some (wroteL gs w₁) → w₁.heap.size ≤ m) ∧ G m i) (fun i => (dst, .v (u i)) :: (M' i ++ E')) := by
 intro κ a w K Q h hK
 obtain ⟨fn, h1, h2, h3⟩ := hf.body
 have hfun : a.eval x = .func (.func f) #[] us.toArray := h.at_ x _ hx
 have hrun : (execOp a.eval ⟨some dst, .call { callee := .value x, args := args, argTypes := argTypes }, ty, pos, after, none⟩).run P w = .ok (.enter f (args.map a.eval ++ us.toArray)) w := by
  have h2' : ¬ fn.name = "runtime.NumGoroutine" := by simpa using h2
  have h3' : ¬ fn.body = none := by intro h; rw [h] at h3; cases h3
  simp [execOp, resolve, Deferred.ofValue, hfun, invoke, callFunc, h1, h2', h3']
 have hund : ∀ k, vbase ≤ k → a.tmps.getD k undef = undef := fun k hk => by
  rw [Array.getD_eq_getD_getElem?, Array.getElem?_eq_none (by rw [h.size]; omega)]; rfl
 have hargs : args.toList.map a.eval = vs := by
  apply List.ext_getElem?
  intro j
  have hlen : args.toList.length = vs.length := by have := ha.length; simpa using this.symm
  rcases Nat.lt_or_ge j vs.length with hj | hj
  ·have hxj : args.toList[j]? = some (args.toList[j]'(by omega)) := List.getElem?_eq_getElem (by omega)
   have he : (vs.map D.v)[j]? = some (.v vs[j]) := by simp [hj]
   obtain ⟨e', h4, h5⟩ := ha.nth he hxj
   have h6 : a.eval (args.toList[j]'(by omega)) = vs[j] := h5.of (h.at_ _ _ h4)
   rw [List.getElem?_map, hxj, Option.map_some, h6, List.getElem?_eq_getElem hj]
  ·rw [List.getElem?_eq_none (by rw [List.length_map]; omega), List.getElem?_eq_none hj]
 have hcall := hf.calls w h.base (fun p hp => by
  obtain ⟨k, h4, h5⟩ := hM p hp
  have h6 := h.of k _ h5
  rwa [hund k h4] at h6) (hgs κ a w h)
 have harr : (vs ++ us).toArray = args.map a.eval ++ us.toArray := by
  apply Array.ext'
  rw [← hargs]; simp
 rw [harr] at hcall
 rw [if_pos (by simp [Region.wanted])]
 refine opR (by nofun) ?_
 unfold Oper.wp
 rw [hrun, Oper.upon_enter]
 refine Calls.mono hcall ?_
 rintro e w' ⟨i, hG, rfl, hw, hM'⟩
 have hst := hl.st hgB h hw
 refine hK i _ _ ⟨w.heap.size, h.base, fun s b' e ys hs => (h.of s _ hs).1, fun s gs w₁ hs => (h.of s _ hs).2.size, hG⟩ (hw.below hgB h.base) (St.put ⟨hst.base, hst.defers, hst.size, fun t d hd => ?_⟩ hdst rfl)
 rcases look_append hd with h4 | h4
 ·have h5 := hM' _ (look_mem h4)
  have h6 : vbase ≤ t := hMb i _ (look_mem h4)
  rw [hund t h6]; exact h5
 ·exact hst.of t d h4
theorem eff_callL1 {f : FuncId} {gs : List (TypeId × Nat)} {us vs : List Value} {M : Env} {G : Nat → Nat → Prop} {u : Value} {M' : Env} {dst : Nat} {x : Operand} {args : Array Operand} {argTypes : Array TypeId} {E' : Env}
  (hf : FnL P f B gs (vs ++ us) M G (fun _ => u) (fun _ => M')) (hx : E.at x = some (.v (.func (.func f) #[] us.toArray))) (ha : Args E (vs.map D.v) args.toList) (hM : ∀ p ∈ M, ∃ k, vbase ≤ k ∧ E.look k = some p.2) (hMb : ∀ p ∈ M', vbase ≤ p.1)
  (hgs : GsL B gs E) (hn : n ≤ vbase) (hdst : dst < n) (hl : LeftL B gs E' E) :
  Eff P n B ops ⟨some dst, .call { callee := .value x, args := args, argTypes := argTypes }, ty, pos, after, none⟩ E ((dst, .v u) :: (M' ++ E')) := fun κ a w K Q h hK =>
 eff_callL hf hx ha hM (fun _ => hMb) (fun p hp => (hgs p hp).1) (fun _ _ _ h => hgs.self h) hn hdst hl κ a w K Q h fun _ a' w' _ hw hst => hK a' w' hw hst
theorem lookL_nil : ∀ p ∈ ([] : Env), ∃ k, vbase ≤ k ∧ E.look k = some p.2 := fun _ h => by cases h
theorem lookL_cons {M : Env} {t k : Nat} {d : D} (hk : vbase ≤ k) (h : E.look k = some d) (hr : ∀ p ∈ M, ∃ k, vbase ≤ k ∧ E.look k = some p.2) : ∀ p ∈ (t, d) :: M, ∃ k, vbase ≤ k ∧ E.look k = some p.2 := fun p hp => by
 rcases List.mem_cons.1 hp with rfl | hp
 ·exact ⟨k, hk, h⟩
 ·exact hr p hp
theorem End.wroteL {w₀ w₁ : World} {fn : Func} {gs : List (TypeId × Nat)} {G : Nat → Nat → Prop} {u : Nat → Value} {M' : Nat → Env} {kw : Nat} {x : Exit} (hex : x = .ret ∨ x = .normal) (hw : E.look kw = some (Go.Proofs.YtmkpekmhhbcifaaGreatDoor.wroteL gs w₁)) (i : Nat) (hG : G w₁.heap.size i) (hn : n ≤ vbase)
  (hr : ∀ (a : Act) (w : World), St Cx.top n w₀.heap.size E a w → (results fn a.tmps).run P w = .ok (u i) w) (hM : ∀ p ∈ M' i, ∃ k, vbase ≤ k ∧ E.look k = some p.2) : End Cx.top w₀ n E (BP P fn (PL gs w₁ G u M') x) := fun a w _ hs => by
 have key : LeavesInM (FR none) 0 P fn a.tmps (PL gs w₁ G u M') a.defers .returning w := by
  rw [show a.defers = [] from hs.defers]
  refine ⟨u i, hr a w hs, i, hG, rfl, (hs.of kw _ hw).2, fun p hp => ?_⟩
  obtain ⟨k, h2, h3⟩ := hM p hp
  have h4 := hs.of k _ h3
  rwa [show a.tmps.getD k undef = undef from by
   rw [Array.getD_eq_getD_getElem?, Array.getElem?_eq_none (by rw [hs.size]; omega)]; rfl] at h4
 rcases hex with rfl | rfl
 ·exact key
 ·exact key
theorem End.wroteL0 {w₀ w₁ : World} {fn : Func} {gs : List (TypeId × Nat)} {G : Nat → Nat → Prop} {M' : Nat → Env} {kw : Nat} {x : Exit} (hex : x = .ret ∨ x = .normal) (hr : fn.results = #[]) (hw : E.look kw = some (Go.Proofs.YtmkpekmhhbcifaaGreatDoor.wroteL gs w₁)) (i : Nat) (hG : G w₁.heap.size i) (hn : n ≤ vbase)
  (hM : ∀ p ∈ M' i, ∃ k, vbase ≤ k ∧ E.look k = some p.2) : End Cx.top w₀ n E (BP P fn (PL gs w₁ G (fun _ => .tuple #[]) M') x) :=
 End.wroteL hex hw i hG hn (fun a w _ => by simp [results, hr]) hM
end
section
variable {P : Program} {n : Nat} {w₀ : World} {E : Env}
theorem End.newTT {fn : Func} {r s g kg : Nat} {e : TypeId} {zs xs : List Value} {u v : Value} {val : Nat → Value} (hr : fn.results = #[.tmp r, .tmp s]) (h1 : E.look r = some (.v u)) (h2 : E.look s = some (.v v)) (h4 : E.look kg = some (blk g e zs)) (hg : w₀.heap.size ≤ g) (hv : val g = .tuple #[u, v]) (hz : zs = xs) :
  End Cx.top w₀ n E (BP P fn (PostOf w₀ (newD w₀.heap.size e val xs)) .ret) := fun a w gr hs => by
 subst hz
 have h3 : a.tmps[r]?.getD undef = u := by rw [← Array.getD_eq_getD_getElem?]; exact hs.of r _ h1
 have h6 : a.tmps[s]?.getD undef = v := by rw [← Array.getD_eq_getD_getElem?]; exact hs.of s _ h2
 obtain ⟨hl', hh'⟩ := hs.of kg _ h4
 exact BP.ret hs.defers ⟨.tuple #[u, v], by simp [results, hr, h3, h6], _, rfl, gr, g, hv.symm, hg, hl', hh'⟩
end
theorem slice_bytes {b o n c : Nat} {e : TypeId} {xs : List Value} (l : List UInt8) (hn : n = l.length) (hc : n ≤ c) (hm : c ≤ maxLen) (hl : (xs.drop o).take n = l.map byteV) (B : Nat) (w : World) (hb : b < B) (hh : w.heap[b]? = some (.cells xs.toArray e (0,0))) : (bytes l c).OfB B w (.slice (some ⟨b, o, none⟩) n c) := by
 subst hn
 refine bytes_mk hc hm fun j u hu => ?_
 rw [← hl, List.getElem?_take] at hu
 split at hu
 ·rw [List.getElem?_drop] at hu
  refine ⟨_, rfl, hb, ?_⟩
  rw [add_lit0]
  simp [World.cell?, hh, hu]
 ·cases hu
end
section
variable {κ : Cx}
end
set_option maxRecDepth 100000
def mask (t : Bool) (c : Nat) : Nat := bif t then c else 0
theorem eight : ∀ a < 256, a = mask (a.testBit 0) 1 ^^^ mask (a.testBit 1) 2 ^^^ mask (a.testBit 2) 4 ^^^ mask (a.testBit 3) 8 ^^^ mask (a.testBit 4) 16 ^^^ mask (a.testBit 5) 32 ^^^ mask (a.testBit 6) 64 ^^^ mask (a.testBit 7) 128 := by decide
def xt (a : Nat) : Nat := (2 * a % 256) ^^^ mask (a.testBit 7) 27
def xts (a : Nat) : Nat → Nat
 | 0 => a
 | k + 1 => xt (xts a k)
def gacc (a b : Nat) : Nat → Nat
 | 0 => 0
 | k + 1 => gacc a b k ^^^ mask (b.testBit k) (xts a k)
def gm (a b : Nat) : Nat := gacc a b 8
def itab : List UInt8 := [0,1,141,246,203,82,123,209,232,79,41,192,176,225,229,199,116,180,170,75,153,43,96,95,88,63,253,204,255,64,238,178,58,110,90,241,85,77,168,201,193,10,152,21,48,68,162,194,44,69,146,108,243,57,102,66,242,53,32,111,119,187,89,25,29,254,55,103,45,49,245,105,167,100,171,19,84,37,233,9,237,92,5,202,76,36,135,191,24,62,34,240,81,236,97,23,22,94,175,211,73,166,54,67,244,71,145,223,51,147,33,59,121,183,151,133,16,181,186,60,182,112,208,6,161,250,129,130,131,126,127,128,150,115,190,86,155,158,149,217,247,2,185,164,222,106,50,109,216,138,132,114,42,20,159,136,249,220,137,154,251,124,46,195,143,184,101,72,38,200,18,74,206,231,210,98,12,224,31,239,17,117,120,113,165,142,118,61,189,188,134,87,11,40,47,163,218,212,228,15,169,39,83,4,27,252,172,230,122,7,174,99,197,219,226,234,148,139,196,213,157,248,144,107,177,13,214,235,198,14,207,173,8,78,215,227,93,80,30,179,91,35,56,52,104,70,3,140,221,156,125,160,205,26,65,28]
def ginv (a : Nat) : Nat := (itab.getD a 0).toNat
def rotl8 (a k : Nat) : Nat := (a * 2 ^ k % 256) ||| (a / 2 ^ (8 - k))
def subI (b : Nat) : Nat := b ^^^ rotl8 b 1 ^^^ rotl8 b 2 ^^^ rotl8 b 3 ^^^ rotl8 b 4 ^^^ 99
def sub8 (a : Nat) : Nat := subI (ginv a)
section
set_option maxRecDepth 100000
abbrev Sta := Nat → Nat
def addS (f k : Sta) : Sta := fun i => f i ^^^ k i
def subS (f : Sta) : Sta := fun i => sub8 (f i)
def rotS (f : Sta) : Sta := fun i => f (4 * ((i / 4 + i % 4) % 4) + i % 4)
def col (a : Nat → Nat) (r : Nat) : Nat := gm 2 (a (r % 4) ^^^ a ((r + 1) % 4)) ^^^ a ((r + 1) % 4) ^^^ a ((r + 2) % 4) ^^^ a ((r + 3) % 4)
def mixS (f : Sta) : Sta := fun i => col (fun r => f (4 * (i / 4) + r)) (i % 4)
def keyS (s : Nat → Nat) (k : Nat) : Sta := fun i => s (16 * k + i)
def encR (s : Nat → Nat) (f : Sta) : Nat → Sta
 | 0 => addS f (keyS s 0)
 | r + 1 => addS (mixS (rotS (subS (encR s f r)))) (keyS s (r + 1))
def enc (s : Nat → Nat) (f : Sta) : Sta := addS (rotS (subS (encR s f 9))) (keyS s 10)
end
theorem kinB {n : Nat} {l : List UInt8} (h : l.length = n) : Kin (fun _ _ => True) (List.replicate n .u8) (l.map byteV) := by
 refine ⟨by simp [h], fun i k hk => ?_⟩
 rw [List.getElem?_replicate] at hk
 split at hk
 ·rename_i hi
  injection hk with hk; subst hk
  exact ⟨_, by rw [List.getElem?_map, List.getElem?_eq_getElem (by omega)]; rfl, trivial⟩
 ·cases hk
theorem decB (a b : List UInt8) : decide (a = b) = true ↔ a.map byteV = b.map byteV := by
 rw [decide_eq_true_iff]
 exact ⟨fun h => by rw [h], fun h => bytes_inj h⟩
def zD : List UInt8 := List.replicate 32 0
def recV (x : UInt8) (s c : Nat) (t : List UInt8) : List Value := byteV x :: .int .u32 ((s : Nat) : Int) :: .int .u64 ((c : Nat) : Int) :: t.map byteV
def entV (x : UInt8) (t : List UInt8) : List Value := byteV x :: t.map byteV
def celV (t : List UInt8) (e m : Nat) : List Value := t.map byteV ++ [.int .u64 ((e : Nat) : Int), .int .u64 ((m : Nat) : Int)]
def recL (x : UInt8) (s c : Nat) (t : List UInt8) : List UInt8 := x :: (nonceL s c ++ t)
def entL (x : UInt8) (t : List UInt8) : List UInt8 := x :: t
def BadR (x : UInt8) (s c : Nat) (t : List UInt8) : Prop := 2 < x.toNat ∨ (x.toNat = 0 ∧ ¬ (s = 0 ∧ c = 0 ∧ t = zD))
def BadE (x : UInt8) (t : List UInt8) : Prop := 2 < x.toNat ∨ (x.toNat = 0 ∧ ¬ t = zD)
instance {x : UInt8} {s c : Nat} {t : List UInt8} : Decidable (BadR x s c t) := by unfold BadR; infer_instance
instance {x : UInt8} {t : List UInt8} : Decidable (BadE x t) := by unfold BadE; infer_instance
def ckS (n : Nat) (z : Bool) : Int := if 2 < n ∨ (n = 0 ∧ z = false) then 1 else 0
def ckR (x : UInt8) (s c : Nat) (t : List UInt8) : Int := if BadR x s c t then 1 else 0
def ckE (x : UInt8) (t : List UInt8) : Int := if BadE x t then 1 else 0
theorem ckS_rec (x : UInt8) (s c : Nat) (t : List UInt8) : ckS x.toNat (decide (x.toNat = 0 ∧ s = 0 ∧ c = 0 ∧ t = zD)) = ckR x s c t := by
 unfold ckS ckR BadR
 by_cases h : x.toNat = 0 <;> by_cases h2 : s = 0 ∧ c = 0 ∧ t = zD <;> simp [h, h2]
theorem ckS_ent (x : UInt8) (t : List UInt8) : ckS x.toNat (decide (x.toNat = 0 ∧ t = zD)) = ckE x t := by
 unfold ckS ckE BadE
 by_cases h : x.toNat = 0 <;> by_cases h2 : t = zD <;> simp [h, h2]
theorem ckR_bad {x : UInt8} {s c : Nat} {t : List UInt8} (h : BadR x s c t) : ckR x s c t = 1 := if_pos h
theorem ckR_ok {x : UInt8} {s c : Nat} {t : List UInt8} (h : ¬ BadR x s c t) : ckR x s c t = 0 := if_neg h
theorem ckE_bad {x : UInt8} {t : List UInt8} (h : BadE x t) : ckE x t = 1 := if_pos h
theorem ckE_ok {x : UInt8} {t : List UInt8} (h : ¬ BadE x t) : ckE x t = 0 := if_neg h
theorem byteV_inj {a b : UInt8} (h : byteV a = byteV b) : a = b := by
 have := bytes_inj (a := [a]) (b := [b]) (by rw [List.map_cons, List.map_cons, h])
 simpa using this
theorem byteV_zero {x : UInt8} : byteV x = byteV 0 ↔ x.toNat = 0 := by
 refine ⟨fun h => by rw [byteV_inj h]; rfl, fun h => ?_⟩
 rw [show x = 0 from UInt8.toNat_inj.1 h]
theorem dec_rec (x : UInt8) (s c : Nat) (t : List UInt8) : decide (x.toNat = 0 ∧ s = 0 ∧ c = 0 ∧ t = zD) = true ↔ recV x s c t = recV 0 0 0 zD := by
 rw [decide_eq_true_iff]
 refine ⟨fun ⟨h1, h2, h3, h4⟩ => by rw [h2, h3, h4, recV, recV, byteV_zero.2 h1], fun h => ?_⟩
 unfold recV at h
 injection h with h1 h
 injection h with h2 h
 injection h with h3 h
 injection h2 with _ h2
 injection h3 with _ h3
 exact ⟨byteV_zero.1 h1, by omega, by omega, bytes_inj h⟩
theorem dec_ent (x : UInt8) (t : List UInt8) : decide (x.toNat = 0 ∧ t = zD) = true ↔ entV x t = entV 0 zD := by
 rw [decide_eq_true_iff]
 refine ⟨fun ⟨h1, h4⟩ => by rw [h4, entV, entV, byteV_zero.2 h1], fun h => ?_⟩
 unfold entV at h
 injection h with h1 h
 exact ⟨byteV_zero.1 h1, bytes_inj h⟩
theorem kinRec (x : UInt8) (s c : Nat) {t : List UInt8} (h : t.length = 32) : Kin (fun _ _ => True) (.u8 :: .u32 :: .u64 :: List.replicate 32 .u8) (recV x s c t) := kin_cons (kin_cons (kin_cons (kinB h)))
theorem kinEnt (x : UInt8) {t : List UInt8} (h : t.length = 32) : Kin (fun _ _ => True) (.u8 :: List.replicate 32 .u8) (entV x t) := kin_cons (kinB h)
theorem rec_len (x : UInt8) (s c : Nat) {t : List UInt8} (h : t.length = 32) : (recV x s c t).length = 35 := by simp [recV, h]
theorem ent_len (x : UInt8) {t : List UInt8} (h : t.length = 32) : (entV x t).length = 33 := by simp [entV, h]
theorem recL_len (x : UInt8) (s c : Nat) {t : List UInt8} (h : t.length = 32) : (recL x s c t).length = 45 := by simp [recL, h, nonceL_length]
theorem entL_len (x : UInt8) {t : List UInt8} (h : t.length = 32) : (entL x t).length = 33 := by simp [entL, h]
theorem all_byte (l : List UInt8) : (l.map byteV).all (·.oneCell') = true := by simp [List.all_eq_true, byteV, Value.oneCell']
theorem rec_one (x : UInt8) (s c : Nat) (t : List UInt8) : (recV x s c t).all (·.oneCell') = true := by simp only [recV, List.all_cons, all_byte]; rfl
theorem ent_one (x : UInt8) (t : List UInt8) : (entV x t).all (·.oneCell') = true := by simp only [entV, List.all_cons, all_byte]; rfl
theorem cel_one (t : List UInt8) (e m : Nat) : (celV t e m).all (·.oneCell') = true := by simp only [celV, List.all_append, all_byte]; rfl
theorem rec_tag {x : UInt8} {s c : Nat} {t : List UInt8} (h : t.length = 32) : ((recV x s c t).drop 3).take 32 = t.map byteV := List.take_of_length_le (by rw [List.length_drop, rec_len x s c h]; decide)
theorem ent_tag {x : UInt8} {t : List UInt8} (h : t.length = 32) : ((entV x t).drop 1).take 32 = t.map byteV := List.take_of_length_le (by rw [List.length_drop, ent_len x h]; decide)
def sumL (l : List UInt8) : Nat := (l.map UInt8.toNat).sum
def rest (l : List UInt8) : Nat := sumL (l.drop 1)
theorem byteV_nat (k : Nat) (h : k < 256) : Value.int .u8 ((k : Nat) : Int) = byteV (UInt8.ofNat k) := by
 rw [byteV, UInt8.toNat_ofNat', Nat.mod_eq_of_lt h]
section
variable {κ : Cx}
end
theorem zero51 : ZeroIs Tryz.prog 51 ([.int .u8 0] ++ [.int .u32 0] ++ [.int .u64 0] ++ List.replicate 32 (.int .u8 0)) := by unfold ZeroIs; kernel_rfl
theorem size51 : SizeIs Tryz.prog 51 35 := by unfold SizeIs; kernel_rfl
theorem field51_0 : FieldIs Tryz.prog 51 0 0 1 := by unfold FieldIs; kernel_rfl
theorem field51_1 : FieldIs Tryz.prog 51 1 1 2 := by unfold FieldIs; kernel_rfl
theorem field51_2 : FieldIs Tryz.prog 51 2 3 32 := by unfold FieldIs; kernel_rfl
theorem zero54 : ZeroIs Tryz.prog 54 ([.int .u8 0] ++ List.replicate 32 (.int .u8 0)) := by unfold ZeroIs; kernel_rfl
theorem size54 : SizeIs Tryz.prog 54 33 := by unfold SizeIs; kernel_rfl
theorem field54_0 : FieldIs Tryz.prog 54 0 0 1 := by unfold FieldIs; kernel_rfl
theorem field54_1 : FieldIs Tryz.prog 54 1 1 32 := by unfold FieldIs; kernel_rfl
theorem zero40 : ZeroIs Tryz.prog 40 (List.replicate 32 (.int .u8 0)) := by unfold ZeroIs; kernel_rfl
theorem size40 : SizeIs Tryz.prog 40 32 := by unfold SizeIs; kernel_rfl
theorem flat51 : flat Tryz.prog 4 51 = some (.u8 :: .u32 :: .u64 :: List.replicate 32 .u8) := by kernel_rfl
theorem flat54 : flat Tryz.prog 4 54 = some (.u8 :: List.replicate 32 .u8) := by kernel_rfl
theorem flat40r : flat Tryz.prog 4 40 = some (List.replicate 32 .u8) := by kernel_rfl
theorem rck_a1 (x : UInt8) (s c : Nat) (t : List UInt8) (ht : t.length = 32) (hx : x.toNat = 0) (hz : s ≠ 0) : Fn Tryz.prog 62 [.v (aggV (recV x s c t))] (.v (.int .i64 1)) := by
 refine FV Tryz.func62 rfl Tryz.ntmps62 rfl fun w₀ => ?_
 refine GS (TN 0 (RN ?_));refine ZB 1000001 rfl fun b1 ⟨hBb1, hb1⟩ => ?_
 refine TL (RVN 1 rfl ?_);refine GT (RS (ok_field field51_1 (by decide) rfl) ?_);refine RS (ok_field field49_0 (by decide) rfl) ?_;refine RLV 1000001 U46 rfl rfl rfl ?_;refine RB rfl rfl rfl ?_;refine RZ (.bool false) (by simp [hz]) ?_;refine RVN 13 rfl ?_;refine QS (GT (RS (ok_field field51_0 (by decide) rfl) ?_));refine RLV 1000001 U5 rfl rfl rfl ?_;refine RB rfl rfl rfl ?_;refine RZ (.bool true) (by simp [hx]) ?_;refine RV 4 rfl ?_;refine RQ (ok_field field51_0 (by decide) rfl) ?_;refine RQ (ok_loadV (s := 1000001) (by decide) U5 rfl rfl rfl (rfl)) ?_;refine RQ (ok_bin rfl rfl rfl) ?_;refine RZ (.bool false) (by simp; omega) ?_;refine RV 2 rfl ?_;refine RQ (ok_field field51_0 (by decide) rfl) ?_;refine RQ (ok_loadV (s := 1000001) (by decide) U5 rfl rfl rfl (rfl)) ?_;refine RQ (ok_bin rfl rfl rfl) ?_;refine RZ (.bool false) (by simp; omega) ?_;refine RVN 1 rfl ?_;refine A.sub (Sv [35,1000001] rfl) ?_;refine A.no rfl ?_;refine QK (GV rfl (A.ret ?_));exact ER rfl rfl
theorem rck_a2 (x : UInt8) (s c : Nat) (t : List UInt8) (ht : t.length = 32) (hx : x.toNat = 0) (h0 : s = 0) (hz : c ≠ 0) : Fn Tryz.prog 62 [.v (aggV (recV x s c t))] (.v (.int .i64 1)) := by
 refine FV Tryz.func62 rfl Tryz.ntmps62 rfl fun w₀ => ?_
 refine GS (TN 0 (RN ?_));refine ZB 1000001 rfl fun b1 ⟨hBb1, hb1⟩ => ?_
 refine TL (RVN 1 rfl ?_);refine GT (RS (ok_field field51_1 (by decide) rfl) ?_);refine RS (ok_field field49_0 (by decide) rfl) ?_;refine RLV 1000001 U46 rfl rfl rfl ?_;refine RB rfl rfl rfl ?_;refine RZ (.bool true) (by simp [h0]) ?_;refine RM rfl ?_;refine RQ (ok_field field51_1 (by decide) rfl) ?_;refine RQ (ok_field field49_1 (by decide) rfl) ?_;refine RQ (ok_loadV (s := 1000001) (by decide) U47 rfl rfl rfl (rfl)) ?_;refine RQ (ok_bin rfl rfl rfl) ?_;refine RZ (.bool false) (by simp [hz]) ?_;refine RVN 8 rfl ?_;refine QS (GT (RS (ok_field field51_0 (by decide) rfl) ?_));refine RLV 1000001 U5 rfl rfl rfl ?_;refine RB rfl rfl rfl ?_;refine RZ (.bool true) (by simp [hx]) ?_;refine RV 4 rfl ?_;refine RQ (ok_field field51_0 (by decide) rfl) ?_;refine RQ (ok_loadV (s := 1000001) (by decide) U5 rfl rfl rfl (rfl)) ?_;refine RQ (ok_bin rfl rfl rfl) ?_;refine RZ (.bool false) (by simp; omega) ?_;refine RV 2 rfl ?_;refine RQ (ok_field field51_0 (by decide) rfl) ?_;refine RQ (ok_loadV (s := 1000001) (by decide) U5 rfl rfl rfl (rfl)) ?_;refine RQ (ok_bin rfl rfl rfl) ?_;refine RZ (.bool false) (by simp; omega) ?_;refine RVN 1 rfl ?_;refine A.sub (Sv [35,1000001] rfl) ?_;refine A.no rfl ?_;refine QK (GV rfl (A.ret ?_));exact ER rfl rfl
theorem rck_a3 (x : UInt8) (s c : Nat) (t : List UInt8) (ht : t.length = 32) (hx : x.toNat = 0) (h0 : s = 0) (h1 : c = 0) (hz : t ≠ zD) : Fn Tryz.prog 62 [.v (aggV (recV x s c t))] (.v (.int .i64 1)) := by
 refine FV Tryz.func62 rfl Tryz.ntmps62 rfl fun w₀ => ?_
 refine GS (TN 0 (RN ?_));refine ZB 1000001 rfl fun b1 ⟨hBb1, hb1⟩ => ?_
 refine TL (RVN 1 rfl ?_);refine GT (RS (ok_field field51_1 (by decide) rfl) ?_);refine RS (ok_field field49_0 (by decide) rfl) ?_;refine RLV 1000001 U46 rfl rfl rfl ?_;refine RB rfl rfl rfl ?_;refine RZ (.bool true) (by simp [h0]) ?_;refine RM rfl ?_;refine RQ (ok_field field51_1 (by decide) rfl) ?_;refine RQ (ok_field field49_1 (by decide) rfl) ?_;refine RQ (ok_loadV (s := 1000001) (by decide) U47 rfl rfl rfl (rfl)) ?_;refine RQ (ok_bin rfl rfl rfl) ?_;refine RZ (.bool true) (by simp [h1]) ?_;refine RV 2 rfl ?_;refine RQ (ok_field field51_2 (by decide) rfl) ?_;refine RQ (ok_loadP (s := 1000001) (by decide) U40 rfl size40 rfl rfl (by simp [recV, ht]) (rec_tag ht)) ?_;refine RQ (ok_litP [] U40 info5 zero40 (by decide) trivial rfl) ?_;refine RZ (aggV (zD.map byteV)) (by rfl) ?_;refine RQ (ok_eqlT (n := 4) (decide (t = zD)) flat40r (by decide) (by kernel_rfl) (by kernel_rfl) rfl rfl (kinB ht) (kinB (l := zD) rfl) (decB _ _)) ?_;refine RZ (.bool false) (by simp [hz]) ?_;refine RVN 2 rfl ?_;refine QS (GT (RS (ok_field field51_0 (by decide) rfl) ?_));refine RLV 1000001 U5 rfl rfl rfl ?_;refine RB rfl rfl rfl ?_;refine RZ (.bool true) (by simp [hx]) ?_;refine RV 4 rfl ?_;refine RQ (ok_field field51_0 (by decide) rfl) ?_;refine RQ (ok_loadV (s := 1000001) (by decide) U5 rfl rfl rfl (rfl)) ?_;refine RQ (ok_bin rfl rfl rfl) ?_;refine RZ (.bool false) (by simp; omega) ?_;refine RV 2 rfl ?_;refine RQ (ok_field field51_0 (by decide) rfl) ?_;refine RQ (ok_loadV (s := 1000001) (by decide) U5 rfl rfl rfl (rfl)) ?_;refine RQ (ok_bin rfl rfl rfl) ?_;refine RZ (.bool false) (by simp; omega) ?_;refine RVN 1 rfl ?_;refine A.sub (Sv [35,1000001] rfl) ?_;refine A.no rfl ?_;refine QK (GV rfl (A.ret ?_));exact ER rfl rfl
theorem rck_a4 (x : UInt8) (s c : Nat) (t : List UInt8) (ht : t.length = 32) (hx : x.toNat = 0) (h0 : s = 0) (h1 : c = 0) (hz : t = zD) : Fn Tryz.prog 62 [.v (aggV (recV x s c t))] (.v (.int .i64 0)) := by
 refine FV Tryz.func62 rfl Tryz.ntmps62 rfl fun w₀ => ?_
 refine GS (TN 0 (RN ?_));refine ZB 1000001 rfl fun b1 ⟨hBb1, hb1⟩ => ?_
 refine TL (RVN 1 rfl ?_);refine GT (RS (ok_field field51_1 (by decide) rfl) ?_);refine RS (ok_field field49_0 (by decide) rfl) ?_;refine RLV 1000001 U46 rfl rfl rfl ?_;refine RB rfl rfl rfl ?_;refine RZ (.bool true) (by simp [h0]) ?_;refine RM rfl ?_;refine RQ (ok_field field51_1 (by decide) rfl) ?_;refine RQ (ok_field field49_1 (by decide) rfl) ?_;refine RQ (ok_loadV (s := 1000001) (by decide) U47 rfl rfl rfl (rfl)) ?_;refine RQ (ok_bin rfl rfl rfl) ?_;refine RZ (.bool true) (by simp [h1]) ?_;refine RV 2 rfl ?_;refine RQ (ok_field field51_2 (by decide) rfl) ?_;refine RQ (ok_loadP (s := 1000001) (by decide) U40 rfl size40 rfl rfl (by simp [recV, ht]) (rec_tag ht)) ?_;refine RQ (ok_litP [] U40 info5 zero40 (by decide) trivial rfl) ?_;refine RZ (aggV (zD.map byteV)) (by rfl) ?_;refine RQ (ok_eqlT (n := 4) (decide (t = zD)) flat40r (by decide) (by kernel_rfl) (by kernel_rfl) rfl rfl (kinB ht) (kinB (l := zD) rfl) (decB _ _)) ?_;refine RZ (.bool true) (by simp [hz]) ?_;refine RVN 2 rfl ?_;refine QS (GT (RS (ok_field field51_0 (by decide) rfl) ?_));refine RLV 1000001 U5 rfl rfl rfl ?_;refine RB rfl rfl rfl ?_;refine RZ (.bool true) (by simp [hx]) ?_;refine RVN 13 rfl ?_;refine A.sub (Sv [35,1000001] rfl) ?_;refine A.yes rfl ?_;refine GV rfl (A.ret (End.ret_then ?_));exact ER rfl rfl
theorem rck_b1 (x : UInt8) (s c : Nat) (t : List UInt8) (ht : t.length = 32) (hx : x.toNat = 1) (hz : s ≠ 0) : Fn Tryz.prog 62 [.v (aggV (recV x s c t))] (.v (.int .i64 0)) := by
 refine FV Tryz.func62 rfl Tryz.ntmps62 rfl fun w₀ => ?_
 refine GS (TN 0 (RN ?_));refine ZB 1000001 rfl fun b1 ⟨hBb1, hb1⟩ => ?_
 refine TL (RVN 1 rfl ?_);refine GT (RS (ok_field field51_1 (by decide) rfl) ?_);refine RS (ok_field field49_0 (by decide) rfl) ?_;refine RLV 1000001 U46 rfl rfl rfl ?_;refine RB rfl rfl rfl ?_;refine RZ (.bool false) (by simp [hz]) ?_;refine RVN 13 rfl ?_;refine QS (GT (RS (ok_field field51_0 (by decide) rfl) ?_));refine RLV 1000001 U5 rfl rfl rfl ?_;refine RB rfl rfl rfl ?_;refine RZ (.bool false) (by simp; omega) ?_;refine RV 4 rfl ?_;refine RQ (ok_field field51_0 (by decide) rfl) ?_;refine RQ (ok_loadV (s := 1000001) (by decide) U5 rfl rfl rfl (rfl)) ?_;refine RQ (ok_bin rfl rfl rfl) ?_;refine RZ (.bool true) (by simp [hx]) ?_;refine RVN 6 rfl ?_;refine A.sub (Sv [35,1000001] rfl) ?_;refine A.yes rfl ?_;refine GV rfl (A.ret (End.ret_then ?_));exact ER rfl rfl
theorem rck_b2 (x : UInt8) (s c : Nat) (t : List UInt8) (ht : t.length = 32) (hx : x.toNat = 1) (h0 : s = 0) (hz : c ≠ 0) : Fn Tryz.prog 62 [.v (aggV (recV x s c t))] (.v (.int .i64 0)) := by
 refine FV Tryz.func62 rfl Tryz.ntmps62 rfl fun w₀ => ?_
 refine GS (TN 0 (RN ?_));refine ZB 1000001 rfl fun b1 ⟨hBb1, hb1⟩ => ?_
 refine TL (RVN 1 rfl ?_);refine GT (RS (ok_field field51_1 (by decide) rfl) ?_);refine RS (ok_field field49_0 (by decide) rfl) ?_;refine RLV 1000001 U46 rfl rfl rfl ?_;refine RB rfl rfl rfl ?_;refine RZ (.bool true) (by simp [h0]) ?_;refine RM rfl ?_;refine RQ (ok_field field51_1 (by decide) rfl) ?_;refine RQ (ok_field field49_1 (by decide) rfl) ?_;refine RQ (ok_loadV (s := 1000001) (by decide) U47 rfl rfl rfl (rfl)) ?_;refine RQ (ok_bin rfl rfl rfl) ?_;refine RZ (.bool false) (by simp [hz]) ?_;refine RVN 8 rfl ?_;refine QS (GT (RS (ok_field field51_0 (by decide) rfl) ?_));refine RLV 1000001 U5 rfl rfl rfl ?_;refine RB rfl rfl rfl ?_;refine RZ (.bool false) (by simp; omega) ?_;refine RV 4 rfl ?_;refine RQ (ok_field field51_0 (by decide) rfl) ?_;refine RQ (ok_loadV (s := 1000001) (by decide) U5 rfl rfl rfl (rfl)) ?_;refine RQ (ok_bin rfl rfl rfl) ?_;refine RZ (.bool true) (by simp [hx]) ?_;refine RVN 6 rfl ?_;refine A.sub (Sv [35,1000001] rfl) ?_;refine A.yes rfl ?_;refine GV rfl (A.ret (End.ret_then ?_));exact ER rfl rfl
theorem rck_b3 (x : UInt8) (s c : Nat) (t : List UInt8) (ht : t.length = 32) (hx : x.toNat = 1) (h0 : s = 0) (h1 : c = 0) (hz : t ≠ zD) : Fn Tryz.prog 62 [.v (aggV (recV x s c t))] (.v (.int .i64 0)) := by
 refine FV Tryz.func62 rfl Tryz.ntmps62 rfl fun w₀ => ?_
 refine GS (TN 0 (RN ?_));refine ZB 1000001 rfl fun b1 ⟨hBb1, hb1⟩ => ?_
 refine TL (RVN 1 rfl ?_);refine GT (RS (ok_field field51_1 (by decide) rfl) ?_);refine RS (ok_field field49_0 (by decide) rfl) ?_;refine RLV 1000001 U46 rfl rfl rfl ?_;refine RB rfl rfl rfl ?_;refine RZ (.bool true) (by simp [h0]) ?_;refine RM rfl ?_;refine RQ (ok_field field51_1 (by decide) rfl) ?_;refine RQ (ok_field field49_1 (by decide) rfl) ?_;refine RQ (ok_loadV (s := 1000001) (by decide) U47 rfl rfl rfl (rfl)) ?_;refine RQ (ok_bin rfl rfl rfl) ?_;refine RZ (.bool true) (by simp [h1]) ?_;refine RV 2 rfl ?_;refine RQ (ok_field field51_2 (by decide) rfl) ?_;refine RQ (ok_loadP (s := 1000001) (by decide) U40 rfl size40 rfl rfl (by simp [recV, ht]) (rec_tag ht)) ?_;refine RQ (ok_litP [] U40 info5 zero40 (by decide) trivial rfl) ?_;refine RZ (aggV (zD.map byteV)) (by rfl) ?_;refine RQ (ok_eqlT (n := 4) (decide (t = zD)) flat40r (by decide) (by kernel_rfl) (by kernel_rfl) rfl rfl (kinB ht) (kinB (l := zD) rfl) (decB _ _)) ?_;refine RZ (.bool false) (by simp [hz]) ?_;refine RVN 2 rfl ?_;refine QS (GT (RS (ok_field field51_0 (by decide) rfl) ?_));refine RLV 1000001 U5 rfl rfl rfl ?_;refine RB rfl rfl rfl ?_;refine RZ (.bool false) (by simp; omega) ?_;refine RV 4 rfl ?_;refine RQ (ok_field field51_0 (by decide) rfl) ?_;refine RQ (ok_loadV (s := 1000001) (by decide) U5 rfl rfl rfl (rfl)) ?_;refine RQ (ok_bin rfl rfl rfl) ?_;refine RZ (.bool true) (by simp [hx]) ?_;refine RVN 6 rfl ?_;refine A.sub (Sv [35,1000001] rfl) ?_;refine A.yes rfl ?_;refine GV rfl (A.ret (End.ret_then ?_));exact ER rfl rfl
theorem rck_b4 (x : UInt8) (s c : Nat) (t : List UInt8) (ht : t.length = 32) (hx : x.toNat = 1) (h0 : s = 0) (h1 : c = 0) (hz : t = zD) : Fn Tryz.prog 62 [.v (aggV (recV x s c t))] (.v (.int .i64 0)) := by
 refine FV Tryz.func62 rfl Tryz.ntmps62 rfl fun w₀ => ?_
 refine GS (TN 0 (RN ?_));refine ZB 1000001 rfl fun b1 ⟨hBb1, hb1⟩ => ?_
 refine TL (RVN 1 rfl ?_);refine GT (RS (ok_field field51_1 (by decide) rfl) ?_);refine RS (ok_field field49_0 (by decide) rfl) ?_;refine RLV 1000001 U46 rfl rfl rfl ?_;refine RB rfl rfl rfl ?_;refine RZ (.bool true) (by simp [h0]) ?_;refine RM rfl ?_;refine RQ (ok_field field51_1 (by decide) rfl) ?_;refine RQ (ok_field field49_1 (by decide) rfl) ?_;refine RQ (ok_loadV (s := 1000001) (by decide) U47 rfl rfl rfl (rfl)) ?_;refine RQ (ok_bin rfl rfl rfl) ?_;refine RZ (.bool true) (by simp [h1]) ?_;refine RV 2 rfl ?_;refine RQ (ok_field field51_2 (by decide) rfl) ?_;refine RQ (ok_loadP (s := 1000001) (by decide) U40 rfl size40 rfl rfl (by simp [recV, ht]) (rec_tag ht)) ?_;refine RQ (ok_litP [] U40 info5 zero40 (by decide) trivial rfl) ?_;refine RZ (aggV (zD.map byteV)) (by rfl) ?_;refine RQ (ok_eqlT (n := 4) (decide (t = zD)) flat40r (by decide) (by kernel_rfl) (by kernel_rfl) rfl rfl (kinB ht) (kinB (l := zD) rfl) (decB _ _)) ?_;refine RZ (.bool true) (by simp [hz]) ?_;refine RVN 2 rfl ?_;refine QS (GT (RS (ok_field field51_0 (by decide) rfl) ?_));refine RLV 1000001 U5 rfl rfl rfl ?_;refine RB rfl rfl rfl ?_;refine RZ (.bool false) (by simp; omega) ?_;refine RV 4 rfl ?_;refine RQ (ok_field field51_0 (by decide) rfl) ?_;refine RQ (ok_loadV (s := 1000001) (by decide) U5 rfl rfl rfl (rfl)) ?_;refine RQ (ok_bin rfl rfl rfl) ?_;refine RZ (.bool true) (by simp [hx]) ?_;refine RVN 6 rfl ?_;refine A.sub (Sv [35,1000001] rfl) ?_;refine A.yes rfl ?_;refine GV rfl (A.ret (End.ret_then ?_));exact ER rfl rfl
theorem rck_c1 (x : UInt8) (s c : Nat) (t : List UInt8) (ht : t.length = 32) (hx : x.toNat = 2) (hz : s ≠ 0) : Fn Tryz.prog 62 [.v (aggV (recV x s c t))] (.v (.int .i64 0)) := by
 refine FV Tryz.func62 rfl Tryz.ntmps62 rfl fun w₀ => ?_
 refine GS (TN 0 (RN ?_));refine ZB 1000001 rfl fun b1 ⟨hBb1, hb1⟩ => ?_
 refine TL (RVN 1 rfl ?_);refine GT (RS (ok_field field51_1 (by decide) rfl) ?_);refine RS (ok_field field49_0 (by decide) rfl) ?_;refine RLV 1000001 U46 rfl rfl rfl ?_;refine RB rfl rfl rfl ?_;refine RZ (.bool false) (by simp [hz]) ?_;refine RVN 13 rfl ?_;refine QS (GT (RS (ok_field field51_0 (by decide) rfl) ?_));refine RLV 1000001 U5 rfl rfl rfl ?_;refine RB rfl rfl rfl ?_;refine RZ (.bool false) (by simp; omega) ?_;refine RV 4 rfl ?_;refine RQ (ok_field field51_0 (by decide) rfl) ?_;refine RQ (ok_loadV (s := 1000001) (by decide) U5 rfl rfl rfl (rfl)) ?_;refine RQ (ok_bin rfl rfl rfl) ?_;refine RZ (.bool false) (by simp; omega) ?_;refine RV 2 rfl ?_;refine RQ (ok_field field51_0 (by decide) rfl) ?_;refine RQ (ok_loadV (s := 1000001) (by decide) U5 rfl rfl rfl (rfl)) ?_;refine RQ (ok_bin rfl rfl rfl) ?_;refine RZ (.bool true) (by simp [hx]) ?_;refine RVN 1 rfl ?_;refine A.sub (Sv [35,1000001] rfl) ?_;refine A.yes rfl ?_;refine GV rfl (A.ret (End.ret_then ?_));exact ER rfl rfl
theorem rck_c2 (x : UInt8) (s c : Nat) (t : List UInt8) (ht : t.length = 32) (hx : x.toNat = 2) (h0 : s = 0) (hz : c ≠ 0) : Fn Tryz.prog 62 [.v (aggV (recV x s c t))] (.v (.int .i64 0)) := by
 refine FV Tryz.func62 rfl Tryz.ntmps62 rfl fun w₀ => ?_
 refine GS (TN 0 (RN ?_));refine ZB 1000001 rfl fun b1 ⟨hBb1, hb1⟩ => ?_
 refine TL (RVN 1 rfl ?_);refine GT (RS (ok_field field51_1 (by decide) rfl) ?_);refine RS (ok_field field49_0 (by decide) rfl) ?_;refine RLV 1000001 U46 rfl rfl rfl ?_;refine RB rfl rfl rfl ?_;refine RZ (.bool true) (by simp [h0]) ?_;refine RM rfl ?_;refine RQ (ok_field field51_1 (by decide) rfl) ?_;refine RQ (ok_field field49_1 (by decide) rfl) ?_;refine RQ (ok_loadV (s := 1000001) (by decide) U47 rfl rfl rfl (rfl)) ?_;refine RQ (ok_bin rfl rfl rfl) ?_;refine RZ (.bool false) (by simp [hz]) ?_;refine RVN 8 rfl ?_;refine QS (GT (RS (ok_field field51_0 (by decide) rfl) ?_));refine RLV 1000001 U5 rfl rfl rfl ?_;refine RB rfl rfl rfl ?_;refine RZ (.bool false) (by simp; omega) ?_;refine RV 4 rfl ?_;refine RQ (ok_field field51_0 (by decide) rfl) ?_;refine RQ (ok_loadV (s := 1000001) (by decide) U5 rfl rfl rfl (rfl)) ?_;refine RQ (ok_bin rfl rfl rfl) ?_;refine RZ (.bool false) (by simp; omega) ?_;refine RV 2 rfl ?_;refine RQ (ok_field field51_0 (by decide) rfl) ?_;refine RQ (ok_loadV (s := 1000001) (by decide) U5 rfl rfl rfl (rfl)) ?_;refine RQ (ok_bin rfl rfl rfl) ?_;refine RZ (.bool true) (by simp [hx]) ?_;refine RVN 1 rfl ?_;refine A.sub (Sv [35,1000001] rfl) ?_;refine A.yes rfl ?_;refine GV rfl (A.ret (End.ret_then ?_));exact ER rfl rfl
theorem rck_c3 (x : UInt8) (s c : Nat) (t : List UInt8) (ht : t.length = 32) (hx : x.toNat = 2) (h0 : s = 0) (h1 : c = 0) (hz : t ≠ zD) : Fn Tryz.prog 62 [.v (aggV (recV x s c t))] (.v (.int .i64 0)) := by
 refine FV Tryz.func62 rfl Tryz.ntmps62 rfl fun w₀ => ?_
 refine GS (TN 0 (RN ?_));refine ZB 1000001 rfl fun b1 ⟨hBb1, hb1⟩ => ?_
 refine TL (RVN 1 rfl ?_);refine GT (RS (ok_field field51_1 (by decide) rfl) ?_);refine RS (ok_field field49_0 (by decide) rfl) ?_;refine RLV 1000001 U46 rfl rfl rfl ?_;refine RB rfl rfl rfl ?_;refine RZ (.bool true) (by simp [h0]) ?_;refine RM rfl ?_;refine RQ (ok_field field51_1 (by decide) rfl) ?_;refine RQ (ok_field field49_1 (by decide) rfl) ?_;refine RQ (ok_loadV (s := 1000001) (by decide) U47 rfl rfl rfl (rfl)) ?_;refine RQ (ok_bin rfl rfl rfl) ?_;refine RZ (.bool true) (by simp [h1]) ?_;refine RV 2 rfl ?_;refine RQ (ok_field field51_2 (by decide) rfl) ?_;refine RQ (ok_loadP (s := 1000001) (by decide) U40 rfl size40 rfl rfl (by simp [recV, ht]) (rec_tag ht)) ?_;refine RQ (ok_litP [] U40 info5 zero40 (by decide) trivial rfl) ?_;refine RZ (aggV (zD.map byteV)) (by rfl) ?_;refine RQ (ok_eqlT (n := 4) (decide (t = zD)) flat40r (by decide) (by kernel_rfl) (by kernel_rfl) rfl rfl (kinB ht) (kinB (l := zD) rfl) (decB _ _)) ?_;refine RZ (.bool false) (by simp [hz]) ?_;refine RVN 2 rfl ?_;refine QS (GT (RS (ok_field field51_0 (by decide) rfl) ?_));refine RLV 1000001 U5 rfl rfl rfl ?_;refine RB rfl rfl rfl ?_;refine RZ (.bool false) (by simp; omega) ?_;refine RV 4 rfl ?_;refine RQ (ok_field field51_0 (by decide) rfl) ?_;refine RQ (ok_loadV (s := 1000001) (by decide) U5 rfl rfl rfl (rfl)) ?_;refine RQ (ok_bin rfl rfl rfl) ?_;refine RZ (.bool false) (by simp; omega) ?_;refine RV 2 rfl ?_;refine RQ (ok_field field51_0 (by decide) rfl) ?_;refine RQ (ok_loadV (s := 1000001) (by decide) U5 rfl rfl rfl (rfl)) ?_;refine RQ (ok_bin rfl rfl rfl) ?_;refine RZ (.bool true) (by simp [hx]) ?_;refine RVN 1 rfl ?_;refine A.sub (Sv [35,1000001] rfl) ?_;refine A.yes rfl ?_;refine GV rfl (A.ret (End.ret_then ?_));exact ER rfl rfl
theorem rck_c4 (x : UInt8) (s c : Nat) (t : List UInt8) (ht : t.length = 32) (hx : x.toNat = 2) (h0 : s = 0) (h1 : c = 0) (hz : t = zD) : Fn Tryz.prog 62 [.v (aggV (recV x s c t))] (.v (.int .i64 0)) := by
 refine FV Tryz.func62 rfl Tryz.ntmps62 rfl fun w₀ => ?_
 refine GS (TN 0 (RN ?_));refine ZB 1000001 rfl fun b1 ⟨hBb1, hb1⟩ => ?_
 refine TL (RVN 1 rfl ?_);refine GT (RS (ok_field field51_1 (by decide) rfl) ?_);refine RS (ok_field field49_0 (by decide) rfl) ?_;refine RLV 1000001 U46 rfl rfl rfl ?_;refine RB rfl rfl rfl ?_;refine RZ (.bool true) (by simp [h0]) ?_;refine RM rfl ?_;refine RQ (ok_field field51_1 (by decide) rfl) ?_;refine RQ (ok_field field49_1 (by decide) rfl) ?_;refine RQ (ok_loadV (s := 1000001) (by decide) U47 rfl rfl rfl (rfl)) ?_;refine RQ (ok_bin rfl rfl rfl) ?_;refine RZ (.bool true) (by simp [h1]) ?_;refine RV 2 rfl ?_;refine RQ (ok_field field51_2 (by decide) rfl) ?_;refine RQ (ok_loadP (s := 1000001) (by decide) U40 rfl size40 rfl rfl (by simp [recV, ht]) (rec_tag ht)) ?_;refine RQ (ok_litP [] U40 info5 zero40 (by decide) trivial rfl) ?_;refine RZ (aggV (zD.map byteV)) (by rfl) ?_;refine RQ (ok_eqlT (n := 4) (decide (t = zD)) flat40r (by decide) (by kernel_rfl) (by kernel_rfl) rfl rfl (kinB ht) (kinB (l := zD) rfl) (decB _ _)) ?_;refine RZ (.bool true) (by simp [hz]) ?_;refine RVN 2 rfl ?_;refine QS (GT (RS (ok_field field51_0 (by decide) rfl) ?_));refine RLV 1000001 U5 rfl rfl rfl ?_;refine RB rfl rfl rfl ?_;refine RZ (.bool false) (by simp; omega) ?_;refine RV 4 rfl ?_;refine RQ (ok_field field51_0 (by decide) rfl) ?_;refine RQ (ok_loadV (s := 1000001) (by decide) U5 rfl rfl rfl (rfl)) ?_;refine RQ (ok_bin rfl rfl rfl) ?_;refine RZ (.bool false) (by simp; omega) ?_;refine RV 2 rfl ?_;refine RQ (ok_field field51_0 (by decide) rfl) ?_;refine RQ (ok_loadV (s := 1000001) (by decide) U5 rfl rfl rfl (rfl)) ?_;refine RQ (ok_bin rfl rfl rfl) ?_;refine RZ (.bool true) (by simp [hx]) ?_;refine RVN 1 rfl ?_;refine A.sub (Sv [35,1000001] rfl) ?_;refine A.yes rfl ?_;refine GV rfl (A.ret (End.ret_then ?_));exact ER rfl rfl
theorem rck_d1 (x : UInt8) (s c : Nat) (t : List UInt8) (ht : t.length = 32) (hx : 2 < x.toNat) (hz : s ≠ 0) : Fn Tryz.prog 62 [.v (aggV (recV x s c t))] (.v (.int .i64 1)) := by
 refine FV Tryz.func62 rfl Tryz.ntmps62 rfl fun w₀ => ?_
 refine GS (TN 0 (RN ?_));refine ZB 1000001 rfl fun b1 ⟨hBb1, hb1⟩ => ?_
 refine TL (RVN 1 rfl ?_);refine GT (RS (ok_field field51_1 (by decide) rfl) ?_);refine RS (ok_field field49_0 (by decide) rfl) ?_;refine RLV 1000001 U46 rfl rfl rfl ?_;refine RB rfl rfl rfl ?_;refine RZ (.bool false) (by simp [hz]) ?_;refine RVN 13 rfl ?_;refine QS (GT (RS (ok_field field51_0 (by decide) rfl) ?_));refine RLV 1000001 U5 rfl rfl rfl ?_;refine RB rfl rfl rfl ?_;refine RZ (.bool false) (by simp; omega) ?_;refine RV 4 rfl ?_;refine RQ (ok_field field51_0 (by decide) rfl) ?_;refine RQ (ok_loadV (s := 1000001) (by decide) U5 rfl rfl rfl (rfl)) ?_;refine RQ (ok_bin rfl rfl rfl) ?_;refine RZ (.bool false) (by simp; omega) ?_;refine RV 2 rfl ?_;refine RQ (ok_field field51_0 (by decide) rfl) ?_;refine RQ (ok_loadV (s := 1000001) (by decide) U5 rfl rfl rfl (rfl)) ?_;refine RQ (ok_bin rfl rfl rfl) ?_;refine RZ (.bool false) (by simp; omega) ?_;refine RVN 1 rfl ?_;refine A.sub (Sv [35,1000001] rfl) ?_;refine A.no rfl ?_;refine QK (GV rfl (A.ret ?_));exact ER rfl rfl
theorem rck_d2 (x : UInt8) (s c : Nat) (t : List UInt8) (ht : t.length = 32) (hx : 2 < x.toNat) (h0 : s = 0) (hz : c ≠ 0) : Fn Tryz.prog 62 [.v (aggV (recV x s c t))] (.v (.int .i64 1)) := by
 refine FV Tryz.func62 rfl Tryz.ntmps62 rfl fun w₀ => ?_
 refine GS (TN 0 (RN ?_));refine ZB 1000001 rfl fun b1 ⟨hBb1, hb1⟩ => ?_
 refine TL (RVN 1 rfl ?_);refine GT (RS (ok_field field51_1 (by decide) rfl) ?_);refine RS (ok_field field49_0 (by decide) rfl) ?_;refine RLV 1000001 U46 rfl rfl rfl ?_;refine RB rfl rfl rfl ?_;refine RZ (.bool true) (by simp [h0]) ?_;refine RM rfl ?_;refine RQ (ok_field field51_1 (by decide) rfl) ?_;refine RQ (ok_field field49_1 (by decide) rfl) ?_;refine RQ (ok_loadV (s := 1000001) (by decide) U47 rfl rfl rfl (rfl)) ?_;refine RQ (ok_bin rfl rfl rfl) ?_;refine RZ (.bool false) (by simp [hz]) ?_;refine RVN 8 rfl ?_;refine QS (GT (RS (ok_field field51_0 (by decide) rfl) ?_));refine RLV 1000001 U5 rfl rfl rfl ?_;refine RB rfl rfl rfl ?_;refine RZ (.bool false) (by simp; omega) ?_;refine RV 4 rfl ?_;refine RQ (ok_field field51_0 (by decide) rfl) ?_;refine RQ (ok_loadV (s := 1000001) (by decide) U5 rfl rfl rfl (rfl)) ?_;refine RQ (ok_bin rfl rfl rfl) ?_;refine RZ (.bool false) (by simp; omega) ?_;refine RV 2 rfl ?_;refine RQ (ok_field field51_0 (by decide) rfl) ?_;refine RQ (ok_loadV (s := 1000001) (by decide) U5 rfl rfl rfl (rfl)) ?_;refine RQ (ok_bin rfl rfl rfl) ?_;refine RZ (.bool false) (by simp; omega) ?_;refine RVN 1 rfl ?_;refine A.sub (Sv [35,1000001] rfl) ?_;refine A.no rfl ?_;refine QK (GV rfl (A.ret ?_));exact ER rfl rfl
theorem rck_d3 (x : UInt8) (s c : Nat) (t : List UInt8) (ht : t.length = 32) (hx : 2 < x.toNat) (h0 : s = 0) (h1 : c = 0) (hz : t ≠ zD) : Fn Tryz.prog 62 [.v (aggV (recV x s c t))] (.v (.int .i64 1)) := by
 refine FV Tryz.func62 rfl Tryz.ntmps62 rfl fun w₀ => ?_
 refine GS (TN 0 (RN ?_));refine ZB 1000001 rfl fun b1 ⟨hBb1, hb1⟩ => ?_
 refine TL (RVN 1 rfl ?_);refine GT (RS (ok_field field51_1 (by decide) rfl) ?_);refine RS (ok_field field49_0 (by decide) rfl) ?_;refine RLV 1000001 U46 rfl rfl rfl ?_;refine RB rfl rfl rfl ?_;refine RZ (.bool true) (by simp [h0]) ?_;refine RM rfl ?_;refine RQ (ok_field field51_1 (by decide) rfl) ?_;refine RQ (ok_field field49_1 (by decide) rfl) ?_;refine RQ (ok_loadV (s := 1000001) (by decide) U47 rfl rfl rfl (rfl)) ?_;refine RQ (ok_bin rfl rfl rfl) ?_;refine RZ (.bool true) (by simp [h1]) ?_;refine RV 2 rfl ?_;refine RQ (ok_field field51_2 (by decide) rfl) ?_;refine RQ (ok_loadP (s := 1000001) (by decide) U40 rfl size40 rfl rfl (by simp [recV, ht]) (rec_tag ht)) ?_;refine RQ (ok_litP [] U40 info5 zero40 (by decide) trivial rfl) ?_;refine RZ (aggV (zD.map byteV)) (by rfl) ?_;refine RQ (ok_eqlT (n := 4) (decide (t = zD)) flat40r (by decide) (by kernel_rfl) (by kernel_rfl) rfl rfl (kinB ht) (kinB (l := zD) rfl) (decB _ _)) ?_;refine RZ (.bool false) (by simp [hz]) ?_;refine RVN 2 rfl ?_;refine QS (GT (RS (ok_field field51_0 (by decide) rfl) ?_));refine RLV 1000001 U5 rfl rfl rfl ?_;refine RB rfl rfl rfl ?_;refine RZ (.bool false) (by simp; omega) ?_;refine RV 4 rfl ?_;refine RQ (ok_field field51_0 (by decide) rfl) ?_;refine RQ (ok_loadV (s := 1000001) (by decide) U5 rfl rfl rfl (rfl)) ?_;refine RQ (ok_bin rfl rfl rfl) ?_;refine RZ (.bool false) (by simp; omega) ?_;refine RV 2 rfl ?_;refine RQ (ok_field field51_0 (by decide) rfl) ?_;refine RQ (ok_loadV (s := 1000001) (by decide) U5 rfl rfl rfl (rfl)) ?_;refine RQ (ok_bin rfl rfl rfl) ?_;refine RZ (.bool false) (by simp; omega) ?_;refine RVN 1 rfl ?_;refine A.sub (Sv [35,1000001] rfl) ?_;refine A.no rfl ?_;refine QK (GV rfl (A.ret ?_));exact ER rfl rfl
theorem rck_d4 (x : UInt8) (s c : Nat) (t : List UInt8) (ht : t.length = 32) (hx : 2 < x.toNat) (h0 : s = 0) (h1 : c = 0) (hz : t = zD) : Fn Tryz.prog 62 [.v (aggV (recV x s c t))] (.v (.int .i64 1)) := by
 refine FV Tryz.func62 rfl Tryz.ntmps62 rfl fun w₀ => ?_
 refine GS (TN 0 (RN ?_));refine ZB 1000001 rfl fun b1 ⟨hBb1, hb1⟩ => ?_
 refine TL (RVN 1 rfl ?_);refine GT (RS (ok_field field51_1 (by decide) rfl) ?_);refine RS (ok_field field49_0 (by decide) rfl) ?_;refine RLV 1000001 U46 rfl rfl rfl ?_;refine RB rfl rfl rfl ?_;refine RZ (.bool true) (by simp [h0]) ?_;refine RM rfl ?_;refine RQ (ok_field field51_1 (by decide) rfl) ?_;refine RQ (ok_field field49_1 (by decide) rfl) ?_;refine RQ (ok_loadV (s := 1000001) (by decide) U47 rfl rfl rfl (rfl)) ?_;refine RQ (ok_bin rfl rfl rfl) ?_;refine RZ (.bool true) (by simp [h1]) ?_;refine RV 2 rfl ?_;refine RQ (ok_field field51_2 (by decide) rfl) ?_;refine RQ (ok_loadP (s := 1000001) (by decide) U40 rfl size40 rfl rfl (by simp [recV, ht]) (rec_tag ht)) ?_;refine RQ (ok_litP [] U40 info5 zero40 (by decide) trivial rfl) ?_;refine RZ (aggV (zD.map byteV)) (by rfl) ?_;refine RQ (ok_eqlT (n := 4) (decide (t = zD)) flat40r (by decide) (by kernel_rfl) (by kernel_rfl) rfl rfl (kinB ht) (kinB (l := zD) rfl) (decB _ _)) ?_;refine RZ (.bool true) (by simp [hz]) ?_;refine RVN 2 rfl ?_;refine QS (GT (RS (ok_field field51_0 (by decide) rfl) ?_));refine RLV 1000001 U5 rfl rfl rfl ?_;refine RB rfl rfl rfl ?_;refine RZ (.bool false) (by simp; omega) ?_;refine RV 4 rfl ?_;refine RQ (ok_field field51_0 (by decide) rfl) ?_;refine RQ (ok_loadV (s := 1000001) (by decide) U5 rfl rfl rfl (rfl)) ?_;refine RQ (ok_bin rfl rfl rfl) ?_;refine RZ (.bool false) (by simp; omega) ?_;refine RV 2 rfl ?_;refine RQ (ok_field field51_0 (by decide) rfl) ?_;refine RQ (ok_loadV (s := 1000001) (by decide) U5 rfl rfl rfl (rfl)) ?_;refine RQ (ok_bin rfl rfl rfl) ?_;refine RZ (.bool false) (by simp; omega) ?_;refine RVN 1 rfl ?_;refine A.sub (Sv [35,1000001] rfl) ?_;refine A.no rfl ?_;refine QK (GV rfl (A.ret ?_));exact ER rfl rfl
theorem refCheckR_fn (x : UInt8) (s c : Nat) (t : List UInt8) (ht : t.length = 32) : Fn Tryz.prog 62 [.v (aggV (recV x s c t))] (.v (.int .i64 (ckR x s c t))) := by
 by_cases hz : s = 0 ∧ c = 0 ∧ t = zD
 ·by_cases hx : x.toNat = 0
  ·rw [show ckR x s c t = 0 from ckR_ok (by unfold BadR; exact fun h => h.elim (fun h => by omega) fun h => h.2 hz)]; exact rck_a4 x s c t ht hx hz.1 hz.2.1 hz.2.2
  by_cases hx : x.toNat = 1
  ·rw [show ckR x s c t = 0 from ckR_ok (by unfold BadR; omega)]; exact rck_b4 x s c t ht hx hz.1 hz.2.1 hz.2.2
  by_cases hx : x.toNat = 2
  ·rw [show ckR x s c t = 0 from ckR_ok (by unfold BadR; omega)]; exact rck_c4 x s c t ht hx hz.1 hz.2.1 hz.2.2
  ·rw [show ckR x s c t = 1 from ckR_bad (by unfold BadR; omega)]; exact rck_d4 x s c t ht (by omega) hz.1 hz.2.1 hz.2.2
 ·by_cases h0 : s = 0
  ·by_cases h1 : c = 0
   ·have h2 : t ≠ zD := fun h => hz ⟨h0, h1, h⟩
    by_cases hx : x.toNat = 0
    ·rw [show ckR x s c t = 1 from ckR_bad (.inr ⟨hx, hz⟩)]; exact rck_a3 x s c t ht hx h0 h1 h2
    by_cases hx : x.toNat = 1
    ·rw [show ckR x s c t = 0 from ckR_ok (by unfold BadR; omega)]; exact rck_b3 x s c t ht hx h0 h1 h2
    by_cases hx : x.toNat = 2
    ·rw [show ckR x s c t = 0 from ckR_ok (by unfold BadR; omega)]; exact rck_c3 x s c t ht hx h0 h1 h2
    ·rw [show ckR x s c t = 1 from ckR_bad (by unfold BadR; omega)]; exact rck_d3 x s c t ht (by omega) h0 h1 h2
   ·by_cases hx : x.toNat = 0
    ·rw [show ckR x s c t = 1 from ckR_bad (.inr ⟨hx, hz⟩)]; exact rck_a2 x s c t ht hx h0 h1
    by_cases hx : x.toNat = 1
    ·rw [show ckR x s c t = 0 from ckR_ok (by unfold BadR; omega)]; exact rck_b2 x s c t ht hx h0 h1
    by_cases hx : x.toNat = 2
    ·rw [show ckR x s c t = 0 from ckR_ok (by unfold BadR; omega)]; exact rck_c2 x s c t ht hx h0 h1
    ·rw [show ckR x s c t = 1 from ckR_bad (by unfold BadR; omega)]; exact rck_d2 x s c t ht (by omega) h0 h1
  ·by_cases hx : x.toNat = 0
   ·rw [show ckR x s c t = 1 from ckR_bad (.inr ⟨hx, hz⟩)]; exact rck_a1 x s c t ht hx h0
   by_cases hx : x.toNat = 1
   ·rw [show ckR x s c t = 0 from ckR_ok (by unfold BadR; omega)]; exact rck_b1 x s c t ht hx h0
   by_cases hx : x.toNat = 2
   ·rw [show ckR x s c t = 0 from ckR_ok (by unfold BadR; omega)]; exact rck_c1 x s c t ht hx h0
   ·rw [show ckR x s c t = 1 from ckR_bad (by unfold BadR; omega)]; exact rck_d1 x s c t ht (by omega) h0
theorem eck_a3 (x : UInt8) (t : List UInt8) (ht : t.length = 32) (hx : x.toNat = 0) (hz : t ≠ zD) : Fn Tryz.prog 63 [.v (aggV (entV x t))] (.v (.int .i64 1)) := by
 refine FV Tryz.func63 rfl Tryz.ntmps63 rfl fun w₀ => ?_
 refine GS (TN 0 (RN ?_));refine ZB 1000001 rfl fun b1 ⟨hBb1, hb1⟩ => ?_
 refine TL (RVN 1 rfl ?_);refine QS (GT (RS (ok_field field54_0 (by decide) rfl) ?_));refine RLV 1000001 U5 rfl rfl rfl ?_;refine RB rfl rfl rfl ?_;refine RZ (.bool true) (by simp [hx]) ?_;refine RM rfl ?_;refine RQ (ok_field field54_1 (by decide) rfl) ?_;refine RQ (ok_loadP (s := 1000001) (by decide) U40 rfl size40 rfl rfl (by simp [entV, ht]) (ent_tag ht)) ?_;refine RQ (ok_litP [] U40 info5 zero40 (by decide) trivial rfl) ?_;refine RZ (aggV (zD.map byteV)) (by rfl) ?_;refine RQ (ok_eqlT (n := 4) (decide (t = zD)) flat40r (by decide) (by kernel_rfl) (by kernel_rfl) rfl rfl (kinB ht) (kinB (l := zD) rfl) (decB _ _)) ?_;refine RZ (.bool false) (by simp [hz]) ?_;refine RV 2 rfl ?_;refine RQ (ok_field field54_0 (by decide) rfl) ?_;refine RQ (ok_loadV (s := 1000001) (by decide) U5 rfl rfl rfl (rfl)) ?_;refine RQ (ok_bin rfl rfl rfl) ?_;refine RZ (.bool false) (by simp; omega) ?_;refine RV 2 rfl ?_;refine RQ (ok_field field54_0 (by decide) rfl) ?_;refine RQ (ok_loadV (s := 1000001) (by decide) U5 rfl rfl rfl (rfl)) ?_;refine RQ (ok_bin rfl rfl rfl) ?_;refine RZ (.bool false) (by simp; omega) ?_;refine RVN 1 rfl ?_;refine A.no rfl ?_;refine QK (GV rfl (A.ret ?_));exact ER rfl rfl
theorem eck_a4 (x : UInt8) (t : List UInt8) (ht : t.length = 32) (hx : x.toNat = 0) (hz : t = zD) : Fn Tryz.prog 63 [.v (aggV (entV x t))] (.v (.int .i64 0)) := by
 refine FV Tryz.func63 rfl Tryz.ntmps63 rfl fun w₀ => ?_
 refine GS (TN 0 (RN ?_));refine ZB 1000001 rfl fun b1 ⟨hBb1, hb1⟩ => ?_
 refine TL (RVN 1 rfl ?_);refine QS (GT (RS (ok_field field54_0 (by decide) rfl) ?_));refine RLV 1000001 U5 rfl rfl rfl ?_;refine RB rfl rfl rfl ?_;refine RZ (.bool true) (by simp [hx]) ?_;refine RM rfl ?_;refine RQ (ok_field field54_1 (by decide) rfl) ?_;refine RQ (ok_loadP (s := 1000001) (by decide) U40 rfl size40 rfl rfl (by simp [entV, ht]) (ent_tag ht)) ?_;refine RQ (ok_litP [] U40 info5 zero40 (by decide) trivial rfl) ?_;refine RZ (aggV (zD.map byteV)) (by rfl) ?_;refine RQ (ok_eqlT (n := 4) (decide (t = zD)) flat40r (by decide) (by kernel_rfl) (by kernel_rfl) rfl rfl (kinB ht) (kinB (l := zD) rfl) (decB _ _)) ?_;refine RZ (.bool true) (by simp [hz]) ?_;refine RVN 11 rfl ?_;refine A.yes rfl ?_;refine GV rfl (A.ret (End.ret_then ?_));exact ER rfl rfl
theorem eck_b (x : UInt8) (t : List UInt8) (ht : t.length = 32) (hx : x.toNat = 1) : Fn Tryz.prog 63 [.v (aggV (entV x t))] (.v (.int .i64 0)) := by
 refine FV Tryz.func63 rfl Tryz.ntmps63 rfl fun w₀ => ?_
 refine GS (TN 0 (RN ?_));refine ZB 1000001 rfl fun b1 ⟨hBb1, hb1⟩ => ?_
 refine TL (RVN 1 rfl ?_);refine QS (GT (RS (ok_field field54_0 (by decide) rfl) ?_));refine RLV 1000001 U5 rfl rfl rfl ?_;refine RB rfl rfl rfl ?_;refine RZ (.bool false) (by simp; omega) ?_;refine RV 7 rfl ?_;refine RQ (ok_field field54_0 (by decide) rfl) ?_;refine RQ (ok_loadV (s := 1000001) (by decide) U5 rfl rfl rfl (rfl)) ?_;refine RQ (ok_bin rfl rfl rfl) ?_;refine RZ (.bool true) (by simp [hx]) ?_;refine RVN 6 rfl ?_;refine A.yes rfl ?_;refine GV rfl (A.ret (End.ret_then ?_));exact ER rfl rfl
theorem eck_c (x : UInt8) (t : List UInt8) (ht : t.length = 32) (hx : x.toNat = 2) : Fn Tryz.prog 63 [.v (aggV (entV x t))] (.v (.int .i64 0)) := by
 refine FV Tryz.func63 rfl Tryz.ntmps63 rfl fun w₀ => ?_
 refine GS (TN 0 (RN ?_));refine ZB 1000001 rfl fun b1 ⟨hBb1, hb1⟩ => ?_
 refine TL (RVN 1 rfl ?_);refine QS (GT (RS (ok_field field54_0 (by decide) rfl) ?_));refine RLV 1000001 U5 rfl rfl rfl ?_;refine RB rfl rfl rfl ?_;refine RZ (.bool false) (by simp; omega) ?_;refine RV 7 rfl ?_;refine RQ (ok_field field54_0 (by decide) rfl) ?_;refine RQ (ok_loadV (s := 1000001) (by decide) U5 rfl rfl rfl (rfl)) ?_;refine RQ (ok_bin rfl rfl rfl) ?_;refine RZ (.bool false) (by simp; omega) ?_;refine RV 2 rfl ?_;refine RQ (ok_field field54_0 (by decide) rfl) ?_;refine RQ (ok_loadV (s := 1000001) (by decide) U5 rfl rfl rfl (rfl)) ?_;refine RQ (ok_bin rfl rfl rfl) ?_;refine RZ (.bool true) (by simp [hx]) ?_;refine RVN 1 rfl ?_;refine A.yes rfl ?_;refine GV rfl (A.ret (End.ret_then ?_));exact ER rfl rfl
theorem eck_d (x : UInt8) (t : List UInt8) (ht : t.length = 32) (hx : 2 < x.toNat) : Fn Tryz.prog 63 [.v (aggV (entV x t))] (.v (.int .i64 1)) := by
 refine FV Tryz.func63 rfl Tryz.ntmps63 rfl fun w₀ => ?_
 refine GS (TN 0 (RN ?_));refine ZB 1000001 rfl fun b1 ⟨hBb1, hb1⟩ => ?_
 refine TL (RVN 1 rfl ?_);refine QS (GT (RS (ok_field field54_0 (by decide) rfl) ?_));refine RLV 1000001 U5 rfl rfl rfl ?_;refine RB rfl rfl rfl ?_;refine RZ (.bool false) (by simp; omega) ?_;refine RV 7 rfl ?_;refine RQ (ok_field field54_0 (by decide) rfl) ?_;refine RQ (ok_loadV (s := 1000001) (by decide) U5 rfl rfl rfl (rfl)) ?_;refine RQ (ok_bin rfl rfl rfl) ?_;refine RZ (.bool false) (by simp; omega) ?_;refine RV 2 rfl ?_;refine RQ (ok_field field54_0 (by decide) rfl) ?_;refine RQ (ok_loadV (s := 1000001) (by decide) U5 rfl rfl rfl (rfl)) ?_;refine RQ (ok_bin rfl rfl rfl) ?_;refine RZ (.bool false) (by simp; omega) ?_;refine RVN 1 rfl ?_;refine A.no rfl ?_;refine QK (GV rfl (A.ret ?_));exact ER rfl rfl
theorem refCheckE_fn (x : UInt8) (t : List UInt8) (ht : t.length = 32) : Fn Tryz.prog 63 [.v (aggV (entV x t))] (.v (.int .i64 (ckE x t))) := by
 by_cases hx : x.toNat = 0
 ·by_cases hz : t = zD
  ·rw [show ckE x t = 0 from ckE_ok (by unfold BadE; simp [hz, hx])]; exact eck_a4 x t ht hx hz
  ·rw [show ckE x t = 1 from ckE_bad (.inr ⟨hx, hz⟩)]; exact eck_a3 x t ht hx hz
 by_cases hx : x.toNat = 1
 ·rw [show ckE x t = 0 from ckE_ok (by unfold BadE; omega)]; exact eck_b x t ht hx
 by_cases hx : x.toNat = 2
 ·rw [show ckE x t = 0 from ckE_ok (by unfold BadE; omega)]; exact eck_c x t ht hx
 ·rw [show ckE x t = 1 from ckE_bad (by unfold BadE; omega)]; exact eck_d x t ht (by omega)
set_option maxHeartbeats 1000000 in
theorem refRecord_fn (x : UInt8) (s c : Nat) (t : List UInt8) (ht : t.length = 32) (hs : s < 4294967296) (hc : c < 18446744073709551616)  : Fn Tryz.prog 90 [.v (aggV (recV x s c t))] (byt (recL x s c t)) := by
 refine FV Tryz.func90 rfl Tryz.ntmps90 rfl fun w₀ => ?_
 refine GS (TN 0 (RN ?_));refine ZB 1000001 rfl fun b1 ⟨hBb1, hb1⟩ => ?_
 refine TL (RVN 1 rfl ?_);refine GD (TD 9 ?_);refine RS (ok_field field51_0 (by decide) rfl) ?_;refine RLV 1000001 U5 rfl rfl rfl ?_;refine RS (ok_build [.v (byteV x)] U23 info5 rfl (by decide) (by decide) rfl ⟨rfl, rfl, trivial⟩ (fun d hd w x h => by simp only [List.mem_cons, List.not_mem_nil, or_false] at hd; rcases hd with rfl; exact v_one rfl h)) ?_;refine RS (ok_field field51_1 (by decide) rfl) ?_;refine RS (ok_loadP (s := 1000001) (by decide) U49 rfl size49 rfl rfl (by simp [recV]) (rfl)) ?_;refine RS (ok_call (ref8Put_fn s c hs hc) (A1 rfl)) ?_;refine RS (ok_appendFull (l := [x]) (m := nonceL s c) U23 info5 (by decide) rfl rfl (Le.eq (by rfl)) rfl (Le.refl _) (Nat.succ_pos _) (by rw [nonceL_length]; decide) (by simp only [nonceL_length, List.length_cons, List.length_nil]; omega)) ?_;refine RS (ok_field field51_2 (by decide) rfl) ?_;refine RS (OpOk.fact (ok_sliceX (l := 0) (h := 32) (m := 32) U40 info5 rfl (.inr ⟨rfl, rfl⟩) (.inr ⟨rfl, rfl, rfl⟩) (.inr ⟨rfl, rfl⟩) (by decide) (by decide) (by decide) (.inl (by decide))) (d := byt t) (s := 1000001) (by decide) rfl (slice_byt t ht.symm (by decide) (by decide) (rec_tag ht))) ?_;refine RN ?_;refine ⟨_, eff_appendS (vs := t.map byteV) U23 info5 (by decide) rfl rfl rfl (Le.eq (byt_vals _)) (by simp [byteV, Value.oneCell']) (by simp only [List.length_map, nonceL_length, ht, List.length_cons, List.length_nil]; omega) (by decide) (fun g hg => (LT 1000001 rfl LN)), ?_⟩
 refine TL (RVN 1 rfl ?_);refine A.sub (KE 2 rfl (show own w₀.heap.size 5 _ _ = own w₀.heap.size 5 (1 + 12 + 32) (([x] ++ nonceL s c).map byteV ++ t.map byteV) from by rw [nonceL_length, List.length_map, ht]; rfl) (KC 1000001 rfl KN)) ?_;refine A.ret ?_;exact End.ret1 rfl rfl ((Le.eq (by rw [← List.map_append]; rfl)).trans (own_byt (B := w₀.heap.size) (e := 5) (n := 1 + 12 + 32) (l := recL x s c t) (recL_len x s c ht).symm))
theorem refEntry_fn (x : UInt8) (t : List UInt8) (ht : t.length = 32)  : Fn Tryz.prog 91 [.v (aggV (entV x t))] (byt (entL x t)) := by
 refine FV Tryz.func91 rfl Tryz.ntmps91 rfl fun w₀ => ?_
 refine GS (TN 0 (RN ?_));refine ZB 1000001 rfl fun b1 ⟨hBb1, hb1⟩ => ?_
 refine TL (RVN 1 rfl ?_);refine GTD (RS (ok_field field54_0 (by decide) rfl) ?_);refine RLV 1000001 U5 rfl rfl rfl ?_;refine RS (ok_build [.v (byteV x)] U23 info5 rfl (by decide) (by decide) rfl ⟨rfl, rfl, trivial⟩ (fun d hd w x h => by simp only [List.mem_cons, List.not_mem_nil, or_false] at hd; rcases hd with rfl; exact v_one rfl h)) ?_;refine RS (ok_field field54_1 (by decide) rfl) ?_;refine RS (OpOk.fact (ok_sliceX (l := 0) (h := 32) (m := 32) U40 info5 rfl (.inr ⟨rfl, rfl⟩) (.inr ⟨rfl, rfl, rfl⟩) (.inr ⟨rfl, rfl⟩) (by decide) (by decide) (by decide) (.inl (by decide))) (d := byt t) (s := 1000001) (by decide) rfl (slice_byt t ht.symm (by decide) (by decide) (ent_tag ht))) ?_;refine RS (ok_appendFull (l := [x]) (m := t) U23 info5 (by decide) rfl rfl (Le.eq (by rfl)) rfl (Le.refl _) (Nat.succ_pos _) (by omega) (by simp only [ht, List.length_cons, List.length_nil]; omega)) ?_;refine RVN 1 rfl ?_;refine A.ret ?_;exact End.ret1 rfl rfl (own_byt (B := w₀.heap.size) (e := 5) (n := [x].length + t.length) (l := entL x t) (by rw [entL_len x ht, ht]; rfl))
theorem cks_A (x : UInt8) (z : Bool) (h : 2 < x.toNat) : Fn Tryz.prog 95 [.v (byteV x), .v (.bool z)] (.v (.int .i64 1)) := by
 refine FV Tryz.func95 rfl Tryz.ntmps95 rfl fun w₀ => ?_
 refine GV rfl (QS (GT (RV 2 rfl ?_)));refine RZ (.bool true) (by simp; omega) ?_;refine RV 4 rfl ?_;refine RunK.skippedU rfl rfl rfl rfl ?_;refine RunK.skippedU rfl rfl rfl rfl ?_;refine RVN 2 rfl ?_;refine A.yes rfl ?_;refine GV rfl (A.ret (End.ret_then ?_));exact ER rfl rfl
theorem cks_B (x : UInt8) (h : x.toNat = 0) : Fn Tryz.prog 95 [.v (byteV x), .v (.bool true)] (.v (.int .i64 0)) := by
 refine FV Tryz.func95 rfl Tryz.ntmps95 rfl fun w₀ => ?_
 refine GV rfl (QS (GT (RV 2 rfl ?_)));refine RZ (.bool false) (by simp; omega) ?_;refine RV 3 rfl ?_;refine RZ (.bool true) (by simp [h]) ?_;refine RV 3 rfl ?_;refine RF ?_;refine RVN 2 rfl ?_;refine A.no rfl ?_;refine QK (GV rfl (A.ret ?_));exact ER rfl rfl
theorem cks_C (x : UInt8) (h : x.toNat = 0) : Fn Tryz.prog 95 [.v (byteV x), .v (.bool false)] (.v (.int .i64 1)) := by
 refine FV Tryz.func95 rfl Tryz.ntmps95 rfl fun w₀ => ?_
 refine GV rfl (QS (GT (RV 2 rfl ?_)));refine RZ (.bool false) (by simp; omega) ?_;refine RV 3 rfl ?_;refine RZ (.bool true) (by simp [h]) ?_;refine RV 3 rfl ?_;refine RT ?_;refine RVN 2 rfl ?_;refine A.yes rfl ?_;refine GV rfl (A.ret (End.ret_then ?_));exact ER rfl rfl
theorem cks_D (x : UInt8) (z : Bool) (h : 1 ≤ x.toNat) (h2 : x.toNat ≤ 2) : Fn Tryz.prog 95 [.v (byteV x), .v (.bool z)] (.v (.int .i64 0)) := by
 refine FV Tryz.func95 rfl Tryz.ntmps95 rfl fun w₀ => ?_
 refine GV rfl (QS (GT (RV 2 rfl ?_)));refine RZ (.bool false) (by simp; omega) ?_;refine RV 3 rfl ?_;refine RZ (.bool false) (by simp; omega) ?_;refine RVN 5 rfl ?_;refine A.no rfl ?_;refine QK (GV rfl (A.ret ?_));exact ER rfl rfl
theorem checkState_fn (x : UInt8) (z : Bool) : Fn Tryz.prog 95 [.v (byteV x), .v (.bool z)] (.v (.int .i64 (ckS x.toNat z))) := by
 unfold ckS
 by_cases h : 2 < x.toNat
 ·rw [if_pos (.inl h)]; exact cks_A x z h
 by_cases h0 : x.toNat = 0
 ·cases z with
  | true => rw [if_neg (by simp; omega)]; exact cks_B x h0
  | false => rw [if_pos (.inr ⟨h0, rfl⟩)]; exact cks_C x h0
 ·rw [if_neg (by omega)]; exact cks_D x z (by omega) (by omega)
theorem CheckR_fn (x : UInt8) (s c : Nat) (t : List UInt8) (ht : t.length = 32)  : Fn Tryz.prog 66 [.v (aggV (recV x s c t))] (.v (.int .i64 (ckR x s c t))) := by
 refine FV Tryz.func66 rfl Tryz.ntmps66 rfl fun w₀ => ?_
 refine GS (TN 0 (RN ?_));refine ZB 1000001 rfl fun b1 ⟨hBb1, hb1⟩ => ?_
 refine TL (RVN 1 rfl ?_);refine GTD (RS (ok_field field51_0 (by decide) rfl) ?_);refine RLV 1000001 U5 rfl rfl rfl ?_;refine RL 1000001 U51 rfl rfl (size51.of (rec_len x s c ht)) ?_;refine RS (ok_lit [] ([.int .u8 0] ++ [.int .u32 0] ++ [.int .u64 0] ++ List.replicate 32 (.int .u8 0)) (fun _ _ => rfl) (by kernel_rfl)) ?_;refine RS (ok_eqlT (n := 4) (decide (x.toNat = 0 ∧ s = 0 ∧ c = 0 ∧ t = zD)) flat51 (by decide) (by kernel_rfl) (by kernel_rfl) rfl rfl (kinRec x s c ht) (kinRec 0 0 0 (t := zD) rfl) (dec_rec x s c t)) ?_;refine RS (ok_call (checkState_fn x _) (A2 rfl rfl)) ?_;refine RZ (.int .i64 (ckR x s c t)) (congrArg (Value.int .i64) (ckS_rec x s c t)) ?_;refine RVN 1 rfl ?_;refine A.ret ?_;exact ER rfl rfl
theorem CheckE_fn (x : UInt8) (t : List UInt8) (ht : t.length = 32)  : Fn Tryz.prog 143 [.v (aggV (entV x t))] (.v (.int .i64 (ckE x t))) := by
 refine FV Tryz.func143 rfl Tryz.ntmps143 rfl fun w₀ => ?_
 refine GS (TN 0 (RN ?_));refine ZB 1000001 rfl fun b1 ⟨hBb1, hb1⟩ => ?_
 refine TL (RVN 1 rfl ?_);refine GTD (RS (ok_field field54_0 (by decide) rfl) ?_);refine RLV 1000001 U5 rfl rfl rfl ?_;refine RL 1000001 U54 rfl rfl (size54.of (ent_len x ht)) ?_;refine RS (ok_lit [] ([.int .u8 0] ++ List.replicate 32 (.int .u8 0)) (fun _ _ => rfl) (by kernel_rfl)) ?_;refine RS (ok_eqlT (n := 4) (decide (x.toNat = 0 ∧ t = zD)) flat54 (by decide) (by kernel_rfl) (by kernel_rfl) rfl rfl (kinEnt x ht) (kinEnt 0 (t := zD) rfl) (dec_ent x t)) ?_;refine RS (ok_call (checkState_fn x _) (A2 rfl rfl)) ?_;refine RZ (.int .i64 (ckE x t)) (congrArg (Value.int .i64) (ckS_ent x t)) ?_;refine RVN 1 rfl ?_;refine A.ret ?_;exact ER rfl rfl
theorem newD_tup {B e n : Nat} {l : List UInt8} (h : l.length = n) (hm : n ≤ maxLen := by decide) : Le (newD B e (fun b => .tuple #[.slice (some ⟨b, 0, none⟩) n n, .int .i64 0]) (l.map byteV)) (tup [bytes l n, .v (.int .i64 0)]) := fun B' w x ⟨b, h1, h2, h3, h4⟩ => by
 subst h1
 refine ⟨[.slice (some ⟨b, 0, none⟩) n n, .int .i64 0], rfl, rfl, fun j d u hd hu => ?_⟩
 match j with
 | 0 =>
  injection hd with hd; injection hu with hu; subst hd; subst hu
  exact slice_bytes l h.symm (Nat.le_refl _) hm (by rw [List.drop_zero, List.take_of_length_le (by simp [h])]) B' w h3 h4
 | 1 => injection hd with hd; injection hu with hu; subst hd; subst hu; rfl
 | j + 2 => cases hd
set_option maxHeartbeats 1000000 in
theorem PutRecord_okB (x : UInt8) (s c : Nat) (t : List UInt8) (ht : t.length = 32) (hs : s < 4294967296) (hc : c < 18446744073709551616) (hb : ¬ BadR x s c t)  : FnB Tryz.prog 133 [.v (aggV (recV x s c t))] (fun B => newD B 5 (fun b => .tuple #[.slice (some ⟨b, 0, none⟩) 45 45, .int .i64 0]) ((recL x s c t).map byteV)) := by
 refine FnB.of Tryz.func133 rfl (by kernel_rfl) Tryz.ntmps133 (by simp) (fun w => [(0, .v (aggV (recV x s c t)))]) (fun w => (Start.v rfl Start.nil)) fun w₀ => ?_
 refine GS (TN 0 (RN ?_));refine ZB 1000001 rfl fun b1 ⟨hBb1, hb1⟩ => ?_
 refine TL (RVN 2 rfl ?_);refine QS (GT (RL 1000001 U51 rfl rfl (size51.of (rec_len x s c ht)) ?_));refine RS (ok_call (CheckR_fn x s c t ht) (A1 rfl)) ?_;refine RZ (.int .i64 0) (congrArg (Value.int .i64) (ckR_ok hb)) ?_;refine RVN 1 rfl ?_;refine GT (RV 2 rfl ?_);refine RF ?_;refine RN (A.no rfl ?_);refine QK (GD (RunTK.new 9 (by decide) rfl (.inr (by kernel_rfl)) ?_));refine RS (ok_field field51_0 (by decide) rfl) ?_;refine RLV 1000001 U5 rfl rfl rfl ?_;refine RS (ok_build [.v (byteV x)] U23 info5 rfl (by decide) (by decide) rfl ⟨rfl, rfl, trivial⟩ (fun d hd w x h => by simp only [List.mem_cons, List.not_mem_nil, or_false] at hd; rcases hd with rfl; exact v_one rfl h)) ?_;refine RS (ok_field field51_1 (by decide) rfl) ?_;refine RS (ok_loadP (s := 1000001) (by decide) U49 rfl size49 rfl rfl (by simp [recV]) (rfl)) ?_;refine RS (ok_call (Put_fn s c hs hc) (A1 rfl)) ?_;refine RS (ok_field field51_2 (by decide) rfl) ?_;refine RS (OpOk.fact (ok_sliceX (l := 0) (h := 32) (m := 32) U40 info5 rfl (.inr ⟨rfl, rfl⟩) (.inr ⟨rfl, rfl, rfl⟩) (.inr ⟨rfl, rfl⟩) (by decide) (by decide) (by decide) (.inl (by decide))) (d := byt t) (s := 1000001) (by decide) rfl (slice_byt t ht.symm (by decide) (by decide) (rec_tag ht))) ?_;refine RS (ok_build [bytes [x] 1, bytes (nonceL s c) 12, byt t] U222 info23 rfl (by decide) (by decide) rfl ⟨rfl, rfl, rfl, rfl, rfl, rfl, trivial⟩ (fun d hd w x h => by simp only [List.mem_cons, List.not_mem_nil, or_false] at hd; rcases hd with rfl | rfl | rfl <;> first | exact list_one h | exact lst_one h)) ?_;refine RN ?_;refine ⟨_, _, eff_nameF (c := 45) (by simp [recL, nonceL_length, ht]) (n := 20) (d := 19) (k := 1000019) rfl rfl (fun B' => (ok_callB (Join_fnB [[x], nonceL s c, t] (by simp) (by simp [nonceL_length, ht])) (fun _ _ => fresh_mono _ _) (Args.cons rfl (list_lst3 (le_byt _ 1) (le_byt _ 12) (Le.refl _)) Args.nil)).le (d' := fresh _ 5 ((recL x s c t).map byteV) 45) (Le.eq (by simp [recL, nonceL_length, ht]))) (by decide) (by decide), fun b19 hb19 => ?_⟩
 have hBb19 := hb19.1
 have hlt_b1_b19 : b1 < b19 := hb19.2 1000001 _ _ _ rfl
 refine TL (RVN 2 rfl ?_);refine A.ret ?_
 first | exact End.newTT (kg := 1000019) rfl rfl rfl rfl hBb19 rfl rfl | exact End.ret2V rfl rfl rfl
theorem PutEntry_okB (x : UInt8) (t : List UInt8) (ht : t.length = 32) (hb : ¬ BadE x t)  : FnB Tryz.prog 135 [.v (aggV (entV x t))] (fun B => newD B 5 (fun b => .tuple #[.slice (some ⟨b, 0, none⟩) 33 33, .int .i64 0]) ((entL x t).map byteV)) := by
 refine FnB.of Tryz.func135 rfl (by kernel_rfl) Tryz.ntmps135 (by simp) (fun w => [(0, .v (aggV (entV x t)))]) (fun w => (Start.v rfl Start.nil)) fun w₀ => ?_
 refine GS (TN 0 (RN ?_));refine ZB 1000001 rfl fun b1 ⟨hBb1, hb1⟩ => ?_
 refine TL (RVN 2 rfl ?_);refine QS (GT (RL 1000001 U54 rfl rfl (size54.of (ent_len x ht)) ?_));refine RS (ok_call (CheckE_fn x t ht) (A1 rfl)) ?_;refine RZ (.int .i64 0) (congrArg (Value.int .i64) (ckE_ok hb)) ?_;refine RVN 1 rfl ?_;refine GT (RV 2 rfl ?_);refine RF ?_;refine RN (A.no rfl ?_);refine QK (GD (RunTK.new 6 (by decide) rfl (.inr (by kernel_rfl)) ?_));refine RS (ok_field field54_0 (by decide) rfl) ?_;refine RLV 1000001 U5 rfl rfl rfl ?_;refine RS (ok_build [.v (byteV x)] U23 info5 rfl (by decide) (by decide) rfl ⟨rfl, rfl, trivial⟩ (fun d hd w x h => by simp only [List.mem_cons, List.not_mem_nil, or_false] at hd; rcases hd with rfl; exact v_one rfl h)) ?_;refine RS (ok_field field54_1 (by decide) rfl) ?_;refine RS (OpOk.fact (ok_sliceX (l := 0) (h := 32) (m := 32) U40 info5 rfl (.inr ⟨rfl, rfl⟩) (.inr ⟨rfl, rfl, rfl⟩) (.inr ⟨rfl, rfl⟩) (by decide) (by decide) (by decide) (.inl (by decide))) (d := byt t) (s := 1000001) (by decide) rfl (slice_byt t ht.symm (by decide) (by decide) (ent_tag ht))) ?_;refine RS (ok_build [bytes [x] 1, byt t] U222 info23 rfl (by decide) (by decide) rfl ⟨rfl, rfl, rfl, rfl, trivial⟩ (fun d hd w x h => by simp only [List.mem_cons, List.not_mem_nil, or_false] at hd; rcases hd with rfl | rfl <;> first | exact list_one h | exact lst_one h)) ?_;refine RN ?_;refine ⟨_, _, eff_nameF (c := 33) (by simp [entL, ht]) (n := 17) (d := 16) (k := 1000016) rfl rfl (fun B' => (ok_callB (Join_fnB [[x], t] (by simp) (by simp [ht])) (fun _ _ => fresh_mono _ _) (Args.cons rfl (list_lst2 (le_byt _ 1) (Le.refl _)) Args.nil)).le (d' := fresh _ 5 ((entL x t).map byteV) 33) (Le.eq (by simp [entL, ht]))) (by decide) (by decide), fun b16 hb16 => ?_⟩
 have hBb16 := hb16.1
 have hlt_b1_b16 : b1 < b16 := hb16.2 1000001 _ _ _ rfl
 refine TL (RVN 2 rfl ?_);refine A.ret ?_
 first | exact End.newTT (kg := 1000016) rfl rfl rfl rfl hBb16 rfl rfl | exact End.ret2V rfl rfl rfl
theorem State_neg (n : Int) (h : n < 0) : Fn Tryz.prog 65 [.v (.int .i64 n)] (.v (.tuple #[.int .u8 0, .int .i64 1])) := by
 refine FV Tryz.func65 rfl Tryz.ntmps65 rfl fun w₀ => ?_
 refine GV rfl (QS (GT (RV 2 rfl ?_)));refine RZ (.bool true) (by simp; omega) ?_;refine RVN 4 rfl ?_;refine A.yes rfl ?_;refine GV rfl (A.ret (End.ret_then ?_));exact End.ret2V rfl rfl rfl
theorem State_big (n : Int) (h : 1 < n) : Fn Tryz.prog 65 [.v (.int .i64 n)] (.v (.tuple #[.int .u8 0, .int .i64 1])) := by
 refine FV Tryz.func65 rfl Tryz.ntmps65 rfl fun w₀ => ?_
 refine GV rfl (QS (GT (RV 2 rfl ?_)));refine RZ (.bool false) (by simp; omega) ?_;refine RV 3 rfl ?_;refine RZ (.bool true) (by simp; omega) ?_;refine RVN 1 rfl ?_;refine A.yes rfl ?_;refine GV rfl (A.ret (End.ret_then ?_));exact End.ret2V rfl rfl rfl
theorem State_ok (n : Int) (x : UInt8) (h : 0 ≤ n) (h2 : n ≤ 1) (hx : ((x.toNat : Nat) : Int) = n + 1) : Fn Tryz.prog 65 [.v (.int .i64 n)] (.v (.tuple #[byteV x, .int .i64 0])) := by
 refine FV Tryz.func65 rfl Tryz.ntmps65 rfl fun w₀ => ?_
 refine GV rfl (QS (GT (RV 2 rfl ?_)));refine RZ (.bool false) (by simp; omega) ?_;refine RV 3 rfl ?_;refine RZ (.bool false) (by simp; omega) ?_;refine RVN 1 rfl ?_;refine A.no rfl ?_;refine QK (GT (RM rfl ?_));refine RS (ok_conv U3 U5 rfl) ?_;refine RZ (.int .u8 n) (by rw [wrap_u8 (by omega) (by omega)]) ?_;refine RB rfl rfl rfl ?_;refine RZ (byteV x) (by rw [wrap_u8 (by omega) (by omega), byteV, hx]) ?_;refine RVN 2 rfl ?_;refine A.ret ?_;exact End.ret2V rfl rfl rfl
section
variable {κ : Cx}
def subs : List Nat → List (List Nat)
 | [] => [[]]
 | x :: r => subs r ++ (subs r).map (x :: ·)
theorem filter_subs (f : Nat → Bool) : ∀ l : List Nat, l.filter f ∈ subs l
 | [] => by simp [subs]
 | x :: r => by
  have ih := filter_subs f r
  rw [List.filter_cons, subs, List.mem_append]
  split
  ·exact .inr (List.mem_map.2 ⟨_, ih, rfl⟩)
  ·exact .inl ih
def keeps (ops : Array Oper) (S : List Nat) (t : Nat) : Bool := !(S.any fun i => ((ops[i]?).bind (·.dst)) == some t)
def without (ops : Array Oper) (S : List Nat) (E : Env) : Env := E.filter fun q => keeps ops S q.1
theorem without_look {ops : Array Oper} {S : List Nat} {t : Nat} {d : D} : ∀ {E : Env}, (without ops S E).look t = some d → E.look t = some d ∧ keeps ops S t = true
 | [], h => by simp [without, Env.look] at h
 | (s, e) :: E, h => by
  unfold without at h
  rw [List.filter_cons] at h
  by_cases hst : s = t
  ·subst hst
   by_cases hk : keeps ops S s = true
   ·rw [if_pos hk] at h
    rw [look_here] at h ⊢
    exact ⟨h, hk⟩
   ·rw [if_neg hk] at h
    exact absurd (without_look (E := E) h).2 hk
  ·rw [look_past _ _ hst]
   split at h
   ·rw [look_past _ _ hst] at h; exact without_look (E := E) h
   ·exact without_look (E := E) h
theorem look_without {ops : Array Oper} {S : List Nat} {t : Nat} {d : D} (hk : keeps ops S t = true) : ∀ {E : Env}, E.look t = some d → (without ops S E).look t = some d
 | [], h => by simp [Env.look] at h
 | (s, e) :: E, h => by
  unfold without
  rw [List.filter_cons]
  by_cases hst : s = t
  ·subst hst
   rw [if_pos hk]
   rw [look_here] at h ⊢
   exact h
  ·rw [look_past _ _ hst] at h
   split
   ·rw [look_past _ _ hst]; exact look_without hk h
   ·exact look_without hk h
def listedS (ops : Array Oper) (p : Nat) (S : List Nat) : Array Bool := ((List.range ops.size).map fun i => decide (i < p) && !S.contains i).toArray
theorem listedS_get {ops : Array Oper} {p i : Nat} {S : List Nat} (h : i < ops.size) : (listedS ops p S)[i]? = some (decide (i < p) && !S.contains i) := by simp [listedS, h]
def lateOk (ops : Array Oper) (p : Nat) (late : List Nat) : Bool :=
 let b := (befores ops).map List.eraseDups
 decide (p < ops.size) && late.all (· < p) && (List.range ops.size).all fun i => decide (i < p) || ((List.range p).all fun j => late.contains j || (b.getD i []).contains j) && (i == p || (b.getD i []).contains p)
theorem AnyT.mono {P : Program} {n B : Nat} {ops : Array Oper} {C : Env → Prop} : ∀ {m k : Nat} {listed : Array Bool} {E : Env}, m ≤ k → AnyT P n B ops C m listed E → AnyT P n B ops C k listed E
 | 0, k, _, _, _, ⟨hr, hC⟩ => AnyT.last hr hC
 | m + 1,0, _, _, h, _ => absurd h (by omega)
 | m + 1, k + 1, _, _, h, .inl h' => .inl h'
 | m + 1, k + 1, _, _, h, .inr ⟨hne, h'⟩ => .inr ⟨hne, fun i hi => by
  obtain ⟨o, ho, ι, G, E₂, he, hn⟩ := h' i hi
  exact ⟨o, ho, ι, G, E₂, he, fun j hj => AnyT.mono (by omega) (hn j hj)⟩⟩
section
variable {P : Program} {n B : Nat} {ops : Array Oper} {Q : Exit → Act → World → Prop}
theorem wp_segL {p : Nat} {late : List Nat} {E E' : Env} {ds : List D} {a₀ : Act} {w₀ : World} (htied : tied ops = true) (hfits : fits n ops = true) (hlate : lateOk ops p late = true) (ht : Trace P B ops (ops.toList.take p) E ds E') (h₀ : St κ n B E a₀ w₀)
    (hnext : ∀ S ∈ subs late, ∀ fuel a' w', unlisted ops (listedS ops p S) ≤ fuel + 1 → Grow w₀ w' → St κ n B (without ops S E') a' w' → wpOpIn (FR κ.rd) 0 P ops Q p (wpAnyIn (FR κ.rd) 0 P .any ops Q fuel ((listedS ops p S).setIfInBounds p true)) a' w') :
    ∀ (fuel : Nat) (listed : Array Bool) (a : Act) (w : World), unlisted ops listed ≤ fuel → Inv κ n B ops 0 p E ds a₀ w₀ listed a w → wpAnyIn (FR κ.rd) 0 P .any ops Q fuel listed a w := by
  have hb := hlate
  simp only [lateOk, Bool.and_eq_true, decide_eq_true_eq, List.all_eq_true, List.mem_range, Bool.or_eq_true, beq_iff_eq] at hb
  obtain ⟨⟨hp, hlp⟩, hb⟩ := hb
  have hidx : ∀ (i : Nat) (o : Oper), i < p → ops[i]? = some o → (ops.toList.take p)[i]? = some o := fun i o h2 h3 => by
    rw [List.getElem?_take, if_pos h2]; simpa using h3
  have hidx' : ∀ (j : Nat) (o : Oper), (ops.toList.take p)[j]? = some o → ops[j]? = some o ∧ j < p := fun j o h => by
    rw [List.getElem?_take] at h
    split at h
    · exact ⟨by simpa using h, by assumption⟩
    · cases h
  have hends : ∀ (listed : Array Bool) (a : Act) (w : World), Inv κ n B ops 0 p E ds a₀ w₀ listed a w → Region.ready .any ops listed = [] → False := by
    intro listed a w I hr
    have hall : ∀ i, i < ops.size → listed.getD i false = true := by
      intro i
      induction i using Nat.strongRecOn with
      | _ i ih =>
        intro hi
        rcases hb : listed.getD i false with _ | _
        · exfalso
          have : i ∈ Region.ready .any ops listed := by
            rw [mem_ready]
            refine ⟨?_, ops[i], Array.getElem?_eq_getElem hi, fun e he hbd => ih e.on (tied_edge htied (Array.getElem?_eq_getElem hi) he hbd) (Nat.lt_trans (tied_edge htied (Array.getElem?_eq_getElem hi) he hbd) hi)⟩
            have : i < listed.size := by rw [I.lsize]; exact hi
            simp [this] at hb ⊢
            exact hb
          rw [hr] at this
          cases this
        · rfl
    have h1 := hall p hp
    rw [I.high p (Nat.le_refl _)] at h1
    cases h1
  intro fuel
  induction fuel with
  | zero =>
    intro listed a w hc I
    have hr : Region.ready .any ops listed = [] := by
      rcases hr : Region.ready .any ops listed with _ | ⟨i, l⟩
      · rfl
      · exfalso
        have hi : i ∈ Region.ready .any ops listed := by rw [hr]; exact List.mem_cons_self
        obtain ⟨hu, o, ho, _⟩ := mem_ready.1 hi
        have hpos : 0 < unlisted ops listed := List.countP_pos_iff.2 ⟨i, List.mem_range.2 (Array.getElem?_eq_some_iff.1 ho).1, by simp only [hu]; rfl⟩
        omega
    exact (hends listed a w I hr).elim
  | succ fuel ih =>
    intro listed a w hc I
    refine ⟨fun hr => (hends listed a w I hr).elim, fun i hi => ?_⟩
    obtain ⟨hu, o, ho, hall⟩ := mem_ready.1 hi
    have hlt : i < ops.size := (Array.getElem?_eq_some_iff.1 ho).1
    have huf : listed.getD i false = false := by
      have : i < listed.size := by rw [I.lsize]; exact hlt
      simp [this] at hu ⊢
      exact hu
    have hready : ∀ o', ops[i]? = some o' → ∀ e ∈ o'.after, Region.binds .any e = true → listed.getD e.on false = true := fun o' ho' e he hb => by
      rw [ho] at ho'; injection ho' with ho'; subst ho'; exact hall e he hb
    rcases Nat.lt_or_ge i p with hip | hip
    case inr =>
      have hmem : ∀ k l, l ∈ (Array.map List.eraseDups (befores ops)).getD k [] → l ∈ (befores ops).getD k [] := fun k l h => by
        rw [Array.getD_eq_getD_getElem?, Array.getElem?_map] at h
        rw [Array.getD_eq_getD_getElem?]
        cases hk : (befores ops)[k]? with
        | none => rw [hk] at h; simp at h
        | some v => rw [hk] at h; simpa using h
      obtain ⟨hb1, hb2⟩ := (hb i hlt).resolve_left (by omega)
      have hi : i = p := by
        rcases hb2 with h | h
        · exact h
        · have h2 := I.befores htied i p hready (hmem i p (by simpa using h))
          rw [I.high p (Nat.le_refl _)] at h2
          cases h2
      subst hi
      have hlow : ∀ k, k < i → k ∉ late → listed.getD k false = true := fun k hk hnl => by
        have h1 := (hb1 k hk).resolve_left (by simpa using hnl)
        exact I.befores htied i k hready (hmem i k (by simpa using h1))
      have hS := filter_subs (fun j => !listed.getD j false) late
      have hlist : listed = listedS ops i (late.filter fun j => !listed.getD j false) := by
        apply Array.ext_getElem?
        intro k
        rcases Nat.lt_or_ge k ops.size with hk | hk
        · rw [listedS_get hk]
          have hk' : k < listed.size := by rw [I.lsize]; exact hk
          have hg : listed[k]? = some (listed.getD k false) := by simp [hk']
          rw [hg]
          congr 1
          rcases Nat.lt_or_ge k i with h | h
          · by_cases hkl : k ∈ late
            · cases hv : listed.getD k false with
              | true => rw [Array.getD_eq_getD_getElem?] at hv; simp [h, hkl, hv]
              | false => rw [Array.getD_eq_getD_getElem?] at hv; simp [h, hkl, hv]
            · rw [hlow k h hkl]; simp [h, hkl]
          · rw [I.high k h]; simp; omega
        · rw [Array.getElem?_eq_none (by rw [I.lsize]; exact hk), Array.getElem?_eq_none (by simp [listedS]; exact hk)]
      have hst : St κ n B (without ops (late.filter fun j => !listed.getD j false) E') a w := by
        refine ⟨I.base, I.defers, I.size, fun t e he => ?_⟩
        obtain ⟨he, hkeep⟩ := without_look he
        rcases ht.last t e he with ⟨j, o', hj, hd, hds⟩ | ⟨hno, hl⟩
        · obtain ⟨hj', hjp⟩ := hidx' j o' hj
          refine I.facts j o' t e (Nat.zero_le _) hj' ?_ hd (by rw [Nat.sub_zero]; exact hds)
          by_cases hjl : j ∈ late
          · cases hv : listed.getD j false with
            | true => rfl
            | false =>
              exfalso
              simp only [keeps, Bool.not_eq_true', List.any_eq_false, beq_iff_eq] at hkeep
              exact hkeep j (List.mem_filter.2 ⟨hjl, by simp [hv]⟩) (by rw [hj']; exact hd)
          · exact hlow j hjp hjl
        · rw [I.frame t fun j o' _ hj hl' => ?_]
          · exact (h₀.of t e hl).grow I.grow
          · rcases Nat.lt_or_ge j i with hjp | hjp
            · exact hno j o' (hidx j o' hjp hj)
            · rw [I.high j hjp] at hl'; cases hl'
      have := hnext _ hS fuel a w (by rw [← hlist]; exact hc) I.grow hst
      rw [← hlist] at this
      exact this
    obtain ⟨t, d, Ei, hdst, hds, hgood, henv⟩ := ht.nth (i := i) (o := o) (hidx i o hip ho)
    have hf := fits_mem hfits (o := o) (by simpa using Array.mem_of_getElem? ho)
    refine wpOpR_step ho fun K hK => good_wp I.base (fun t e hvt he => ?_) hdst hgood (fun r e hs he => ?_) (fun r hs => by rw [I.size]; exact hf.1 r hs) fun x w' g hx => hK _ _ (ih _ _ _ ?_ ?_)
    · have hnb := fits_base hfits
      rcases henv t e he with ⟨j, q, hji, hj, hpd, hpds⟩ | ⟨hno, hl⟩
      · obtain ⟨hj', _⟩ := hidx' j q hj
        have h9 : t < n := (fits_mem hfits (o := q) (by simpa using Array.mem_of_getElem? hj')).2 t hpd
        exact absurd (Nat.lt_of_lt_of_le h9 hnb) (Nat.not_lt.2 hvt)
      · have h1 := (h₀.virt hnb) t e hvt hl
        exact h1.grow I.grow
    · rcases henv r e he with ⟨j, q, hji, hj, hpd, hpds⟩ | ⟨hno, hl⟩
      · obtain ⟨hj', hjp⟩ := hidx' j q hj
        obtain ⟨ed, he1, hb, hon⟩ := ((tied_pair htied ho hj' hpd (by omega)).2 hs).1 (by omega)
        refine I.facts j q r e (Nat.zero_le _) hj' ?_ hpd (by rw [Nat.sub_zero]; exact hpds)
        rw [← hon]
        exact hall ed he1 hb
      · rw [I.frame r]
        · exact (h₀.of r e hl).grow I.grow
        · intro j q hsj hj hlist hpd
          by_cases hji : j = i
          · subst hji; rw [huf] at hlist; cases hlist
          · rcases Nat.lt_or_ge j i with h | h
            · exact hno j q h (hidx j q (by omega) hj) hpd
            · obtain ⟨ed, he1, hb, hon⟩ := ((tied_pair htied ho hj hpd hji).2 hs).2 (by omega)
              have := I.closed j q hj hlist ed he1 hb
              rw [hon, huf] at this
              cases this
    · have : unlisted ops (listed.setIfInBounds i true) < unlisted ops listed := by
        refine countP_lt (x := i) (fun y hy => ?_) (List.mem_range.2 hlt) (by simp only [hu]; rfl) ?_
        · by_cases hyi : i = y
          · subst hyi
            have : i < listed.size := by rw [I.lsize]; exact hlt
            simp [this] at hy
          · rw [getD_set_ne true hyi] at hy; exact hy
        · have : i < listed.size := by rw [I.lsize]; exact hlt
          simp [this]
      omega
    · have hset : ∀ j, (listed.setIfInBounds i true).getD j false = true → j = i ∨ listed.getD j false = true := fun j hj => by
        by_cases hji : i = j
        · exact .inl hji.symm
        · rw [getD_set_ne false hji] at hj; exact .inr hj
      refine ⟨I.grow.trans g, Nat.le_trans I.base g.size, by simp [I.lsize], fun j hj hj' => by omega, fun j hj => ?_, I.defers, by simp [Act.put, I.size], ?_, ?_, ?_⟩
      · rw [getD_set_ne false (by omega)]; exact I.high j hj
      · intro j q hj hl e he hb
        rcases hset j hl with rfl | hl
        · rw [ho] at hj; injection hj with hj; subst hj
          exact getD_set_true (hall e he hb)
        · exact getD_set_true (I.closed j q hj hl e he hb)
      · intro j q r e hsj hj hl hpd hpds
        by_cases hji : j = i
        · subst hji
          rw [ho] at hj; injection hj with hj; subst hj
          rw [hdst] at hpd; injection hpd with hpd; subst hpd
          rw [Nat.sub_zero, hds] at hpds; injection hpds with hpds; subst hpds
          rw [getD_put_here _ _ (by rw [I.size]; exact hf.2 _ hdst)]
          exact hx
        · have hl' := (hset j hl).resolve_left hji
          have hne : t ≠ r := fun h => (tied_pair htied ho hj hpd hji).1 (by rw [hdst, h])
          rw [getD_put_past _ _ hne]
          exact (I.facts j q r e hsj hj hl' hpd hpds).grow g
      · intro r hs
        have hne : t ≠ r := fun h => hs i o (Nat.zero_le _) ho (by have : i < listed.size := by rw [I.lsize]; exact hlt
                                                                   simp [this]) (by rw [hdst, h])
        rw [getD_put_past _ _ hne]
        refine I.frame r fun j q hsj hj hl => hs j q hsj hj (getD_set_true hl)
def LateT (P : Program) (n B : Nat) (ops : Array Oper) (C : Env → Prop) (p m : Nat) (S : List Nat) (E : Env) : Prop :=
 m + 1 ≤ unlisted ops (listedS ops p S) ∧ ∃ E₀, Sub E₀ E ∧ ((E₀.map (·.1)).all (keeps ops S)) = true ∧ ∃ o, ops[p]? = some o ∧ ∃ E₂, Eff P n B ops o E₀ E₂ ∧ AnyT P n B ops C m ((listedS ops p S).setIfInBounds p true) E₂
end
end
section
variable {κ : Cx}
section
variable {α β : Type} {v : α → List β} {k : Nat}
theorem flat_length {L : List α} (h : ∀ a ∈ L, (v a).length = k) : (L.flatMap v).length = L.length * k := by
 induction L with
 | nil => simp
 | cons a L ih =>
  rw [List.flatMap_cons, List.length_append, ih (fun x hx => h x (List.mem_cons_of_mem _ hx)), h a List.mem_cons_self, List.length_cons, Nat.succ_mul, Nat.add_comm]
theorem flat_drop {L : List α} (h : ∀ a ∈ L, (v a).length = k) (i : Nat) : (L.flatMap v).drop (i * k) = (L.drop i).flatMap v := by
 induction i generalizing L with
 | zero => simp
 | succ i ih =>
  cases L with
  | nil => simp
  | cons a L =>
   rw [List.flatMap_cons, List.drop_succ_cons, ← ih (fun x hx => h x (List.mem_cons_of_mem _ hx)), List.drop_append, h a List.mem_cons_self, Nat.succ_mul, List.drop_eq_nil_of_le (by rw [h a List.mem_cons_self]; omega), List.nil_append]
   congr 1; omega
theorem flatM_at {L : List α} (h : ∀ a ∈ L, (v a).length = k) {i : Nat} (hi : i < L.length) : ((L.flatMap v).drop (i * k)).take k = v L[i] := by
 rw [flat_drop h, List.drop_eq_getElem_cons hi, List.flatMap_cons]
 exact List.take_left' (h _ (List.getElem_mem hi))
theorem flat_getD {L : List α} (h : ∀ a ∈ L, (v a).length = k) {i : Nat} (hi : i < L.length) (z : α) : ((L.flatMap v).drop (i * k)).take k = v (L.getD i z) := by
 rw [flatM_at h hi]; simp [hi]
theorem flat_set {L : List α} (h : ∀ a ∈ L, (v a).length = k) {i : Nat} (hi : i < L.length) {a : α} (ha : (v a).length = k) : (L.flatMap v).take (i * k) ++ v a ++ (L.flatMap v).drop (i * k + k) = (L.set i a).flatMap v := by
 induction i generalizing L with
 | zero =>
  cases L with
  | nil => cases hi
  | cons b L =>
   simp only [Nat.zero_mul, List.take_zero, List.nil_append, Nat.zero_add, List.set_cons_zero, List.flatMap_cons]
   rw [List.drop_left' (h b List.mem_cons_self)]
 | succ i ih =>
  cases L with
  | nil => cases hi
  | cons b L =>
   have hb := h b List.mem_cons_self
   rw [List.set_cons_succ, List.flatMap_cons, List.flatMap_cons, ← ih (fun x hx => h x (List.mem_cons_of_mem _ hx)) (by simpa using hi), Nat.succ_mul, List.take_append, List.drop_append, List.take_of_length_le (by omega), List.drop_eq_nil_of_le (by omega), hb,
    show i * k + k - k = i * k from by omega, show i * k + k + k - k = i * k + k from by omega]
   simp only [List.append_assoc, List.nil_append]
theorem rmid_at {pre suf : List β} {L : List α} (h : ∀ a ∈ L, (v a).length = k) {i o : Nat} (ho : pre.length = o) (hi : i < L.length) (z : α) : ((pre ++ (L.flatMap v ++ suf)).drop (o + i * k)).take k = v (L.getD i z) := by
 have hl := flat_length h
 have hle : i * k + k ≤ L.length * k := by rw [← Nat.succ_mul]; exact Nat.mul_le_mul_right _ hi
 rw [← List.drop_drop, List.drop_left' ho, List.drop_append, Nat.sub_eq_zero_of_le (by omega), List.drop_zero, List.take_append_of_le_length (by rw [List.length_drop]; omega), flat_getD h hi z]
theorem rmid_set {pre suf : List β} {L : List α} (h : ∀ a ∈ L, (v a).length = k) {i o : Nat} (ho : pre.length = o) (hi : i < L.length) {a : α} (ha : (v a).length = k) :
  (pre ++ (L.flatMap v ++ suf)).take (o + i * k) ++ v a ++ (pre ++ (L.flatMap v ++ suf)).drop (o + i * k + (v a).length) = pre ++ ((L.set i a).flatMap v ++ suf) := by
 have hl := flat_length h
 have hle : i * k + k ≤ L.length * k := by rw [← Nat.succ_mul]; exact Nat.mul_le_mul_right _ hi
 rw [← flat_set h hi ha, ha, Nat.add_assoc, ← List.drop_drop, List.drop_left' ho, ← ho, List.take_length_add_append, List.take_append_of_le_length (by omega), List.drop_append, Nat.sub_eq_zero_of_le (n := i * k + k) (m := (L.flatMap v).length) (by omega), List.drop_zero]
 simp only [List.append_assoc]
def pg (z : α) (f : Nat → α) (i : Nat) : List α := (List.range 4).map fun k => if k < i then f k else z
theorem pg_length (z : α) (f : Nat → α) (i : Nat) : (pg z f i).length = 4 := by simp [pg]
theorem pg_getD (z : α) (f : Nat → α) (i : Nat) {j : Nat} (hj : j < 4) (d : α) : (pg z f i).getD j d = if j < i then f j else z := by
 simp [pg, hj]
theorem pg_zero (z : α) (f : Nat → α) : pg z f 0 = List.replicate 4 z := by simp [pg, List.range, List.range.loop, List.replicate]
theorem pg_set (z : α) (f : Nat → α) {i : Nat} (hi : i < 4) : (pg z f i).set i (f i) = pg z f (i + 1) := by
 apply List.ext_getElem
 ·simp [pg]
 intro j h1 h2
 rw [pg_length] at h2
 simp only [pg, List.getElem_set, List.getElem_map, List.getElem_range]
 by_cases hij : i = j
 ·subst hij; rw [if_pos rfl, if_pos (by omega)]
 ·rw [if_neg hij]
  by_cases hj : j < i
  ·rw [if_pos hj, if_pos (by omega)]
  ·rw [if_neg hj, if_neg (by omega)]
theorem pg_mem {z : α} {f : Nat → α} {i : Nat} {a : α} (h : a ∈ pg z f i) : a = z ∨ ∃ k, k < 4 ∧ k < i ∧ a = f k := by
 simp only [pg, List.mem_map, List.mem_range] at h
 obtain ⟨k, hk, rfl⟩ := h
 by_cases h : k < i
 ·rw [if_pos h]; exact .inr ⟨k, hk, h, rfl⟩
 ·rw [if_neg h]; exact .inl rfl
theorem getD_mem4 {L : List α} (h : L.length = 4) {i : Nat} (hi : i < 4) (z : α) : L.getD i z ∈ L := by
 rw [List.getD_eq_getElem?_getD, List.getElem?_eq_getElem (by omega)]
 exact List.getElem_mem _
theorem ext4 {L L' : List α} (h : L.length = 4) (h' : L'.length = 4) (z : α) (he : ∀ i, i < 4 → L.getD i z = L'.getD i z) : L = L' := by
 apply List.ext_getElem (by omega)
 intro i h1 h2
 have := he i (by omega)
 simpa [h1, h2] using this
end
def fst4 (f : Nat → Int) : Int := if f 0 ≠ 0 then f 0 else if f 1 ≠ 0 then f 1 else if f 2 ≠ 0 then f 2 else f 3
theorem fst4_at {f : Nat → Int} {i : Nat} (hi : i < 4) (h : ∀ k, k < i → f k = 0) (h0 : f i ≠ 0) : f i = fst4 f := by
 unfold fst4
 match i, hi with
 | 0, _ => rw [if_pos h0]
 | 1, _ => rw [if_neg (by simp [h 0 (by decide)]), if_pos h0]
 | 2, _ => rw [if_neg (by simp [h 0 (by decide)]), if_neg (by simp [h 1 (by decide)]), if_pos h0]
 | 3, _ => rw [if_neg (by simp [h 0 (by decide)]), if_neg (by simp [h 1 (by decide)]), if_neg (by simp [h 2 (by decide)])]
theorem fst4_no {f : Nat → Int} (h : ∀ k, k < 4 → f k = 0) : fst4 f = 0 := by
 unfold fst4
 rw [if_neg (by simp [h 0 (by decide)]), if_neg (by simp [h 1 (by decide)]), if_neg (by simp [h 2 (by decide)]), h 3 (by decide)]
theorem fst4_zero {f : Nat → Int} (h : fst4 f = 0) : ∀ k, k < 4 → f k = 0 := by
 unfold fst4 at h
 by_cases h0 : f 0 = 0
 ·rw [if_neg (by simp [h0])] at h
  by_cases h1 : f 1 = 0
  ·rw [if_neg (by simp [h1])] at h
   by_cases h2 : f 2 = 0
   ·rw [if_neg (by simp [h2])] at h
    intro k hk
    match k, hk with
    | 0, _ => exact h0
    | 1, _ => exact h1
    | 2, _ => exact h2
    | 3, _ => exact h
   ·rw [if_pos h2] at h; exact absurd h h2
  ·rw [if_pos h1] at h; exact absurd h h1
 ·rw [if_pos h0] at h; exact absurd h h0
theorem fst4_one {f : Nat → Int} (h : ∀ k, f k = 0 ∨ f k = 1) : fst4 f = 0 ∨ fst4 f = 1 := by
 unfold fst4
 split
 ·exact h 0
 ·split
  ·exact h 1
  ·split
   ·exact h 2
   ·exact h 3
def cnt (p : Nat → Bool) : Nat → Nat
 | 0 => 0
 | i + 1 => cnt p i + if p i then 1 else 0
theorem cnt_le (p : Nat → Bool) : ∀ i, cnt p i ≤ i
 | 0 => Nat.le_refl _
 | i + 1 => by have := cnt_le p i; unfold cnt; split <;> omega
theorem cnt_y {p : Nat → Bool} {i : Nat} (h : p i = true) : cnt p (i + 1) = cnt p i + 1 := by rw [cnt, if_pos h]
theorem cnt_n {p : Nat → Bool} {i : Nat} (h : p i = false) : cnt p (i + 1) = cnt p i := by rw [cnt, if_neg (by simp [h]), Nat.add_zero]
structure RecT where
 x : UInt8
 s : Nat
 c : Nat
 t : List UInt8
structure EntT where
 x : UInt8
 t : List UInt8
namespace RecT
def zero : RecT := ⟨0,0,0, zD⟩
def v (r : RecT) : List Value := recV r.x r.s r.c r.t
def l (r : RecT) : List UInt8 := recL r.x r.s r.c r.t
structure Fit (r : RecT) : Prop where
 t : r.t.length = 32
 s : r.s < 4294967296
 c : r.c < 18446744073709551616
def Bad (r : RecT) : Prop := BadR r.x r.s r.c r.t
def Z (r : RecT) : Prop := r.x.toNat = 0 ∧ r.s = 0 ∧ r.c = 0 ∧ r.t = zD
def ck (r : RecT) : Int := ckR r.x r.s r.c r.t
theorem zero_fit : zero.Fit := ⟨rfl, by decide, by decide⟩
theorem Fit.len {r : RecT} (h : r.Fit) : r.v.length = 35 := rec_len _ _ _ h.t
theorem Fit.kin {r : RecT} (h : r.Fit) : Kin (fun _ _ => True) (.u8 :: .u32 :: .u64 :: List.replicate 32 .u8) r.v := kinRec _ _ _ h.t
theorem Fit.lenL {r : RecT} (h : r.Fit) : r.l.length = 45 := recL_len _ _ _ h.t
theorem one (r : RecT) : r.v.all (·.oneCell') = true := rec_one _ _ _ _
theorem v_inj {r q : RecT} (h : r.v = q.v) : r = q := by
 obtain ⟨x, s, c, t⟩ := r
 obtain ⟨x', s', c', t'⟩ := q
 simp only [v, recV] at h
 injection h with h1 h
 injection h with h2 h
 injection h with h3 h
 injection h2 with _ h2
 injection h3 with _ h3
 rw [byteV_inj h1, Int.ofNat.inj h2, Int.ofNat.inj h3, bytes_inj h]
theorem z_iff {r : RecT} : r.Z ↔ r = zero := ⟨fun ⟨h1, h2, h3, h4⟩ => by
  obtain ⟨x, s, c, t⟩ := r
  simp only at h1 h2 h3 h4
  rw [h2, h3, h4, show x = 0 from UInt8.toNat_inj.1 h1]; rfl, fun h => by rw [h]; exact ⟨rfl, rfl, rfl, rfl⟩⟩
theorem z_v {r : RecT} : r.Z ↔ r.v = zero.v := z_iff.trans ⟨fun h => by rw [h], v_inj⟩
theorem zero_ok : ¬ zero.Bad := by unfold Bad BadR zero; rintro (h | ⟨_, h⟩); exact absurd h (by decide); exact h ⟨rfl, rfl, rfl⟩
theorem ck_one (r : RecT) : r.ck = 0 ∨ r.ck = 1 := by unfold ck ckR; split <;> simp
theorem ck_zero {r : RecT} : r.ck = 0 ↔ ¬ r.Bad := by unfold ck ckR Bad; split <;> simp_all
theorem ck_bad {r : RecT} (h : r.ck ≠ 0) : r.Bad := Classical.byContradiction fun hb => h (ck_zero.2 hb)
instance : DecidablePred Z := fun r => by unfold Z; infer_instance
end RecT
namespace EntT
def zero : EntT := ⟨0, zD⟩
def v (r : EntT) : List Value := entV r.x r.t
def l (r : EntT) : List UInt8 := entL r.x r.t
structure Fit (r : EntT) : Prop where
 t : r.t.length = 32
def Bad (r : EntT) : Prop := BadE r.x r.t
def Z (r : EntT) : Prop := r.x.toNat = 0 ∧ r.t = zD
def ck (r : EntT) : Int := ckE r.x r.t
theorem zero_fit : zero.Fit := ⟨rfl⟩
theorem Fit.len {r : EntT} (h : r.Fit) : r.v.length = 33 := ent_len _ h.t
theorem Fit.kin {r : EntT} (h : r.Fit) : Kin (fun _ _ => True) (.u8 :: List.replicate 32 .u8) r.v := kinEnt _ h.t
theorem Fit.lenL {r : EntT} (h : r.Fit) : r.l.length = 33 := entL_len _ h.t
theorem one (r : EntT) : r.v.all (·.oneCell') = true := ent_one _ _
theorem v_inj {r q : EntT} (h : r.v = q.v) : r = q := by
 obtain ⟨x, t⟩ := r
 obtain ⟨x', t'⟩ := q
 simp only [v, entV] at h
 injection h with h1 h
 rw [byteV_inj h1, bytes_inj h]
theorem z_iff {r : EntT} : r.Z ↔ r = zero := ⟨fun ⟨h1, h4⟩ => by
  obtain ⟨x, t⟩ := r
  simp only at h1 h4
  rw [h4, show x = 0 from UInt8.toNat_inj.1 h1]; rfl, fun h => by rw [h]; exact ⟨rfl, rfl⟩⟩
theorem z_v {r : EntT} : r.Z ↔ r.v = zero.v := z_iff.trans ⟨fun h => by rw [h], v_inj⟩
theorem zero_ok : ¬ zero.Bad := by unfold Bad BadE zero; rintro (h | ⟨_, h⟩); exact absurd h (by decide); exact h rfl
theorem ck_one (r : EntT) : r.ck = 0 ∨ r.ck = 1 := by unfold ck ckE; split <;> simp
theorem ck_zero {r : EntT} : r.ck = 0 ↔ ¬ r.Bad := by unfold ck ckE Bad; split <;> simp_all
theorem ck_bad {r : EntT} (h : r.ck ≠ 0) : r.Bad := Classical.byContradiction fun hb => h (ck_zero.2 hb)
instance : DecidablePred Z := fun r => by unfold Z; infer_instance
end EntT
abbrev recsV (R : List RecT) : List Value := R.flatMap RecT.v
abbrev entsV (R : List EntT) : List Value := R.flatMap EntT.v
theorem RecT.lens {R : List RecT} (h : ∀ r ∈ R, r.Fit) : ∀ r ∈ R, r.v.length = 35 := fun r hr => (h r hr).len
theorem EntT.lens {R : List EntT} (h : ∀ r ∈ R, r.Fit) : ∀ r ∈ R, r.v.length = 33 := fun r hr => (h r hr).len
theorem RecT.lensL {R : List RecT} (h : ∀ r ∈ R, r.Fit) : ∀ r ∈ R, r.l.length = 45 := fun r hr => (h r hr).lenL
theorem EntT.lensL {R : List EntT} (h : ∀ r ∈ R, r.Fit) : ∀ r ∈ R, r.l.length = 33 := fun r hr => (h r hr).lenL
theorem RecT.all1 (R : List RecT) : (recsV R).all (·.oneCell') = true := by
 rw [List.all_flatMap]; simp only [List.all_eq_true]; exact fun r _ => List.all_eq_true.1 r.one
theorem EntT.all1 (R : List EntT) : (entsV R).all (·.oneCell') = true := by
 rw [List.all_flatMap]; simp only [List.all_eq_true]; exact fun r _ => List.all_eq_true.1 r.one
theorem RecT.kins {R : List RecT} (h : ∀ r ∈ R, r.Fit) : Kin (fun _ _ => True) (List.replicate R.length (.u8 :: .u32 :: .u64 :: List.replicate 32 .u8)).flatten (recsV R) := by
 induction R with
 | nil => exact kin_nil
 | cons r R ih => rw [List.length_cons, List.replicate_succ, List.flatten_cons, recsV, List.flatMap_cons]; exact Kin.join (h r List.mem_cons_self).kin (ih fun q hq => h q (List.mem_cons_of_mem _ hq))
theorem EntT.kins {R : List EntT} (h : ∀ r ∈ R, r.Fit) : Kin (fun _ _ => True) (List.replicate R.length (.u8 :: List.replicate 32 .u8)).flatten (entsV R) := by
 induction R with
 | nil => exact kin_nil
 | cons r R ih => rw [List.length_cons, List.replicate_succ, List.flatten_cons, entsV, List.flatMap_cons]; exact Kin.join (h r List.mem_cons_self).kin (ih fun q hq => h q (List.mem_cons_of_mem _ hq))
theorem flatMap_inj {α β : Type} {v : α → List β} {k : Nat} (hv : ∀ a b, v a = v b → a = b) : ∀ {L L' : List α}, (∀ a ∈ L, (v a).length = k) → (∀ a ∈ L', (v a).length = k) → L.length = L'.length → L.flatMap v = L'.flatMap v → L = L'
 | [], [], _, _, _, _ => rfl
 | a :: L, b :: L', h, h', hl, he => by
  rw [List.flatMap_cons, List.flatMap_cons] at he
  obtain ⟨h1, h2⟩ := List.append_inj he (by rw [h a List.mem_cons_self, h' b List.mem_cons_self])
  rw [hv a b h1, flatMap_inj hv (fun x hx => h x (List.mem_cons_of_mem _ hx)) (fun x hx => h' x (List.mem_cons_of_mem _ hx)) (by simpa using hl) h2]
structure NodT where
 l : UInt8
 j : Nat
 R : List RecT
 E : List EntT
def zerosR : List RecT := List.replicate 4 RecT.zero
def zerosE : List EntT := List.replicate 4 EntT.zero
def nodV (l : UInt8) (j : Nat) (R : List RecT) (E : List EntT) : List Value := [byteV l, .int .u32 ((j : Nat) : Int)] ++ (recsV R ++ entsV E)
theorem nodV_E (l : UInt8) (j : Nat) (R : List RecT) (E : List EntT) : nodV l j R E = ([byteV l, .int .u32 ((j : Nat) : Int)] ++ recsV R) ++ (entsV E ++ []) := by rw [nodV, List.append_nil, List.append_assoc]
namespace NodT
def v (x : NodT) : List Value := nodV x.l x.j x.R x.E
def r (x : NodT) (i : Nat) : RecT := x.R.getD i RecT.zero
def e (x : NodT) (i : Nat) : EntT := x.E.getD i EntT.zero
structure Fit (x : NodT) : Prop where
 j : x.j < 4294967296
 lr : x.R.length = 4
 le : x.E.length = 4
 fr : ∀ r ∈ x.R, r.Fit
 fe : ∀ r ∈ x.E, r.Fit
def emp (l : UInt8) (j : Nat) : NodT := ⟨l, j, zerosR, zerosE⟩
theorem zr_fit : ∀ r ∈ zerosR, r.Fit := fun r h => by rw [List.eq_of_mem_replicate h]; exact RecT.zero_fit
theorem ze_fit : ∀ r ∈ zerosE, r.Fit := fun r h => by rw [List.eq_of_mem_replicate h]; exact EntT.zero_fit
theorem emp_fit (l : UInt8) {j : Nat} (h : j < 4294967296) : (emp l j).Fit := ⟨h, rfl, rfl, zr_fit, ze_fit⟩
section
variable {x : NodT}
theorem Fit.r (h : x.Fit) (i : Nat) : (x.r i).Fit := by
 unfold NodT.r
 by_cases hi : i < 4
 ·exact h.fr _ (getD_mem4 h.lr hi _)
 ·rw [List.getD_eq_getElem?_getD, List.getElem?_eq_none (by have := h.lr; omega)]; exact RecT.zero_fit
theorem Fit.e (h : x.Fit) (i : Nat) : (x.e i).Fit := by
 unfold NodT.e
 by_cases hi : i < 4
 ·exact h.fe _ (getD_mem4 h.le hi _)
 ·rw [List.getD_eq_getElem?_getD, List.getElem?_eq_none (by have := h.le; omega)]; exact EntT.zero_fit
theorem Fit.lenR (h : x.Fit) : (recsV x.R).length = 140 := by rw [recsV, flat_length (RecT.lens h.fr), h.lr]
theorem Fit.lenE (h : x.Fit) : (entsV x.E).length = 132 := by rw [entsV, flat_length (EntT.lens h.fe), h.le]
theorem Fit.len (h : x.Fit) : x.v.length = 274 := by unfold NodT.v nodV; rw [List.length_append, List.length_append, h.lenR, h.lenE]; rfl
theorem one (x : NodT) : x.v.all (·.oneCell') = true := by
 unfold NodT.v nodV
 rw [List.all_append, List.all_append, RecT.all1, EntT.all1]; rfl
theorem Fit.getR (h : x.Fit) : (x.v.drop 2).take 140 = recsV x.R := by
 show List.take 140 (recsV x.R ++ entsV x.E) = recsV x.R
 exact List.take_left' h.lenR
theorem Fit.getE (h : x.Fit) : (x.v.drop 142).take 132 = entsV x.E := by
 show List.take 132 (List.drop 140 (recsV x.R ++ entsV x.E)) = entsV x.E
 rw [List.drop_left' h.lenR, List.take_of_length_le (Nat.le_of_eq h.lenE)]
theorem Fit.rec_at (h : x.Fit) {i : Nat} (hi : i < 4) : (x.v.drop (2 + i * 35)).take 35 = (x.r i).v := rmid_at (pre := [byteV x.l, .int .u32 ((x.j : Nat) : Int)]) (suf := entsV x.E) (RecT.lens h.fr) rfl (by rw [h.lr]; exact hi) _
theorem Fit.ent_at (h : x.Fit) {i : Nat} (hi : i < 4) : (x.v.drop (142 + i * 33)).take 33 = (x.e i).v := by
 unfold NodT.v
 rw [nodV_E]
 exact rmid_at (EntT.lens h.fe) (by rw [List.length_append, h.lenR]; rfl) (by rw [h.le]; exact hi) _
theorem Fit.set_rec (h : x.Fit) {i : Nat} (hi : i < 4) {r : RecT} (hr : r.Fit) : x.v.take (2 + i * 35) ++ r.v ++ x.v.drop (2 + i * 35 + r.v.length) = NodT.v { x with R := x.R.set i r } := rmid_set (pre := [byteV x.l, .int .u32 ((x.j : Nat) : Int)]) (suf := entsV x.E) (RecT.lens h.fr) rfl (by rw [h.lr]; exact hi) hr.len
theorem Fit.set_ent (h : x.Fit) {i : Nat} (hi : i < 4) {r : EntT} (hr : r.Fit) : x.v.take (142 + i * 33) ++ r.v ++ x.v.drop (142 + i * 33 + r.v.length) = NodT.v { x with E := x.E.set i r } := by
 unfold NodT.v
 rw [nodV_E, nodV_E]
 exact rmid_set (EntT.lens h.fe) (by rw [List.length_append, h.lenR]; rfl) (by rw [h.le]; exact hi) hr.len
theorem Fit.kin (h : x.Fit) : Kin (fun _ _ => True) (.u8 :: .u32 :: ((List.replicate 4 (.u8 :: .u32 :: .u64 :: List.replicate 32 .u8)).flatten ++ (List.replicate 4 (.u8 :: List.replicate 32 .u8)).flatten)) x.v := by
 have h1 := RecT.kins h.fr
 have h2 := EntT.kins h.fe
 rw [h.lr] at h1
 rw [h.le] at h2
 show Kin _ _ (byteV x.l :: .int .u32 ((x.j : Nat) : Int) :: (recsV x.R ++ entsV x.E))
 exact kin_cons (kin_cons (Kin.join h1 h2))
theorem v_inj {x y : NodT} (hx : x.Fit) (hy : y.Fit) (h : x.v = y.v) : x = y := by
 have h1 := hx.getR
 have h2 := hx.getE
 rw [h, hy.getR] at h1
 rw [h, hy.getE] at h2
 have h3 := flatMap_inj (fun _ _ => RecT.v_inj) (RecT.lens hy.fr) (RecT.lens hx.fr) (by rw [hx.lr, hy.lr]) h1
 have h4 := flatMap_inj (fun _ _ => EntT.v_inj) (EntT.lens hy.fe) (EntT.lens hx.fe) (by rw [hx.le, hy.le]) h2
 obtain ⟨l, j, R, E⟩ := x
 obtain ⟨l', j', R', E'⟩ := y
 simp only at h3 h4
 subst h3; subst h4
 unfold NodT.v nodV at h
 simp only [List.cons_append, List.nil_append] at h
 injection h with h5 h
 injection h with h6 _
 injection h6 with _ h6
 rw [byteV_inj h5, Int.ofNat.inj h6]
end
open Classical in
noncomputable def ck (x : NodT) : Int := if 5 < x.l.toNat then 1 else if x.l.toNat = 0 then (if ∀ i, i < 4 → (x.e i).Z then fst4 fun i => (x.r i).ck else 1) else (if ∀ i, i < 4 → (x.r i).Z then fst4 fun i => (x.e i).ck else 1)
theorem ck_hi {x : NodT} (h : 5 < x.l.toNat) : x.ck = 1 := if_pos h
theorem ck_R {x : NodT} (h : x.l.toNat = 0) (hz : ∀ i, i < 4 → (x.e i).Z) : x.ck = fst4 fun i => (x.r i).ck := by unfold ck; rw [if_neg (by omega), if_pos h, if_pos hz]
theorem ck_Rz {x : NodT} (h : x.l.toNat = 0) (hz : ¬ ∀ i, i < 4 → (x.e i).Z) : x.ck = 1 := by unfold ck; rw [if_neg (by omega), if_pos h, if_neg hz]
theorem ck_E {x : NodT} (h5 : ¬ 5 < x.l.toNat) (h : ¬ x.l.toNat = 0) (hz : ∀ i, i < 4 → (x.r i).Z) : x.ck = fst4 fun i => (x.e i).ck := by unfold ck; rw [if_neg h5, if_neg h, if_pos hz]
theorem ck_Ez {x : NodT} (h5 : ¬ 5 < x.l.toNat) (h : ¬ x.l.toNat = 0) (hz : ¬ ∀ i, i < 4 → (x.r i).Z) : x.ck = 1 := by unfold ck; rw [if_neg h5, if_neg h, if_neg hz]
theorem ck_one (x : NodT) : x.ck = 0 ∨ x.ck = 1 := by
 unfold ck
 split
 ·exact .inr rfl
 ·split
  ·split
   ·exact fst4_one fun i => (x.r i).ck_one
   ·exact .inr rfl
  ·split
   ·exact fst4_one fun i => (x.e i).ck_one
   ·exact .inr rfl
theorem ck_ok {x : NodT} (h : x.ck = 0) : x.l.toNat ≤ 5 ∧ (x.l.toNat = 0 → (∀ i, i < 4 → (x.e i).Z) ∧ ∀ i, i < 4 → ¬ (x.r i).Bad) ∧ (x.l.toNat ≠ 0 → (∀ i, i < 4 → (x.r i).Z) ∧ ∀ i, i < 4 → ¬ (x.e i).Bad) := by
 by_cases h5 : 5 < x.l.toNat
 ·rw [ck_hi h5] at h; cases h
 refine ⟨by omega, fun h0 => ?_, fun h0 => ?_⟩
 ·by_cases hz : ∀ i, i < 4 → (x.e i).Z
  ·rw [ck_R h0 hz] at h; exact ⟨hz, fun i hi => RecT.ck_zero.1 (fst4_zero h i hi)⟩
  ·rw [ck_Rz h0 hz] at h; cases h
 ·by_cases hz : ∀ i, i < 4 → (x.r i).Z
  ·rw [ck_E h5 h0 hz] at h; exact ⟨hz, fun i hi => EntT.ck_zero.1 (fst4_zero h i hi)⟩
  ·rw [ck_Ez h5 h0 hz] at h; cases h
theorem ok_R {x : NodT} (h : x.l.toNat = 0) (hz : ∀ i, i < 4 → (x.e i).Z) (hb : ∀ i, i < 4 → ¬ (x.r i).Bad) : x.ck = 0 := by rw [ck_R h hz]; exact fst4_no fun i hi => RecT.ck_zero.2 (hb i hi)
theorem ok_E {x : NodT} (h5 : ¬ 5 < x.l.toNat) (h : ¬ x.l.toNat = 0) (hz : ∀ i, i < 4 → (x.r i).Z) (hb : ∀ i, i < 4 → ¬ (x.e i).Bad) : x.ck = 0 := by rw [ck_E h5 h hz]; exact fst4_no fun i hi => EntT.ck_zero.2 (hb i hi)
def bl (x : NodT) : List UInt8 := x.l :: (be 4 x.j ++ (if x.l.toNat = 0 then x.R.flatMap RecT.l else x.E.flatMap EntT.l))
def sz (n : Nat) : Nat := if n = 0 then 185 else 137
theorem Fit.bl_length {x : NodT} (h : x.Fit) : x.bl.length = sz x.l.toNat := by
 unfold bl sz
 rw [List.length_cons, List.length_append, be_length]
 split
 ·rw [flat_length (RecT.lensL h.fr), h.lr]
 ·rw [flat_length (EntT.lensL h.fe), h.le]
end NodT
def wrt (N : Nat) (p : List UInt8) : List Value := p.map byteV ++ List.replicate (N - p.length) (.int .u8 0)
theorem wrt_len {N : Nat} {p : List UInt8} (h : p.length ≤ N) : (wrt N p).length = N := by simp [wrt]; omega
theorem wrt_zero (N : Nat) : wrt N [] = List.replicate N (.int .u8 0) := by simp [wrt]
theorem wrt_full {N : Nat} {p : List UInt8} (h : p.length = N) : wrt N p = p.map byteV := by simp [wrt, h]
theorem wrt_step {N : Nat} {p l : List UInt8} (h : p.length + l.length ≤ N) : (wrt N p).take (0 + p.length) ++ (l.take (N - p.length)).map byteV ++ (wrt N p).drop (0 + p.length + min l.length (N - p.length)) = wrt N (p ++ l) := by
 rw [Nat.zero_add, List.take_of_length_le (l := l) (by omega), show min l.length (N - p.length) = l.length from by omega, wrt, wrt, List.take_left' (by simp), ← List.drop_drop, List.drop_left' (by simp), List.drop_replicate, List.map_append, List.length_append, Nat.sub_sub]
theorem take_all {α : Type} {P : α → Prop} {L : List α} (h : ∀ r ∈ L, P r) (i : Nat) : ∀ r ∈ L.take i, P r := fun r hr => h r (List.mem_of_mem_take hr)
theorem take_flat {α β : Type} {v : α → List β} {L : List α} (hL : L.length = 4) {i : Nat} (hi : i < 4) {z : α} : (L.take (i + 1)).flatMap v = (L.take i).flatMap v ++ v (L.getD i z) := by
 rw [List.take_add_one, List.getElem?_eq_getElem (by omega), Option.toList_some, List.flatMap_append, List.flatMap_cons, List.flatMap_nil, List.append_nil]
 simp [List.getD_eq_getElem?_getD, hL, hi]
theorem getD_in {α : Type} (L : List α) {i : Nat} (hi : i < L.length) (z : α) : L.getD i z ∈ L := by
 rw [List.getD_eq_getElem?_getD, List.getElem?_eq_getElem hi]
 exact List.getElem_mem _
theorem rows_part {α β : Type} {v : α → List β} {k : Nat} {cs : List β} {L : List α} {o : Nat} (hL : ∀ a ∈ L, (v a).length = k) (hc : (cs.drop o).take (L.length * k) = L.flatMap v) {i : Nat} (hi : i < L.length) (z : α) : (cs.drop (o + i * k)).take k = v (L.getD i z) := by
 have h := flat_getD hL hi z
 have hle : i * k + k ≤ L.length * k := by rw [← Nat.succ_mul]; exact Nat.mul_le_mul_right _ hi
 rw [← hc, List.drop_take, List.drop_drop, List.take_take, Nat.min_eq_left (by omega)] at h
 exact h
theorem RecT.dz (r : RecT) : decide r.Z = true ↔ r.v = RecT.zero.v := by rw [decide_eq_true_iff]; exact RecT.z_v
theorem EntT.dz (r : EntT) : decide r.Z = true ↔ r.v = EntT.zero.v := by rw [decide_eq_true_iff]; exact EntT.z_v
theorem sz_le (n : Nat) : 137 ≤ NodT.sz n ∧ NodT.sz n ≤ 185 := by unfold NodT.sz; split <;> omega
theorem bl_R {x : NodT} (h : x.l.toNat = 0) : [] ++ [x.l] ++ be 4 x.j ++ x.R.flatMap RecT.l = x.bl := by unfold NodT.bl; rw [if_pos h]; simp
theorem bl_E {x : NodT} (h : ¬ x.l.toNat = 0) : [] ++ [x.l] ++ be 4 x.j ++ x.E.flatMap EntT.l = x.bl := by unfold NodT.bl; rw [if_neg h]; simp
theorem nodV_eq_iff {x y : NodT} (hx : x.Fit) (hy : y.Fit) : x.v = y.v ↔ x = y := ⟨NodT.v_inj hx hy, fun h => by rw [h]⟩
structure FnMB (P : Program) (f : FuncId) (M : Env) (ds : List D) (d : Nat → D) : Prop where
 body : ∃ fn, P.funcs[f]? = some fn ∧ (fn.name == "runtime.NumGoroutine") = false ∧ fn.body.isNone = false
 calls : ∀ (vs : List Value) (w : World), (∀ p ∈ M, p.2.Of w undef) → vs.length = ds.length → (∀ (j : Nat) (e : D) (u : Value), ds[j]? = some e → vs[j]? = some u → e.Of w u) → Calls P f vs.toArray w (PostOf w (d w.heap.size))
theorem FnMB.fn {P : Program} {f : FuncId} {M : Env} {ds : List D} {d : Nat → D} {d' : D} (h : FnMB P f M ds d) (hd : ∀ B, Le (d B) d') : FnM P f M ds d' :=
 ⟨h.body, fun vs w h0 h1 h2 => (h.calls vs w h0 h1 h2).mono fun _ _ ⟨x, he, g, hx⟩ => ⟨x, he, g, (hd _).of hx⟩⟩
theorem FnMB.of {P : Program} {n : Nat} {f : FuncId} {fn : Func} {c : Code} {M : Env} {ds : List D} {d : Nat → D} (hf : P.funcs[f]? = some fn) (hb : fn.body = some c) (hname : (fn.name == "runtime.NumGoroutine") = false) (hn : fn.ntmps = n) (hds : ds.length ≤ n) (hnv : n ≤ vbase) (E : World → Env)
  (hE : ∀ w, StartM w.heap.size ds M (E w)) (h : ∀ w₀, (∀ p ∈ M, p.2.Of w₀ undef) → A Cx.top P w₀ n c (E w₀) (BP P fn (PostOf w₀ (d w₀.heap.size)))) : FnMB P f M ds d := by
 refine ⟨⟨fn, hf, hname, by rw [hb]; rfl⟩, fun vs w hM hl hv => callsIn_FR.1 (callsIn_of_wp_marks (F := FR none) (n := 0) hf hb trivial (h w hM _ w (Below.refl _ _) ⟨Nat.le_refl _, rfl, ?_, fun t e he => ?_⟩))⟩
 ·simp [hl, hn]; omega
 ·show e.Of w ((vs.toArray ++ Array.replicate (fn.ntmps - vs.toArray.size) undef).getD t undef)
  rcases hE w _ (look_mem he) with ⟨hm, ht⟩ | ⟨d', hd', hor⟩
  ·have h1 := hM _ hm
   rwa [Array.getD_eq_getD_getElem?, Array.getElem?_eq_none (by simp [hl, hn]; simp only at ht; omega)]
  ·have hlt : t < vs.length := by have := (List.getElem?_eq_some_iff.1 hd').1; simp at this; omega
   have hget : (vs.toArray ++ Array.replicate (fn.ntmps - vs.toArray.size) undef).getD t undef = vs[t] := by
    rw [Array.getD_eq_getD_getElem?, Array.getElem?_append_left (by simpa using hlt)]
    simp [hlt]
   rw [hget]
   have h1 := hv t d' vs[t] hd' (List.getElem?_eq_getElem hlt)
   rcases hor with h2 | h2
   ·simp only at h2; rw [h2]; exact h1
   ·simp only at h2; rw [h2]; exact ⟨Nat.le_refl _, h1⟩
section
variable {P : Program} {B : Nat} {E : Env} {dst : Option Tmp} {ty : TypeId} {pos : String} {after : Array Edge} {guard : Option (Nat × Bool)}
theorem ok_callV0 {f : FuncId} {x : Operand} {args : Array Operand} {argTypes : Array TypeId} {ds : List D} {d : D} (hf : Fn P f ds d) (hx : E.at x = some (.v (.func (.func f) #[] #[]))) (ha : Args E ds args.toList) :
  OpOk P B ⟨dst, .call { callee := .value x, args := args, argTypes := argTypes }, ty, pos, after, guard⟩ E d :=
 ok_callVM (us := []) (M := []) (by rw [List.map_nil, List.append_nil]; exact hf.m) Sub.nil (fun _ h => by cases h) hx ha
theorem ok_callVB {f : FuncId} {x : Operand} {args : Array Operand} {argTypes : Array TypeId} {ds : List D} {d : Nat → D} (hf : FnB P f ds d) (hd : ∀ B B', B ≤ B' → Le (d B') (d B)) (hx : E.at x = some (.v (.func (.func f) #[] #[]))) (ha : Args E ds args.toList) :
  OpOk P B ⟨dst, .call { callee := .value x, args := args, argTypes := argTypes }, ty, pos, after, guard⟩ E (d B) := fun ρ w hB hv hρ => by
 obtain ⟨fn, h1, h2, h3⟩ := hf.body
 have hfun : ρ x = .func (.func f) #[] #[] := hρ x (by simp [Op.operands, Call.operands]) _ hx
 have hrun : (execOp ρ ⟨dst, .call { callee := .value x, args := args, argTypes := argTypes }, ty, pos, after, guard⟩).run P w = .ok (.enter f (args.map ρ)) w := by
  have h2' : ¬ fn.name = "runtime.NumGoroutine" := by simpa using h2
  have h3' : ¬ fn.body = none := by intro h; rw [h] at h3; cases h3
  simp [execOp, resolve, Deferred.ofValue, hfun, invoke, callFunc, h1, h2', h3']
 unfold Out
 rw [hrun]
 have := hf.calls (args.toList.map ρ) w (by rw [List.length_map, ha.length]) fun j e u he hu => by
  rw [List.getElem?_map] at hu
  cases hx : args.toList[j]? with
  | none => rw [hx] at hu; cases hu
  | some x =>
   rw [hx] at hu; injection hu with hu; subst hu
   obtain ⟨e', h4, h5⟩ := ha.nth he hx
   exact h5.of (hρ x (by simp [Op.operands, Call.operands]; exact .inr (by simpa using List.mem_of_getElem? hx)) _ h4)
 have harr : (args.toList.map ρ).toArray = args.map ρ := by apply Array.ext'; simp
 rw [harr] at this
 exact this.mono fun e w' ⟨x, he, g, hx⟩ => ⟨x, he, g, (hd _ _ hB).of hx⟩
theorem ok_indexAgg {t e : TypeId} {len sz : Nat} {td : TypeDesc} {x i : Operand} {xs ys : List Value} {k : IntKind} {j : Int} (m : Nat) (ht : P.underlying t = some (.array len e)) (he : P.underlying e = some td) (hp : td.isRow = true) (hs : SizeIs P e sz)
  (hx : E.at x = some (.v (aggV xs))) (hi : E.at i = some (.v (.int k j))) (hj : j = (m : Int)) (hm : m < len) (hu : (xs.drop (m * sz)).take sz = ys) : OpOk P B ⟨dst, .index t x i, ty, pos, after, guard⟩ E (.v (aggV ys)) := fun ρ w _ _ hρ => by
 have h1 : ρ x = _ := hρ x (by simp [Op.operands]) _ hx
 have h2 : ρ i = _ := hρ i (by simp [Op.operands]) _ hi
 obtain ⟨info, hinfo, hsize⟩ := hs.get
 subst hj
 have hagg : (isAgg e).run P w = .ok true w := by
  unfold isAgg
  rw [Sem.run_bind, run_underlying he w]
  cases td <;> simp_all [TypeDesc.isRow]
 refine out_val (w' := w) ?_ ⟨Grow.refl w, rfl⟩
 subst hu
 simp [execOp, h1, h2, aggV, Instr.index, asIntOf, run_underlying ht, hm, sizeOf, typeInfo, hinfo, hsize, part, hagg]
theorem ok_sliceN {t e : TypeId} {len sz : Nat} {x : Operand} {lo hi mx : Option Operand} {b o : Nat} (l h : Nat) {m : Nat} (ht : P.underlying t = some (.array len e)) (hs : SizeIs P e sz) (hx : E.at x = some (.v (.pointer (some ⟨b, o, none⟩))))
  (hlo : Bnd E lo l 0) (hhi : (∃ ho k, hi = some ho ∧ E.at ho = some (.v (.int k (h : Int)))) ∨ (hi = none ∧ mx = none ∧ h = len)) (hmx : Bnd E mx m len) (hlh : l ≤ h) (hhm : h ≤ m) (hml : m ≤ len) :
  OpOk P B ⟨dst, .slice t x lo hi mx, ty, pos, after, guard⟩ E (.v (.slice (some ⟨b, if m = l then o else o + l * sz, none⟩) (h - l) (m - l))) := fun ρ w _ _ hρ => by
 have h1 : ρ x = _ := hρ x (by simp [Op.operands]) _ hx
 obtain ⟨info, hinfo, hsize⟩ := hs.get
 have hlo' := hlo.get (ρ := ρ) fun o ho u hu => hρ o (by simp [Op.operands, ho]) _ hu
 have hmx' := hmx.get (ρ := ρ) fun o ho u hu => hρ o (by simp [Op.operands, ho]) _ hu
 have hhi' : (∃ k, hi.map ρ = some (.int k (h : Int))) ∨ (hi.map ρ = none ∧ mx.map ρ = none ∧ h = len) := by
  rcases hhi with ⟨ho, k, rfl, hh⟩ | ⟨rfl, rfl, hh⟩
  ·exact .inl ⟨k, by simp [show ρ ho = _ from hρ ho (by simp [Op.operands]) _ hh]⟩
  ·exact .inr ⟨rfl, rfl, hh⟩
 have haddr : (if m = l then (⟨b, o, none⟩ : Addr) else (⟨b, o, none⟩ : Addr).add (l * sz)) = ⟨b, if m = l then o else o + l * sz, none⟩ := by
  rw [add_lit0]
  split <;> rfl
 have hr : (Instr.sliceAt t (.pointer (some ⟨b, o, none⟩)) (lo.map ρ) (hi.map ρ) (mx.map ρ)).run P w = .ok (.slice (some ⟨b, if m = l then o else o + l * sz, none⟩) (h - l) (m - l)) w := by
  rw [← haddr]
  have hb := sliceBounds_run (P := P) (sl := false) w hlo' hhi' hmx' hlh hhm hml
  simp [Instr.sliceAt, run_underlying ht, Instr.sureAddr, hb, sizeOf, typeInfo, hinfo, hsize]
 exact out_val (w' := w) (by simp only [execOp, h1, Sem.run_bind, hr, Result.andThen_ok, Sem.run_pure]) ⟨Grow.refl w, rfl⟩
theorem ok_buildOwn {t e : TypeId} {n : Nat} {ps : Array (Nat × Operand)} {z : Value} {nb : Nat} (vs : List Value) (ht : P.underlying t = some (.slice e)) (hinfo : InfoIs P e z nb) (hz1 : z.cells = #[z])
  (hn : 0 < n) (hn' : n ≤ 65536) (hl : vs.length = n) (hp : Parts E (vs.map D.v) ps.toList 0) (h1 : ∀ u ∈ vs, u.oneCell' = true) :
  OpOk P B ⟨dst, .buildSlice t n ps, ty, pos, after, guard⟩ E (own B e n vs) := fun ρ w hB _ hρ => by
 obtain ⟨i, hi, hz, hs, _⟩ := hinfo.get
 have hpl : ps.toList.length = vs.length := by rw [← hp.length, List.length_map]
 have hof : ∀ (j : Nat) (hj : j < vs.length), ∃ x, ps.toList[j]? = some (0 + j, x) ∧ ρ x = vs[j] := fun j hj => by
  obtain ⟨x, hx, he⟩ := hp.nth (j := j) (d := .v vs[j]) (by simp [hj])
  refine ⟨x, hx, hρ x ?_ (.v vs[j]) he⟩
  simp only [Op.operands, List.mem_toArray, List.mem_map]
  exact ⟨_, List.mem_of_getElem? hx, rfl⟩
 have hparts : (ps.map fun (i, x) => (i, ρ x)).toList = (vs.zipIdx 0).map fun x => (x.2, x.1) := by
  apply List.ext_getElem?
  intro j
  rcases Nat.lt_or_ge j vs.length with hj | hj
  ·obtain ⟨x, hx, he⟩ := hof j hj
   have hx' : ps[j]? = some (0 + j, x) := by simpa using hx
   simp [List.getElem?_zipIdx, hx', he, hj]
  ·rw [List.getElem?_eq_none (by simp at hpl ⊢; omega), List.getElem?_eq_none (by simp; omega)]
 have hz' : (Array.range (n * i.size)).map (z.cells[· % z.cells.size]!) = ([] ++ List.replicate n z).toArray := by
  rw [hs, hz1, Nat.mul_one]
  apply Array.ext
  ·simp
  ·intro j h1 h2; simp [Nat.mod_one]
 have hfill : Instr.fill (fun j => some (j * i.size, i.size)) ((Array.range (n * i.size)).map (z.cells[· % z.cells.size]!)) (ps.map fun (i, x) => (i, ρ x)).toList = some vs.toArray := by
  rw [hz', hparts, hs, fill_dense vs [] (List.replicate n z) 0 h1 rfl (by simp [hl])]
  simp [hl]
 have hr := run_buildSlice (P := P) w t e n (ps.map fun (i, x) => (i, ρ x)) vs.toArray i z ht hi hz (by rw [hs]; omega) (by rw [hs]; omega) hfill
 refine out_val (x := .slice (some ⟨w.heap.size, 0, none⟩) n n) (w' := w.alloc (.cells vs.toArray e)) (by simp [execOp, hr]) ⟨Grow.alloc w _, ⟨by omega, .inr ⟨w.heap.size, n, vs.toArray, rfl, hB, heap_alloc_new w _, Nat.le_refl _, by simp only [maxLen]; omega, by simp [hl], ?_⟩⟩, fun g hg => ?_⟩
 ·rw [Nat.mul_one]; exact List.take_of_length_le (Nat.le_of_eq hl)
 ·simp [Value.ownBlock] at hg; subst hg; simp
theorem ok_build1B {t e : TypeId} {z : Value} {nb : Nat} {x : Operand} {a : UInt8} (ht : P.underlying t = some (.slice e)) (hs : InfoIs P e z nb) (hz : z.cells.size = 1) (hx : E.at x = some (.v (byteV a))) :
  OpOk P B ⟨dst, .buildSlice t 1 #[(0, x)], ty, pos, after, guard⟩ E (newD B e (fun b => .slice (some ⟨b, 0, none⟩) 1 1) [byteV a]) := fun ρ w hB hv hρ => by
 obtain ⟨i, hi, hzv, hsize, _⟩ := hs.get
 have h1 : ρ x = byteV a := hρ x (by simp [Op.operands]) _ hx
 have hfill : Instr.fill (fun j => some (j * i.size, i.size)) ((Array.range (1 * i.size)).map (z.cells[· % z.cells.size]!)) [(0, ρ x)] = some #[byteV a] := by
  rw [hsize, h1, hz]
  have h2 : ((Array.range (1 * 1)).map fun y => z.cells[y % 1]!) = #[z.cells[0]!] := by
   rw [show Array.range (1 * 1) = #[0] from by decide]
   simp
  rw [h2]
  simp [Instr.fill, byteV, Value.cells]
 have hr := run_buildSlice (P := P) w t e 1 #[(0, ρ x)] #[byteV a] i z ht hi hzv (by rw [hsize]; decide) (by rw [hsize]; decide) (by simpa using hfill)
 exact out_val (x := .slice (some ⟨w.heap.size, 0, none⟩) 1 1) (w' := w.alloc (.cells #[byteV a] e)) (by simp [execOp, hr]) ⟨Grow.alloc w _, _, rfl, hB, by simp, heap_alloc_new w _⟩
theorem ok_loadVT {t : TypeId} {td : TypeDesc} {x : Operand} {b o s : Nat} {xs : List Value} {u : Value} (hsl : vbase ≤ s) (ht : P.underlying t = some td) (hp : plainTD td = true) (hx : E.at x = some (.v (.pointer (some ⟨b, o, none⟩)))) (htab : E.look s = some (tab b xs)) (hu : xs[o]? = some u) :
  OpOk P B ⟨dst, .load t x, ty, pos, after, guard⟩ E (.v u) := fun ρ w hB hv hρ => by
 have h1 : ρ x = _ := hρ x (by simp [Op.operands]) _ hx
 obtain ⟨_, e, hh⟩ := hv s _ hsl htab
 have hc : w.cell? ⟨b, o, none⟩ = some u := by simp [World.cell?, hh, hu]
 exact out_val (x := u) (w' := w) (by simp [execOp, h1, run_load_plain ht hp hc]) ⟨Grow.refl w, rfl⟩
end
section
variable {P : Program} {n B : Nat} {ops : Array Oper} {E : Env} {ty : TypeId} {pos : String} {after : Array Edge}
theorem eff_newL {o : Oper} {d k : Nat} {T : TypeId} {xs : List Value} (hd : o.dst = some d) (hg : o.guard = none)
  (hrun : ∀ (κ : Cx) a w, St κ n B E a w → (execOp a.eval o).run P w = .ok (.value (.pointer (some ⟨w.heap.size, 0, none⟩))) (w.alloc (.cells xs.toArray T))) (hdn : d < n) :
  EffG P n B ops o E (NewL B E) (fun b => (d, .v (.pointer (some ⟨b, 0, none⟩))) :: (k, blk b T xs) :: E) := by
 intro κ a w K Q h hK
 rw [if_pos (by simp [Region.wanted, hg])]
 refine opR (not_defer (hrun κ a w h)) ?_
 unfold Oper.wp
 rw [hrun κ a w h, Oper.upon_value, hd]
 have hbel : Below B w (w.alloc (.cells xs.toArray T)) := (Below.refl B w).alloc h.base _
 have hst := h.grow (Grow.alloc w (.cells xs.toArray T))
 refine hK w.heap.size _ _ ⟨h.base, fun s b' e ys hs => (h.of s _ hs).1, fun s gs w₁ hs => (h.of s _ hs).2.size⟩ hbel (St.put (hst.push ?_) hdn rfl)
 exact ⟨by simp, heap_alloc_new w _⟩
theorem eff_allocL {T : TypeId} {zs : List Value} {d k : Nat} (hz : ZeroIs P T zs) (hdn : d < n) :
  EffG P n B ops ⟨some d, .alloc T, ty, pos, after, none⟩ E (NewL B E) (fun b => (d, .v (.pointer (some ⟨b, 0, none⟩))) :: (k, blk b T zs) :: E) :=
 eff_newL rfl rfl (fun _ a w _ => by
  obtain ⟨i, z, hi, hz, hc⟩ := hz.get
  simp [execOp, Instr.alloc, zeroValue, typeInfo, hi, hz, newVar, newRow, hc]) hdn
theorem eff_boxL {T : TypeId} {x : Operand} {xs : List Value} {d k : Nat} (hx : E.at x = some (.v (aggV xs))) (hdn : d < n) :
  EffG P n B ops ⟨some d, .box T x, ty, pos, after, none⟩ E (NewL B E) (fun b => (d, .v (.pointer (some ⟨b, 0, none⟩))) :: (k, blk b T xs) :: E) :=
 eff_newL rfl rfl (fun _ a w h => by
  have h1 : a.eval x = aggV xs := h.at_ x _ hx
  simp [execOp, Instr.box, newVar, newRow, h1, aggV, Value.cells]) hdn
theorem FnL.rekey {f : FuncId} {gs : List (TypeId × Nat)} {us : List Value} {M M₂ : Env} {G : Nat → Nat → Prop} {u : Nat → Value} {M' M₂' : Nat → Env} (h : FnL P f B gs us M G u M') (h1 : M₂.map Prod.snd = M.map Prod.snd) (h2 : ∀ i, (M₂' i).map Prod.snd = (M' i).map Prod.snd) : FnL P f B gs us M₂ G u M₂' :=
 ⟨h.body, fun w hB hM hw => (h.calls w hB (fun p hp => by
  have h3 : p.2 ∈ M₂.map Prod.snd := by rw [h1]; exact List.mem_map_of_mem hp
  obtain ⟨q, hq, hqe⟩ := List.mem_map.1 h3
  rw [← hqe]; exact hM q hq) hw).mono fun e w' ⟨i, h4, h5, h6, h7⟩ => ⟨i, h4, h5, h6, fun p hp => by
  have h3 : p.2 ∈ (M' i).map Prod.snd := by rw [← h2 i]; exact List.mem_map_of_mem hp
  obtain ⟨q, hq, hqe⟩ := List.mem_map.1 h3
  rw [← hqe]; exact h7 q hq⟩⟩
end
section
variable {P : Program} {n B : Nat} {ops : Array Oper} {Q : Exit → Act → World → Prop}
theorem A.regL0 {w₀ : World} {E : Env} {id : Nat} (p : Nat) (late : List Nat) (hm : P.follows .mixedOrders = true) (hf : fits n ops = true) (htied : tied ops = true) (hlate : lateOk ops p late = true) (Z : Env)
  (h : RunK P w₀.heap.size ops (ops.toList.take p) E (fun E₁ => ∀ S ∈ subs late, ∃ m, LateT P n w₀.heap.size ops (fun E₃ => SubL Z E₃) p m S E₁)) (hz : End κ w₀ n Z (Q .normal)) : A κ P w₀ n (.region id ops true) E Q := fun a w hg hst => by
 obtain ⟨E₁, hr, hC⟩ := h
 obtain ⟨ds, ht⟩ := hr.trace
 have hd : Below w₀.heap.size w w.drew := (Below.refl _ w).drew
 have hst0 : St κ n w₀.heap.size E a w.drew := hst.grow (Grow.refl w).drew
 refine wpIn_region_any hm (wp_segL htied hf hlate ht hst0 (fun S hS fuel a' w' hfu g h' => ?_) _ _ a w.drew ?_ (start_inv (Nat.zero_le _) htied (by simp) (fun i hi => by simp [hi]) hst0))
 ·obtain ⟨m, hmu, E₀, hsub, hkeep, o, ho, E₂, he, hn⟩ := hC S hS
  have h0 : St κ n w₀.heap.size E₀ a' w' := ⟨h'.base, h'.defers, h'.size, fun t e he => by
   have hm := look_mem he
   exact h'.of t e (look_without (List.all_eq_true.1 hkeep t (List.mem_map.2 ⟨_, hm, rfl⟩)) (hsub _ hm))⟩
  refine wpOpR_step ho fun K hK => he κ a' w' K _ h0 fun a'' w'' g' h'' => hK _ _ (wp_anyE (hn.mono (k := fuel) (by omega)) h'' fun E3 a3 w3 hC3 g3 h3 => ?_)
  exact hz a3 w3 (Below.trans hg (Below.trans hd (Below.trans (Below.mono g hst.base) (Below.trans g' g3)))) (h3.subL hC3)
 ·refine Nat.le_trans List.countP_le_length ?_
  simp
end
end
section
def sizV : List Value := [185,137,137,137,137,137].map fun n : Int => Value.int .i64 n
abbrev tabS : Env := [(1900001, tab 1 sizV)]
abbrev allM (b T : Nat) (cs : List Value) : Env := [(1900000, blk b T cs)]
theorem tabS_v : ∀ p ∈ tabS, vbase ≤ p.1 := fun p hp => by
 simp only [tabS, List.mem_cons, List.not_mem_nil, or_false] at hp
 subst hp; decide
theorem tabS_hi {w : World} (h : ∀ p ∈ tabS, p.2.Of w undef) : 1 < w.heap.size := (h _ List.mem_cons_self).1
theorem siz_get {n : Nat} (h : n ≤ 5) : sizV[n]? = some (nI (NodT.sz n)) := by
 match n, h with
 | 0, _ => rfl
 | 1, _ => rfl
 | 2, _ => rfl
 | 3, _ => rfl
 | 4, _ => rfl
 | 5, _ => rfl
theorem size52 : SizeIs Tryz.prog 52 140 := by unfold SizeIs; kernel_rfl
theorem infoP51 : InfoP Tryz.prog 51 (aggV RecT.zero.v) 35 56 := by unfold InfoP; kernel_rfl
theorem size55 : SizeIs Tryz.prog 55 132 := by unfold SizeIs; kernel_rfl
theorem infoP54 : InfoP Tryz.prog 54 (aggV EntT.zero.v) 33 33 := by unfold InfoP; kernel_rfl
theorem zero23 : ZeroIs Tryz.prog 23 [.slice none 0 0] := by unfold ZeroIs; kernel_rfl
theorem zero3 : ZeroIs Tryz.prog 3 [.int .i64 0] := by unfold ZeroIs; kernel_rfl
theorem zero57 : ZeroIs Tryz.prog 57 (NodT.v (NodT.emp 0 0)) := by unfold ZeroIs; kernel_rfl
theorem size57 : SizeIs Tryz.prog 57 274 := by unfold SizeIs; kernel_rfl
theorem field57_0 : FieldIs Tryz.prog 57 0 0 1 := by unfold FieldIs; kernel_rfl
theorem field57_1 : FieldIs Tryz.prog 57 1 1 1 := by unfold FieldIs; kernel_rfl
theorem field57_2 : FieldIs Tryz.prog 57 2 2 140 := by unfold FieldIs; kernel_rfl
theorem field57_3 : FieldIs Tryz.prog 57 3 142 132 := by unfold FieldIs; kernel_rfl
theorem flat57 : flat Tryz.prog 6 57 = some (.u8 :: .u32 :: ((List.replicate 4 (.u8 :: .u32 :: .u64 :: List.replicate 32 .u8)).flatten ++ (List.replicate 4 (.u8 :: List.replicate 32 .u8)).flatten)) := by kernel_rfl
theorem isGroup_y (x : NodT) (hx : x.Fit) (h : x.l.toNat = 0) : Fn Tryz.prog 111 [.v (aggV x.v)] (.v (.bool true)) := by
 refine FV Tryz.func111 rfl Tryz.ntmps111 rfl fun w₀ => ?_
 refine GS (TN 0 (RN ?_));refine ZB 1000001 rfl fun b1 ⟨hBb1, hb1⟩ => ?_
 refine TL (RVN 1 rfl ?_);refine GT (RS (ok_field field57_0 (by decide) rfl) ?_);refine RLV 1000001 U5 rfl rfl rfl ?_;refine RB rfl rfl rfl ?_;refine RT ?_;refine RVN 1 rfl ?_;refine A.ret ?_;exact ER rfl rfl
theorem isGroup_n (x : NodT) (hx : x.Fit) (h : ¬ x.l.toNat = 0) : Fn Tryz.prog 111 [.v (aggV x.v)] (.v (.bool false)) := by
 refine FV Tryz.func111 rfl Tryz.ntmps111 rfl fun w₀ => ?_
 refine GS (TN 0 (RN ?_));refine ZB 1000001 rfl fun b1 ⟨hBb1, hb1⟩ => ?_
 refine TL (RVN 1 rfl ?_);refine GT (RS (ok_field field57_0 (by decide) rfl) ?_);refine RLV 1000001 U5 rfl rfl rfl ?_;refine RB rfl rfl rfl ?_;refine RF ?_;refine RVN 1 rfl ?_;refine A.ret ?_;exact ER rfl rfl
theorem allZeroR_fn (b T o m k : Nat) (cs : List Value) (L : List RecT) (hL : L.length = k) (hk : k ≤ 4) (hf : ∀ r ∈ L, r.Fit) (hc : (cs.drop o).take (L.length * 35) = L.flatMap RecT.v) (hl : o + k * 35 ≤ cs.length) : FnM Tryz.prog 128 (allM b T cs) [.v (.slice (some ⟨b, o, none⟩) k m)] (.v (.bool (decide (∀ i, i < k → (L.getD i RecT.zero).Z)))) := by
 refine FnM.of Tryz.func128 rfl (by kernel_rfl) Tryz.ntmps128 (by simp) (by decide) (fun w => [(0, .v (.slice (some ⟨b, o, none⟩) k m)), (1900000, blk b T cs)]) (fun w => (StartM.v rfl (StartM.m (by simp [allM]) (by decide) StartM.nil))) fun w₀ hM => ?_
 skip
 refine GV rfl (GS (TN 0 (RN ?_)));refine ZN 1000003 zero51 fun b3 ⟨hBb3, hb3⟩ => ?_
 have hlt_b_b3 := hb3 1900000 b _ _ rfl
 refine TL (RN (QS (GT (RM rfl ?_))));refine RS (ok_lenV U26 rfl) ?_;refine RVN 1 rfl ?_;refine A.block ?_;refine A.loop (ι := Nat) (fun i => i ≤ k ∧ ∀ j, j < i → (L.getD j RecT.zero).Z) (fun i => [(3, .v (ptr b3)), (6, .v (.slice (some ⟨b, o, none⟩) k m)), (7, .v (nI (k))), (8, .v (nI (i))), (1000003, blk b3 51 (RecT.v RecT.zero)), (1900000, blk b T cs)]) (fun i => k - i) 0 ?_ ?_ ?_
 ·exact ⟨Nat.zero_le _, fun j h => absurd h (Nat.not_lt_zero _)⟩
 ·exact (KC 3 rfl (KC 6 rfl (KC 7 rfl (KE 8 rfl (by rfl) (KE 1000003 rfl (by rfl) (KC 1900000 rfl KN))))))
 intro i hG
 refine GV rfl (QS ?_);refine A.cond rfl (fun hc9 => ?_) (fun hc9 => ?_)
 ·have hi : i < k := by simp at hc9; omega
  have hi' : i < L.length := by omega
  refine QK (QSB (GS (TN 2 (RS (ok_indexS i U26 infoP51 rfl rfl rfl hi) ?_))));refine RS (ok_loadP (s := 1900000) (by decide) U51 rfl size51 rfl rfl (by have := Nat.mul_le_mul_right 35 (Nat.succ_le_of_lt hi); rw [Nat.succ_mul] at this; omega) (rows_part (RecT.lens hf) hc hi' RecT.zero)) ?_;refine RN ?_;refine ZN 1000005 zero51 fun b5 ⟨hBb5, hb5⟩ => ?_
  have hlt_b3_b5 := hb5 1000003 b3 _ _ rfl
  have hlt_b_b5 := hb5 1900000 b _ _ rfl
  refine TF 3 (RN ?_);refine ⟨_, eff_storeA (n := 16) (s := 1000005) (size51.of ((hf _ (getD_in L hi' _)).len)) rfl rfl (by first | exact NodT.one _ | exact RecT.one _ | exact EntT.one _ | exact RecT.all1 _ | exact EntT.all1 _ | exact all_byte _ | exact all_bytes _) hBb5 rfl (by first | rfl | (rw [(hf _ (getD_in L hi' _)).len]; rfl)) (LB 1000003 rfl (LB 1900000 rfl (LW [3,5,6,7,8] rfl))), ?_⟩
  refine TL (RN (GT (RL 1000005 U51 rfl rfl (size51.of ((hf _ (getD_in L hi' _)).len)) ?_)));refine RL 1000003 U51 rfl rfl (size51.of (rfl)) ?_;refine RZ (aggV RecT.zero.v) (by rfl) ?_;refine RS (ok_neqT (n := 4) (decide (L.getD i RecT.zero).Z) flat51 (by decide) (by kernel_rfl) (by kernel_rfl) rfl rfl (hf _ (getD_in L hi' _)).kin RecT.zero_fit.kin (RecT.dz _)) ?_;refine RN ?_;refine A.cond rfl (fun hc14 => ?_) (fun hc14 => ?_)
  ·have hz : ¬ (L.getD i RecT.zero).Z := by simpa using hc14
   refine GV rfl (A.ret (End.ret_block (End.ret_then (End.ret_then (End.ret_block (End.ret_then ?_))))))
   first | exact End.ret1 rfl rfl (Le.v (congrArg Value.bool (decide_eq_false (fun h => hz (h i hi))).symm)) | exact End.ret1 rfl rfl (Le.v (congrArg Value.bool (decide_eq_true (fun j hj => hG.2 j (by omega))).symm))
  ·have hz : (L.getD i RecT.zero).Z := by simpa using hc14
   refine A.skip (End.normal_block (EN (GTE (RB rfl rfl rfl ?_))));refine RZ (nI (i + 1)) (wrap_eq (by omega) (by omega)) ?_;refine RVN 1 rfl ?_;refine End.normal_then ?_;refine End.again (i + 1) ?_ ?_ ?_
   ·exact ⟨by omega, fun j hj => (Nat.lt_or_ge j i).elim (hG.2 j) fun h => by rw [show j = i from by omega]; exact hz⟩
   ·show _ - _ < _ - _; omega
   ·exact (Sv [3,6,7,8,1000003,1900000] rfl)
 ·have hi2 : i = k := by have := hG.1; simp at hc9; omega
  refine A.exit (End.exit_then (End.exit_then (End.exit_here (EN (GV rfl (A.ret ?_))))))
  first | exact End.ret1 rfl rfl (Le.v (congrArg Value.bool (decide_eq_false (fun h => hz (h i hi))).symm)) | exact End.ret1 rfl rfl (Le.v (congrArg Value.bool (decide_eq_true (fun j hj => hG.2 j (by omega))).symm))
theorem allZeroE_fn (b T o m k : Nat) (cs : List Value) (L : List EntT) (hL : L.length = k) (hk : k ≤ 4) (hf : ∀ r ∈ L, r.Fit) (hc : (cs.drop o).take (L.length * 33) = L.flatMap EntT.v) (hl : o + k * 33 ≤ cs.length) : FnM Tryz.prog 129 (allM b T cs) [.v (.slice (some ⟨b, o, none⟩) k m)] (.v (.bool (decide (∀ i, i < k → (L.getD i EntT.zero).Z)))) := by
 refine FnM.of Tryz.func129 rfl (by kernel_rfl) Tryz.ntmps129 (by simp) (by decide) (fun w => [(0, .v (.slice (some ⟨b, o, none⟩) k m)), (1900000, blk b T cs)]) (fun w => (StartM.v rfl (StartM.m (by simp [allM]) (by decide) StartM.nil))) fun w₀ hM => ?_
 skip
 refine GV rfl (GS (TN 0 (RN ?_)));refine ZN 1000003 zero54 fun b3 ⟨hBb3, hb3⟩ => ?_
 have hlt_b_b3 := hb3 1900000 b _ _ rfl
 refine TL (RN (QS (GT (RM rfl ?_))));refine RS (ok_lenV U216 rfl) ?_;refine RVN 1 rfl ?_;refine A.block ?_;refine A.loop (ι := Nat) (fun i => i ≤ k ∧ ∀ j, j < i → (L.getD j EntT.zero).Z) (fun i => [(3, .v (ptr b3)), (6, .v (.slice (some ⟨b, o, none⟩) k m)), (7, .v (nI (k))), (8, .v (nI (i))), (1000003, blk b3 54 (EntT.v EntT.zero)), (1900000, blk b T cs)]) (fun i => k - i) 0 ?_ ?_ ?_
 ·exact ⟨Nat.zero_le _, fun j h => absurd h (Nat.not_lt_zero _)⟩
 ·exact (KC 3 rfl (KC 6 rfl (KC 7 rfl (KE 8 rfl (by rfl) (KE 1000003 rfl (by rfl) (KC 1900000 rfl KN))))))
 intro i hG
 refine GV rfl (QS ?_);refine A.cond rfl (fun hc9 => ?_) (fun hc9 => ?_)
 ·have hi : i < k := by simp at hc9; omega
  have hi' : i < L.length := by omega
  refine QK (QSB (GS (TN 2 (RS (ok_indexS i U216 infoP54 rfl rfl rfl hi) ?_))));refine RS (ok_loadP (s := 1900000) (by decide) U54 rfl size54 rfl rfl (by have := Nat.mul_le_mul_right 33 (Nat.succ_le_of_lt hi); rw [Nat.succ_mul] at this; omega) (rows_part (EntT.lens hf) hc hi' EntT.zero)) ?_;refine RN ?_;refine ZN 1000005 zero54 fun b5 ⟨hBb5, hb5⟩ => ?_
  have hlt_b3_b5 := hb5 1000003 b3 _ _ rfl
  have hlt_b_b5 := hb5 1900000 b _ _ rfl
  refine TF 3 (RN ?_);refine ⟨_, eff_storeA (n := 16) (s := 1000005) (size54.of ((hf _ (getD_in L hi' _)).len)) rfl rfl (by first | exact NodT.one _ | exact RecT.one _ | exact EntT.one _ | exact RecT.all1 _ | exact EntT.all1 _ | exact all_byte _ | exact all_bytes _) hBb5 rfl (by first | rfl | (rw [(hf _ (getD_in L hi' _)).len]; rfl)) (LB 1000003 rfl (LB 1900000 rfl (LW [3,5,6,7,8] rfl))), ?_⟩
  refine TL (RN (GT (RL 1000005 U54 rfl rfl (size54.of ((hf _ (getD_in L hi' _)).len)) ?_)));refine RL 1000003 U54 rfl rfl (size54.of (rfl)) ?_;refine RZ (aggV EntT.zero.v) (by rfl) ?_;refine RS (ok_neqT (n := 4) (decide (L.getD i EntT.zero).Z) flat54 (by decide) (by kernel_rfl) (by kernel_rfl) rfl rfl (hf _ (getD_in L hi' _)).kin EntT.zero_fit.kin (EntT.dz _)) ?_;refine RN ?_;refine A.cond rfl (fun hc14 => ?_) (fun hc14 => ?_)
  ·have hz : ¬ (L.getD i EntT.zero).Z := by simpa using hc14
   refine GV rfl (A.ret (End.ret_block (End.ret_then (End.ret_then (End.ret_block (End.ret_then ?_))))))
   first | exact End.ret1 rfl rfl (Le.v (congrArg Value.bool (decide_eq_false (fun h => hz (h i hi))).symm)) | exact End.ret1 rfl rfl (Le.v (congrArg Value.bool (decide_eq_true (fun j hj => hG.2 j (by omega))).symm))
  ·have hz : (L.getD i EntT.zero).Z := by simpa using hc14
   refine A.skip (End.normal_block (EN (GTE (RB rfl rfl rfl ?_))));refine RZ (nI (i + 1)) (wrap_eq (by omega) (by omega)) ?_;refine RVN 1 rfl ?_;refine End.normal_then ?_;refine End.again (i + 1) ?_ ?_ ?_
   ·exact ⟨by omega, fun j hj => (Nat.lt_or_ge j i).elim (hG.2 j) fun h => by rw [show j = i from by omega]; exact hz⟩
   ·show _ - _ < _ - _; omega
   ·exact (Sv [3,6,7,8,1000003,1900000] rfl)
 ·have hi2 : i = k := by have := hG.1; simp at hc9; omega
  refine A.exit (End.exit_then (End.exit_then (End.exit_here (EN (GV rfl (A.ret ?_))))))
  first | exact End.ret1 rfl rfl (Le.v (congrArg Value.bool (decide_eq_false (fun h => hz (h i hi))).symm)) | exact End.ret1 rfl rfl (Le.v (congrArg Value.bool (decide_eq_true (fun j hj => hG.2 j (by omega))).symm))
theorem checkPartsR_z (L : List RecT) (O : List EntT) (hL : L.length = 4) (hO : O.length = 4) (hf : ∀ r ∈ L, r.Fit) (hfo : ∀ r ∈ O, r.Fit) (hz : ¬ ∀ i, i < 4 → (O.getD i EntT.zero).Z) : Fn Tryz.prog 141 [.v (aggV (recsV L)), .v (.func (.func 66) #[] #[]), .v (aggV (entsV O))] (.v (.int .i64 (1))) := by
 refine FV Tryz.func141 rfl Tryz.ntmps141 rfl fun w₀ => ?_
 refine GS (TN 0 (RN ?_));refine ZB 1000003 rfl fun b3 ⟨hBb3, hb3⟩ => ?_
 refine TN 1 (RN ?_);refine ZB 1000005 rfl fun b5 ⟨hBb5, hb5⟩ => ?_
 refine TL (RVN 1 rfl ?_);refine QS (GT (RS (ok_sliceN 0 4 U55 size54 rfl (.inr ⟨rfl, rfl⟩) (.inr ⟨rfl, rfl, rfl⟩) (.inr ⟨rfl, rfl⟩) (by decide) (by decide) (by decide)) ?_));refine RZ (.slice (some ⟨b5,0, none⟩) 4 4) (by rfl) ?_;refine RS (ok_callK 1000005 (allZeroE_fn b5 55 0 4 4 (entsV O) O hO (by decide) hfo (by rw [List.drop_zero, List.take_of_length_le (Nat.le_of_eq (flat_length (EntT.lens hfo)))]) (by rw [flat_length (EntT.lens hfo), hO]; decide)) (by decide) rfl (A1 rfl)) ?_;refine RZ (.bool false) (congrArg Value.bool (decide_eq_false hz)) ?_;refine RVN 1 rfl ?_;refine A.yes rfl ?_;refine GV rfl (A.ret (End.ret_then ?_));exact ER rfl rfl
theorem checkPartsR_fn (L : List RecT) (O : List EntT) (hL : L.length = 4) (hO : O.length = 4) (hf : ∀ r ∈ L, r.Fit) (hfo : ∀ r ∈ O, r.Fit) (hz : ∀ i, i < 4 → (O.getD i EntT.zero).Z) : Fn Tryz.prog 141 [.v (aggV (recsV L)), .v (.func (.func 66) #[] #[]), .v (aggV (entsV O))] (.v (.int .i64 (fst4 fun i => (L.getD i RecT.zero).ck))) := by
 refine FV Tryz.func141 rfl Tryz.ntmps141 rfl fun w₀ => ?_
 refine GS (TN 0 (RN ?_));refine ZB 1000003 rfl fun b3 ⟨hBb3, hb3⟩ => ?_
 refine TN 1 (RN ?_);refine ZB 1000005 rfl fun b5 ⟨hBb5, hb5⟩ => ?_
 refine TL (RVN 1 rfl ?_);refine QS (GT (RS (ok_sliceN 0 4 U55 size54 rfl (.inr ⟨rfl, rfl⟩) (.inr ⟨rfl, rfl, rfl⟩) (.inr ⟨rfl, rfl⟩) (by decide) (by decide) (by decide)) ?_));refine RZ (.slice (some ⟨b5,0, none⟩) 4 4) (by rfl) ?_;refine RS (ok_callK 1000005 (allZeroE_fn b5 55 0 4 4 (entsV O) O hO (by decide) hfo (by rw [List.drop_zero, List.take_of_length_le (Nat.le_of_eq (flat_length (EntT.lens hfo)))]) (by rw [flat_length (EntT.lens hfo), hO]; decide)) (by decide) rfl (A1 rfl)) ?_;refine RZ (.bool true) (congrArg Value.bool (decide_eq_true hz)) ?_;refine RVN 1 rfl ?_;refine A.no rfl ?_;refine QK (QS (GT (RL 1000003 U52 rfl rfl (size52.of (by rw [flat_length (RecT.lens hf), hL])) ?_)));refine RVN 1 rfl ?_;refine A.block ?_;refine A.loop (ι := Nat) (fun i => i ≤ 4 ∧ ∀ j, j < i → (L.getD j RecT.zero).ck = 0) (fun i => [(1, .v (.func (.func 66) #[] #[])), (13, .v (aggV (recsV L))), (14, .v (nI (i)))]) (fun i => 4 - i) 0 ?_ ?_ ?_
 ·exact ⟨Nat.zero_le _, fun j h => absurd h (Nat.not_lt_zero _)⟩
 ·exact (KC 1 rfl (KC 13 rfl (KE 14 rfl (by rfl) KN)))
 intro i hG
 refine GV rfl (QS ?_);refine A.cond rfl (fun hc15 => ?_) (fun hc15 => ?_)
 ·have hi : i < 4 := by simp at hc15; omega
  refine QK (QSB (GS (TN 1 (RS (ok_indexAgg i U52 U51 rfl size51 rfl rfl rfl hi (flat_getD (RecT.lens hf) (by omega) RecT.zero)) ?_))));refine RN ?_;refine ZN 1000008 zero51 fun b8 ⟨hBb8, hb8⟩ => ?_
  refine TF 2 (RN ?_);refine ⟨_, eff_storeA (n := 24) (s := 1000008) (size51.of ((hf (L.getD i RecT.zero) (getD_mem4 hL hi _)).len)) rfl rfl (by first | exact NodT.one _ | exact RecT.one _ | exact EntT.one _ | exact RecT.all1 _ | exact EntT.all1 _ | exact all_byte _ | exact all_bytes _) hBb8 rfl (by first | rfl | (rw [(hf (L.getD i RecT.zero) (getD_mem4 hL hi _)).len]; rfl)) (LW [1,8,13,14] rfl), ?_⟩
  refine TL (RN (GT (RM rfl ?_)));refine RL 1000008 U51 rfl rfl (size51.of ((hf (L.getD i RecT.zero) (getD_mem4 hL hi _)).len)) ?_;refine RS (ok_callV0 (CheckR_fn (L.getD i RecT.zero).x (L.getD i RecT.zero).s (L.getD i RecT.zero).c (L.getD i RecT.zero).t (hf (L.getD i RecT.zero) (getD_mem4 hL hi _)).t) rfl (A1 rfl)) ?_;refine RZ (.int .i64 (L.getD i RecT.zero).ck) (rfl) ?_;refine RVN 1 rfl ?_;refine GV rfl ?_;refine A.cond rfl (fun hc21 => ?_) (fun hc21 => ?_)
  ·have hk : (L.getD i RecT.zero).ck ≠ 0 := by simpa using hc21
   refine GV rfl (A.ret (End.ret_block (End.ret_then (End.ret_then (End.ret_block (End.ret_then ?_))))))
   first | exact End.ret1 rfl rfl (Le.v (congrArg (Value.int .i64) (fst4_at (f := fun i => (L.getD i RecT.zero).ck) hi hG.2 hk))) | exact End.ret1 rfl rfl (Le.v (congrArg (Value.int .i64) (fst4_no (f := fun i => (L.getD i RecT.zero).ck) (fun j hj => hG.2 j (by omega))).symm))
  ·have hk : (L.getD i RecT.zero).ck = 0 := by simpa using hc21
   refine A.skip (End.normal_block (EN (GTE (RB rfl rfl rfl ?_))));refine RZ (nI (i + 1)) (wrap_eq (by omega) (by omega)) ?_;refine RVN 1 rfl ?_;refine End.normal_then ?_;refine End.again (i + 1) ?_ ?_ ?_
   ·exact ⟨by omega, fun j hj => (Nat.lt_or_ge j i).elim (hG.2 j) fun h => by rw [show j = i from by omega]; exact hk⟩
   ·show _ - _ < _ - _; omega
   ·exact (Sv [1,13,14] rfl)
 ·have hi2 : i = 4 := by have := hG.1; simp at hc15; omega
  refine A.exit (End.exit_then (End.exit_then (End.exit_here (EN (GV rfl (A.ret ?_))))))
  first | exact End.ret1 rfl rfl (Le.v (congrArg (Value.int .i64) (fst4_at (f := fun i => (L.getD i RecT.zero).ck) hi hG.2 hk))) | exact End.ret1 rfl rfl (Le.v (congrArg (Value.int .i64) (fst4_no (f := fun i => (L.getD i RecT.zero).ck) (fun j hj => hG.2 j (by omega))).symm))
theorem checkPartsE_z (L : List EntT) (O : List RecT) (hL : L.length = 4) (hO : O.length = 4) (hf : ∀ r ∈ L, r.Fit) (hfo : ∀ r ∈ O, r.Fit) (hz : ¬ ∀ i, i < 4 → (O.getD i RecT.zero).Z) : Fn Tryz.prog 142 [.v (aggV (entsV L)), .v (.func (.func 143) #[] #[]), .v (aggV (recsV O))] (.v (.int .i64 (1))) := by
 refine FV Tryz.func142 rfl Tryz.ntmps142 rfl fun w₀ => ?_
 refine GS (TN 0 (RN ?_));refine ZB 1000003 rfl fun b3 ⟨hBb3, hb3⟩ => ?_
 refine TN 1 (RN ?_);refine ZB 1000005 rfl fun b5 ⟨hBb5, hb5⟩ => ?_
 refine TL (RVN 1 rfl ?_);refine QS (GT (RS (ok_sliceN 0 4 U52 size51 rfl (.inr ⟨rfl, rfl⟩) (.inr ⟨rfl, rfl, rfl⟩) (.inr ⟨rfl, rfl⟩) (by decide) (by decide) (by decide)) ?_));refine RZ (.slice (some ⟨b5,0, none⟩) 4 4) (by rfl) ?_;refine RS (ok_callK 1000005 (allZeroR_fn b5 52 0 4 4 (recsV O) O hO (by decide) hfo (by rw [List.drop_zero, List.take_of_length_le (Nat.le_of_eq (flat_length (RecT.lens hfo)))]) (by rw [flat_length (RecT.lens hfo), hO]; decide)) (by decide) rfl (A1 rfl)) ?_;refine RZ (.bool false) (congrArg Value.bool (decide_eq_false hz)) ?_;refine RVN 1 rfl ?_;refine A.yes rfl ?_;refine GV rfl (A.ret (End.ret_then ?_));exact ER rfl rfl
theorem checkPartsE_fn (L : List EntT) (O : List RecT) (hL : L.length = 4) (hO : O.length = 4) (hf : ∀ r ∈ L, r.Fit) (hfo : ∀ r ∈ O, r.Fit) (hz : ∀ i, i < 4 → (O.getD i RecT.zero).Z) : Fn Tryz.prog 142 [.v (aggV (entsV L)), .v (.func (.func 143) #[] #[]), .v (aggV (recsV O))] (.v (.int .i64 (fst4 fun i => (L.getD i EntT.zero).ck))) := by
 refine FV Tryz.func142 rfl Tryz.ntmps142 rfl fun w₀ => ?_
 refine GS (TN 0 (RN ?_));refine ZB 1000003 rfl fun b3 ⟨hBb3, hb3⟩ => ?_
 refine TN 1 (RN ?_);refine ZB 1000005 rfl fun b5 ⟨hBb5, hb5⟩ => ?_
 refine TL (RVN 1 rfl ?_);refine QS (GT (RS (ok_sliceN 0 4 U52 size51 rfl (.inr ⟨rfl, rfl⟩) (.inr ⟨rfl, rfl, rfl⟩) (.inr ⟨rfl, rfl⟩) (by decide) (by decide) (by decide)) ?_));refine RZ (.slice (some ⟨b5,0, none⟩) 4 4) (by rfl) ?_;refine RS (ok_callK 1000005 (allZeroR_fn b5 52 0 4 4 (recsV O) O hO (by decide) hfo (by rw [List.drop_zero, List.take_of_length_le (Nat.le_of_eq (flat_length (RecT.lens hfo)))]) (by rw [flat_length (RecT.lens hfo), hO]; decide)) (by decide) rfl (A1 rfl)) ?_;refine RZ (.bool true) (congrArg Value.bool (decide_eq_true hz)) ?_;refine RVN 1 rfl ?_;refine A.no rfl ?_;refine QK (QS (GT (RL 1000003 U55 rfl rfl (size55.of (by rw [flat_length (EntT.lens hf), hL])) ?_)));refine RVN 1 rfl ?_;refine A.block ?_;refine A.loop (ι := Nat) (fun i => i ≤ 4 ∧ ∀ j, j < i → (L.getD j EntT.zero).ck = 0) (fun i => [(1, .v (.func (.func 143) #[] #[])), (13, .v (aggV (entsV L))), (14, .v (nI (i)))]) (fun i => 4 - i) 0 ?_ ?_ ?_
 ·exact ⟨Nat.zero_le _, fun j h => absurd h (Nat.not_lt_zero _)⟩
 ·exact (KC 1 rfl (KC 13 rfl (KE 14 rfl (by rfl) KN)))
 intro i hG
 refine GV rfl (QS ?_);refine A.cond rfl (fun hc15 => ?_) (fun hc15 => ?_)
 ·have hi : i < 4 := by simp at hc15; omega
  refine QK (QSB (GS (TN 1 (RS (ok_indexAgg i U55 U54 rfl size54 rfl rfl rfl hi (flat_getD (EntT.lens hf) (by omega) EntT.zero)) ?_))));refine RN ?_;refine ZN 1000008 zero54 fun b8 ⟨hBb8, hb8⟩ => ?_
  refine TF 2 (RN ?_);refine ⟨_, eff_storeA (n := 24) (s := 1000008) (size54.of ((hf (L.getD i EntT.zero) (getD_mem4 hL hi _)).len)) rfl rfl (by first | exact NodT.one _ | exact RecT.one _ | exact EntT.one _ | exact RecT.all1 _ | exact EntT.all1 _ | exact all_byte _ | exact all_bytes _) hBb8 rfl (by first | rfl | (rw [(hf (L.getD i EntT.zero) (getD_mem4 hL hi _)).len]; rfl)) (LW [1,8,13,14] rfl), ?_⟩
  refine TL (RN (GT (RM rfl ?_)));refine RL 1000008 U54 rfl rfl (size54.of ((hf (L.getD i EntT.zero) (getD_mem4 hL hi _)).len)) ?_;refine RS (ok_callV0 (CheckE_fn (L.getD i EntT.zero).x (L.getD i EntT.zero).t (hf (L.getD i EntT.zero) (getD_mem4 hL hi _)).t) rfl (A1 rfl)) ?_;refine RZ (.int .i64 (L.getD i EntT.zero).ck) (rfl) ?_;refine RVN 1 rfl ?_;refine GV rfl ?_;refine A.cond rfl (fun hc21 => ?_) (fun hc21 => ?_)
  ·have hk : (L.getD i EntT.zero).ck ≠ 0 := by simpa using hc21
   refine GV rfl (A.ret (End.ret_block (End.ret_then (End.ret_then (End.ret_block (End.ret_then ?_))))))
   first | exact End.ret1 rfl rfl (Le.v (congrArg (Value.int .i64) (fst4_at (f := fun i => (L.getD i EntT.zero).ck) hi hG.2 hk))) | exact End.ret1 rfl rfl (Le.v (congrArg (Value.int .i64) (fst4_no (f := fun i => (L.getD i EntT.zero).ck) (fun j hj => hG.2 j (by omega))).symm))
  ·have hk : (L.getD i EntT.zero).ck = 0 := by simpa using hc21
   refine A.skip (End.normal_block (EN (GTE (RB rfl rfl rfl ?_))));refine RZ (nI (i + 1)) (wrap_eq (by omega) (by omega)) ?_;refine RVN 1 rfl ?_;refine End.normal_then ?_;refine End.again (i + 1) ?_ ?_ ?_
   ·exact ⟨by omega, fun j hj => (Nat.lt_or_ge j i).elim (hG.2 j) fun h => by rw [show j = i from by omega]; exact hk⟩
   ·show _ - _ < _ - _; omega
   ·exact (Sv [1,13,14] rfl)
 ·have hi2 : i = 4 := by have := hG.1; simp at hc15; omega
  refine A.exit (End.exit_then (End.exit_then (End.exit_here (EN (GV rfl (A.ret ?_))))))
  first | exact End.ret1 rfl rfl (Le.v (congrArg (Value.int .i64) (fst4_at (f := fun i => (L.getD i EntT.zero).ck) hi hG.2 hk))) | exact End.ret1 rfl rfl (Le.v (congrArg (Value.int .i64) (fst4_no (f := fun i => (L.getD i EntT.zero).ck) (fun j hj => hG.2 j (by omega))).symm))
theorem nCheck_hi (x : NodT) (hx : x.Fit) (h : 5 < x.l.toNat) : Fn Tryz.prog 127 [.v (aggV x.v)] (.v (.int .i64 (1))) := by
 refine FV Tryz.func127 rfl Tryz.ntmps127 rfl fun w₀ => ?_
 refine GS (TN 0 (RN ?_));refine ZB 1000001 rfl fun b1 ⟨hBb1, hb1⟩ => ?_
 refine TL (RVN 1 rfl ?_);refine QSB (GT (RS (ok_field field57_0 (by decide) rfl) ?_));refine RLV 1000001 U5 rfl rfl rfl ?_;refine RB rfl rfl rfl ?_;refine RT ?_;refine RVN 1 rfl ?_;refine A.yes rfl ?_;refine GV rfl (A.ret (End.ret_block (End.ret_then ?_)));exact ER rfl rfl
theorem nCheck_Rz (x : NodT) (hx : x.Fit) (h : x.l.toNat = 0) (hz : ¬ ∀ i, i < 4 → (x.e i).Z) : Fn Tryz.prog 127 [.v (aggV x.v)] (.v (.int .i64 (1))) := by
 refine FV Tryz.func127 rfl Tryz.ntmps127 rfl fun w₀ => ?_
 refine GS (TN 0 (RN ?_));refine ZB 1000001 rfl fun b1 ⟨hBb1, hb1⟩ => ?_
 refine TL (RVN 1 rfl ?_);refine QSB (GT (RS (ok_field field57_0 (by decide) rfl) ?_));refine RLV 1000001 U5 rfl rfl rfl ?_;refine RB rfl rfl rfl ?_;refine RF ?_;refine RVN 1 rfl ?_;refine A.no rfl ?_;refine GT (RL 1000001 U57 rfl rfl (size57.of (hx.len)) ?_);refine RS (ok_call (isGroup_y x hx h) (A1 rfl)) ?_;refine RVN 1 rfl ?_;refine A.yes rfl ?_;refine GT (RS (ok_field field57_2 (by decide) rfl) ?_);refine RS (ok_loadP (s := 1000001) (by decide) U52 rfl size52 rfl rfl (by rw [hx.len]; decide) (hx.getR)) ?_;refine RS (ok_field field57_3 (by decide) rfl) ?_;refine RS (ok_loadP (s := 1000001) (by decide) U55 rfl size55 rfl rfl (by rw [hx.len]; decide) (hx.getE)) ?_;refine RS (ok_call (checkPartsR_z x.R x.E hx.lr hx.le hx.fr hx.fe hz) (A3 rfl rfl rfl)) ?_;refine RVN 1 rfl ?_;refine A.ret (End.ret_block (End.ret_then ?_));exact ER rfl rfl
theorem nCheck_R (x : NodT) (hx : x.Fit) (h : x.l.toNat = 0) (hz : ∀ i, i < 4 → (x.e i).Z) : Fn Tryz.prog 127 [.v (aggV x.v)] (.v (.int .i64 (fst4 fun i => (x.r i).ck))) := by
 refine FV Tryz.func127 rfl Tryz.ntmps127 rfl fun w₀ => ?_
 refine GS (TN 0 (RN ?_));refine ZB 1000001 rfl fun b1 ⟨hBb1, hb1⟩ => ?_
 refine TL (RVN 1 rfl ?_);refine QSB (GT (RS (ok_field field57_0 (by decide) rfl) ?_));refine RLV 1000001 U5 rfl rfl rfl ?_;refine RB rfl rfl rfl ?_;refine RF ?_;refine RVN 1 rfl ?_;refine A.no rfl ?_;refine GT (RL 1000001 U57 rfl rfl (size57.of (hx.len)) ?_);refine RS (ok_call (isGroup_y x hx h) (A1 rfl)) ?_;refine RVN 1 rfl ?_;refine A.yes rfl ?_;refine GT (RS (ok_field field57_2 (by decide) rfl) ?_);refine RS (ok_loadP (s := 1000001) (by decide) U52 rfl size52 rfl rfl (by rw [hx.len]; decide) (hx.getR)) ?_;refine RS (ok_field field57_3 (by decide) rfl) ?_;refine RS (ok_loadP (s := 1000001) (by decide) U55 rfl size55 rfl rfl (by rw [hx.len]; decide) (hx.getE)) ?_;refine RS (ok_call (checkPartsR_fn x.R x.E hx.lr hx.le hx.fr hx.fe hz) (A3 rfl rfl rfl)) ?_;refine RVN 1 rfl ?_;refine A.ret (End.ret_block (End.ret_then ?_));exact ER rfl rfl
theorem nCheck_Ez (x : NodT) (hx : x.Fit) (h5 : ¬ 5 < x.l.toNat) (h : ¬ x.l.toNat = 0) (hz : ¬ ∀ i, i < 4 → (x.r i).Z) : Fn Tryz.prog 127 [.v (aggV x.v)] (.v (.int .i64 (1))) := by
 refine FV Tryz.func127 rfl Tryz.ntmps127 rfl fun w₀ => ?_
 refine GS (TN 0 (RN ?_));refine ZB 1000001 rfl fun b1 ⟨hBb1, hb1⟩ => ?_
 refine TL (RVN 1 rfl ?_);refine QSB (GT (RS (ok_field field57_0 (by decide) rfl) ?_));refine RLV 1000001 U5 rfl rfl rfl ?_;refine RB rfl rfl rfl ?_;refine RF ?_;refine RVN 1 rfl ?_;refine A.no rfl ?_;refine GT (RL 1000001 U57 rfl rfl (size57.of (hx.len)) ?_);refine RS (ok_call (isGroup_n x hx h) (A1 rfl)) ?_;refine RVN 1 rfl ?_;refine A.no rfl ?_;refine A.skip (End.normal_block (EN (GT (RS (ok_field field57_3 (by decide) rfl) ?_))));refine RS (ok_loadP (s := 1000001) (by decide) U55 rfl size55 rfl rfl (by rw [hx.len]; decide) (hx.getE)) ?_;refine RS (ok_field field57_2 (by decide) rfl) ?_;refine RS (ok_loadP (s := 1000001) (by decide) U52 rfl size52 rfl rfl (by rw [hx.len]; decide) (hx.getR)) ?_;refine RS (ok_call (checkPartsE_z x.E x.R hx.le hx.lr hx.fe hx.fr hz) (A3 rfl rfl rfl)) ?_;refine RVN 1 rfl ?_;refine A.ret ?_;exact ER rfl rfl
theorem nCheck_E (x : NodT) (hx : x.Fit) (h5 : ¬ 5 < x.l.toNat) (h : ¬ x.l.toNat = 0) (hz : ∀ i, i < 4 → (x.r i).Z) : Fn Tryz.prog 127 [.v (aggV x.v)] (.v (.int .i64 (fst4 fun i => (x.e i).ck))) := by
 refine FV Tryz.func127 rfl Tryz.ntmps127 rfl fun w₀ => ?_
 refine GS (TN 0 (RN ?_));refine ZB 1000001 rfl fun b1 ⟨hBb1, hb1⟩ => ?_
 refine TL (RVN 1 rfl ?_);refine QSB (GT (RS (ok_field field57_0 (by decide) rfl) ?_));refine RLV 1000001 U5 rfl rfl rfl ?_;refine RB rfl rfl rfl ?_;refine RF ?_;refine RVN 1 rfl ?_;refine A.no rfl ?_;refine GT (RL 1000001 U57 rfl rfl (size57.of (hx.len)) ?_);refine RS (ok_call (isGroup_n x hx h) (A1 rfl)) ?_;refine RVN 1 rfl ?_;refine A.no rfl ?_;refine A.skip (End.normal_block (EN (GT (RS (ok_field field57_3 (by decide) rfl) ?_))));refine RS (ok_loadP (s := 1000001) (by decide) U55 rfl size55 rfl rfl (by rw [hx.len]; decide) (hx.getE)) ?_;refine RS (ok_field field57_2 (by decide) rfl) ?_;refine RS (ok_loadP (s := 1000001) (by decide) U52 rfl size52 rfl rfl (by rw [hx.len]; decide) (hx.getR)) ?_;refine RS (ok_call (checkPartsE_fn x.E x.R hx.le hx.lr hx.fe hx.fr hz) (A3 rfl rfl rfl)) ?_;refine RVN 1 rfl ?_;refine A.ret ?_;exact ER rfl rfl
theorem nCheck_fn (x : NodT) (hx : x.Fit) : Fn Tryz.prog 127 [.v (aggV x.v)] (.v (.int .i64 (x.ck))) := by
 by_cases h5 : 5 < x.l.toNat
 ·rw [NodT.ck_hi h5]; exact nCheck_hi x hx h5
 by_cases h : x.l.toNat = 0
 ·by_cases hz : ∀ i, i < 4 → (x.e i).Z
  ·rw [NodT.ck_R h hz]; exact nCheck_R x hx h hz
  ·rw [NodT.ck_Rz h hz]; exact nCheck_Rz x hx h hz
 ·by_cases hz : ∀ i, i < 4 → (x.r i).Z
  ·rw [NodT.ck_E h5 h hz]; exact nCheck_E x hx h5 h hz
  ·rw [NodT.ck_Ez h5 h hz]; exact nCheck_Ez x hx h5 h hz
theorem put_fnB (V K : Nat) (hv : V < 18446744073709551616) (hk : K ≤ 8) : FnB Tryz.prog 144 [.v (.int .u64 (V : Int)), .v (.int .i64 (K : Int))] (fun B => fresh B 5 ((be K V).map byteV) K) := by
 refine FnB.of Tryz.func144 rfl (by kernel_rfl) Tryz.ntmps144 (by simp) (fun w => [(0, .v (.int .u64 (V : Int))), (1, .v (.int .i64 (K : Int)))]) (fun w => (Start.v rfl (Start.v rfl Start.nil))) fun w₀ => ?_
 refine GV rfl (GT (RM rfl ?_));refine RS (ok_make K U23 info5 (by decide) rfl rfl rfl rfl rfl (by omega)) ?_;refine RVN 1 rfl ?_;refine A.open (t := 5) (k := 1000000) rfl fun b hb => ?_
 refine QS (GV rfl (A.block ?_));refine A.loop (ι := Nat) (fun i => i ≤ K) (fun i => [(0, .v (.int .u64 (V : Int))), (1, .v (.int .i64 (K : Int))), (5, .v (.slice (some ⟨b, 0, none⟩) K K)), (9, .v (.int .i64 (K : Int))), (10, .v (.int .i64 (i : Int))), (1000000, blk b 5 (((be K V).take i).map byteV ++ List.replicate ((be K V).length - i) (.int .u8 0)))]) (fun i => K - i) 0 ?_ ?_ ?_
 ·exact Nat.zero_le _
 ·exact (KC 0 rfl (KC 1 rfl (KE 5 rfl (by simp) (KC 9 rfl (KC 10 rfl (KE 1000000 rfl (by simp [be_length]) KN))))))
 intro i hi
 refine GV rfl (QS ?_);refine A.cond rfl (fun hc11 => ?_) (fun hc11 => ?_)
 ·have hlt : i < K := by simpa using hc11
  refine QK (QSB (GV rfl (GE (TF 11 (RV 5 rfl ?_)))));refine RZ (nI (K - 1)) (by rw [wrap_i64 (by omega) (by omega)]; congr 1; omega) ?_;refine RV 2 rfl ?_;refine RZ (nI (K - 1 - i)) (by rw [wrap_i64 (by omega) (by omega)]; congr 1; omega) ?_;refine RB rfl rfl rfl ?_;refine RZ (nI (8 * (K - 1 - i))) (by rw [wrap_i64 (by omega) (by omega)]; congr 1) ?_;refine RS (ok_shr rfl rfl (by omega)) ?_;refine RZ (nQ (V / 256 ^ (K - 1 - i))) (by rw [Int.toNat_natCast, show min (8 * (K - 1 - i)) IntKind.u64.bits = 8 * (K - 1 - i) from by simp only [IntKind.bits]; omega, shr_nat, pow256]) ?_;refine RS (ok_conv U47 U5 rfl) ?_;refine RZ (byteV (UInt8.ofNat (V / 256 ^ (K - 1 - i)))) (by rw [wrap_u8_nat]; rfl) ?_;refine RS (ok_indexV i U23 info5 rfl rfl rfl hlt) ?_;refine RN ?_;refine ⟨_, eff_store (n := 26) (s := 1000000) info5 rfl rfl rfl hb rfl (by simp [be_length]; omega) (Left.cons (t := 0) rfl (Stays.v _ _) (Left.cons (t := 1) rfl (Stays.v _ _) (Left.cons (t := 5) rfl (Stays.v _ _) (Left.cons (t := 9) rfl (Stays.v _ _) (Left.cons (t := 10) rfl (Stays.v _ _) Left.nil))))), ?_⟩
  refine TL (RN (End.normal_block (EN (GTE (RB rfl rfl rfl ?_)))));refine RZ (nI (i + 1)) (by rw [wrap_i64 (by omega) (by omega)]; congr 1) ?_;refine RVN 1 rfl ?_;refine End.normal_then ?_;refine End.again (i + 1) ?_ ?_ ?_
  ·show _ ≤ _; omega
  ·show _ - _ < _ - _; omega
  ·exact (KC 0 rfl (KC 1 rfl (KC 5 rfl (KC 9 rfl (KC 10 rfl (KE 1000000 rfl (by rw [Nat.zero_add]; exact congrArg _ (fill_step (be_get hlt))) KN))))))
 ·refine A.exit (End.exit_then (End.exit_then (End.exit_here (EN (GV rfl (A.ret ?_))))))
  have hK : i = K := by simp at hc11; omega
  subst hK
  exact End.fresh rfl hb rfl (by rw [List.length_map, be_length]) (k := 1000000) rfl (by rw [be_length, Nat.sub_self, List.replicate_zero, List.append_nil, List.take_of_length_le (by rw [be_length]; omega)])
theorem Put32_fnB (v : Nat) (hv : v < 4294967296) : FnB Tryz.prog 131 [.v (.int .u32 (v : Int))] (fun B => fresh B 5 ((be 4 v).map byteV) 4) := by
 refine FnB.of Tryz.func131 rfl (by kernel_rfl) Tryz.ntmps131 (by simp) (fun w => [(0, .v (.int .u32 (v : Int)))]) (fun w => (Start.v rfl Start.nil)) fun w₀ => ?_
 refine GV rfl (GT (RM rfl ?_));refine RS (ok_conv U46 U47 rfl) ?_;refine RZ (.int .u64 (v : Int)) (by rw [wrap_u64 (by omega) (by omega)]) ?_;refine RS (ok_callB (put_fnB v 4 (by omega) (by decide)) (fun _ _ => fresh_mono _ _) (A2 rfl rfl)) ?_;refine RVN 1 rfl ?_;refine A.ret ?_;exact ER rfl rfl
set_option maxHeartbeats 1000000 in
theorem writeRaw_fnL (B : Nat) (pa pb bs q N : Nat) (p l : List UInt8) (h0 : 0 < l.length) (hN : p.length + l.length ≤ N) (hN' : N ≤ 4096) (hBa : B ≤ pa) (hBs : B ≤ bs) (hq : bs < q) : FnL Tryz.prog 130 B [(3, pa), (5, bs)] [.slice (some ⟨q, 0, none⟩) l.length l.length, ptr pa, ptr pb] [(1000001, blk pa 3 [nI p.length]), (1000002, blk pb 23 [.slice (some ⟨bs, 0, none⟩) N N]), (1000003, blk bs 5 (wrt N p)), (1000004, blk q 5 (l.map byteV))] (fun _ _ => True) (fun _ => .tuple #[]) (fun b => [(1000001, blk pa 3 [nI (p.length + l.length)]), (1000003, blk bs 5 ((wrt N p).take (0 + p.length) ++ (l.take (N - p.length)).map byteV ++ (wrt N p).drop (0 + p.length + min l.length (N - p.length))))]) := by
 refine FnL.of (n := 11) (kw := 1000099) (ks := 1000098) Tryz.func130 rfl (by kernel_rfl) Tryz.ntmps130 (by simp) (by decide) (vbL_cons (vL rfl) (vbL_cons (vL rfl) (vbL_cons (vL rfl) (vbL_cons (vL rfl) vbL_nil)))) (vL rfl) (vL rfl) [(0, .v (.slice (some ⟨q, 0, none⟩) l.length l.length)), (1, .v (ptr pa)), (2, .v (ptr pb))]
  (fun p hp => by simp only [List.mem_cons, List.not_mem_nil, or_false] at hp; rcases hp with rfl | rfl | rfl <;> exact ⟨_, rfl, rfl⟩) fun w₀ w₁ hw hw₁ => ?_
 have hBpa : w₀.heap.size ≤ pa := by omega
 have hBbs : w₀.heap.size ≤ bs := by omega
 refine A.regL0 5 [0] (by kernel_rfl) (by kernel_rfl) (by kernel_rfl) (by kernel_rfl) [(1000001, blk pa 3 [nI (p.length + l.length)]), (1000003, blk bs 5 ((wrt N p).take (0 + p.length) ++ (l.take (N - p.length)).map byteV ++ (wrt N p).drop (0 + p.length + min l.length (N - p.length)))), (1000099, wroteL [(3, pa), (5, bs)] w₁)] ?_ ?_
 ·refine RLV 1000001 U3 rfl rfl rfl ?_;refine RLV 1000002 U23 rfl rfl rfl ?_;refine RLV 1000001 U3 rfl rfl rfl ?_;refine RS (ok_sliceS (l := p.length) (h := N) (m := N) U23 info5 rfl (.inl ⟨_, _, rfl, rfl⟩) (.inr ⟨rfl, rfl, rfl⟩) (.inr ⟨rfl, rfl⟩) (by omega) (Nat.le_refl _) (Nat.le_refl _) (.inl (by omega))) ?_;refine RS (OpOk.fact (ok_move rfl) (d := bytes l l.length) (s := 1000004) (by decide) rfl (slice_bytes l rfl (Nat.le_refl _) (by simp only [maxLen]; omega) (by rw [List.drop_zero, List.take_of_length_le (by simp)]))) ?_;refine RN ?_
  intro S hS
  simp only [subs, List.map_cons, List.map_nil, List.cons_append, List.nil_append, List.mem_cons, List.not_mem_nil, or_false] at hS
  rcases hS with rfl | rfl
  ·refine ⟨2, Nat.le_of_ble_eq_true (by kernel_rfl), _, (Sv [0,1,2,4,5,6,7,8,1000001,1000002,1000003,1000004,1000099] rfl), by kernel_rfl, _, rfl, _, eff_copyS (n := 11) (s := 1000003) U23 info5 rfl rfl (le_byt _ _) hBbs rfl (by rw [wrt_len (by omega)]; omega) (by decide) (LV 0 rfl (LV 1 rfl (LV 2 rfl (LV 4 rfl (LV 5 rfl (LV 6 rfl (LV 7 rfl (LT 1000001 rfl (LT 1000002 rfl (LB 1000004 rfl (LeftS.cons (t := 1000099) rfl (Surv.wroteL (by simp)) LN))))))))))), ?_⟩
   refine AnyT.step 6 [] (by kernel_rfl) ?_;refine NextT.pure (by kernel_rfl) rfl rfl rfl (OpOk.asV (nI (p.length + l.length)) (by rw [show min l.length (N - p.length) = l.length from by omega]; exact wrap_eq (by omega) (by omega)) (ok_bin rfl rfl rfl)) ?_ ?_
   ·refine AnyT.step 7 [] (by kernel_rfl) ?_;refine NextT.eff rfl (eff_storeS (n := 11) (s := 1000001) info3 rfl rfl rfl hBpa rfl (by simp) (LV 0 rfl (LV 1 rfl (LV 2 rfl (LV 4 rfl (LV 5 rfl (LV 6 rfl (LV 7 rfl (LV 9 rfl (LV 10 rfl (LT 1000002 rfl (LT 1000003 rfl (LT 1000004 rfl (LeftS.cons (t := 1000099) rfl (Surv.wroteL (by simp)) LN)))))))))))))) ?_ ?_
    ·refine AnyT.last (by kernel_rfl) ?_;exact (QC 1000001 rfl (QC 1000003 rfl (QC 1000099 rfl SubL.nil)))
    exact trivial
   exact trivial
  ·refine ⟨3, Nat.le_of_ble_eq_true (by kernel_rfl), _, (Sv [0,1,2,5,6,7,8,1000001,1000002,1000003,1000004,1000099] rfl), by kernel_rfl, _, rfl, _, eff_copyS (n := 11) (s := 1000003) U23 info5 rfl rfl (le_byt _ _) hBbs rfl (by rw [wrt_len (by omega)]; omega) (by decide) (LV 0 rfl (LV 1 rfl (LV 2 rfl (LV 5 rfl (LV 6 rfl (LV 7 rfl (LT 1000001 rfl (LT 1000002 rfl (LB 1000004 rfl (LeftS.cons (t := 1000099) rfl (Surv.wroteL (by simp)) LN)))))))))), ?_⟩
   refine AnyT.step 0 [] (by kernel_rfl) ?_;refine NextT.pure (by kernel_rfl) rfl rfl rfl (ok_loadV (s := 1000001) (by decide) U3 rfl rfl rfl (rfl)) ?_ ?_
   ·refine AnyT.step 6 [] (by kernel_rfl) ?_;refine NextT.pure (by kernel_rfl) rfl rfl rfl (OpOk.asV (nI (p.length + l.length)) (by rw [show min l.length (N - p.length) = l.length from by omega]; exact wrap_eq (by omega) (by omega)) (ok_bin rfl rfl rfl)) ?_ ?_
    ·refine AnyT.step 7 [] (by kernel_rfl) ?_;refine NextT.eff rfl (eff_storeS (n := 11) (s := 1000001) info3 rfl rfl rfl hBpa rfl (by simp) (LV 0 rfl (LV 1 rfl (LV 2 rfl (LV 4 rfl (LV 5 rfl (LV 6 rfl (LV 7 rfl (LV 9 rfl (LV 10 rfl (LT 1000002 rfl (LT 1000003 rfl (LT 1000004 rfl (LeftS.cons (t := 1000099) rfl (Surv.wroteL (by simp)) LN)))))))))))))) ?_ ?_
     ·refine AnyT.last (by kernel_rfl) ?_;exact (QC 1000001 rfl (QC 1000003 rfl (QC 1000099 rfl SubL.nil)))
     exact trivial
    exact trivial
   exact trivial
 ·exact End.wroteL0 (.inr rfl) rfl (kw := 1000099) rfl 0 trivial (by decide) (lookL_cons (k := 1000001) (vL rfl) rfl (lookL_cons (k := 1000003) (vL rfl) rfl lookL_nil))
theorem write_fnL (k₁ k₂ k₃ k₄ B : Nat) (pa pb bs q N : Nat) (p l : List UInt8) (h0 : 0 < l.length) (hN : p.length + l.length ≤ N) (hN' : N ≤ 4096) (hBa : B ≤ pa) (hBs : B ≤ bs) (hq : bs < q) :
  FnL Tryz.prog 130 B [(3, pa), (5, bs)] [.slice (some ⟨q, 0, none⟩) l.length l.length, ptr pa, ptr pb] [(k₁, blk pa 3 [nI p.length]), (k₂, blk pb 23 [.slice (some ⟨bs, 0, none⟩) N N]), (k₃, blk bs 5 (wrt N p)), (k₄, blk q 5 (l.map byteV))] (fun _ _ => True) (fun _ => .tuple #[]) (fun _ => [(k₁, blk pa 3 [nI (p ++ l).length]), (k₃, blk bs 5 (wrt N (p ++ l)))]) := by
 have h := writeRaw_fnL B pa pb bs q N p l h0 hN hN' hBa hBs hq
 rw [wrt_step hN, ← List.length_append] at h
 exact h.rekey rfl fun _ => rfl
set_option maxHeartbeats 1000000 in
theorem putRRaw_fnL (B : Nat) (pa pb bs N : Nat) (p : List UInt8) (L : List RecT) (hL : L.length = 4) (hf : ∀ r ∈ L, r.Fit) (hb : ∀ i, i < 4 → ¬ (L.getD i RecT.zero).Bad) (hN : p.length + 180 ≤ N) (hN' : N ≤ 4096) (hBa : B ≤ pa) (hBs : B ≤ bs) : FnL Tryz.prog 132 B [(3, pa), (5, bs)] [aggV (recsV L), .func (.func 133) #[] #[], .func (.func 130) #[] #[ptr pa, ptr pb]] [(1000101, blk pa 3 [nI p.length]), (1000102, blk pb 23 [.slice (some ⟨bs, 0, none⟩) N N]), (1000103, blk bs 5 (wrt N p))] (fun _ _ => True) (fun _ => .tuple #[]) (fun b => [(1000101, blk pa 3 [nI (p ++ (L.take 4).flatMap RecT.l).length]), (1000103, blk bs 5 (wrt N (p ++ (L.take 4).flatMap RecT.l)))]) := by
 refine FnL.of (n := 24) (kw := 1000099) (ks := 1000098) Tryz.func132 rfl (by kernel_rfl) Tryz.ntmps132 (by simp) (by decide) (vbL_cons (vL rfl) (vbL_cons (vL rfl) (vbL_cons (vL rfl) vbL_nil))) (vL rfl) (vL rfl) [(0, .v (aggV (recsV L))), (1, .v (.func (.func 133) #[] #[])), (2, .v (.func (.func 130) #[] #[ptr pa, ptr pb]))]
  (fun p hp => by simp only [List.mem_cons, List.not_mem_nil, or_false] at hp; rcases hp with rfl | rfl | rfl <;> exact ⟨_, rfl, rfl⟩) fun w₀ w₁ hw hw₁ => ?_
 have hBpa : w₀.heap.size ≤ pa := by omega
 have hBbs : w₀.heap.size ≤ bs := by omega
 refine GS (TN 0 (RN ?_));refine ⟨_, _, eff_boxL (n := 24) (d := 3) (k := 1000003) rfl (by decide), fun b3 hb3 => ?_⟩
 have hBb3 := hb3.1
 have hw_b3 := hb3.2.2 1000099 _ _ rfl
 refine TL (RN (GT (RL 1000003 U52 rfl rfl (size52.of (by rw [flat_length (RecT.lens hf), hL])) ?_)));refine RVN 1 rfl ?_;refine A.block ?_;refine A.loop (ι := Nat) (fun i => i ≤ 4) (fun i => [(1, .v (.func (.func 133) #[] #[])), (2, .v (.func (.func 130) #[] #[ptr pa, ptr pb])), (10, .v (aggV (recsV L))), (11, .v (nI (i))), (1000101, blk pa 3 [nI (p ++ (L.take i).flatMap RecT.l).length]), (1000102, blk pb 23 [.slice (some ⟨bs, 0, none⟩) N N]), (1000103, blk bs 5 (wrt N (p ++ (L.take i).flatMap RecT.l))), (1000099, wroteL [(3, pa), (5, bs)] w₁)]) (fun i => 4 - i) 0 ?_ ?_ ?_
 ·exact Nat.zero_le _
 ·exact (KC 1 rfl (KC 2 rfl (KC 10 rfl (KE 11 rfl (by rfl) (KE 1000101 rfl (by rw [List.take_zero, List.flatMap_nil, List.append_nil]) (KC 1000102 rfl (KE 1000103 rfl (by rw [List.take_zero, List.flatMap_nil, List.append_nil]) (KC 1000099 rfl KN))))))))
 intro i hG
 refine GV rfl (QS ?_);refine A.cond rfl (fun hc12 => ?_) (fun hc12 => ?_)
 ·have hi : i < 4 := by simp at hc12; omega
  refine QK (QSB (GS (TN 1 (RS (ok_indexAgg i U52 U51 rfl size51 rfl rfl rfl hi (flat_getD (RecT.lens hf) (by omega) RecT.zero)) ?_))));refine RN ?_;refine ⟨_, _, eff_allocL (n := 24) (d := 7) (k := 1000007) zero51 (by decide), fun b7 hb7 => ?_⟩
  have hBb7 := hb7.1
  have hw_b7 := hb7.2.2 1000099 _ _ rfl
  refine TF 2 (RN ?_);refine ⟨_, eff_storeA (n := 24) (s := 1000007) (size51.of ((hf (L.getD i RecT.zero) (getD_mem4 hL hi _)).len)) rfl rfl (by first | exact NodT.one _ | exact RecT.one _ | exact EntT.one _ | exact RecT.all1 _ | exact EntT.all1 _ | exact all_byte _ | exact all_bytes _) hBb7 rfl (by first | rfl | (rw [(hf (L.getD i RecT.zero) (getD_mem4 hL hi _)).len]; rfl)) (LeftS.cons (t := 1000099) rfl (Surv.wroteLN hw_b7) (LT 1000101 rfl (LT 1000102 rfl (LT 1000103 rfl (LW [1,2,7,10,11] rfl))))), ?_⟩
  refine TL (RN (GS (TN 2 (RM rfl ?_))));refine RL 1000007 U51 rfl rfl (size51.of ((hf (L.getD i RecT.zero) (getD_mem4 hL hi _)).len)) ?_;refine RN ?_;refine ⟨_, _, eff_nameL (n := 24) (d := 17) (k := 1000017) rfl rfl (fun B' => ok_callVB (PutRecord_okB (L.getD i RecT.zero).x (L.getD i RecT.zero).s (L.getD i RecT.zero).c (L.getD i RecT.zero).t (hf (L.getD i RecT.zero) (getD_mem4 hL hi _)).t (hf (L.getD i RecT.zero) (getD_mem4 hL hi _)).s (hf (L.getD i RecT.zero) (getD_mem4 hL hi _)).c (hb i hi)) newD_mono rfl (A1 rfl)) (by decide) (by decide), fun b17 hb17 => ?_⟩
  have hBb17 := hb17.1
  have hlt_b7_b17 : b7 < b17 := hb17.2.1 1000007 _ _ _ rfl
  have hw_b17 := hb17.2.2 1000099 _ _ rfl
  have hlt_pa_b17 : pa < b17 := hb17.2.1 1000101 _ _ _ rfl
  have hlt_pb_b17 : pb < b17 := hb17.2.1 1000102 _ _ _ rfl
  have hlt_bs_b17 : bs < b17 := hb17.2.1 1000103 _ _ _ rfl
  refine TL (RV 2 rfl ?_);refine RZ (.slice (some ⟨b17,0, none⟩) (L.getD i RecT.zero).l.length (L.getD i RecT.zero).l.length) (by rw [(hf (L.getD i RecT.zero) (getD_mem4 hL hi _)).lenL]) ?_;refine RVN 3 rfl ?_;refine GE (TF 2 (RVN 2 rfl ?_));refine ⟨_, eff_callL1 (n := 24) (vs := [.slice (some ⟨b17,0, none⟩) (L.getD i RecT.zero).l.length (L.getD i RecT.zero).l.length]) (us := [ptr pa, ptr pb]) (write_fnL 1000101 1000102 1000103 1000017 w₀.heap.size pa pb bs b17 N (p ++ (L.take i).flatMap RecT.l) (L.getD i RecT.zero).l (by rw [(hf (L.getD i RecT.zero) (getD_mem4 hL hi _)).lenL]; decide) (by have h1 := (hf (L.getD i RecT.zero) (getD_mem4 hL hi _)).lenL; have h2 := flat_length (RecT.lensL (take_all hf i)); rw [List.length_take, hL] at h2; rw [List.length_append]; omega) hN' hBpa hBbs hlt_bs_b17) rfl (A1 rfl) (subL_M (Sv [1000101,1000102,1000103,1000017] rfl) (vbL_cons (vL rfl) (vbL_cons (vL rfl) (vbL_cons (vL rfl) (vbL_cons (vL rfl) vbL_nil))))) (vbL_cons (vL rfl) (vbL_cons (vL rfl) vbL_nil)) (gsL_cons (k := 1000101) hBpa rfl (gsL_cons (k := 1000103) hBbs rfl gsL_nil)) (by decide) (by decide) (LeftL.cons (LT 1000007 rfl (LT 1000017 rfl (LeftS.cons (t := 1000099) rfl (Surv.wroteL (by simp)) (LT 1000102 rfl (LW [1,2,10,11] rfl))))) (LeftL.one (LT 1000007 rfl (LB 1000017 rfl (LeftS.cons (t := 1000099) rfl (Surv.wroteL (by simp)) (LT 1000102 rfl (LW [1,2,10,11] rfl))))))), ?_⟩
  refine TL (RN (End.normal_block (EN (GTE (RB rfl rfl rfl ?_)))));refine RZ (nI (i + 1)) (wrap_eq (by omega) (by omega)) ?_;refine RVN 1 rfl ?_;refine End.normal_then ?_;refine End.again (i + 1) ?_ ?_ ?_
  ·show _ ≤ _; omega
  ·show _ - _ < _ - _; omega
  ·exact (KC 1 rfl (KC 2 rfl (KC 10 rfl (KC 11 rfl (KE 1000101 rfl (by rw [take_flat hL hi, List.append_assoc]) (KC 1000102 rfl (KE 1000103 rfl (by rw [take_flat hL hi, List.append_assoc]) (KC 1000099 rfl KN))))))))
 ·have hi2 : i = 4 := by simp at hc12; omega
  refine A.exit (End.exit_then (End.exit_then (End.exit_here ?_)))
  subst hi2
  exact End.wroteL0 (.inr rfl) rfl (kw := 1000099) rfl 0 trivial (by decide) (lookL_cons (k := 1000101) (vL rfl) rfl (lookL_cons (k := 1000103) (vL rfl) rfl lookL_nil))
theorem putR_fnL (k₁ k₂ k₃ B : Nat) (pa pb bs N : Nat) (p : List UInt8) (L : List RecT) (hL : L.length = 4) (hf : ∀ r ∈ L, r.Fit) (hb : ∀ i, i < 4 → ¬ (L.getD i RecT.zero).Bad) (hN : p.length + 180 ≤ N) (hN' : N ≤ 4096) (hBa : B ≤ pa) (hBs : B ≤ bs) :
  FnL Tryz.prog 132 B [(3, pa), (5, bs)] [aggV (recsV L), .func (.func 133) #[] #[], .func (.func 130) #[] #[ptr pa, ptr pb]] [(k₁, blk pa 3 [nI p.length]), (k₂, blk pb 23 [.slice (some ⟨bs, 0, none⟩) N N]), (k₃, blk bs 5 (wrt N p))] (fun _ _ => True) (fun _ => .tuple #[]) (fun _ => [(k₁, blk pa 3 [nI (p ++ L.flatMap RecT.l).length]), (k₃, blk bs 5 (wrt N (p ++ L.flatMap RecT.l)))]) := by
 have h := putRRaw_fnL B pa pb bs N p L hL hf hb hN hN' hBa hBs
 rw [List.take_of_length_le (Nat.le_of_eq hL)] at h
 exact h.rekey rfl fun _ => rfl
set_option maxHeartbeats 1000000 in
theorem putERaw_fnL (B : Nat) (pa pb bs N : Nat) (p : List UInt8) (L : List EntT) (hL : L.length = 4) (hf : ∀ r ∈ L, r.Fit) (hb : ∀ i, i < 4 → ¬ (L.getD i EntT.zero).Bad) (hN : p.length + 132 ≤ N) (hN' : N ≤ 4096) (hBa : B ≤ pa) (hBs : B ≤ bs) : FnL Tryz.prog 134 B [(3, pa), (5, bs)] [aggV (entsV L), .func (.func 135) #[] #[], .func (.func 130) #[] #[ptr pa, ptr pb]] [(1000101, blk pa 3 [nI p.length]), (1000102, blk pb 23 [.slice (some ⟨bs, 0, none⟩) N N]), (1000103, blk bs 5 (wrt N p))] (fun _ _ => True) (fun _ => .tuple #[]) (fun b => [(1000101, blk pa 3 [nI (p ++ (L.take 4).flatMap EntT.l).length]), (1000103, blk bs 5 (wrt N (p ++ (L.take 4).flatMap EntT.l)))]) := by
 refine FnL.of (n := 24) (kw := 1000099) (ks := 1000098) Tryz.func134 rfl (by kernel_rfl) Tryz.ntmps134 (by simp) (by decide) (vbL_cons (vL rfl) (vbL_cons (vL rfl) (vbL_cons (vL rfl) vbL_nil))) (vL rfl) (vL rfl) [(0, .v (aggV (entsV L))), (1, .v (.func (.func 135) #[] #[])), (2, .v (.func (.func 130) #[] #[ptr pa, ptr pb]))]
  (fun p hp => by simp only [List.mem_cons, List.not_mem_nil, or_false] at hp; rcases hp with rfl | rfl | rfl <;> exact ⟨_, rfl, rfl⟩) fun w₀ w₁ hw hw₁ => ?_
 have hBpa : w₀.heap.size ≤ pa := by omega
 have hBbs : w₀.heap.size ≤ bs := by omega
 refine GS (TN 0 (RN ?_));refine ⟨_, _, eff_boxL (n := 24) (d := 3) (k := 1000003) rfl (by decide), fun b3 hb3 => ?_⟩
 have hBb3 := hb3.1
 have hw_b3 := hb3.2.2 1000099 _ _ rfl
 refine TL (RN (GT (RL 1000003 U55 rfl rfl (size55.of (by rw [flat_length (EntT.lens hf), hL])) ?_)));refine RVN 1 rfl ?_;refine A.block ?_;refine A.loop (ι := Nat) (fun i => i ≤ 4) (fun i => [(1, .v (.func (.func 135) #[] #[])), (2, .v (.func (.func 130) #[] #[ptr pa, ptr pb])), (10, .v (aggV (entsV L))), (11, .v (nI (i))), (1000101, blk pa 3 [nI (p ++ (L.take i).flatMap EntT.l).length]), (1000102, blk pb 23 [.slice (some ⟨bs, 0, none⟩) N N]), (1000103, blk bs 5 (wrt N (p ++ (L.take i).flatMap EntT.l))), (1000099, wroteL [(3, pa), (5, bs)] w₁)]) (fun i => 4 - i) 0 ?_ ?_ ?_
 ·exact Nat.zero_le _
 ·exact (KC 1 rfl (KC 2 rfl (KC 10 rfl (KE 11 rfl (by rfl) (KE 1000101 rfl (by rw [List.take_zero, List.flatMap_nil, List.append_nil]) (KC 1000102 rfl (KE 1000103 rfl (by rw [List.take_zero, List.flatMap_nil, List.append_nil]) (KC 1000099 rfl KN))))))))
 intro i hG
 refine GV rfl (QS ?_);refine A.cond rfl (fun hc12 => ?_) (fun hc12 => ?_)
 ·have hi : i < 4 := by simp at hc12; omega
  refine QK (QSB (GS (TN 1 (RS (ok_indexAgg i U55 U54 rfl size54 rfl rfl rfl hi (flat_getD (EntT.lens hf) (by omega) EntT.zero)) ?_))));refine RN ?_;refine ⟨_, _, eff_allocL (n := 24) (d := 7) (k := 1000007) zero54 (by decide), fun b7 hb7 => ?_⟩
  have hBb7 := hb7.1
  have hw_b7 := hb7.2.2 1000099 _ _ rfl
  refine TF 2 (RN ?_);refine ⟨_, eff_storeA (n := 24) (s := 1000007) (size54.of ((hf (L.getD i EntT.zero) (getD_mem4 hL hi _)).len)) rfl rfl (by first | exact NodT.one _ | exact RecT.one _ | exact EntT.one _ | exact RecT.all1 _ | exact EntT.all1 _ | exact all_byte _ | exact all_bytes _) hBb7 rfl (by first | rfl | (rw [(hf (L.getD i EntT.zero) (getD_mem4 hL hi _)).len]; rfl)) (LeftS.cons (t := 1000099) rfl (Surv.wroteLN hw_b7) (LT 1000101 rfl (LT 1000102 rfl (LT 1000103 rfl (LW [1,2,7,10,11] rfl))))), ?_⟩
  refine TL (RN (GS (TN 2 (RM rfl ?_))));refine RL 1000007 U54 rfl rfl (size54.of ((hf (L.getD i EntT.zero) (getD_mem4 hL hi _)).len)) ?_;refine RN ?_;refine ⟨_, _, eff_nameL (n := 24) (d := 17) (k := 1000017) rfl rfl (fun B' => ok_callVB (PutEntry_okB (L.getD i EntT.zero).x (L.getD i EntT.zero).t (hf (L.getD i EntT.zero) (getD_mem4 hL hi _)).t (hb i hi)) newD_mono rfl (A1 rfl)) (by decide) (by decide), fun b17 hb17 => ?_⟩
  have hBb17 := hb17.1
  have hlt_b7_b17 : b7 < b17 := hb17.2.1 1000007 _ _ _ rfl
  have hw_b17 := hb17.2.2 1000099 _ _ rfl
  have hlt_pa_b17 : pa < b17 := hb17.2.1 1000101 _ _ _ rfl
  have hlt_pb_b17 : pb < b17 := hb17.2.1 1000102 _ _ _ rfl
  have hlt_bs_b17 : bs < b17 := hb17.2.1 1000103 _ _ _ rfl
  refine TL (RV 2 rfl ?_);refine RZ (.slice (some ⟨b17,0, none⟩) (L.getD i EntT.zero).l.length (L.getD i EntT.zero).l.length) (by rw [(hf (L.getD i EntT.zero) (getD_mem4 hL hi _)).lenL]) ?_;refine RVN 3 rfl ?_;refine GE (TF 2 (RVN 2 rfl ?_));refine ⟨_, eff_callL1 (n := 24) (vs := [.slice (some ⟨b17,0, none⟩) (L.getD i EntT.zero).l.length (L.getD i EntT.zero).l.length]) (us := [ptr pa, ptr pb]) (write_fnL 1000101 1000102 1000103 1000017 w₀.heap.size pa pb bs b17 N (p ++ (L.take i).flatMap EntT.l) (L.getD i EntT.zero).l (by rw [(hf (L.getD i EntT.zero) (getD_mem4 hL hi _)).lenL]; decide) (by have h1 := (hf (L.getD i EntT.zero) (getD_mem4 hL hi _)).lenL; have h2 := flat_length (EntT.lensL (take_all hf i)); rw [List.length_take, hL] at h2; rw [List.length_append]; omega) hN' hBpa hBbs hlt_bs_b17) rfl (A1 rfl) (subL_M (Sv [1000101,1000102,1000103,1000017] rfl) (vbL_cons (vL rfl) (vbL_cons (vL rfl) (vbL_cons (vL rfl) (vbL_cons (vL rfl) vbL_nil))))) (vbL_cons (vL rfl) (vbL_cons (vL rfl) vbL_nil)) (gsL_cons (k := 1000101) hBpa rfl (gsL_cons (k := 1000103) hBbs rfl gsL_nil)) (by decide) (by decide) (LeftL.cons (LT 1000007 rfl (LT 1000017 rfl (LeftS.cons (t := 1000099) rfl (Surv.wroteL (by simp)) (LT 1000102 rfl (LW [1,2,10,11] rfl))))) (LeftL.one (LT 1000007 rfl (LB 1000017 rfl (LeftS.cons (t := 1000099) rfl (Surv.wroteL (by simp)) (LT 1000102 rfl (LW [1,2,10,11] rfl))))))), ?_⟩
  refine TL (RN (End.normal_block (EN (GTE (RB rfl rfl rfl ?_)))));refine RZ (nI (i + 1)) (wrap_eq (by omega) (by omega)) ?_;refine RVN 1 rfl ?_;refine End.normal_then ?_;refine End.again (i + 1) ?_ ?_ ?_
  ·show _ ≤ _; omega
  ·show _ - _ < _ - _; omega
  ·exact (KC 1 rfl (KC 2 rfl (KC 10 rfl (KC 11 rfl (KE 1000101 rfl (by rw [take_flat hL hi, List.append_assoc]) (KC 1000102 rfl (KE 1000103 rfl (by rw [take_flat hL hi, List.append_assoc]) (KC 1000099 rfl KN))))))))
 ·have hi2 : i = 4 := by simp at hc12; omega
  refine A.exit (End.exit_then (End.exit_then (End.exit_here ?_)))
  subst hi2
  exact End.wroteL0 (.inr rfl) rfl (kw := 1000099) rfl 0 trivial (by decide) (lookL_cons (k := 1000101) (vL rfl) rfl (lookL_cons (k := 1000103) (vL rfl) rfl lookL_nil))
theorem putE_fnL (k₁ k₂ k₃ B : Nat) (pa pb bs N : Nat) (p : List UInt8) (L : List EntT) (hL : L.length = 4) (hf : ∀ r ∈ L, r.Fit) (hb : ∀ i, i < 4 → ¬ (L.getD i EntT.zero).Bad) (hN : p.length + 132 ≤ N) (hN' : N ≤ 4096) (hBa : B ≤ pa) (hBs : B ≤ bs) :
  FnL Tryz.prog 134 B [(3, pa), (5, bs)] [aggV (entsV L), .func (.func 135) #[] #[], .func (.func 130) #[] #[ptr pa, ptr pb]] [(k₁, blk pa 3 [nI p.length]), (k₂, blk pb 23 [.slice (some ⟨bs, 0, none⟩) N N]), (k₃, blk bs 5 (wrt N p))] (fun _ _ => True) (fun _ => .tuple #[]) (fun _ => [(k₁, blk pa 3 [nI (p ++ L.flatMap EntT.l).length]), (k₃, blk bs 5 (wrt N (p ++ L.flatMap EntT.l)))]) := by
 have h := putERaw_fnL B pa pb bs N p L hL hf hb hN hN' hBa hBs
 rw [List.take_of_length_le (Nat.le_of_eq hL)] at h
 exact h.rekey rfl fun _ => rfl
set_option maxHeartbeats 2000000 in
theorem nPut_RB (x : NodT) (hx : x.Fit) (hk : x.ck = 0) (h0 : x.l.toNat = 0) : FnMB Tryz.prog 106 tabS [.v (aggV x.v)] (fun B => newD B 5 (fun b => .tuple #[.slice (some ⟨b, 0, none⟩) (NodT.sz x.l.toNat) (NodT.sz x.l.toNat), .int .i64 0]) (x.bl.map byteV)) := by
 have hk5 := NodT.ck_ok hk
 have hl5 := hk5.1
 refine FnMB.of Tryz.func106 rfl (by kernel_rfl) Tryz.ntmps106 (by simp) (by decide) (fun w => [(0, .v (aggV x.v)), (1900001, tab 1 (sizV))]) (fun w => (StartM.v rfl (StartM.m (by simp [tabS]) (by decide) StartM.nil))) fun w₀ hM => ?_
 have htab := tabS_hi hM
 refine GS (TN 0 (RN ?_));refine ZB 1000001 rfl fun b1 ⟨hBb1, hb1⟩ => ?_
 refine TL (RVN 2 rfl ?_);refine QS (GT (RL 1000001 U57 rfl rfl (size57.of (hx.len)) ?_));refine RS (ok_call (nCheck_fn x hx) (A1 rfl)) ?_;refine RZ (.int .i64 0) (by rw [hk]) ?_;refine RVN 1 rfl ?_;refine GT (RV 2 rfl ?_);refine RF ?_;refine RN (A.no rfl ?_);refine QK (GS (TN 4 (RS (ok_field field57_0 (by decide) rfl) ?_)));refine RLV 1000001 U5 rfl rfl rfl ?_;refine RS (ok_index0 x.l.toNat U200 info3 rfl rfl rfl (by omega)) ?_;refine RS (ok_loadVT (s := 1900001) (by decide) U3 rfl rfl rfl (siz_get (by omega))) ?_;refine RN ?_;refine ⟨_, _, eff_nameF (c := (NodT.sz x.l.toNat)) (by simp) (n := 40) (d := 17) (k := 1000017) rfl rfl (fun B' => ok_make (NodT.sz x.l.toNat) U23 info5 (by decide) rfl rfl rfl rfl rfl (by have := sz_le x.l.toNat; omega)) (by decide) (by decide), fun b17 hb17 => ?_⟩
 have hBb17 := hb17.1
 have hlt_b1_b17 : b1 < b17 := hb17.2 1000001 _ _ _ rfl
 refine TN 5 (RN ?_);refine ZN 1000005 zero23 fun b5 ⟨hBb5, hb5⟩ => ?_
 refine TN 6 (RN ?_);refine ZN 1000006 zero3 fun b6 ⟨hBb6, hb6⟩ => ?_
 refine TF 7 (RN ?_);refine ⟨_, eff_storeS (n := 40) (s := 1000005) info23 rfl rfl rfl hBb5 rfl (by simp) (LT 1000001 rfl (LT 1000006 rfl (LT 1000017 rfl (LQ 1900001 rfl (LW [1,5,6] rfl))))), ?_⟩
 refine TF 8 (RN ?_);refine ⟨_, eff_storeS (n := 40) (s := 1000006) info3 rfl rfl rfl hBb6 rfl (by simp) (LT 1000001 rfl (LT 1000005 rfl (LT 1000017 rfl (LQ 1900001 rfl (LW [1,5,6] rfl))))), ?_⟩
 refine TL (RN (A.sub (KC 1 rfl (KC 5 rfl (KC 6 rfl (KC 1000001 rfl (KC 1000005 rfl (KE 1000006 rfl (show _ = blk b6 3 [nI ([] : List UInt8).length] from rfl) (KE 1000017 rfl (show _ = blk b17 5 (wrt (NodT.sz x.l.toNat) []) from congrArg _ (wrt_zero _).symm) (KC 1900001 rfl KN)))))))) ?_));refine GT (RS (ok_makeFuncN [ptr b6, ptr b5] ⟨rfl, rfl, trivial⟩) ?_);refine RVN 1 rfl ?_;refine GS (TN 3 (RM rfl ?_));refine RS (ok_field field57_0 (by decide) rfl) ?_;refine RLV 1000001 U5 rfl rfl rfl ?_;refine RN ?_;refine ZM 1000022 (fun B' => ok_build1B U23 info5 rfl rfl) rfl fun b22 ⟨hBb22, hb22⟩ => ?_
 have hlt_b1_b22 := hb22 1000001 b1 _ _ rfl
 have hlt_b5_b22 := hb22 1000005 b5 _ _ rfl
 have hlt_b6_b22 := hb22 1000006 b6 _ _ rfl
 have hlt_b17_b22 := hb22 1000017 b17 _ _ rfl
 refine TF 4 (RN ?_);refine ⟨_, eff_callL1 (n := 40) (vs := [.slice (some ⟨b22,0, none⟩) ([x.l] : List UInt8).length ([x.l] : List UInt8).length]) (us := [ptr b6, ptr b5]) (write_fnL 1000006 1000005 1000017 1000022 w₀.heap.size b6 b5 b17 b22 (NodT.sz x.l.toNat) (([] : List UInt8)) ([x.l]) (by rw [show [x.l].length = 1 from rfl]; decide) (by have := sz_le x.l.toNat; simp [be_length]; omega) (by have := sz_le x.l.toNat; omega) hBb6 hBb17 hlt_b17_b22) rfl (A1 rfl) (subL_M (Sv [1000006,1000005,1000017,1000022] rfl) (vbL_cons (vL rfl) (vbL_cons (vL rfl) (vbL_cons (vL rfl) (vbL_cons (vL rfl) vbL_nil))))) (vbL_cons (vL rfl) (vbL_cons (vL rfl) vbL_nil)) (gsL_cons (k := 1000006) hBb6 rfl (gsL_cons (k := 1000017) hBb17 rfl gsL_nil)) (by decide) (by decide) (LeftL.cons (LT 1000001 rfl (LT 1000005 rfl (LT 1000022 rfl (LQ 1900001 rfl (LW [1,5,7] rfl))))) (LeftL.one (LT 1000001 rfl (LT 1000005 rfl (LB 1000022 rfl (LQ 1900001 rfl (LW [1,5,7] rfl))))))), ?_⟩
 refine TL (RN (A.sub (KC 1 rfl (KC 5 rfl (KC 7 rfl (KC 1000001 rfl (KC 1000005 rfl (KC 1000006 rfl (KE 1000017 rfl (rfl) (KC 1000022 rfl (KC 1900001 rfl KN))))))))) ?_));refine GS (TN 3 (RM rfl ?_));refine RS (ok_field field57_1 (by decide) rfl) ?_;refine RLV 1000001 U46 rfl rfl rfl ?_;refine RN ?_;refine ⟨_, _, eff_nameF (c := 4) (by rw [List.length_map, be_length]) (n := 40) (d := 27) (k := 1000027) rfl rfl (fun B' => ok_callB (Put32_fnB x.j hx.j) (fun _ _ => fresh_mono _ _) (A1 rfl)) (by decide) (by decide), fun b27 hb27 => ?_⟩
 have hBb27 := hb27.1
 have hlt_b1_b27 : b1 < b27 := hb27.2 1000001 _ _ _ rfl
 have hlt_b5_b27 : b5 < b27 := hb27.2 1000005 _ _ _ rfl
 have hlt_b6_b27 : b6 < b27 := hb27.2 1000006 _ _ _ rfl
 have hlt_b17_b27 : b17 < b27 := hb27.2 1000017 _ _ _ rfl
 have hlt_b22_b27 : b22 < b27 := hb27.2 1000022 _ _ _ rfl
 refine TF 4 (RN ?_);refine ⟨_, eff_callL1 (n := 40) (vs := [.slice (some ⟨b27,0, none⟩) (be 4 x.j : List UInt8).length (be 4 x.j : List UInt8).length]) (us := [ptr b6, ptr b5]) (write_fnL 1000006 1000005 1000017 1000027 w₀.heap.size b6 b5 b17 b27 (NodT.sz x.l.toNat) ([] ++ [x.l]) (be 4 x.j) (by rw [be_length]; decide) (by have := sz_le x.l.toNat; simp [be_length]; omega) (by have := sz_le x.l.toNat; omega) hBb6 hBb17 hlt_b17_b27) rfl (A1 rfl) (subL_M (Sv [1000006,1000005,1000017,1000027] rfl) (vbL_cons (vL rfl) (vbL_cons (vL rfl) (vbL_cons (vL rfl) (vbL_cons (vL rfl) vbL_nil))))) (vbL_cons (vL rfl) (vbL_cons (vL rfl) vbL_nil)) (gsL_cons (k := 1000006) hBb6 rfl (gsL_cons (k := 1000017) hBb17 rfl gsL_nil)) (by decide) (by decide) (LeftL.cons (LT 1000001 rfl (LT 1000005 rfl (LT 1000022 rfl (LT 1000027 rfl (LQ 1900001 rfl (LW [1,5,7] rfl)))))) (LeftL.one (LT 1000001 rfl (LT 1000005 rfl (LB 1000022 rfl (LB 1000027 rfl (LQ 1900001 rfl (LW [1,5,7] rfl)))))))), ?_⟩
 refine TL (RN (QS (GT (RL 1000001 U57 rfl rfl (size57.of (hx.len)) ?_))));refine RS (ok_call (isGroup_y x hx h0) (A1 rfl)) ?_;refine RN (A.yes rfl ?_);refine GE (TF 3 (RS (ok_field field57_2 (by decide) rfl) ?_));refine RS (ok_loadP (s := 1000001) (by decide) U52 rfl size52 rfl rfl (by rw [hx.len]; decide) (hx.getR)) ?_;refine RVN 1 rfl ?_;refine ⟨_, eff_callL1 (n := 40) (vs := [aggV (recsV x.R), .func (.func 133) #[] #[], .func (.func 130) #[] #[ptr b6, ptr b5]]) (us := []) (putR_fnL 1000006 1000005 1000017 w₀.heap.size b6 b5 b17 (NodT.sz x.l.toNat) ([] ++ [x.l] ++ be 4 x.j) x.R hx.lr hx.fr (hk5.2.1 h0).2 (by unfold NodT.sz; simp [be_length, h0]) (by have := sz_le x.l.toNat; omega) hBb6 hBb17) rfl (A3 rfl rfl rfl) (subL_M (Sv [1000006,1000005,1000017] rfl) (vbL_cons (vL rfl) (vbL_cons (vL rfl) (vbL_cons (vL rfl) vbL_nil)))) (vbL_cons (vL rfl) (vbL_cons (vL rfl) vbL_nil)) (gsL_cons (k := 1000006) hBb6 rfl (gsL_cons (k := 1000017) hBb17 rfl gsL_nil)) (by decide) (by decide) (LeftL.cons (LV 5 rfl (LT 1000001 rfl (LT 1000005 rfl (LT 1000022 rfl (LT 1000027 rfl (LQ 1900001 rfl LN)))))) (LeftL.one (LV 5 rfl (LT 1000001 rfl (LT 1000005 rfl (LB 1000022 rfl (LB 1000027 rfl (LQ 1900001 rfl LN)))))))), ?_⟩
 refine TL (RN (EN (GT (RLV 1000005 U23 rfl rfl rfl ?_))));refine RVN 2 rfl ?_;refine A.ret ?_;exact End.newTT (kg := 1000017) rfl rfl rfl rfl hBb17 rfl (by rw [wrt_full (by rw [bl_R h0, hx.bl_length]), bl_R h0])
set_option maxHeartbeats 2000000 in
theorem nPut_EB (x : NodT) (hx : x.Fit) (hk : x.ck = 0) (h0 : ¬ x.l.toNat = 0) : FnMB Tryz.prog 106 tabS [.v (aggV x.v)] (fun B => newD B 5 (fun b => .tuple #[.slice (some ⟨b, 0, none⟩) (NodT.sz x.l.toNat) (NodT.sz x.l.toNat), .int .i64 0]) (x.bl.map byteV)) := by
 have hk5 := NodT.ck_ok hk
 have hl5 := hk5.1
 refine FnMB.of Tryz.func106 rfl (by kernel_rfl) Tryz.ntmps106 (by simp) (by decide) (fun w => [(0, .v (aggV x.v)), (1900001, tab 1 (sizV))]) (fun w => (StartM.v rfl (StartM.m (by simp [tabS]) (by decide) StartM.nil))) fun w₀ hM => ?_
 have htab := tabS_hi hM
 refine GS (TN 0 (RN ?_));refine ZB 1000001 rfl fun b1 ⟨hBb1, hb1⟩ => ?_
 refine TL (RVN 2 rfl ?_);refine QS (GT (RL 1000001 U57 rfl rfl (size57.of (hx.len)) ?_));refine RS (ok_call (nCheck_fn x hx) (A1 rfl)) ?_;refine RZ (.int .i64 0) (by rw [hk]) ?_;refine RVN 1 rfl ?_;refine GT (RV 2 rfl ?_);refine RF ?_;refine RN (A.no rfl ?_);refine QK (GS (TN 4 (RS (ok_field field57_0 (by decide) rfl) ?_)));refine RLV 1000001 U5 rfl rfl rfl ?_;refine RS (ok_index0 x.l.toNat U200 info3 rfl rfl rfl (by omega)) ?_;refine RS (ok_loadVT (s := 1900001) (by decide) U3 rfl rfl rfl (siz_get (by omega))) ?_;refine RN ?_;refine ⟨_, _, eff_nameF (c := (NodT.sz x.l.toNat)) (by simp) (n := 40) (d := 17) (k := 1000017) rfl rfl (fun B' => ok_make (NodT.sz x.l.toNat) U23 info5 (by decide) rfl rfl rfl rfl rfl (by have := sz_le x.l.toNat; omega)) (by decide) (by decide), fun b17 hb17 => ?_⟩
 have hBb17 := hb17.1
 have hlt_b1_b17 : b1 < b17 := hb17.2 1000001 _ _ _ rfl
 refine TN 5 (RN ?_);refine ZN 1000005 zero23 fun b5 ⟨hBb5, hb5⟩ => ?_
 refine TN 6 (RN ?_);refine ZN 1000006 zero3 fun b6 ⟨hBb6, hb6⟩ => ?_
 refine TF 7 (RN ?_);refine ⟨_, eff_storeS (n := 40) (s := 1000005) info23 rfl rfl rfl hBb5 rfl (by simp) (LT 1000001 rfl (LT 1000006 rfl (LT 1000017 rfl (LQ 1900001 rfl (LW [1,5,6] rfl))))), ?_⟩
 refine TF 8 (RN ?_);refine ⟨_, eff_storeS (n := 40) (s := 1000006) info3 rfl rfl rfl hBb6 rfl (by simp) (LT 1000001 rfl (LT 1000005 rfl (LT 1000017 rfl (LQ 1900001 rfl (LW [1,5,6] rfl))))), ?_⟩
 refine TL (RN (A.sub (KC 1 rfl (KC 5 rfl (KC 6 rfl (KC 1000001 rfl (KC 1000005 rfl (KE 1000006 rfl (show _ = blk b6 3 [nI ([] : List UInt8).length] from rfl) (KE 1000017 rfl (show _ = blk b17 5 (wrt (NodT.sz x.l.toNat) []) from congrArg _ (wrt_zero _).symm) (KC 1900001 rfl KN)))))))) ?_));refine GT (RS (ok_makeFuncN [ptr b6, ptr b5] ⟨rfl, rfl, trivial⟩) ?_);refine RVN 1 rfl ?_;refine GS (TN 3 (RM rfl ?_));refine RS (ok_field field57_0 (by decide) rfl) ?_;refine RLV 1000001 U5 rfl rfl rfl ?_;refine RN ?_;refine ZM 1000022 (fun B' => ok_build1B U23 info5 rfl rfl) rfl fun b22 ⟨hBb22, hb22⟩ => ?_
 have hlt_b1_b22 := hb22 1000001 b1 _ _ rfl
 have hlt_b5_b22 := hb22 1000005 b5 _ _ rfl
 have hlt_b6_b22 := hb22 1000006 b6 _ _ rfl
 have hlt_b17_b22 := hb22 1000017 b17 _ _ rfl
 refine TF 4 (RN ?_);refine ⟨_, eff_callL1 (n := 40) (vs := [.slice (some ⟨b22,0, none⟩) ([x.l] : List UInt8).length ([x.l] : List UInt8).length]) (us := [ptr b6, ptr b5]) (write_fnL 1000006 1000005 1000017 1000022 w₀.heap.size b6 b5 b17 b22 (NodT.sz x.l.toNat) (([] : List UInt8)) ([x.l]) (by rw [show [x.l].length = 1 from rfl]; decide) (by have := sz_le x.l.toNat; simp [be_length]; omega) (by have := sz_le x.l.toNat; omega) hBb6 hBb17 hlt_b17_b22) rfl (A1 rfl) (subL_M (Sv [1000006,1000005,1000017,1000022] rfl) (vbL_cons (vL rfl) (vbL_cons (vL rfl) (vbL_cons (vL rfl) (vbL_cons (vL rfl) vbL_nil))))) (vbL_cons (vL rfl) (vbL_cons (vL rfl) vbL_nil)) (gsL_cons (k := 1000006) hBb6 rfl (gsL_cons (k := 1000017) hBb17 rfl gsL_nil)) (by decide) (by decide) (LeftL.cons (LT 1000001 rfl (LT 1000005 rfl (LT 1000022 rfl (LQ 1900001 rfl (LW [1,5,7] rfl))))) (LeftL.one (LT 1000001 rfl (LT 1000005 rfl (LB 1000022 rfl (LQ 1900001 rfl (LW [1,5,7] rfl))))))), ?_⟩
 refine TL (RN (A.sub (KC 1 rfl (KC 5 rfl (KC 7 rfl (KC 1000001 rfl (KC 1000005 rfl (KC 1000006 rfl (KE 1000017 rfl (rfl) (KC 1000022 rfl (KC 1900001 rfl KN))))))))) ?_));refine GS (TN 3 (RM rfl ?_));refine RS (ok_field field57_1 (by decide) rfl) ?_;refine RLV 1000001 U46 rfl rfl rfl ?_;refine RN ?_;refine ⟨_, _, eff_nameF (c := 4) (by rw [List.length_map, be_length]) (n := 40) (d := 27) (k := 1000027) rfl rfl (fun B' => ok_callB (Put32_fnB x.j hx.j) (fun _ _ => fresh_mono _ _) (A1 rfl)) (by decide) (by decide), fun b27 hb27 => ?_⟩
 have hBb27 := hb27.1
 have hlt_b1_b27 : b1 < b27 := hb27.2 1000001 _ _ _ rfl
 have hlt_b5_b27 : b5 < b27 := hb27.2 1000005 _ _ _ rfl
 have hlt_b6_b27 : b6 < b27 := hb27.2 1000006 _ _ _ rfl
 have hlt_b17_b27 : b17 < b27 := hb27.2 1000017 _ _ _ rfl
 have hlt_b22_b27 : b22 < b27 := hb27.2 1000022 _ _ _ rfl
 refine TF 4 (RN ?_);refine ⟨_, eff_callL1 (n := 40) (vs := [.slice (some ⟨b27,0, none⟩) (be 4 x.j : List UInt8).length (be 4 x.j : List UInt8).length]) (us := [ptr b6, ptr b5]) (write_fnL 1000006 1000005 1000017 1000027 w₀.heap.size b6 b5 b17 b27 (NodT.sz x.l.toNat) ([] ++ [x.l]) (be 4 x.j) (by rw [be_length]; decide) (by have := sz_le x.l.toNat; simp [be_length]; omega) (by have := sz_le x.l.toNat; omega) hBb6 hBb17 hlt_b17_b27) rfl (A1 rfl) (subL_M (Sv [1000006,1000005,1000017,1000027] rfl) (vbL_cons (vL rfl) (vbL_cons (vL rfl) (vbL_cons (vL rfl) (vbL_cons (vL rfl) vbL_nil))))) (vbL_cons (vL rfl) (vbL_cons (vL rfl) vbL_nil)) (gsL_cons (k := 1000006) hBb6 rfl (gsL_cons (k := 1000017) hBb17 rfl gsL_nil)) (by decide) (by decide) (LeftL.cons (LT 1000001 rfl (LT 1000005 rfl (LT 1000022 rfl (LT 1000027 rfl (LQ 1900001 rfl (LW [1,5,7] rfl)))))) (LeftL.one (LT 1000001 rfl (LT 1000005 rfl (LB 1000022 rfl (LB 1000027 rfl (LQ 1900001 rfl (LW [1,5,7] rfl)))))))), ?_⟩
 refine TL (RN (QS (GT (RL 1000001 U57 rfl rfl (size57.of (hx.len)) ?_))));refine RS (ok_call (isGroup_n x hx h0) (A1 rfl)) ?_;refine RN (A.no rfl ?_);refine GE (TF 3 (RS (ok_field field57_3 (by decide) rfl) ?_));refine RS (ok_loadP (s := 1000001) (by decide) U55 rfl size55 rfl rfl (by rw [hx.len]; decide) (hx.getE)) ?_;refine RVN 1 rfl ?_;refine ⟨_, eff_callL1 (n := 40) (vs := [aggV (entsV x.E), .func (.func 135) #[] #[], .func (.func 130) #[] #[ptr b6, ptr b5]]) (us := []) (putE_fnL 1000006 1000005 1000017 w₀.heap.size b6 b5 b17 (NodT.sz x.l.toNat) ([] ++ [x.l] ++ be 4 x.j) x.E hx.le hx.fe (hk5.2.2 h0).2 (by unfold NodT.sz; simp [be_length, h0]) (by have := sz_le x.l.toNat; omega) hBb6 hBb17) rfl (A3 rfl rfl rfl) (subL_M (Sv [1000006,1000005,1000017] rfl) (vbL_cons (vL rfl) (vbL_cons (vL rfl) (vbL_cons (vL rfl) vbL_nil)))) (vbL_cons (vL rfl) (vbL_cons (vL rfl) vbL_nil)) (gsL_cons (k := 1000006) hBb6 rfl (gsL_cons (k := 1000017) hBb17 rfl gsL_nil)) (by decide) (by decide) (LeftL.cons (LV 5 rfl (LT 1000001 rfl (LT 1000005 rfl (LT 1000022 rfl (LT 1000027 rfl (LQ 1900001 rfl LN)))))) (LeftL.one (LV 5 rfl (LT 1000001 rfl (LT 1000005 rfl (LB 1000022 rfl (LB 1000027 rfl (LQ 1900001 rfl LN)))))))), ?_⟩
 refine TL (RN (EN (GT (RLV 1000005 U23 rfl rfl rfl ?_))));refine RVN 2 rfl ?_;refine A.ret ?_;exact End.newTT (kg := 1000017) rfl rfl rfl rfl hBb17 rfl (by rw [wrt_full (by rw [bl_E h0, hx.bl_length]), bl_E h0])
theorem nPut_okB (x : NodT) (hx : x.Fit) (hk : x.ck = 0) : FnMB Tryz.prog 106 tabS [.v (aggV x.v)] (fun B => newD B 5 (fun b => .tuple #[.slice (some ⟨b, 0, none⟩) (NodT.sz x.l.toNat) (NodT.sz x.l.toNat), .int .i64 0]) (x.bl.map byteV)) := by
 by_cases h0 : x.l.toNat = 0
 ·exact nPut_RB x hx hk h0
 ·exact nPut_EB x hx hk h0
theorem nPut_ok (x : NodT) (hx : x.Fit) (hk : x.ck = 0) : FnM Tryz.prog 106 tabS [.v (aggV x.v)] (tup [bytes x.bl (NodT.sz x.l.toNat), .v (.int .i64 0)]) :=
 (nPut_okB x hx hk).fn fun B => newD_tup hx.bl_length (by have := sz_le x.l.toNat; simp only [maxLen]; omega)
end
section
inductive FromN (ops : Array Oper) (vals : List Value) (E0 : Env) (o : Oper) : Env → Prop
 | nil : FromN ops vals E0 o []
 | all : FromN ops vals E0 o E0
 | base {t : Nat} {d : D} {E : Env} (h : E0.look t = some d) (hr : FromN ops vals E0 o E) : FromN ops vals E0 o ((t, d) :: E)
 | op {t : Nat} {v : Value} {E : Env} (j : Nat) (he : (o.after.any fun e => Region.binds .any e && e.on == j) = true) (hd : (ops[j]?).bind (·.dst) = some t) (hv : vals[j]? = some v) (hr : FromN ops vals E0 o E) : FromN ops vals E0 o ((t, .v v) :: E)
inductive FromE (ops : Array Oper) (vals : List Value) (E0 : Env) : Env → Prop
 | nil : FromE ops vals E0 []
 | all : FromE ops vals E0 E0
 | base {t : Nat} {d : D} {E : Env} (h : E0.look t = some d) (hr : FromE ops vals E0 E) : FromE ops vals E0 ((t, d) :: E)
 | op {t : Nat} {v : Value} {E : Env} (j : Nat) (hd : (ops[j]?).bind (·.dst) = some t) (hv : vals[j]? = some v) (hr : FromE ops vals E0 E) : FromE ops vals E0 ((t, .v v) :: E)
def downsN (ops : Array Oper) : Bool := (List.range ops.size).all fun i => match ops[i]? with
 | none => false
 | some o => o.guard.isNone && o.after.all (fun e => !Region.binds .any e || decide (e.on < i)) && (List.range ops.size).all fun j => match ops[j]? with
  | none => false
  | some q => j == i || o.dst == none || o.dst != q.dst
section
variable {P : Program} {n B : Nat} {ops : Array Oper} {κ : Cx} {Q : Exit → Act → World → Prop} {vals : List Value} {E0 : Env}
theorem downs_get (h : downsN ops = true) {i : Nat} {o : Oper} (hi : ops[i]? = some o) : o.guard = none ∧ (∀ e ∈ o.after, Region.binds .any e = true → e.on < i) ∧ ∀ j q, ops[j]? = some q → j ≠ i → o.dst ≠ none → o.dst ≠ q.dst := by
 have hlt : i < ops.size := (Array.getElem?_eq_some_iff.1 hi).1
 have h1 := List.all_eq_true.1 h i (List.mem_range.2 hlt)
 simp only [hi, Bool.and_eq_true] at h1
 refine ⟨by simpa using h1.1.1, fun e he hb => ?_, fun j q hj hne hnn => ?_⟩
 ·have h2 := Array.all_eq_true_iff_forall_mem.1 h1.1.2 e he
  simpa [hb] using h2
 ·have h3 := List.all_eq_true.1 h1.2 j (List.mem_range.2 (Array.getElem?_eq_some_iff.1 hj).1)
  simp only [hj, Bool.or_eq_true, beq_iff_eq, bne_iff_ne, ne_eq] at h3
  rcases h3 with (h3 | h3) | h3
  ·exact absurd h3 hne
  ·exact absurd h3 hnn
  ·exact h3
end
end
end Go.Proofs.YtmkpekmhhbcifaaGreatDoor
