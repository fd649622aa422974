/-
  OWN WORDS, SHORTER: what generated proofs say most often, under short names (a script puts them in: short.py). Nothing of one program stands here.
-/
import Derived.Test.YtdnblilocdddpaaOps4
namespace Go.Proofs.Ytdnblilocdddpaa
open Go Go.RowKit
set_option linter.unusedVariables false
variable {κ : Cx}
abbrev nI (n : Nat) : Value := .int .i64 (n : Int)
abbrev nB (n : Nat) : Value := .int .u8 (n : Int)
abbrev nW (n : Nat) : Value := .int .u32 (n : Int)
abbrev nQ (n : Nat) : Value := .int .u64 (n : Int)
section
variable {P : Program} {B n : Nat} {ops : Array Oper} {E E' : Env} {C : Env → Prop} {rest : List Oper} {t : Nat} {d : D} {ty : TypeId} {pos : String} {after : Array Edge} {o : Oper} {x y c : Operand} {s : Nat}
theorem KC (t : Nat) {d : D} (h : E.look t = some d) (hs : Sub E' E) : Sub ((t, d) :: E') E := Sub.cons h hs
theorem KE (t : Nat) {d e : D} (h : E.look t = some e) (he : e = d) (hs : Sub E' E) : Sub ((t, d) :: E') E := Sub.eq e h he hs
theorem KN : Sub [] E := Sub.nil
section
variable {T g : Nat}
theorem LV (t : Nat) {v : Value} (h : E.look t = some (.v v)) (hr : LeftS B T g E' E) : LeftS B T g ((t, .v v) :: E') E := LeftS.cons h (Surv.v _) hr
theorem LT (t : Nat) {b : Nat} {e : TypeId} {xs : List Value} (h : E.look t = some (blk b e xs)) (hr : LeftS B T g E' E) (hne : e ≠ T := by decide) : LeftS B T g ((t, blk b e xs) :: E') E := LeftS.cons h (Surv.blkT hne) hr
theorem LB (t : Nat) {b : Nat} {e : TypeId} {xs : List Value} (h : E.look t = some (blk b e xs)) (hr : LeftS B T g E' E) (hne : b ≠ g := by omega) : LeftS B T g ((t, blk b e xs) :: E') E := LeftS.cons h (Surv.blk hne) hr
theorem LO (t : Nat) {B' : Nat} {d : D} (h : E.look t = some (old B' d)) (hr : LeftS B T g E' E) (hle : B' ≤ g := by omega) : LeftS B T g ((t, old B' d) :: E') E := LeftS.cons h (Surv.old hle) hr
theorem LN : LeftS B T g [] E := LeftS.nil
end
/-- The next operation's value. -/
theorem RS (h : OpOk P B o E d) (hr : RunK P B ops rest ((t, d) :: E) C) (ht : o.dst = some t := by exact rfl) (hg : o.guard = none := by exact rfl) : RunK P B ops (o :: rest) E C := RunK.step ht hg h hr
theorem RM (h : E.at x = some d) (hr : RunK P B ops rest ((t, d) :: E) C) : RunK P B ops (⟨some t, .move x, ty, pos, after, none⟩ :: rest) E C := RunK.step rfl rfl (ok_move h) hr
theorem RA (h : E.at x = some d) (hr : RunK P B ops rest ((t, d) :: E) C) : RunK P B ops (⟨some t, .assign x, ty, pos, after, none⟩ :: rest) E C := RunK.step rfl rfl (ok_assign h) hr
theorem RB {op : BinOp} {u u' : TypeId} {a b v : Value} (hx : E.at x = some (.v a)) (hy : E.at y = some (.v b)) (h : binV op a b = some v) (hr : RunK P B ops rest ((t, .v v) :: E) C) : RunK P B ops (⟨some t, .binOp op u x y u', ty, pos, after, none⟩ :: rest) E C := RunK.step rfl rfl (ok_bin hx hy h) hr
theorem RBS {op : BinOp} {u u' : TypeId} {a b v : Value} (hx : E.at x = some (.v a)) (hy : E.at y = some (.v b)) (h : binV op a b = some v) (w : Value) (hw : v = w) (hr : RunK P B ops rest ((t, .v w) :: E) C) : RunK P B ops (⟨some t, .binOp op u x y u', ty, pos, after, none⟩ :: rest) E C := RunK.step rfl rfl (ok_bin hx hy h) (RunK.as w hw hr)
theorem RP {b : Bool} (hc : E.at c = some (.v (.bool b))) (h : E.at (cond b x y) = some d) (hr : RunK P B ops rest ((t, d) :: E) C) : RunK P B ops (⟨some t, .pick c x y, ty, pos, after, none⟩ :: rest) E C := RunK.step rfl rfl (ok_pick hc h) hr
theorem RQ {j : Nat} {want : Bool} (h : OpOk P B o E d) (hr : RunK P B ops rest ((t, d) :: E) C) (ht : o.dst = some t := by exact rfl) (hg : o.guard = some (j, want) := by exact rfl) (hj : ((ops[j]?).bind (·.dst)) = some s := by exact rfl) (hE : E.look s = some (.v (.bool want)) := by exact rfl) : RunK P B ops (o :: rest) E C := RunK.guarded ht hg hj hE h hr
theorem RK {j : Nat} {want b : Bool} (hr : RunK P B ops rest ((t, .v undef) :: E) C) (ht : o.dst = some t := by exact rfl) (hg : o.guard = some (j, want) := by exact rfl) (hj : ((ops[j]?).bind (·.dst)) = some s := by exact rfl) (hE : E.look s = some (.v (.bool b)) := by exact rfl) (hc : (b == want) = false := by exact rfl) : RunK P B ops (o :: rest) E C := RunK.skipped ht hg hj hE hc hr
theorem RZ (x : Value) {y : Value} (h : y = x) (hr : RunK P B ops rest ((t, .v x) :: E) C) : RunK P B ops rest ((t, .v y) :: E) C := RunK.as x h hr
theorem RN (h : C E) : RunK P B ops [] E C := RunK.nil h
theorem TL {draw : Bool} {s : Nat} (h : RunK P B ops (ops.toList.drop s) E C) : RunTK P n B ops draw C s E := RunTK.last h
theorem TF {s : Nat} (p : Nat) (h : RunK P B ops ((ops.toList.drop s).take (p - s)) E (fun E₁ => ∃ E₂, Eff P n B ops o E₁ E₂ ∧ RunTK P n B ops false C (p + 1) E₂)) (hsp : s ≤ p := by decide) (ho : ops[p]? = some o := by exact rfl) : RunTK P n B ops false C s E := RunTK.eff p hsp ho (.inl rfl) h
theorem TD {s : Nat} (p : Nat) (h : RunK P B ops ((ops.toList.drop s).take (p - s)) E (fun E₁ => ∃ E₂, Eff P n B ops o E₁ E₂ ∧ RunTK P n B ops true C (p + 1) E₂)) (hsp : s ≤ p := by decide) (ho : ops[p]? = some o := by exact rfl) (hb : barrier ops p = true := by kernel_rfl) : RunTK P n B ops true C s E := RunTK.eff p hsp ho (.inr hb) h
theorem TN {s : Nat} (p : Nat) (h : RunK P B ops ((ops.toList.drop s).take (p - s)) E (fun E₁ => ∃ (G : Nat → Prop) (E₂ : Nat → Env), EffG P n B ops o E₁ G E₂ ∧ ∀ b, G b → RunTK P n B ops false C (p + 1) (E₂ b))) (hsp : s ≤ p := by decide) (ho : ops[p]? = some o := by exact rfl) : RunTK P n B ops false C s E := RunTK.new p hsp ho (.inl rfl) h
theorem A1 {a : D} {xs : Operand} (h : E.at xs = some a) : Args E [a] [xs] := Args.cons h (Le.refl _) Args.nil
theorem A2 {a b : D} {x y : Operand} (h : E.at x = some a) (k : E.at y = some b) : Args E [a, b] [x, y] := Args.cons h (Le.refl _) (A1 k)
theorem A3 {a b c : D} {x y z : Operand} (h : E.at x = some a) (k : E.at y = some b) (l : E.at z = some c) : Args E [a, b, c] [x, y, z] := Args.cons h (Le.refl _) (A2 k l)
end
section
variable {P : Program} {n : Nat} {w₀ : World} {E E₁ : Env} {y c : Code} {Q : Exit → Act → World → Prop} {id : Nat} {ops : Array Oper}
theorem GS (hr : RunTK P n w₀.heap.size ops false (fun E₁ => A κ P w₀ n y E₁ Q) 0 E) (hm : P.follows .mixedOrders = true := by kernel_rfl) (hf : fits n ops = true := by kernel_rfl) : A κ P w₀ n (.seq (.region id ops false) y) E Q := A.regs hm hf (.inl rfl) hr
theorem GD (hr : RunTK P n w₀.heap.size ops true (fun E₁ => A κ P w₀ n y E₁ Q) 0 E) (hm : P.follows .mixedOrders = true := by kernel_rfl) (hf : fits n ops = true := by kernel_rfl) (ht : tied ops = true := by kernel_rfl) : A κ P w₀ n (.seq (.region id ops true) y) E Q := A.regs hm hf (.inr ht) hr
theorem EN (h : A κ P w₀ n y E Q) : End κ w₀ n E (Exit.then (y.wpIn (FR κ.rd) 0 P Q) Q .normal) := End.normal_then (End.code h)
theorem GE (hr : RunTK P n w₀.heap.size ops false (fun E₁ => End κ w₀ n E₁ (Q .normal)) 0 E) (hm : P.follows .mixedOrders = true := by kernel_rfl) (hf : fits n ops = true := by kernel_rfl) : A κ P w₀ n (.region id ops false) E Q := A.reg hm hf (.inl rfl) hr
end
/-- One fact says more than another, by the usual reasons. -/
theorem LA {e d : D} (h : Le e d := by first | exact Le.refl _ | exact Le.old _ _ | exact le_byt _ _ | exact (Le.old _ _).trans (le_byt _ _) | exact le_lst _ _ | exact (Le.old _ _).trans (le_lst _ _) | exact (Le.old _ _).trans (Le.old _ _) | exact (Le.old _ _).trans ((Le.old _ _).trans (le_byt _ _)) | exact byt_nil_le | exact lst_nil_le | exact bytes_nil_le | exact list_nil_le) : Le e d := h
end Go.Proofs.Ytdnblilocdddpaa
