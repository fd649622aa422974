/-
  OWN WORDS: strings cut, compared and asked for; rows of structs that grow in their own room; results of three parts; contracts out of calls. Nothing of one program stands here.
-/
import Derived.Test.YtdnblilocdddpaaPredF
import Derived.Test.YtdnblilocdddpaaScope
namespace Go.Proofs.Ytdnblilocdddpaa
open Go Go.RowKit
set_option linter.unusedVariables false
set_option linter.unusedSimpArgs false
variable {κ : Cx}
theorem Fn.exact1 {P : Program} {f : FuncId} {x r : Value} (hb : HasBody P f) (h : ∀ w, Calls P f #[x] w fun e w' => e = .returned r ∧ Grow w w') : Fn P f [.v x] (.v r) := by
  refine ⟨hb, fun vs w hl hv => ?_⟩
  obtain ⟨a, rfl⟩ : ∃ a, vs = [a] := by
    rcases vs with _ | ⟨a, _ | ⟨b, r⟩⟩
    · cases hl
    · exact ⟨a, rfl⟩
    · simp at hl
  have ha : a = x := hv 0 _ _ rfl rfl
  subst ha
  exact (h w).mono fun e w' ⟨he, hg⟩ => ⟨r, he, hg, rfl⟩
theorem Fn.exact2 {P : Program} {f : FuncId} {x y r : Value} (hb : HasBody P f) (h : ∀ w, Calls P f #[x, y] w fun e w' => e = .returned r ∧ Grow w w') : Fn P f [.v x, .v y] (.v r) := by
  refine ⟨hb, fun vs w hl hv => ?_⟩
  obtain ⟨a, b, rfl⟩ : ∃ a b, vs = [a, b] := by
    rcases vs with _ | ⟨a, _ | ⟨b, _ | ⟨c, r⟩⟩⟩
    · cases hl
    · simp at hl
    · exact ⟨a, b, rfl⟩
    · simp at hl
  have ha : a = x := hv 0 _ _ rfl rfl
  have hb' : b = y := hv 1 _ _ rfl rfl
  subst ha; subst hb'
  exact (h w).mono fun e w' ⟨he, hg⟩ => ⟨r, he, hg, rfl⟩
def strV (l : List UInt8) : Value := .string ⟨l.toArray⟩
theorem str_size (l : List UInt8) : (⟨l.toArray⟩ : ByteArray).size = l.length := by
  show l.toArray.size = l.length
  simp
theorem str_list (l : List UInt8) : (⟨l.toArray⟩ : ByteArray).toList = l := by rw [ByteArray.toList_eq]
section
variable {P : Program} {B : Nat} {E : Env} {dst : Option Tmp} {ty : TypeId} {pos : String} {after : Array Edge} {guard : Option (Nat × Bool)}
theorem ok_lenT {t : TypeId} {x : Operand} {l : List UInt8} (ht : P.underlying t = some .string) (hx : E.at x = some (.v (strV l))) :
    OpOk P B ⟨dst, .call { callee := .builtin .len, args := #[x], argTypes := #[t] }, ty, pos, after, guard⟩ E (.v (.int .i64 (l.length : Int))) := fun ρ w _ _ hρ => by
  have h1 : ρ x = .string ⟨l.toArray⟩ := hρ x (by simp [Op.operands, Call.operands]) _ hx
  have hs : (⟨l.toArray⟩ : ByteArray).size = l.length := str_size l
  exact out_val (w' := w) (by simp [execOp, resolve, invoke, builtin, Builtin.len_, run_underlying ht, h1, goInt, hs]) ⟨Grow.refl w, rfl⟩
theorem ok_neqT0 {t t' : TypeId} {x y : Operand} {l : List UInt8} (hx : E.at x = some (.v (strV l))) (hy : E.at y = some (.v (.string ⟨#[]⟩))) :
    OpOk P B ⟨dst, .binOp .neq t x y t', ty, pos, after, guard⟩ E (.v (.bool (decide (l ≠ [])))) := by
  have hb : binV .neq (.string ⟨l.toArray⟩) (.string ⟨#[]⟩) = some (.bool (decide (l ≠ []))) := by
    show some (Value.bool (!((⟨l.toArray⟩ : ByteArray).toList == (⟨([] : List UInt8).toArray⟩ : ByteArray).toList))) = _
    rw [str_list, str_list]
    cases l <;> rfl
  exact ok_bin hx hy hb
theorem extract_take (l : List UInt8) (a b : Nat) : (⟨l.toArray⟩ : ByteArray).extract a b = ⟨((l.take b).drop a).toArray⟩ := by
  rw [ByteArray.extract_mk, List.drop_take]
theorem ok_sliceTo {t : TypeId} {x o : Operand} {l : List UInt8} {kd : IntKind} (h : Nat) (ht : P.underlying t = some .string) (hx : E.at x = some (.v (strV l))) (ho : E.at o = some (.v (.int kd (h : Int)))) (hh : h ≤ l.length) :
    OpOk P B ⟨dst, .slice t x none (some o) none, ty, pos, after, guard⟩ E (.v (strV (l.take h))) := fun ρ w _ _ hρ => by
  have h1 : ρ x = .string ⟨l.toArray⟩ := hρ x (by simp [Op.operands]) _ hx
  have h2 : ρ o = .int kd (h : Int) := hρ o (by simp [Op.operands]) _ ho
  have hs : (⟨l.toArray⟩ : ByteArray).size = l.length := str_size l
  refine out_val (x := strV (l.take h)) (w' := w) ?_ ⟨Grow.refl w, rfl⟩
  simp [execOp, h1, h2, Instr.sliceAt, Instr.slice, run_underlying ht, Instr.sliceBounds, Instr.sliceBound, asIntOf, hs, hh, extract_take, strV]
theorem ok_sliceFrom {t : TypeId} {x o : Operand} {l : List UInt8} {kd : IntKind} (h : Nat) (ht : P.underlying t = some .string) (hx : E.at x = some (.v (strV l))) (ho : E.at o = some (.v (.int kd (h : Int)))) (hh : h ≤ l.length) :
    OpOk P B ⟨dst, .slice t x (some o) none none, ty, pos, after, guard⟩ E (.v (strV (l.drop h))) := fun ρ w _ _ hρ => by
  have h1 : ρ x = .string ⟨l.toArray⟩ := hρ x (by simp [Op.operands]) _ hx
  have h2 : ρ o = .int kd (h : Int) := hρ o (by simp [Op.operands]) _ ho
  have hs : (⟨l.toArray⟩ : ByteArray).size = l.length := str_size l
  refine out_val (x := strV (l.drop h)) (w' := w) ?_ ⟨Grow.refl w, rfl⟩
  simp [execOp, h1, h2, Instr.sliceAt, Instr.slice, run_underlying ht, Instr.sliceBounds, Instr.sliceBound, asIntOf, hs, hh, extract_take, strV]
theorem ok_make0K {t e : TypeId} {x y : Operand} {z : Value} {nb sz : Nat} {k k' : IntKind} (c : Nat) (ht : P.underlying t = some (.slice e)) (hinfo : InfoP P e z sz nb) (hnb : nb ≤ 64)
    (hx : E.at x = some (.v (.int k 0))) (hy : E.at y = some (.v (.int k' (c : Int)))) (hc : c ≤ 4398046511104) :
    OpOk P B ⟨dst, .makeSlice t x y, ty, pos, after, guard⟩ E (newD B e (fun b => .slice (some ⟨b, 0, none⟩) 0 c) (madeCells z.cells (c * sz)).toList) := fun ρ w hB _ hρ => by
  obtain ⟨i, hi, hz, hs, hb⟩ := hinfo.get
  have h1 : ρ x = _ := hρ x (by simp [Op.operands]) _ hx
  have h2 : ρ y = _ := hρ y (by simp [Op.operands]) _ hy
  have hbc : i.bytes * c ≤ 64 * c := Nat.mul_le_mul_right c (by omega)
  have hr := run_make (P := P) w t e i z ht hi hz k k' 0 (c : Int) (by omega) (by omega) (by rw [← Int.natCast_mul]; omega) (by omega)
  refine out_val (x := .slice (some ⟨w.heap.size, 0, none⟩) 0 c) (w' := w.alloc (.cells (madeCells z.cells (c * i.size)) e)) ?_ ⟨Grow.alloc w _, w.heap.size, rfl, hB, by simp, ?_⟩
  · simp only [execOp, h1, h2, Sem.run_bind, hr, Result.andThen_ok, Sem.run_pure, Int.toNat_natCast]; rfl
  · rw [← hs]; exact heap_alloc_new w _
end
section
variable {P : Program} {n B : Nat} {ops : Array Oper} {E : Env} {ty : TypeId} {pos : String} {after : Array Edge}
theorem eff_appendRoom {t e : TypeId} {z : Value} {nb sz : Nat} {r x : Operand} {b k c s dst : Nat} {e' : TypeId} {xs us : List Value} {E' : Env} (ht : P.underlying t = some (.slice e)) (hinfo : InfoP P e z sz nb)
    (hr : E.at r = some (.v (.slice (some ⟨b, 0, none⟩) k c))) (hx : E.at x = some (oneP us)) (hu : us.length = sz) (h1 : us.all (·.oneCell') = true) (hkc : k < c) (hb : B ≤ b) (hblk : E.look s = some (blk b e' xs)) (hfit : c * sz ≤ xs.length) (hnt : ∀ q, P.underlying t ≠ some (.int q)) (hdst : dst < n) (hl : LeftS B e' b E' E) :
    Eff P n B ops ⟨some dst, .call { callee := .builtin .append, args := #[r, x], argTypes := #[t, t] }, ty, pos, after, none⟩ E ((dst, .v (.slice (some ⟨b, 0, none⟩) (k + 1) c)) :: (s, blk b e' (xs.take (k * sz) ++ us ++ xs.drop (k * sz + sz))) :: E') := by
  subst hu
  obtain ⟨i, hi, _, hs, _⟩ := hinfo.get
  intro κ a w K Q h hK
  have hre : a.eval r = _ := h.at_ r _ hr
  obtain ⟨ad, hxe, _, hcell⟩ := h.at_ x _ hx
  obtain ⟨hlt, hh⟩ := h.of s _ hblk
  have hload := run_loadCells_list (P := P) w ad us hcell
  have hkf : k * us.length + us.length ≤ c * us.length := by
    have : (k + 1) * us.length ≤ c * us.length := Nat.mul_le_mul_right _ hkc
    rwa [Nat.add_mul, Nat.one_mul] at this
  have hst := run_storeCells_at P b (k * us.length) e' us 0 xs.toArray w hh (by simp; omega) (fun v hv => List.all_eq_true.1 h1 v hv)
  have haddr : (⟨b, 0, none⟩ : Addr).add (k * us.length) = ⟨b, k * us.length, none⟩ := by unfold Addr.add; split <;> simp_all
  have hrun : (Builtin.append_ #[t, t] ty #[a.eval r, a.eval x]).run P w = .ok (.slice (some ⟨b, 0, none⟩) (k + 1) c) (w.setRow b (xs.take (k * us.length) ++ us ++ xs.drop (k * us.length + us.length)).toArray) := by
    rw [hre, hxe]
    simp only [Nat.add_zero] at hst
    simp [Builtin.append_, run_underlying ht, Builtin.lenOf, Builtin.firstCells, sizeOf, typeInfo, hi, hs, haddr, hload]
    rw [if_pos (by omega)]
    simp [hst]
  have hexec : (execOp a.eval ⟨some dst, .call { callee := .builtin .append, args := #[r, x], argTypes := #[t, t] }, ty, pos, after, none⟩).run P w = .ok (.value (.slice (some ⟨b, 0, none⟩) (k + 1) c)) (w.setRow b (xs.take (k * us.length) ++ us ++ xs.drop (k * us.length + us.length)).toArray) := by
    simp [execOp, resolve, invoke, builtin, hrun]
  have hwr : Wrote B e' b w (w.setRow b (xs.take (k * us.length) ++ us ++ xs.drop (k * us.length + us.length)).toArray) := Wrote.setRow hb hh _
  rw [if_pos (by simp [Region.wanted])]
  refine opR (by nofun) ?_
  unfold Oper.wp
  rw [hexec, Oper.upon_value]
  exact hK _ _ (hwr.below h.base) (St.put ((hl.st h hwr).push (d := blk b e' (xs.take (k * us.length) ++ us ++ xs.drop (k * us.length + us.length))) ⟨by simpa [World.setRow] using hlt, by simp [World.setRow, Array.getElem?_modify, hh]⟩) hdst rfl)
end
section
variable {P : Program} {n : Nat} {w₀ : World} {E : Env}
theorem End.ret3V {fn : Func} {r s t : Nat} {u v x : Value} (hr : fn.results = #[.tmp r, .tmp s, .tmp t]) (h1 : E.look r = some (.v u)) (h2 : E.look s = some (.v v)) (h5 : E.look t = some (.v x)) : End Cx.top w₀ n E (BP P fn (PostOf w₀ (.v (.tuple #[u, v, x]))) .ret) := fun a w gr hs => by
  have h3 : a.tmps[r]?.getD undef = u := by rw [← Array.getD_eq_getD_getElem?]; exact hs.of r _ h1
  have h4 : a.tmps[s]?.getD undef = v := by rw [← Array.getD_eq_getD_getElem?]; exact hs.of s _ h2
  have h6 : a.tmps[t]?.getD undef = x := by rw [← Array.getD_eq_getD_getElem?]; exact hs.of t _ h5
  exact BP.ret hs.defers ⟨.tuple #[u, v, x], by simp [results, hr, h3, h4, h6], _, rfl, gr, rfl⟩
theorem End.cellVV {fn : Func} {r s b r' r'' : Nat} {T e' : TypeId} {td : TypeDesc} {ys : List Value} {v' v'' : Value} (hr : fn.results = #[.cell r T, .tmp r', .tmp r'']) (ht : P.underlying T = some td) (hp : (match td with | .struct _ | .array _ _ => true | _ => false) = true) (hsz : SizeIs P T ys.length)
    (h1 : E.look r = some (.v (.pointer (some ⟨b, 0, none⟩)))) (h2 : E.look s = some (blk b e' ys)) (h5 : E.look r' = some (.v v')) (h7 : E.look r'' = some (.v v'')) : End Cx.top w₀ n E (BP P fn (PostOf w₀ (.v (.tuple #[aggV ys, v', v'']))) .ret) := fun a w gr hs => by
  have h3 : a.tmps[r]?.getD undef = .pointer (some ⟨b, 0, none⟩) := by rw [← Array.getD_eq_getD_getElem?]; exact hs.of r _ h1
  have h6 : a.tmps[r']?.getD undef = v' := by rw [← Array.getD_eq_getD_getElem?]; exact hs.of r' _ h5
  have h8 : a.tmps[r'']?.getD undef = v'' := by rw [← Array.getD_eq_getD_getElem?]; exact hs.of r'' _ h7
  obtain ⟨_, hh⟩ := hs.of s _ h2
  exact BP.ret hs.defers ⟨.tuple #[aggV ys, v', v''], by simp [results, hr, h3, h6, h8, asAddr, load_cell ht hp hsz hh], _, rfl, gr, rfl⟩
theorem End.newVV {fn : Func} {r s b g kg r' r'' : Nat} {T e' e : TypeId} {td : TypeDesc} {ys zs xs : List Value} {v' v'' : Value} {val : Nat → Value} (hr : fn.results = #[.cell r T, .tmp r', .tmp r'']) (ht : P.underlying T = some td) (hp : (match td with | .struct _ | .array _ _ => true | _ => false) = true) (hsz : SizeIs P T ys.length)
    (h1 : E.look r = some (.v (.pointer (some ⟨b, 0, none⟩)))) (h2 : E.look s = some (blk b e' ys)) (h5 : E.look r' = some (.v v')) (h7 : E.look r'' = some (.v v'')) (h4 : E.look kg = some (blk g e zs)) (hg : w₀.heap.size ≤ g) (hv : val g = .tuple #[aggV ys, v', v'']) (hz : zs = xs) :
    End Cx.top w₀ n E (BP P fn (PostOf w₀ (newD w₀.heap.size e val xs)) .ret) := fun a w gr hs => by
  subst hz
  have h3 : a.tmps[r]?.getD undef = .pointer (some ⟨b, 0, none⟩) := by rw [← Array.getD_eq_getD_getElem?]; exact hs.of r _ h1
  have h6 : a.tmps[r']?.getD undef = v' := by rw [← Array.getD_eq_getD_getElem?]; exact hs.of r' _ h5
  have h8 : a.tmps[r'']?.getD undef = v'' := by rw [← Array.getD_eq_getD_getElem?]; exact hs.of r'' _ h7
  obtain ⟨_, hh⟩ := hs.of s _ h2
  obtain ⟨hl', hh'⟩ := hs.of kg _ h4
  exact BP.ret hs.defers ⟨.tuple #[aggV ys, v', v''], by simp [results, hr, h3, h6, h8, asAddr, load_cell ht hp hsz hh], _, rfl, gr, g, hv.symm, hg, hl', hh'⟩
end
end Go.Proofs.Ytdnblilocdddpaa
