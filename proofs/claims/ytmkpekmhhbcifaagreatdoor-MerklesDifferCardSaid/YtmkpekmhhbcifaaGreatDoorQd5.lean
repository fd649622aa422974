/-
  OWN TEXTS of this seat, put together, part 5: LedL, LedM, Disk, CellR, Many, Tree, Big, C16a, C16e, LaidE, Leave1, C16b, C16c, C16d, Disk3, TreeB, C16f.
-/
import Derived.Test.YtmkpekmhhbcifaaGreatDoorQd0
import Derived.Test.YtmkpekmhhbcifaaGreatDoorQd4
import Derived.Test.YtmkpekmhhbcifaaGreatDoorQd2
import Derived.Test.YtmkpekmhhbcifaaGreatDoorQd3
import Derived.Test.YtmkpekmhhbcifaaGreatDoorQd1
import Derived.WideLaws
import Derived.WalkKit
import Derived.LaidEql
import Derived.Stop.Asserts
import Derived.RowKitTokens
import Derived.Test.YtmkpekmhhbcifaaGreatDoorTie
import Derived.ProofKit
import Derived.LaidMore
import Derived.LaidHandle
import Derived.Stop.Joined
namespace Go.Proofs.YtmkpekmhhbcifaaGreatDoor
set_option linter.unusedVariables false
set_option linter.unusedSimpArgs false
set_option maxRecDepth 20000
open Go Go.RowKit
section
variable {κ : Cx}
def own0 (base : Nat) (e : TypeId) : D :=
 .p (fun B w x => ∃ g, x = .slice (some ⟨g, 0, none⟩) 0 0 ∧ base ≤ g ∧ g < B ∧ w.heap[g]? = some (.cells #[] e (0,0)))
  (fun _ _ _ _ k ⟨g, h1, h2, h3, h4⟩ => ⟨g, h1, h2, h3, (k.block g h3).trans h4⟩) (fun _ _ _ _ k ⟨g, h1, h2, h3, h4⟩ => ⟨g, h1, h2, Nat.lt_of_lt_of_le h3 k, h4⟩)
section
variable {P : Program} {B : Nat} {E : Env} {dst : Option Tmp} {ty : TypeId} {pos : String} {after : Array Edge} {guard : Option (Nat × Bool)}
theorem ok_build0P {t e : TypeId} {z : Value} {sz nb : Nat} (ht : P.underlying t = some (.slice e)) (hinfo : InfoP P e z sz nb) : OpOk P B ⟨dst, .buildSlice t 0 #[], ty, pos, after, guard⟩ E (own0 B e) := fun ρ w hB _ _ => by
 obtain ⟨i, hi, hz, hs, _⟩ := hinfo.get
 refine out_val (x := .slice (some ⟨w.heap.size, 0, none⟩) 0 0) (w' := w.alloc (.cells #[] e)) ?_ ⟨Grow.alloc w _, w.heap.size, rfl, hB, by simp, heap_alloc_new w _⟩
 simp [execOp, Instr.buildSlice, run_underlying ht, sizeOf, typeInfo, hi, Instr.fill, newRow]
 rw [show (Array.map (fun _ => (default : Value)) (Array.range 0)) = #[] from Array.eq_empty_of_size_eq_zero (by simp)]
theorem lt_of_row {w : World} {base sz n : Nat} {e : TypeId} {v : Value} {xs : List Value} (h : w.ownsRow base e sz v n xs) : ∀ g, v.ownBlock = some g → g < w.heap.size := fun g hg => by
 rcases h.2 with ⟨hv, _⟩ | ⟨g', cap, cur, hv, _, hh, _⟩
 ·rw [hv] at hg; simp [Value.ownBlock] at hg
 ·rw [hv] at hg; simp [Value.ownBlock] at hg; subst hg
  rcases Nat.lt_or_ge g' w.heap.size with h | h
  ·exact h
  ·rw [Array.getElem?_eq_none h] at hh; cases hh
end
section
variable {P : Program} {B : Nat} {E : Env}
variable {dst : Option Tmp} {ty : TypeId} {pos : String} {after : Array Edge} {guard : Option (Nat × Bool)}
theorem ok_buildG {t e : TypeId} {z : Value} {nb sz m : Nat} {ps : Array (Nat × Operand)} (us : List (Nat × Value)) (ys : List Value) (ht : P.underlying t = some (.slice e)) (hs : InfoP P e z sz nb) (hl : LitS E us ps.toList)
  (hfill : Instr.fill (fun j => some (j * sz, sz)) ((Array.range (m * sz)).map (z.cells[· % z.cells.size]!)) us = some ys.toArray) (h0 : m * sz ≤ 65536) (h1 : 0 < m * sz) :
  OpOk P B ⟨dst, .buildSlice t m ps, ty, pos, after, guard⟩ E (newD B e (fun b => .slice (some ⟨b, 0, none⟩) m m) ys) := fun ρ w hB _ hρ => by
 obtain ⟨i, hi, hzv, hsize, _⟩ := hs.get
 have hp : ps.toList.map (fun p => (p.1, ρ p.2)) = us := hl.map fun x hx v hv => hρ x (by simpa [Op.operands] using hx) _ hv
 have hr := run_buildSlice (P := P) w t e m (ps.map fun (i, x) => (i, ρ x)) ys.toArray i z ht hi hzv (by rw [hsize]; omega) (by rw [hsize]; omega) (by rw [hsize, Array.toList_map]; exact (congrArg _ hp).trans hfill)
 exact out_val (x := .slice (some ⟨w.heap.size, 0, none⟩) m m) (w' := w.alloc (.cells ys.toArray e)) (by simp [execOp, hr]) ⟨Grow.alloc w _, w.heap.size, rfl, hB, by simp, heap_alloc_new w _⟩
theorem newD_rowD {B m : Nat} {e : TypeId} {xs : List Value} : Le (newD B e (fun b => .slice (some ⟨b, 0, none⟩) m m) xs) (rowD m xs) := fun B w x ⟨b, h1, _, h3, h4⟩ => ⟨_, _, h1, blk_rowIn h3 h4⟩
theorem ok_indexRD {t e : TypeId} {z : Value} {sz nb : Nat} {x i : Operand} {k : Nat} {f : D} {xs : List Value} {ki : IntKind} (m : Nat) (ht : P.underlying t = some (.slice e)) (hs : InfoP P e z sz nb) (hx : E.at x = some f) (hf : Le f (rowD k xs))
  (hi : E.at i = some (.v (.int ki (m : Int)))) (hm : m < k) (hlt : m * sz < xs.length) :
  OpOk P B ⟨dst, .indexAddr t x i, ty, pos, after, guard⟩ E (elemP ((xs.drop (m * sz)).take sz)) := fun ρ w _ hv hρ => by
 obtain ⟨A, q, h1, hrow⟩ := hf.of (hρ x (by simp [Op.operands]) _ hx)
 have hi' : ρ i = .int ki m := hρ i (by simp [Op.operands]) _ hi
 obtain ⟨info, hinfo, _, hsize, _⟩ := hs.get
 obtain ⟨ad, hA, hab, _⟩ := hrow (m * sz) _ (List.getElem?_eq_getElem hlt)
 subst hA
 refine out_val (x := .pointer (some (ad.add (m * sz)))) (w' := w) ?_ ⟨Grow.refl w, _, rfl, by rw [block_of_add]; omega, fun j u hu => ?_⟩
 ·simp [execOp, h1, hi', Instr.indexAt, asIntOf, run_underlying ht, sizeOf, typeInfo, hinfo, hsize, hm]
 ·rw [List.getElem?_take] at hu
  split at hu
  ·rw [List.getElem?_drop] at hu
   obtain ⟨ad', hA', _, h4⟩ := hrow (m * sz + j) u hu
   injection hA' with hA'; subst hA'
   rw [add_of_add]; exact h4
  ·cases hu
theorem ok_lenRD {t e : TypeId} {x : Operand} {f : D} {k : Nat} {xs : List Value} (ht : P.underlying t = some (.slice e)) (hx : E.at x = some f) (hf : Le f (rowD k xs)) :
  OpOk P B ⟨dst, .call { callee := .builtin .len, args := #[x], argTypes := #[t] }, ty, pos, after, guard⟩ E (.v (.int .i64 (k : Int))) := fun ρ w _ _ hρ => by
 obtain ⟨A, q, h1, _⟩ := hf.of (hρ x (by simp [Op.operands, Call.operands]) _ hx)
 exact out_val (w' := w) (by simp [execOp, resolve, invoke, builtin, Builtin.len_, run_underlying ht, h1, goInt]) ⟨Grow.refl w, rfl⟩
end
end
section
section
variable {P : Program} {B : Nat} {E : Env} {dst : Option Tmp} {ty : TypeId} {pos : String} {after : Array Edge} {guard : Option (Nat × Bool)}
theorem ok_loadElemT {T : TypeId} {td : TypeDesc} {x : Operand} {us : List Value} (n : Nat) (ht : P.underlying T = some td) (hp : (match td with | .struct _ | .array _ _ => true | _ => false) = true) (hsz : SizeIs P T n) (hn : n ≤ us.length) (hx : E.at x = some (elemP us)) :
  OpOk P B ⟨dst, .load T x, ty, pos, after, guard⟩ E (.v (aggV (us.take n))) := fun ρ w _ _ hρ => by
 obtain ⟨ad, h1, _, h3⟩ := hρ x (by simp [Op.operands]) _ hx
 have hagg : (isAgg T).run P w = .ok true w := by
  unfold isAgg
  simp only [Sem.run_bind, run_underlying ht, Result.andThen_ok]
  cases td <;> simp_all
 have hl : (us.take n).length = n := by simp [hn]
 have hc := run_loadCells_list (P := P) w ad (us.take n) (fun j u hu => by
  rw [List.getElem?_take] at hu
  split at hu
  ·exact h3 j u hu
  ·cases hu)
 rw [hl] at hc
 obtain ⟨info, hinfo, hs⟩ := hsz.get
 exact out_val (x := aggV (us.take n)) (w' := w) (by simp [execOp, h1, Instr.loadAt, Instr.sureAddr, loadVar, hagg, sizeOf, typeInfo, hinfo, hs, hc, aggV]) ⟨Grow.refl w, rfl⟩
end
end
section
variable {κ : Cx}
structure DTy where
 r : TypeId
 p : TypeId
 v : TypeId
 b : TypeId
def Agg (m : Nat) (d : D) : Prop := ∀ B w x, d.OfB B w x → ∃ cs : List Value, x = aggV cs ∧ cs.length = m ∧ cs.all (·.oneCell') = true
section
variable {P : Program} {w₀ : World} {n : Nat} {c : Code} {E : Env} {Q : Exit → Act → World → Prop}
theorem A.nameP {t k : Nat} {d : D} (ht : E.look t = some d) (h1 : ∀ w x, d.Of w x → x.oneCell' = true) (h : ∀ v : Value, v.oneCell' = true → A κ P w₀ n c ((t, .v v) :: (k, valM v d) :: E) Q) : A κ P w₀ n c E Q := fun a w g hs => by
 have hd := hs.of t _ ht
 exact h _ (h1 _ _ hd) a w g ((hs.push (t := k) (d := valM (a.tmps.getD t undef) d) hd).push (d := .v _) rfl)
end
def varK (b : Nat) (T : TypeId) (m : Nat) (d : D) : D :=
 .p (fun B w _ => b < B ∧ ∃ cs : List Value, cs.length = m ∧ cs.all (·.oneCell') = true ∧ w.heap[b]? = some (.cells cs.toArray T (0,0)) ∧ d.OfB B w (aggV cs))
  (fun _ _ _ _ g ⟨h1, cs, h2, h3, h4, h5⟩ => ⟨h1, cs, h2, h3, (g.block b h1).trans h4, h5.keep g⟩) (fun _ _ _ _ g ⟨h1, cs, h2, h3, h4, h5⟩ => ⟨by omega, cs, h2, h3, h4, h5.up g⟩)
def NewK (B : Nat) (E : Env) (b : Nat) : Prop := B ≤ b ∧ (∀ s b' e xs, E.look s = some (blk b' e xs) → b' < b) ∧ ∀ s b' e m d, E.look s = some (varK b' e m d) → b' < b
end
section
variable {κ : Cx}
def rowLg (n : Nat) (xs : List Value) : D :=
 .p (fun B w x => ∃ A c, x = .slice A n c ∧ n ≤ c ∧ RowIn B w A xs) (fun _ _ _ _ g ⟨A, c, h1, h3, h2⟩ => ⟨A, c, h1, h3, D.OfB.keep (d := memR A xs) (x := undef) h2 g⟩) (fun _ _ _ _ g ⟨A, c, h1, h3, h2⟩ => ⟨A, c, h1, h3, D.OfB.up (d := memR A xs) (x := undef) h2 g⟩)
theorem ownP_rowLg {base sz n : Nat} {e : TypeId} {xs : List Value} : Le (ownP base e sz n xs) (rowLg n xs) := fun B w x ⟨⟨hl, h2⟩, hlt⟩ => by
 rcases h2 with ⟨rfl, rfl⟩ | ⟨g, cap, cur, rfl, hb, hh, hnc, h5, h6, htk⟩
 ·have : xs = [] := List.length_eq_zero_iff.1 (by omega)
  subst this
  exact ⟨none, 0, rfl, Nat.le_refl _, fun j u hu => by cases hu⟩
 ·obtain ⟨A, c, h1, h3⟩ := ownP_rowD (base := base) (sz := sz) (n := n) (e := e) (xs := xs) B w _ ⟨⟨hl, .inr ⟨g, cap, cur, rfl, hb, hh, hnc, h5, h6, htk⟩⟩, hlt⟩
  injection h1 with h1 h2 h4
  subst h1; subst h4
  exact ⟨_, _, rfl, hnc, h3⟩
section
variable {P : Program} {B : Nat} {E : Env} {dst : Option Tmp} {ty : TypeId} {pos : String} {after : Array Edge} {guard : Option (Nat × Bool)}
theorem ok_indexEP {t e : TypeId} {len : Nat} {z : Value} {nb : Nat} {x i : Operand} {us : List Value} {k : IntKind} (m : Nat) (ht : P.underlying t = some (.array len e)) (hs : InfoIs P e z nb) (hx : E.at x = some (elemP us)) (hi : E.at i = some (.v (.int k (m : Int)))) (hn : m < len) :
  OpOk P B ⟨dst, .indexAddr t x i, ty, pos, after, guard⟩ E (elemP (us.drop m)) := fun ρ w _ _ hρ => by
 obtain ⟨ad, h1, hb, hc⟩ := hρ x (by simp [Op.operands]) _ hx
 have hi' : ρ i = .int k (m : Int) := hρ i (by simp [Op.operands]) _ hi
 obtain ⟨info, hinfo, _, hsize, _⟩ := hs.get
 refine out_val (x := .pointer (some (ad.add m))) (w' := w) ?_ ⟨Grow.refl w, _, rfl, by rw [block_of_add]; exact hb, fun j u hj => ?_⟩
 ·simp [execOp, h1, hi', Instr.indexAt, Instr.sureAddr, asIntOf, run_underlying ht, sizeOf, typeInfo, hinfo, hsize]
  intro hle
  omega
 ·rw [add_of_add]; rw [List.getElem?_drop] at hj; exact hc _ _ hj
theorem ok_build1O {t e : TypeId} {z : Value} {nb sz : Nat} {x : Operand} {us : List Value} (ht : P.underlying t = some (.slice e)) (hs : InfoP P e z sz nb) (hz : z.cells.size = sz) (h0 : sz ≤ 65536) (hsz : 0 < sz) (hx : E.at x = some (.v (aggV us))) (hu : us.length = sz) :
  OpOk P B ⟨dst, .buildSlice t 1 #[(0, x)], ty, pos, after, guard⟩ E (ownP B e sz 1 us) := fun ρ w hB _ hρ => by
 obtain ⟨i, hi, hzv, hsize, _⟩ := hs.get
 have h1 : ρ x = aggV us := hρ x (by simp [Op.operands]) _ hx
 have hfill : Instr.fill (fun j => some (j * i.size, i.size)) ((Array.range (1 * i.size)).map (z.cells[· % z.cells.size]!)) [(0, ρ x)] = some us.toArray := by
  have hlen : ((Array.range (1 * i.size)).map (z.cells[· % z.cells.size]!)).size = us.length := by simp [hsize, hu]
  rw [h1]
  have hc : (aggV us).cells = us.toArray := rfl
  unfold Instr.fill
  simp only [Nat.zero_mul]
  rw [hc, if_neg (by simp [hsize, hu])]
  have hg := fill_go us ((Array.range (1 * i.size)).map (z.cells[· % z.cells.size]!)).toList [] (by rw [Array.length_toList, hlen])
  simp only [List.nil_append, List.length_nil, Array.toArray_toList] at hg
  rw [show us.toArray.zipIdx.foldl (fun cs (x : Value × Nat) => match x with | (c, j) => cs.setIfInBounds (0 + j) c) ((Array.range (1 * i.size)).map (z.cells[· % z.cells.size]!)) = us.toArray from by
   rw [← Array.foldl_toList, Array.toList_zipIdx]; exact hg]
  rfl
 have hr := run_buildSlice (P := P) w t e 1 #[(0, ρ x)] us.toArray i z ht hi hzv (by rw [hsize]; omega) (by rw [hsize]; omega) (by simpa using hfill)
 have hh : (w.alloc (.cells us.toArray e)).heap[w.heap.size]? = some (.cells us.toArray e (0,0)) := heap_alloc_new w _
 refine out_val (x := .slice (some ⟨w.heap.size, 0, none⟩) 1 1) (w' := w.alloc (.cells us.toArray e)) (by simp [execOp, hr]) ⟨Grow.alloc w _, ⟨by omega, .inr ⟨w.heap.size, 1, us.toArray, rfl, hB, hh, Nat.le_refl _, by decide, by simp [hu], by simp [← hu]⟩⟩, fun g hg => ?_⟩
 simp only [Value.ownBlock, Option.some.injEq] at hg
 subst hg; simp
end
theorem A.partM {P : Program} {n : Nat} {E : Env} {w₀ : World} {c : Code} {Q : Exit → Act → World → Prop} {k k' B' : Nat} {A₀ : Option Addr} {xs : List Value} (o m : Nat) (hk : E.look k = some (old B' (memR A₀ xs))) (h : A κ P w₀ n c ((k', old B' (memR (A₀.map (·.add o)) ((xs.drop o).take m))) :: E) Q) : A κ P w₀ n c E Q := fun a w g hs => by
 obtain ⟨hB, hrow⟩ := hs.of k _ hk
 refine h a w g (hs.push (t := k') (d := old B' (memR (A₀.map (·.add o)) ((xs.drop o).take m))) ⟨hB, fun j u hu => ?_⟩)
 rw [List.getElem?_take] at hu
 split at hu
 ·rw [List.getElem?_drop] at hu
  obtain ⟨ad, hA, hab, h4⟩ := hrow (o + j) u hu
  subst hA
  exact ⟨ad.add o, rfl, by rw [block_of_add]; exact hab, by rw [add_of_add]; exact h4⟩
 ·cases hu
theorem End.ret1C {P : Program} {n : Nat} {E : Env} {w₀ : World} {fn : Func} {D vD r : Nat} {f d : Go.Proofs.YtmkpekmhhbcifaaGreatDoor.D} {m : Nat} (hD : E.look vD = some (recD D (.deferred (some [])) m)) (hDB : w₀.heap.size ≤ D) (hr : fn.results = #[.tmp r])
  (h1 : E.look r = some f) (hf : Firm D f) (hl : Le f d) : End ⟨none, [{ target := .collected D, args := #[] }]⟩ w₀ n E (BP P fn (PostOf w₀ d) .ret) := fun a w g hs => by
 obtain ⟨hlt, _, hk⟩ := hs.of vD _ hD
 have k1 := hl.of (hf w _ (.deferred none) _ hk rfl (hs.of r _ h1))
 show LeavesInM (FR none) 0 P fn a.tmps _ a.defers .returning w
 rw [show a.defers = [{ target := .collected D, args := #[] }] from hs.defers]
 refine ⟨by simp, .inl ⟨D, _, rfl, run_takeDeferred hk, ?_⟩⟩
 exact ⟨a.tmps.getD r undef, by simp [results, hr], _, rfl, Below.trans g (below_putObj w _ hDB), k1⟩
theorem Eff.raise {P : Program} {n B : Nat} {ops : Array Oper} {E E' : Env} {o : Oper} {k b : Nat} {T : TypeId} {xs : List Value} (hl : E.look k = some (blk b T xs)) (hB : B ≤ b) (h : Eff P n (b + 1) ops o E E') : Eff P n B ops o E E' := fun κ a w K Q hs hK =>
 h κ a w K Q ⟨(hs.of k _ hl).1, hs.defers, hs.size, hs.of⟩ fun a' w' hb hs' => hK a' w' (hb.mono (by omega)) ⟨Nat.le_trans hs.base hb.size, hs'.defers, hs'.size, hs'.of⟩
def cut (l : List CelT) (i j : Nat) : List CelT := (l.take j).drop i
end
section
structure SV where
 p : Nat
 b : Nat
 k : Nat
 T : TypeId
 z : Value
 y : Value
section
variable {P : Program} {B : Nat} {E : Env} {dst : Option Tmp} {ty : TypeId} {pos : String} {after : Array Edge} {guard : Option (Nat × Bool)}
theorem ok_indexRX {t e : TypeId} {z : Value} {sz nb : Nat} {x i : Operand} {ad : Addr} {q k : Nat} {ki : IntKind} (m : Nat) (ht : P.underlying t = some (.slice e)) (hs : InfoP P e z sz nb) (hx : E.at x = some (.v (.slice (some ad) k q))) (hi : E.at i = some (.v (.int ki (m : Int)))) (hm : m < k) :
  OpOk P B ⟨dst, .indexAddr t x i, ty, pos, after, guard⟩ E (.v (.pointer (some (ad.add (m * sz))))) := fun ρ w _ hv hρ => by
 have h1 : ρ x = .slice (some ad) k q := hρ x (by simp [Op.operands]) _ hx
 have hi' : ρ i = .int ki m := hρ i (by simp [Op.operands]) _ hi
 obtain ⟨info, hinfo, _, hsize, _⟩ := hs.get
 exact out_val (x := .pointer (some (ad.add (m * sz)))) (w' := w) (by simp [execOp, h1, hi', Instr.indexAt, asIntOf, run_underlying ht, sizeOf, typeInfo, hinfo, hsize, hm]) ⟨Grow.refl w, rfl⟩
theorem ok_fieldRX {T : TypeId} {x : Operand} {ad : Addr} {i off m o : Nat} (hf : FieldIs P T i off m) (hm : 0 < m) (hx : E.at x = some (.v (.pointer (some (ad.add o))))) :
  OpOk P B ⟨dst, .fieldAddr T x i, ty, pos, after, guard⟩ E (.v (.pointer (some (ad.add (o + off))))) := fun ρ w _ _ hρ => by
 have h1 : ρ x = _ := hρ x (by simp [Op.operands]) _ hx
 unfold FieldIs at hf
 cases hu : P.underlying T with
 | none => rw [hu] at hf; cases hf
 | some d =>
  rw [hu] at hf
  cases d with
  | struct fs =>
   simp only [Option.bind_some] at hf
   cases hfi : fs[i]? with
   | none => rw [hfi] at hf; cases hf
   | some f =>
    rw [hfi] at hf
    simp only [Option.bind_some] at hf
    cases hi : P.info? f.type with
    | none => rw [hi] at hf; cases hf
    | some inf =>
     rw [hi] at hf
     simp only [Option.map_some, Option.some.injEq, Prod.mk.injEq] at hf
     obtain ⟨h2, h3⟩ := hf
     have : ¬ inf.size = 0 := by omega
     refine out_val (x := .pointer (some (ad.add (o + off)))) (w' := w) ?_ ⟨Grow.refl w, rfl⟩
     rw [← add_of_add]
     simp [execOp, h1, Instr.fieldAt, run_underlying hu, hfi, Instr.sureAddr, fieldPlace, sizeOf, typeInfo, hi, this, h2]
  | _ => simp at hf
theorem ok_loadRX {T : TypeId} {td : TypeDesc} {x : Operand} {ad : Addr} {o s B' : Nat} {u : Value} {xs : List Value} (ht : P.underlying T = some td) (hp : (match td with | .struct _ | .array _ _ => false | _ => true) = true) (hx : E.at x = some (.v (.pointer (some (ad.add o)))))
  (hsv : vbase ≤ s) (hr : E.look s = some (old B' (memR (some ad) xs))) (hu : xs[o]? = some u) : OpOk P B ⟨dst, .load T x, ty, pos, after, guard⟩ E (.v u) := fun ρ w _ hv hρ => by
 have h1 : ρ x = _ := hρ x (by simp [Op.operands]) _ hx
 obtain ⟨_, hrow⟩ := hv s _ hsv hr
 obtain ⟨ad', hA, _, hc⟩ := hrow o u hu
 injection hA with hA; subst hA
 have hagg : (isAgg T).run P w = .ok false w := by
  unfold isAgg
  simp only [Sem.run_bind, run_underlying ht, Result.andThen_ok]
  cases td <;> simp_all
 exact out_val (x := u) (w' := w) (by simp [execOp, h1, Instr.loadAt, Instr.sureAddr, loadVar, hagg, hc]) ⟨Grow.refl w, rfl⟩
theorem ok_loadRXT {T : TypeId} {td : TypeDesc} {x : Operand} {ad : Addr} {o s B' : Nat} {xs ys : List Value} (ht : P.underlying T = some td) (hp : (match td with | .struct _ | .array _ _ => true | _ => false) = true) (hsz : SizeIs P T ys.length) (hx : E.at x = some (.v (.pointer (some (ad.add o)))))
  (hsv : vbase ≤ s) (hr : E.look s = some (old B' (memR (some ad) xs))) (hy : (xs.drop o).take ys.length = ys) : OpOk P B ⟨dst, .load T x, ty, pos, after, guard⟩ E (.v (aggV ys)) := fun ρ w _ hv hρ => by
 have h1 : ρ x = _ := hρ x (by simp [Op.operands]) _ hx
 obtain ⟨_, hrow⟩ := hv s _ hsv hr
 have h3 : ∀ (j : Nat) (u : Value), ys[j]? = some u → w.cell? ((ad.add o).add j) = some u := fun j u hu => by
  have hj : j < ys.length := (List.getElem?_eq_some_iff.1 hu).1
  have hu' : xs[o + j]? = some u := by rw [← hy, List.getElem?_take, if_pos hj, List.getElem?_drop] at hu; exact hu
  obtain ⟨ad', hA, _, hc⟩ := hrow (o + j) u hu'
  injection hA with hA; subst hA
  rw [add_of_add]; exact hc
 have hagg : (isAgg T).run P w = .ok true w := by
  unfold isAgg
  simp only [Sem.run_bind, run_underlying ht, Result.andThen_ok]
  cases td <;> simp_all
 have hc := run_loadCells_list (P := P) w (ad.add o) ys h3
 obtain ⟨info, hinfo, hs⟩ := hsz.get
 exact out_val (x := aggV ys) (w' := w) (by simp [execOp, h1, Instr.loadAt, Instr.sureAddr, loadVar, hagg, sizeOf, typeInfo, hinfo, hs, hc, aggV]) ⟨Grow.refl w, rfl⟩
end
end
section
variable {κ : Cx}
def StartMO (B : Nat) (ds : List D) (M : Env) (E : Env) : Prop := ∀ p ∈ E, ((∃ d, (p.1, d) ∈ M ∧ (p.2 = d ∨ p.2 = old B d)) ∧ vbase ≤ p.1) ∨ ∃ d, ds[p.1]? = some d ∧ (p.2 = d ∨ p.2 = old B d)
theorem StartMO.nil {B : Nat} {ds : List D} {M : Env} : StartMO B ds M [] := fun _ h => by cases h
theorem StartMO.m {B : Nat} {ds : List D} {M : Env} {t : Nat} {d : D} {E : Env} (h : (t, d) ∈ M) (ht : vbase ≤ t) (hr : StartMO B ds M E) : StartMO B ds M ((t, d) :: E) := fun p hp => by
 rcases List.mem_cons.1 hp with rfl | hp
 ·exact .inl ⟨⟨d, h, .inl rfl⟩, ht⟩
 ·exact hr p hp
theorem StartMO.mo {B : Nat} {ds : List D} {M : Env} {t : Nat} {d : D} {E : Env} (h : (t, d) ∈ M) (ht : vbase ≤ t) (hr : StartMO B ds M E) : StartMO B ds M ((t, Go.Proofs.YtmkpekmhhbcifaaGreatDoor.old B d) :: E) := fun p hp => by
 rcases List.mem_cons.1 hp with rfl | hp
 ·exact .inl ⟨⟨d, h, .inr rfl⟩, ht⟩
 ·exact hr p hp
theorem StartMO.v {B : Nat} {ds : List D} {M : Env} {t : Nat} {d : D} {E : Env} (h : ds[t]? = some d) (hr : StartMO B ds M E) : StartMO B ds M ((t, d) :: E) := fun p hp => by
 rcases List.mem_cons.1 hp with rfl | hp
 ·exact .inr ⟨d, h, .inl rfl⟩
 ·exact hr p hp
theorem StartMO.st {n : Nat} {fn : Func} {M : Env} {ds : List D} {vs : List Value} {w : World} {E : Env} (hn : fn.ntmps = n) (hds : ds.length ≤ n) (hnv : n ≤ vbase) (hE : StartMO w.heap.size ds M E) (hM : ∀ p ∈ M, p.2.Of w undef) (hl : vs.length = ds.length) (hv : ∀ (j : Nat) (e : D) (u : Value), ds[j]? = some e → vs[j]? = some u → e.Of w u) (t : Nat) (e : D) (he : E.look t = some e) :
  e.Of w ((vs.toArray ++ Array.replicate (fn.ntmps - vs.toArray.size) undef).getD t undef) := by
 rcases hE _ (look_mem he) with ⟨⟨d', hm, hor⟩, ht⟩ | ⟨d', hd', hor⟩
 ·have h1 := hM _ hm
  rw [Array.getD_eq_getD_getElem?, Array.getElem?_eq_none (by simp [hl, hn]; simp only at ht; omega)]
  rcases hor with h2 | h2
  ·simp only at h2; rw [h2]; exact h1
  ·simp only at h2; rw [h2]; exact ⟨Nat.le_refl _, h1⟩
 ·have hlt : t < vs.length := by have := (List.getElem?_eq_some_iff.1 hd').1; simp at this; omega
  have hget : (vs.toArray ++ Array.replicate (fn.ntmps - vs.toArray.size) undef).getD t undef = vs[t] := by
   rw [Array.getD_eq_getD_getElem?, Array.getElem?_append_left (by simpa using hlt)]
   simp [hlt]
  rw [hget]
  have h1 := hv t d' vs[t] hd' (List.getElem?_eq_getElem hlt)
  rcases hor with h2 | h2
  ·simp only at h2; rw [h2]; exact h1
  ·simp only at h2; rw [h2]; exact ⟨Nat.le_refl _, h1⟩
theorem FnM.ofO {P : Program} {n : Nat} {f : FuncId} {fn : Func} {c : Code} {M : Env} {ds : List D} {d : D} (hf : P.funcs[f]? = some fn) (hb : fn.body = some c) (hname : (fn.name == "runtime.NumGoroutine") = false) (hn : fn.ntmps = n) (hds : ds.length ≤ n) (hnv : n ≤ vbase) (E : World → Env)
  (hE : ∀ w, StartMO w.heap.size ds M (E w)) (h : ∀ w₀, (∀ p ∈ M, p.2.Of w₀ undef) → A Cx.top P w₀ n c (E w₀) (BP P fn (PostOf w₀ d))) : FnM P f M ds d := by
 refine ⟨⟨fn, hf, hname, by rw [hb]; rfl⟩, fun vs w hM hl hv => callsIn_FR.1 (callsIn_of_wp_marks (F := FR none) (n := 0) hf hb trivial (h w hM _ w (Below.refl _ _) ⟨Nat.le_refl _, rfl, ?_, fun t e he => ?_⟩))⟩
 ·simp [hl, hn]; omega
 ·exact StartMO.st hn hds hnv (hE w) hM hl hv t e he
theorem FnMB.ofO {P : Program} {n : Nat} {f : FuncId} {fn : Func} {c : Code} {M : Env} {ds : List D} {d : Nat → D} (hf : P.funcs[f]? = some fn) (hb : fn.body = some c) (hname : (fn.name == "runtime.NumGoroutine") = false) (hn : fn.ntmps = n) (hds : ds.length ≤ n) (hnv : n ≤ vbase) (E : World → Env)
  (hE : ∀ w, StartMO w.heap.size ds M (E w)) (h : ∀ w₀, (∀ p ∈ M, p.2.Of w₀ undef) → A Cx.top P w₀ n c (E w₀) (BP P fn (PostOf w₀ (d w₀.heap.size)))) : FnMB P f M ds d := by
 refine ⟨⟨fn, hf, hname, by rw [hb]; rfl⟩, fun vs w hM hl hv => callsIn_FR.1 (callsIn_of_wp_marks (F := FR none) (n := 0) hf hb trivial (h w hM _ w (Below.refl _ _) ⟨Nat.le_refl _, rfl, ?_, fun t e he => ?_⟩))⟩
 ·simp [hl, hn]; omega
 ·exact StartMO.st hn hds hnv (hE w) hM hl hv t e he
def SubK (M E : Env) : Prop := ∀ p ∈ M, ∃ k e, vbase ≤ k ∧ E.look k = some e ∧ Le e p.2
theorem SubK.nil {E : Env} : SubK [] E := fun _ h => by cases h
theorem Le.unold {B : Nat} {d : D} : Le (Go.Proofs.YtmkpekmhhbcifaaGreatDoor.old B d) d := fun _ _ _ h => h.2.up h.1
theorem SubK.cons {M E : Env} {k k' : Nat} {d e : D} (hk : vbase ≤ k) (he : E.look k = some e) (hl : Le e d) (hr : SubK M E) : SubK ((k', d) :: M) E := fun p hp => by
 rcases List.mem_cons.1 hp with rfl | hp
 ·exact ⟨k, e, hk, he, hl⟩
 ·exact hr p hp
theorem SubK.of {M E : Env} (h : Sub M E) (hb : ∀ p ∈ M, vbase ≤ p.1) : SubK M E := fun p hp => ⟨p.1, p.2, hb p hp, h p hp, Le.refl _⟩
theorem SubK.app {M M' E : Env} (h : SubK M E) (h' : SubK M' E) : SubK (M ++ M') E := fun p hp => (List.mem_append.1 hp).elim (h p) (h' p)
theorem SubK.holds {M E : Env} {w : World} (h : SubK M E) (hv : ∀ t d, vbase ≤ t → E.look t = some d → d.Of w undef) : ∀ p ∈ M, p.2.Of w undef := fun p hp => by
 obtain ⟨k, e, h1, h2, h3⟩ := h p hp
 exact h3.of (hv k e h1 h2)
section
variable {P : Program} {B : Nat} {E : Env} {dst : Option Tmp} {ty : TypeId} {pos : String} {after : Array Edge} {guard : Option (Nat × Bool)}
theorem call_at {f : FuncId} {x : Operand} {us : List Value} {args : Array Operand} {argTypes : Array TypeId} {ds : List D} {d : D} (hbody : ∃ fn, P.funcs[f]? = some fn ∧ (fn.name == "runtime.NumGoroutine") = false ∧ fn.body.isNone = false)
  (hx : E.at x = some (.v (.func (.func f) #[] us.toArray))) (ha : Args E ds args.toList) {ρ : Operand → Value} {w : World} (hρ : ∀ y, y ∈ Op.operands (.call { callee := .value x, args := args, argTypes := argTypes }) → ∀ d, E.at y = some d → d.Of w (ρ y))
  (hc : ∀ vs : List Value, vs.length = ds.length → (∀ (j : Nat) (e : D) (u : Value), ds[j]? = some e → vs[j]? = some u → e.Of w u) → Calls P f (vs ++ us).toArray w (PostOf w d)) :
  Out P ⟨dst, .call { callee := .value x, args := args, argTypes := argTypes }, ty, pos, after, guard⟩ ρ w fun v w' => Grow w w' ∧ d.Of w' v := by
 obtain ⟨fn, h1, h2, h3⟩ := hbody
 have hfun : ρ x = .func (.func f) #[] us.toArray := hρ x (by simp [Op.operands, Call.operands]) _ hx
 have hrun : (execOp ρ ⟨dst, .call { callee := .value x, args := args, argTypes := argTypes }, ty, pos, after, guard⟩).run P w = .ok (.enter f (args.map ρ ++ us.toArray)) w := by
  have h2' : ¬ fn.name = "runtime.NumGoroutine" := by simpa using h2
  have h3' : ¬ fn.body = none := by intro h; rw [h] at h3; cases h3
  simp [execOp, resolve, Deferred.ofValue, hfun, invoke, callFunc, h1, h2', h3']
 unfold Out
 rw [hrun]
 have := hc (args.toList.map ρ) (by rw [List.length_map, ha.length]) fun j e u he hu => by
  rw [List.getElem?_map] at hu
  cases hx : args.toList[j]? with
  | none => rw [hx] at hu; cases hu
  | some x =>
   rw [hx] at hu; injection hu with hu; subst hu
   obtain ⟨e', h4, h5⟩ := ha.nth he hx
   exact h5.of (hρ x (by simp [Op.operands, Call.operands]; exact .inr (by simpa using List.mem_of_getElem? hx)) _ h4)
 have harr : (args.toList.map ρ ++ us).toArray = args.map ρ ++ us.toArray := by apply Array.ext'; simp
 rw [harr] at this
 exact this.mono fun e w' ⟨x, he, g, hx⟩ => ⟨x, he, g, hx⟩
theorem ok_callMK {f : FuncId} {M : Env} {args : Array Operand} {argTypes : Array TypeId} {ds : List D} {d : D} (hf : FnM P f M ds d) (hM : SubK M E) (ha : Args E ds args.toList) :
  OpOk P B ⟨dst, .call { callee := .value (.func f), args := args, argTypes := argTypes }, ty, pos, after, guard⟩ E d := fun ρ w _ hv hρ =>
 call_at (us := []) hf.body rfl ha hρ fun vs hl h => by
  rw [List.append_nil]
  exact hf.calls vs w (hM.holds hv) hl h
theorem ok_callMBK {f : FuncId} {M : Env} {args : Array Operand} {argTypes : Array TypeId} {ds : List D} {d : Nat → D} (hf : FnMB P f M ds d) (hd : ∀ B B', B ≤ B' → Le (d B') (d B)) (hM : SubK M E) (ha : Args E ds args.toList) :
  OpOk P B ⟨dst, .call { callee := .value (.func f), args := args, argTypes := argTypes }, ty, pos, after, guard⟩ E (d B) := fun ρ w hB hv hρ =>
 call_at (us := []) hf.body rfl ha hρ fun vs hl h => by
  rw [List.append_nil]
  exact (hf.calls vs w (hM.holds hv) hl h).mono fun _ _ ⟨x, he, g, hx⟩ => ⟨x, he, g, (hd _ _ hB).of hx⟩
theorem ok_callVMK {f : FuncId} {M : Env} {x : Operand} {us : List Value} {args : Array Operand} {argTypes : Array TypeId} {ds : List D} {d : D} (hf : FnM P f M (ds ++ us.map D.v) d) (hM : SubK M E)
  (hx : E.at x = some (.v (.func (.func f) #[] us.toArray))) (ha : Args E ds args.toList) :
  OpOk P B ⟨dst, .call { callee := .value x, args := args, argTypes := argTypes }, ty, pos, after, guard⟩ E d := fun ρ w _ hv hρ =>
 call_at hf.body hx ha hρ fun vs hl h => hf.calls (vs ++ us) w (hM.holds hv) (by simp [hl]) fun j e u he hu => by
  rcases Nat.lt_or_ge j ds.length with hj | hj
  ·rw [List.getElem?_append_left hj] at he
   rw [List.getElem?_append_left (by omega)] at hu
   exact h j e u he hu
  ·rw [List.getElem?_append_right hj, List.getElem?_map] at he
   rw [List.getElem?_append_right (by omega), hl] at hu
   rw [hu] at he
   simp only [Option.map_some, Option.some.injEq] at he
   subst he; rfl
theorem ok_iface {T : TypeId} {td : TypeDesc} {x : Operand} {v : Value} (ht : P.underlying T = some td) (hi : (match td with | .interface _ => false | _ => true) = true) (hx : E.at x = some (.v v)) : OpOk P B ⟨dst, .makeInterface T x, ty, pos, after, guard⟩ E (.v (.iface T v)) := fun ρ w _ _ hρ => by
 have h1 : ρ x = v := hρ x (by simp [Op.operands]) _ hx
 exact out_val (x := .iface T v) (w' := w) (by cases td <;> first | (cases hi; done) | simp [execOp, Instr.makeInterface, h1, run_underlying ht]) ⟨Grow.refl w, rfl⟩
theorem ok_neHeld {t t' u : TypeId} {x : Operand} {v : Value} (ht : P.underlying t = some (.interface (P.methodsAt t))) (hx : E.at x = some (.v (.iface u v))) : OpOk P B ⟨dst, .binOp .neq t x (.const .nilIface) t', ty, pos, after, guard⟩ E (.v (.bool true)) := fun ρ w _ _ hρ => by
 have h1 : ρ x = .iface u v := hρ x (by simp [Op.operands]) _ hx
 have h2 : ρ (.const .nilIface) = .nilIface := hρ (.const .nilIface) (by simp [Op.operands]) (.v .nilIface) rfl
 have := run_equal_held_nil (P := P) w t u v ht
 exact out_val (w' := w) (by simp [execOp, h1, h2, eqGuard, binOp, this]) ⟨Grow.refl w, rfl⟩
theorem ok_neNil {t t' : TypeId} {x : Operand} (ht : P.underlying t = some (.interface (P.methodsAt t))) (hx : E.at x = some (.v .nilIface)) : OpOk P B ⟨dst, .binOp .neq t x (.const .nilIface) t', ty, pos, after, guard⟩ E (.v (.bool false)) := fun ρ w _ _ hρ => by
 have h1 : ρ x = .nilIface := hρ x (by simp [Op.operands]) _ hx
 have h2 : ρ (.const .nilIface) = .nilIface := hρ (.const .nilIface) (by simp [Op.operands]) (.v .nilIface) rfl
 have := run_equal_nil_nil (P := P) w t ht
 exact out_val (w' := w) (by simp [execOp, h1, h2, eqGuard, binOp, this]) ⟨Grow.refl w, rfl⟩
end
def closE (base f : Nat) (e₁ : TypeId) (xs : List Value) (e₂ : TypeId) : D :=
 .p (fun B w x => ∃ p q, base ≤ p ∧ base ≤ q ∧ p ≠ q ∧ p < B ∧ q < B ∧ x = .func (.func f) #[] #[ptr p, ptr q] ∧ w.heap[p]? = some (.cells xs.toArray e₁ (0,0)) ∧ w.heap[q]? = some (.cells #[.func (.func f) #[] #[ptr p, ptr q]] e₂ (0,0)))
  (fun _ _ _ _ g ⟨p, q, h1, h2, h3, h4, h5, h6, h7, h8⟩ => ⟨p, q, h1, h2, h3, h4, h5, h6, (g.block p h4).trans h7, (g.block q h5).trans h8⟩)
  (fun _ _ _ _ g ⟨p, q, h1, h2, h3, h4, h5, h6⟩ => ⟨p, q, h1, h2, h3, by omega, by omega, h6⟩)
theorem closE_mono {f : Nat} {e₁ e₂ : TypeId} {xs : List Value} (B B' : Nat) (h : B ≤ B') : Le (closE B' f e₁ xs e₂) (closE B f e₁ xs e₂) := fun _ _ _ ⟨p, q, h1, h2, h3⟩ => ⟨p, q, by omega, by omega, h3⟩
section
variable {P : Program} {n : Nat} {E : Env} {w₀ : World}
theorem End.closE {fn : Func} {r k₁ k₂ p q f : Nat} {e₁ e₂ : TypeId} {xs : List Value} (hr : fn.results = #[.tmp r]) (hp : w₀.heap.size ≤ p) (hq : w₀.heap.size ≤ q) (hpq : p ≠ q) (ht : E.look r = some (.v (.func (.func f) #[] #[ptr p, ptr q])))
  (h1 : E.look k₁ = some (blk p e₁ xs)) (h2 : E.look k₂ = some (blk q e₂ [.func (.func f) #[] #[ptr p, ptr q]])) : End Cx.top w₀ n E (BP P fn (PostOf w₀ (Go.Proofs.YtmkpekmhhbcifaaGreatDoor.closE w₀.heap.size f e₁ xs e₂)) .ret) := fun a w g hs => by
 obtain ⟨h3, h4⟩ := hs.of k₁ _ h1
 obtain ⟨h5, h6⟩ := hs.of k₂ _ h2
 exact BP.ret hs.defers ⟨a.tmps.getD r undef, by simp [results, hr], _, rfl, g, p, q, hp, hq, hpq, h3, h5, hs.of r _ ht, h4, h6⟩
theorem A.openClosE {c : Code} {Q : Exit → Act → World → Prop} {t k₁ k₂ f : Nat} {e₁ e₂ : TypeId} {xs : List Value} {B : Nat} (ht : E.look t = some (closE B f e₁ xs e₂))
  (h : ∀ p q, B ≤ p → B ≤ q → p ≠ q → A κ P w₀ n c ((t, .v (.func (.func f) #[] #[ptr p, ptr q])) :: (k₁, blk p e₁ xs) :: (k₂, blk q e₂ [.func (.func f) #[] #[ptr p, ptr q]]) :: E) Q) : A κ P w₀ n c E Q := fun a w g hs => by
 obtain ⟨p, q, h1, h2, h3, h4, h5, h6, h7, h8⟩ := hs.of t _ ht
 exact h p q h1 h2 h3 a w g (((hs.push (t := k₂) (d := blk q e₂ _) ⟨h5, h8⟩).push (t := k₁) (d := blk p e₁ xs) ⟨h4, h7⟩).push (d := .v _) h6)
end
theorem ownP_mono {B B' sz n : Nat} {e : TypeId} {xs : List Value} (h : B ≤ B') : Le (ownP B' e sz n xs) (ownP B e sz n xs) := fun _ _ _ ⟨⟨h1, h2⟩, h3⟩ => ⟨⟨h1, h2.imp id fun ⟨g, cap, cur, h4, h5, h6⟩ => ⟨g, cap, cur, h4, by omega, h6⟩⟩, h3⟩
def ltD (b : Nat) (d : D) : D := .p (fun B w x => d.OfB B w x ∧ ∀ g, x.ownBlock = some g → g < b) (fun _ _ _ _ g h => ⟨h.1.keep g, h.2⟩) (fun _ _ _ _ g h => ⟨h.1.up g, h.2⟩)
theorem Le.lt {b : Nat} {d : D} : Le (ltD b d) d := fun _ _ _ h => h.1
theorem Surv.ltP {B T b base sz n : Nat} {e : TypeId} {xs : List Value} : Surv B T b (ltD b (Go.Proofs.YtmkpekmhhbcifaaGreatDoor.ownP base e sz n xs)) := fun w w' x k ⟨⟨h1, h2⟩, h3⟩ => by
 obtain ⟨h4, h5⟩ := h1
 refine ⟨⟨⟨h4, h5.imp id ?_⟩, fun j hj => Nat.lt_of_lt_of_le (h2 j hj) k.size⟩, h3⟩
 rintro ⟨j, cap, cur, rfl, hj, hh, hr⟩
 have hlt := h3 j (by simp [Value.ownBlock])
 exact ⟨j, cap, cur, rfl, hj, (k.other j (h2 j (by simp [Value.ownBlock])) (by omega)).trans hh, hr⟩
section
variable {P : Program} {n B : Nat} {ops : Array Oper} {E : Env} {ty : TypeId} {pos : String} {after : Array Edge}
theorem eff_newTo {o : Oper} {d k r : Nat} {T : TypeId} {xs : List Value} {dr : D} {dr' : Nat → D} (hd : o.dst = some d) (hg : o.guard = none)
  (hrun : ∀ (κ : Cx) a w, St κ n B E a w → (execOp a.eval o).run P w = .ok (.value (.pointer (some ⟨w.heap.size, 0, none⟩))) (w.alloc (.cells xs.toArray T))) (hdn : d < n)
  (hr : E.look r = some dr) (h' : ∀ w x, dr.Of w x → (dr' w.heap.size).Of w x) :
  EffG P n B ops o E (NewB B E) (fun b => (d, .v (.pointer (some ⟨b, 0, none⟩))) :: (k, blk b T xs) :: (r, dr' b) :: E) := by
 intro κ a w K Q h hK
 rw [if_pos (by simp [Region.wanted, hg])]
 refine opR (not_defer (hrun κ a w h)) ?_
 unfold Oper.wp
 rw [hrun κ a w h, Oper.upon_value, hd]
 have hbel : Below B w (w.alloc (.cells xs.toArray T)) := (Below.refl B w).alloc h.base _
 refine hK w.heap.size _ _ ⟨h.base, fun s b' e ys hs => (h.of s _ hs).1⟩ hbel (St.put ?_ hdn rfl)
 have hst := (h.push (t := r) (d := dr' w.heap.size) (h' w _ (h.of r _ hr))).grow (Grow.alloc w (.cells xs.toArray T))
 refine ⟨hst.base, hst.defers, hst.size, fun s e he => ?_⟩
 by_cases hks : k = s
 ·subst hks
  rw [look_here] at he; injection he with he; subst he
  exact ⟨by simp, heap_alloc_new w _⟩
 ·rw [look_past _ _ hks] at he
  exact hst.of s e he
theorem eff_allocLt {T e : TypeId} {zs xs : List Value} {d k r base sz m : Nat} (hz : ZeroIs P T zs) (hdn : d < n) (hr : E.look r = some (ownP base e sz m xs)) :
  EffG P n B ops ⟨some d, .alloc T, ty, pos, after, none⟩ E (NewB B E) (fun b => (d, .v (.pointer (some ⟨b, 0, none⟩))) :: (k, blk b T zs) :: (r, ltD b (ownP base e sz m xs)) :: E) :=
 eff_newTo (dr' := fun b => ltD b (ownP base e sz m xs)) rfl rfl (fun _ a w _ => by
  obtain ⟨i, z, hi, hz, hc⟩ := hz.get
  simp [execOp, Instr.alloc, zeroValue, typeInfo, hi, hz, newVar, newRow, hc]) hdn hr fun w x h => ⟨h, h.2⟩
end
def NewB2 (B : Nat) (E : Env) (x : Nat × Nat) : Prop := B ≤ x.1 ∧ B ≤ x.2 ∧ x.1 ≠ x.2 ∧ ∀ s b' e xs, E.look s = some (blk b' e xs) → b' < x.1 ∧ b' < x.2
theorem eff_nameE {P : Program} {n B : Nat} {ops : Array Oper} {E : Env} {o : Oper} {d k₁ k₂ f : Nat} {e₁ e₂ : TypeId} {xs : List Value} (ht : o.dst = some d) (hg : o.guard = none) (hok : ∀ B', OpOk P B' o E (closE B' f e₁ xs e₂)) (hdn : d < n) (hnv : n ≤ vbase) :
  EffG P n B ops o E (NewB2 B E) (fun x => (d, .v (.func (.func f) #[] #[ptr x.1, ptr x.2])) :: (k₁, blk x.1 e₁ xs) :: (k₂, blk x.2 e₂ [.func (.func f) #[] #[ptr x.1, ptr x.2]]) :: E) := by
 intro κ a w K Q h hK
 rw [if_pos (by simp [Region.wanted, hg])]
 refine wp_of_out ht ((hok w.heap.size a.eval w (Nat.le_refl _) (h.virt hnv) fun x _ u hu => h.at_ x _ hu).mono ?_)
 rintro x w' ⟨hgr, p, q, h1, h2, h3, h4, h5, rfl, h7, h8⟩
 refine hK (p, q) _ _ ⟨Nat.le_trans h.base h1, Nat.le_trans h.base h2, h3, fun s b' e ys hs => ⟨Nat.lt_of_lt_of_le (h.of s _ hs).1 h1, Nat.lt_of_lt_of_le (h.of s _ hs).1 h2⟩⟩ (Below.mono hgr h.base) (St.put ?_ hdn rfl)
 exact ((h.grow hgr).push (t := k₂) (d := blk q e₂ _) ⟨h5, h8⟩).push (t := k₁) (d := blk p e₁ xs) ⟨h4, h7⟩
section
variable {P : Program} {n : Nat} {E : Env} {w₀ : World}
theorem End.cellS1C {fn : Func} {D vD m r s b : Nat} {T e : TypeId} {td : TypeDesc} {x : Value} (hD : E.look vD = some (recD D (.deferred (some [])) m)) (hDB : w₀.heap.size ≤ D) (hr : fn.results = #[.cell r T]) (ht : P.underlying T = some td) (hp : (match td with | .struct _ | .array _ _ => false | _ => true) = true) (h1 : E.look r = some (.v (.pointer (some ⟨b, 0, none⟩)))) (h2 : E.look s = some (blk b e [x])) : End ⟨none, [{ target := .collected D, args := #[] }]⟩ w₀ n E (BP P fn (PostOf w₀ (.v x)) .ret) := fun a w g hs => by
 have h3 : a.tmps[r]?.getD undef = .pointer (some ⟨b, 0, none⟩) := by rw [← Array.getD_eq_getD_getElem?]; exact hs.of r _ h1
 obtain ⟨_, _, hk⟩ := hs.of vD _ hD
 obtain ⟨_, hh⟩ := hs.of s _ h2
 have k : (w.putObj D (.deferred none)).heap[b]? = some (.cells [x].toArray e (0,0)) := (World.putObj_heap_other fun h => by subst h; rw [hh] at hk; cases hk).trans hh
 show LeavesInM (FR none) 0 P fn a.tmps _ a.defers .returning w
 rw [show a.defers = [{ target := .collected D, args := #[] }] from hs.defers]
 refine ⟨by simp, .inl ⟨D, _, rfl, run_takeDeferred hk, ?_⟩⟩
 exact ⟨x, by simp [results, hr, h3, asAddr, load_one ht hp k], _, rfl, Below.trans g (below_putObj w _ hDB), rfl⟩
end
section
variable {P : Program} {B : Nat} {E : Env} {dst : Option Tmp} {ty : TypeId} {pos : String} {after : Array Edge} {guard : Option (Nat × Bool)}
theorem ok_neIf {t t' u : TypeId} {x : Operand} {b : Bool} {v : Value} (ht : P.underlying t = some (.interface (P.methodsAt t))) (hx : E.at x = some (.v (if b = true then .nilIface else .iface u v))) : OpOk P B ⟨dst, .binOp .neq t x (.const .nilIface) t', ty, pos, after, guard⟩ E (.v (.bool (!b))) := by
 cases b
 ·exact ok_neHeld ht hx
 ·exact ok_neNil ht hx
end
end
section
variable {κ : Cx}
section
variable {P : Program} {n B : Nat} {ops : Array Oper} {E : Env} {ty : TypeId} {pos : String} {after : Array Edge}
theorem eff_appendG {t e : TypeId} {z : Value} {nb sz : Nat} {r x : Operand} {k dst : Nat} {xs us : List Value} {E' : Env} (ht : P.underlying t = some (.slice e)) (hinfo : InfoP P e z sz nb) (hsz : 0 < sz) (hnb : nb ≤ 4096) (hz1 : z.cells.size = sz)
  (hr : E.at r = some (ownP B e sz k xs)) (hx : E.at x = some (oneP us)) (hu : us.length = sz) (h1 : us.all (·.oneCell') = true) (hk : k ≤ 1048576) (hdst : dst < n) (hl : ∀ g, B ≤ g → LeftS B e g E' E) :
  Eff P n B ops ⟨some dst, .call { callee := .builtin .append, args := #[r, x], argTypes := #[t, t] }, ty, pos, after, none⟩ E ((dst, ownP B e sz (k + 1) (xs ++ us)) :: E') := by
 obtain ⟨i, hi, hz, hs, hby⟩ := hinfo.get
 intro κ a w K Q h hK
 obtain ⟨hown, hob⟩ := h.at_ r _ hr
 obtain ⟨ad, hxe, _, hcell⟩ := h.at_ x _ hx
 have hbb : (k + 1) * i.bytes ≤ (k + 1) * 4096 := Nat.mul_le_mul_left _ (by omega)
 obtain ⟨v', w', hrun, h3, h4, _, h5⟩ := run_append_own_at (P := P) w B t ty e i z sz i.bytes ht hi hz hs rfl hz1 hsz (a.eval r) k xs hown ad 1 1 us (by omega) hcell (fun u hu => List.all_eq_true.1 h1 u hu) (by simp only [maxLen]; omega) (by omega) h.base
 have hexec : (execOp a.eval ⟨some dst, .call { callee := .builtin .append, args := #[r, x], argTypes := #[t, t] }, ty, pos, after, none⟩).run P w = .ok (.value v') w' := by
  simp [execOp, resolve, invoke, builtin, hxe, hrun]
 rw [if_pos (by simp [Region.wanted])]
 refine opR (by nofun) ?_
 unfold Oper.wp
 rw [hexec, Oper.upon_value]
 have hbase : ∀ g, (a.eval r).ownBlock = some g → B ≤ g := fun g hg => by
  rcases hown.2 with ⟨hv, _⟩ | ⟨g', cap, cur, hv, hb, _⟩
  ·rw [hv] at hg; simp [Value.ownBlock] at hg
  ·rw [hv] at hg; simp [Value.ownBlock] at hg; omega
 have hbel : Below B w w' := (Below.refl B w).grown h4 h.base hbase
 have hlt : ∀ g, v'.ownBlock = some g → g < w'.heap.size := fun g hg => by
  rcases h3.2 with ⟨hv, _⟩ | ⟨g', cap, cur, hv, _, hh, _⟩
  ·rw [hv] at hg; simp [Value.ownBlock] at hg
  ·rw [hv] at hg; simp [Value.ownBlock] at hg; subst hg
   rcases Nat.lt_or_ge g' w'.heap.size with h | h
   ·exact h
   ·rw [Array.getElem?_eq_none h] at hh; cases hh
 have hwr : ∃ g, B ≤ g ∧ Wrote B e g w w' := by
  rcases hown.2 with ⟨hv, _⟩ | ⟨g', cap, cur, hv, hb, hh, _⟩
  ·refine ⟨w.heap.size, h.base, h.base, h4.os, h4.tape, h4.output, h4.size, fun o hx => ?_, fun k hk _ => h4.block k hk (by rw [hv]; simp [Value.ownBlock])⟩
   rw [Array.getElem?_eq_none (Nat.le_refl _)] at hx; cases hx
  ·refine ⟨g', hb, hb, h4.os, h4.tape, h4.output, h4.size, fun o hx => ?_, fun k hk hne => h4.block k hk (by rw [hv]; simp [Value.ownBlock]; omega)⟩
   rw [hh] at hx; injection hx with hx; exact ⟨_, _, hx.symm⟩
 obtain ⟨g, hg, hwr⟩ := hwr
 exact hK _ _ hbel (((hl g hg).st h hwr).put hdst ⟨h3, hlt⟩)
end
section
variable {P : Program} {B : Nat} {E : Env} {dst : Option Tmp} {ty : TypeId} {pos : String} {after : Array Edge} {guard : Option (Nat × Bool)}
theorem ok_append0G {t e : TypeId} {z : Value} {sz nb m : Nat} {r x : Operand} {f : D} {ys : List Value} (ht : P.underlying t = some (.slice e)) (hinfo : InfoP P e z sz nb) (hsz : 0 < sz) (hnb : nb ≤ 4096) (hz1 : z.cells.size = sz)
  (hr : E.at r = some (own0 B e)) (hx : E.at x = some f) (hf : Le f (rowD m ys)) (hl : ys.length = m * sz) (hk : m ≤ 1048576) :
  OpOk P B ⟨dst, .call { callee := .builtin .append, args := #[r, x], argTypes := #[t, t] }, ty, pos, after, guard⟩ E (ownP B e sz m ys) := fun ρ w hB hv hρ => by
 obtain ⟨i, hi, hz, hs, hby⟩ := hinfo.get
 obtain ⟨g, hre, hg1, hg2, hg3⟩ := hρ r (by simp [Op.operands, Call.operands]) _ hr
 obtain ⟨A, c, hxe, hrow⟩ := hf.of (hρ x (by simp [Op.operands, Call.operands]) _ hx)
 rcases Nat.eq_zero_or_pos m with h0 | h0
 ·subst h0
  have hy : ys = [] := List.length_eq_zero_iff.1 (by omega)
  subst hy
  refine out_val (x := .slice (some ⟨g, 0, none⟩) 0 0) (w' := w) ?_ ⟨Grow.refl w, ⟨by simp, .inr ⟨g, 0, #[], rfl, hg1, hg3, by simp, by simp, by simp, by simp⟩⟩, fun j hj => by simp [Value.ownBlock] at hj; omega⟩
  have : (Builtin.append_ #[t, t] ty #[.slice (some ⟨g, 0, none⟩) 0 0, .slice A 0 c]).run P w = .ok (.slice (some ⟨g, 0, none⟩) 0 0) w := by
   cases A <;> simp [Builtin.append_, run_underlying ht, sizeOf, typeInfo, hi, Builtin.lenOf, Builtin.firstCells, storeCells, loadCells, loadCellsFrom]
  simp [execOp, resolve, invoke, builtin, hre, hxe, this]
 ·obtain ⟨ad, rfl⟩ : ∃ ad, A = some ad := by
   have h1 : 0 < ys.length := by rw [hl]; exact Nat.mul_pos h0 hsz
   obtain ⟨ad, h2, _⟩ := hrow 0 _ (List.getElem?_eq_getElem h1)
   exact ⟨ad, h2⟩
  have hbb : m * i.bytes ≤ m * 4096 := Nat.mul_le_mul_left _ (by omega)
  obtain ⟨v', w', h2, h3, h4⟩ := run_append_arg_grows (P := P) w t ty e i z sz i.bytes ht hi hz hs rfl hz1 hsz ⟨g, 0, none⟩ 0 0 [] (by simp) (fun j u hu => by simp at hu) ad m c ys hl (fun j u hu => by obtain ⟨ad', h5, _, h6⟩ := hrow j u hu; injection h5 with h5; subst h5; exact h6) (by omega) (by simp only [maxLen]; omega) (by rw [Nat.zero_add]; omega)
  rw [Nat.zero_add, List.nil_append] at h3
  refine out_val (x := v') (w' := w') (by simp [execOp, resolve, invoke, builtin, hre, hxe, h2]) ⟨(Below.refl w.heap.size w).grown h4 (Nat.le_refl _) (fun g hg => by cases hg), ⟨h3.1, h3.2.imp id ?_⟩, lt_of_row h3⟩
  rintro ⟨g, cap, cur, h5, h6, h7⟩; exact ⟨g, cap, cur, h5, by omega, h7⟩
theorem ok_makeG {t e : TypeId} {x y : Operand} {z : Value} {nb sz : Nat} {k k' : IntKind} (c : Nat) (ht : P.underlying t = some (.slice e)) (hinfo : InfoP P e z sz nb) (hnb : nb ≤ 4096)
  (hx : E.at x = some (.v (.int k (c : Int)))) (hy : E.at y = some (.v (.int k' (c : Int)))) (hc : c ≤ 1048576) :
  OpOk P B ⟨dst, .makeSlice t x y, ty, pos, after, guard⟩ E (newD B e (fun b => .slice (some ⟨b, 0, none⟩) c c) (madeCells z.cells (c * sz)).toList) := fun ρ w hB _ hρ => by
 obtain ⟨i, hi, hz, hs, hb⟩ := hinfo.get
 have h1 : ρ x = _ := hρ x (by simp [Op.operands]) _ hx
 have h2 : ρ y = _ := hρ y (by simp [Op.operands]) _ hy
 have hbc : i.bytes * c ≤ 4096 * c := Nat.mul_le_mul_right c (by omega)
 have hr := run_make (P := P) w t e i z ht hi hz k k' (c : Int) (c : Int) (by omega) (by omega) (by rw [← Int.natCast_mul]; omega) (by omega)
 refine out_val (x := .slice (some ⟨w.heap.size, 0, none⟩) c c) (w' := w.alloc (.cells (madeCells z.cells (c * i.size)) e)) ?_ ⟨Grow.alloc w _, w.heap.size, rfl, hB, by simp, ?_⟩
 ·simp only [execOp, h1, h2, Sem.run_bind, hr, Result.andThen_ok, Sem.run_pure, Int.toNat_natCast]
 ·rw [← hs]; exact heap_alloc_new w _
end
section
variable {P : Program} {n B : Nat} {ops : Array Oper} {E : Env} {ty : TypeId} {pos : String} {after : Array Edge}
theorem eff_appendRG {t e : TypeId} {z : Value} {nb sz : Nat} {r x : Operand} {k m dst : Nat} {f : D} {xs ys : List Value} {E' : Env} (ht : P.underlying t = some (.slice e)) (hinfo : InfoP P e z sz nb) (hsz : 0 < sz) (hnb : nb ≤ 4096) (hz1 : z.cells.size = sz)
  (hr : E.at r = some (ownP B e sz k xs)) (hx : E.at x = some f) (hf : Le f (rowD m ys)) (h1 : ys.all (·.oneCell') = true) (hlen : ys.length = m * sz) (hk : k + m ≤ 1048576) (hdst : dst < n) (hl : ∀ g, B ≤ g → LeftS B e g E' E) :
  Eff P n B ops ⟨some dst, .call { callee := .builtin .append, args := #[r, x], argTypes := #[t, t] }, ty, pos, after, none⟩ E ((dst, ownP B e sz (k + m) (xs ++ ys)) :: E') := by
 obtain ⟨i, hi, hz, hs, hby⟩ := hinfo.get
 intro κ a w K Q h hK
 obtain ⟨hown, hob⟩ := h.at_ r _ hr
 obtain ⟨A, c, hxe, hrow⟩ := hf.of (h.at_ x _ hx)
 have hbase : ∀ g, (a.eval r).ownBlock = some g → B ≤ g := fun g hg => by
  rcases hown.2 with ⟨hv, _⟩ | ⟨g', cap, cur, hv, hb, _⟩
  ·rw [hv] at hg; simp [Value.ownBlock] at hg
  ·rw [hv] at hg; simp [Value.ownBlock] at hg; omega
 have hgo : ∃ v' w', (Builtin.append_ #[t, t] ty #[a.eval r, a.eval x]).run P w = .ok v' w' ∧ w'.ownsRow B e sz v' (k + m) (xs ++ ys) ∧ w.grownBy w' (a.eval r).ownBlock := by
  cases A with
  | none =>
   have hy : ys = [] := by
    cases ys with
    | nil => rfl
    | cons y ys => obtain ⟨_, h0, _⟩ := hrow 0 y rfl; cases h0
   subst hy
   have h0 : m = 0 := by
    have : m * sz = 0 := by simpa using hlen.symm
    rcases Nat.mul_eq_zero.1 this with h | h
    ·exact h
    ·omega
   subst h0
   refine ⟨a.eval r, w, ?_, by simpa using hown, World.grownBy.refl _ _⟩
   rcases hown.2 with ⟨hv, hn0⟩ | ⟨g, cap, cur, hv, _, _, hnc, _⟩
   ·rw [hv, hxe]; simp [Builtin.append_, run_underlying ht, sizeOf, typeInfo, hi, Builtin.lenOf, Builtin.firstCells]
   ·rw [hv, hxe]; simp [Builtin.append_, run_underlying ht, sizeOf, typeInfo, hi, Builtin.lenOf, Builtin.firstCells, hnc, storeCells]
  | some ad =>
   have hbb : (k + m) * i.bytes ≤ (k + m) * 4096 := Nat.mul_le_mul_left _ (by omega)
   obtain ⟨v', w', h2, h3, h4, _, _⟩ := run_append_own_at (P := P) w B t ty e i z sz i.bytes ht hi hz hs rfl hz1 hsz (a.eval r) k xs hown ad m c ys hlen (fun j u hu => by obtain ⟨ad', h5, _, h6⟩ := hrow j u hu; injection h5 with h5; subst h5; exact h6) (fun u hu => List.all_eq_true.1 h1 u hu) (by simp only [maxLen]; omega) (by omega) h.base
   exact ⟨v', w', by rw [hxe]; exact h2, h3, h4⟩
 obtain ⟨v', w', hrun, h3, h4⟩ := hgo
 have hexec : (execOp a.eval ⟨some dst, .call { callee := .builtin .append, args := #[r, x], argTypes := #[t, t] }, ty, pos, after, none⟩).run P w = .ok (.value v') w' := by
  simp [execOp, resolve, invoke, builtin, hrun]
 rw [if_pos (by simp [Region.wanted])]
 refine opR (by nofun) ?_
 unfold Oper.wp
 rw [hexec, Oper.upon_value]
 have hbel : Below B w w' := (Below.refl B w).grown h4 h.base hbase
 have hwr : ∃ g, B ≤ g ∧ Wrote B e g w w' := by
  rcases hown.2 with ⟨hv, _⟩ | ⟨g', cap, cur, hv, hb, hh, _⟩
  ·refine ⟨w.heap.size, h.base, h.base, h4.os, h4.tape, h4.output, h4.size, fun o hx => ?_, fun k hk _ => h4.block k hk (by rw [hv]; simp [Value.ownBlock])⟩
   rw [Array.getElem?_eq_none (Nat.le_refl _)] at hx; cases hx
  ·refine ⟨g', hb, hb, h4.os, h4.tape, h4.output, h4.size, fun o hx => ?_, fun k hk hne => h4.block k hk (by rw [hv]; simp [Value.ownBlock]; omega)⟩
   rw [hh] at hx; injection hx with hx; exact ⟨_, _, hx.symm⟩
 obtain ⟨g, hg, hwr⟩ := hwr
 exact hK _ _ hbel (((hl g hg).st h hwr).put hdst ⟨h3, lt_of_row h3⟩)
end
end
section
theorem infoN : InfoP Tryz.prog 57 (aggV (NodT.emp 0 0).v) 274 368 := by unfold InfoP; kernel_rfl
abbrev trM (ad : Addr) (T : List NodT) : Env := [(1000501, memR (some ad) (nodsV T))]
abbrev emF1 (p q : Nat) : Value := .func (.func 84) #[] #[ptr p, ptr q]
abbrev emM (n : Nat) (ad : Addr) (T : List NodT) (c p q : Nat) : Env := [(1000601, blk p 32 [nI n, .slice (some ad) T.length c]), (1000602, blk q 115 [emF1 p q]), (1000501, memR (some ad) (nodsV T))]
abbrev wrongV (l j : Nat) (k : Int) : Value := .iface 149 (aggV [nI l, nI j, .iface 140 (.int .i64 k)])
theorem buildW (l j : Nat) (k : Int) : Tryz.prog.built 149 [(0, aggV (plV l j)), (1, .iface 140 (.int .i64 k))] = some ([nI l, nI j, .iface 140 (.int .i64 k)] : List Value).toArray := by kernel_rfl
def kidC (n l j i : Nat) : Nat := if l = 0 then 0 else min i (pts n l j)
def kidL (l j k : Nat) : List Value := (List.range k).flatMap fun w => plV (l - 1) (4 * j + w)
theorem kidL_length (l j k : Nat) : (kidL l j k).length = k * 2 := by
 unfold kidL; rw [flat_length (k := 2) (fun a _ => rfl), List.length_range]
theorem kidL_at {l j k i : Nat} (h : i < k) : ((kidL l j k).drop (i * 2)).take 2 = plV (l - 1) (4 * j + i) := by
 unfold kidL
 rw [flatM_at (k := 2) (fun a _ => rfl) (by rw [List.length_range]; exact h)]; simp
theorem kidL_step (l j k : Nat) : kidL l j k ++ plV (l - 1) (4 * j + k) = kidL l j (k + 1) := by
 unfold kidL; rw [List.range_succ, List.flatMap_append]; simp
theorem kidC_0 (n l j : Nat) : kidC n l j 0 = 0 := by unfold kidC; split <;> simp
theorem kid_start (n l j : Nat) {B : Nat} {e : TypeId} : Le (.v (.slice none 0 0)) (ownP B e 2 (kidC n l j 0) (kidL l j (kidC n l j 0))) := by rw [kidC_0]; exact ownP_nil
theorem kidC_4 (n l j : Nat) : kidC n l j 4 = if l = 0 then 0 else pts n l j := by unfold kidC; have := pts_le n l j; split <;> omega
theorem kidC_y {n l j i : Nat} (h0 : 0 < l) (h : i < pts n l j) : kidC n l j i = i ∧ kidC n l j (i + 1) = i + 1 := by unfold kidC; rw [if_neg (by omega), if_neg (by omega)]; omega
theorem kidC_n {n l j i : Nat} (h : ¬ (0 < l ∧ i < pts n l j)) : kidC n l j (i + 1) = kidC n l j i := by
 unfold kidC
 split
 ·rfl
 ·omega
def kidE (n l j w : Nat) : Int := if 0 < l ∧ w < pts n l j then 0 else 11
def kidP (n l j w : Nat) : List Value := if 0 < l ∧ w < pts n l j then plV (l - 1) (4 * j + w) else [.int .i64 0, .int .i64 0]
theorem kidP_len (n l j w : Nat) : (kidP n l j w).length = 2 := by unfold kidP; split <;> rfl
theorem kidP_one (n l j w : Nat) : (kidP n l j w).all (·.oneCell') = true := by unfold kidP; split <;> rfl
theorem zero32 : ZeroIs Tryz.prog 32 ([.int .i64 0] ++ [.slice none 0 0]) := by unfold ZeroIs; kernel_rfl
theorem size32 : SizeIs Tryz.prog 32 2 := by unfold SizeIs; kernel_rfl
theorem field32_0 : FieldIs Tryz.prog 32 0 0 1 := by unfold FieldIs; kernel_rfl
theorem field32_1 : FieldIs Tryz.prog 32 1 1 1 := by unfold FieldIs; kernel_rfl
theorem zero69 : ZeroIs Tryz.prog 69 ([.int .i64 0] ++ [.slice none 0 0]) := by unfold ZeroIs; kernel_rfl
theorem size69 : SizeIs Tryz.prog 69 2 := by unfold SizeIs; kernel_rfl
theorem field69_0 : FieldIs Tryz.prog 69 0 0 1 := by unfold FieldIs; kernel_rfl
theorem field69_1 : FieldIs Tryz.prog 69 1 1 1 := by unfold FieldIs; kernel_rfl
theorem zero115 : ZeroIs Tryz.prog 115 [.nilFunc] := by unfold ZeroIs; kernel_rfl
theorem info104 : InfoIs Tryz.prog 104 (.nilIface) 16 := by unfold InfoIs; kernel_rfl
theorem info115 : InfoIs Tryz.prog 115 (.nilFunc) 8 := by unfold InfoIs; kernel_rfl
theorem zero104 : ZeroIs Tryz.prog 104 [.nilIface] := by unfold ZeroIs; kernel_rfl
theorem info30 : InfoIs Tryz.prog 30 (.slice none 0 0) 24 := by unfold InfoIs; kernel_rfl
theorem Child_any (n : Nat) (h1 : 1 ≤ n) (h2 : n ≤ 4096) (l j : Nat) (hl : l ≤ hg n) (hj : j < un n (l + 1)) (x : Nat) (hx : x < 4) : Fn Tryz.prog 99 [.v (nI (n)), .v (aggV (plV l j)), .v (nI (x))] (.v (.tuple #[aggV (kidP n l j x), .int .i64 (kidE n l j x)])) := by
 unfold kidE kidP
 by_cases h0 : l = 0
 ·rw [if_neg (by omega), if_neg (by omega)]; exact Child_leaf n h1 h2 l j hl hj h0 x hx
 by_cases h : x < pts n l j
 ·rw [if_pos ⟨by omega, h⟩, if_pos ⟨by omega, h⟩]; exact Child_ok n h1 h2 l j hl hj (by omega) x h
 ·rw [if_neg (by omega), if_neg (by omega)]; exact Child_none n h1 h2 l j hl hj (by omega) x hx (by omega)
theorem numberOf_fn (n : Nat) (h1 : 1 ≤ n) (h2 : n ≤ 4096) (l j : Nat) (hl : l ≤ hg n) (hj : j < un n (l + 1))  : Fn Tryz.prog 74 [.v (nI (n)), .v (aggV (plV l j))] (.v (nI (tot n l + j))) := by
 have hh := hg_le n
 refine FV Tryz.func74 rfl Tryz.ntmps74 rfl fun w₀ => ?_
 refine GS (TN 0 (RN ?_));refine ZB 1000003 rfl fun b3 ⟨hBb3, hb3⟩ => ?_
 refine TL (RVN 1 rfl ?_);refine GT (RS (ok_field field67_1 (by decide) rfl) ?_);refine RLV 1000003 U3 rfl rfl rfl ?_;refine RVN 1 rfl ?_;refine QS (GT (RS (ok_field field67_0 (by decide) rfl) ?_));refine RLV 1000003 U3 rfl rfl rfl ?_;refine RVN 1 rfl ?_;refine A.block ?_;refine A.loop (ι := Nat) (fun i => i ≤ l) (fun i => [(0, .v (nI (n))), (5, .v (nI (tot n i + j))), (12, .v (nI (l))), (13, .v (nI (i)))]) (fun i => l - i) 0 ?_ ?_ ?_
 ·exact Nat.zero_le _
 ·exact (KC 0 rfl (KE 5 rfl (by rw [tot_zero, Nat.zero_add]) (KC 12 rfl (KE 13 rfl (by rfl) KN))))
 intro i hi'
 refine GV rfl (QS ?_);refine A.cond rfl (fun hc14 => ?_) (fun hc14 => ?_)
 ·have hi2 : i < l := by simp at hc14; omega
  refine QK (QSB (GV rfl (GT (RV 2 rfl ?_))));refine RS (ok_call (Count_ok n h1 h2 i (by omega)) (A2 rfl rfl)) ?_;refine RVN 5 rfl ?_;refine GTE (RV 3 rfl ?_);refine RZ (nI (tot n (i + 1) + j)) (by rw [show ((tot n i + j : Nat) : Int) + ((un n (i + 1) : Nat) : Int) = ((tot n (i + 1) + j : Nat) : Int) from by rw [tot_succ]; omega]; exact wrap_eq rfl (by have := tot_small h1 h2 (show i + 1 ≤ 6 by omega); have := un_le h1 (l + 1); omega)) ?_;refine RVN 1 rfl ?_;refine End.normal_block (EN (GTE (RB rfl rfl rfl ?_)));refine RZ (nI (i + 1)) (wrap_eq (by omega) (by omega)) ?_;refine RVN 1 rfl ?_;refine End.normal_then ?_;refine End.again (i + 1) ?_ ?_ ?_
  ·show _ ≤ _; omega
  ·show _ - _ < _ - _; omega
  ·exact (Sv [0,5,12,13] rfl)
 ·have hi2 : i = l := by simp at hc14; omega
  refine A.exit (End.exit_then (End.exit_then (End.exit_here (EN (GV rfl (A.ret ?_))))));exact End.ret1 rfl rfl (Le.eq (by rw [hi2]))
theorem at_fn (n : Nat) (h1 : 1 ≤ n) (h2 : n ≤ 4096) (l j : Nat) (hl : l ≤ hg n) (hj : j < un n (l + 1)) (ad : Addr) (T : List NodT) (hT : FitT T) (q : Nat) (h : tot n l + j < T.length)  : FnM Tryz.prog 50 (trM ad T) [.v (aggV [nI n, .slice (some ad) T.length q]), .v (aggV (plV l j))] (.v (aggV (ndAt T (tot n l + j)).v)) := by
 refine FnM.ofO Tryz.func50 rfl (by kernel_rfl) Tryz.ntmps50 (by simp) (by decide) (fun w => [(0, .v (aggV [nI n, .slice (some ad) T.length q])), (1, .v (aggV (plV l j))), (1000501, old w.heap.size (memR (some ad) (nodsV T)))]) (fun w => (StartMO.v rfl (StartMO.v rfl (StartMO.mo (by simp [trM]) (by decide) StartMO.nil)))) fun w₀ hM => ?_
 skip
 refine GS (TN 0 (RN ?_));refine ZB 1000002 rfl fun b2 ⟨hBb2, hb2⟩ => ?_
 refine TN 1 (RN ?_);refine ZB 1000003 rfl fun b3 ⟨hBb3, hb3⟩ => ?_
 refine TN 2 (RN ?_);refine ZN 1000004 zero57 fun b4 ⟨hBb4, hb4⟩ => ?_
 refine TL (RN (A.regsOK (k := 1000004) (ys := (ndAt T (tot n l + j)).v) 8 (by kernel_rfl) (by kernel_rfl) (by kernel_rfl) rfl (Sv [2,3,4,1000002,1000003,1000501] rfl) rfl hBb4 (size57.of ((hT.at _).len)) (by rw [(hT.at _).len]; rfl) (NodT.one _) (LV 2 rfl (LV 3 rfl (LV 4 rfl (LT 1000002 rfl (LT 1000003 rfl (LO 1000501 rfl LN)))))) ?_));refine OncesK.cons (_) rfl rfl (.inl rfl) FromN.all (ok_field field32_1 (by decide) rfl) ?_;refine OncesK.cons ((5, .v _) :: _) rfl rfl (.inl rfl) (FromN.op 0 (by kernel_rfl) rfl rfl FromN.all) (ok_loadV (s := 1000002) (by decide) U30 rfl rfl rfl (rfl)) ?_;refine OncesK.cons (_) rfl rfl (.inl rfl) FromN.all (ok_field field32_0 (by decide) rfl) ?_;refine OncesK.cons ((7, .v _) :: _) rfl rfl (.inl rfl) (FromN.op 2 (by kernel_rfl) rfl rfl FromN.all) (ok_loadV (s := 1000002) (by decide) U3 rfl rfl rfl (rfl)) ?_;refine OncesK.cons (_) rfl rfl (.inl rfl) FromN.all (ok_loadA (s := 1000003) (by decide) U67 rfl (size67.of (rfl)) rfl rfl) ?_;refine OncesK.cons ((8, .v _) :: (9, .v _) :: _) rfl rfl (.inl rfl) (FromN.op 3 (by kernel_rfl) rfl rfl (FromN.op 4 (by kernel_rfl) rfl rfl FromN.all)) (ok_call (numberOf_fn n h1 h2 l j hl hj) (A2 rfl rfl)) ?_;refine OncesK.cons ((6, .v _) :: (10, .v _) :: _) rfl rfl (.inl rfl) (FromN.op 1 (by kernel_rfl) rfl rfl (FromN.op 5 (by kernel_rfl) rfl rfl FromN.all)) (ok_indexRX (tot n l + j) U30 infoN rfl rfl h) ?_;refine OncesK.cons ((11, .v _) :: _) rfl rfl (.inl rfl) (FromN.op 6 (by kernel_rfl) rfl rfl FromN.all) (ok_loadRXT (ys := (ndAt T (tot n l + j)).v) (s := 1000501) U57 rfl (size57.of (hT.at _).len) rfl (by decide) rfl (by rw [(hT.at _).len]; exact nods_at hT h)) ?_;refine OncesK.store ((12, .v _) :: _) rfl (FromN.op 7 (by kernel_rfl) rfl rfl FromN.all) rfl rfl ?_;refine OncesK.nil ⟨_, FromE.all, ?_⟩
 refine A.sub (Sv [4,1000002,1000003,1000004,1000501] rfl) ?_;refine A.ret ?_;exact End.cell1 (s := 1000004) rfl U57 rfl (size57.of ((hT.at _).len)) rfl rfl (Le.refl _)
theorem digestOf_fn (x : NodT) (hx : x.Fit) (hk : x.ck = 0) : FnM Tryz.prog 48 tabN [.v (aggV x.v)] (.v (aggV ((sha x.bl).map byteV))) := by
 refine FnM.of Tryz.func48 rfl (by kernel_rfl) Tryz.ntmps48 (by simp) (by decide) (fun w => [(0, .v (aggV x.v)), (1900001, tab 1 (sizV)), (1900002, tab 2 (H8.list.map u32V)), (1900003, tab 3 (K64.map u32V))]) (fun w => (StartM.v rfl (StartM.m (by simp [tabN]) (by decide) (StartM.m (by simp [tabN]) (by decide) (StartM.m (by simp [tabN]) (by decide) StartM.nil))))) fun w₀ hM => ?_
 have htab := tabN_hi hM
 refine GS (TN 0 (RN ?_));refine ZB 1000001 rfl fun b1 ⟨hBb1, hb1⟩ => ?_
 refine TN 1 (RN ?_);refine ZN 1000002 zero40 fun b2 ⟨hBb2, hb2⟩ => ?_
 refine TL (RN (GS (TN 5 (RL 1000001 U57 rfl rfl (size57.of (hx.len)) ?_))));refine RS (ok_callM (nDigest_ok x hx hk) (Sub.cons rfl (Sub.cons rfl (Sub.cons rfl KN))) tabN_v (A1 rfl)) ?_;refine RVN 3 rfl ?_;refine ZN 1000003 zero40 fun b3 ⟨hBb3, hb3⟩ => ?_
 have hlt_b2_b3 := hb3 1000002 b2 _ _ rfl
 refine TF 6 (RN ?_);refine ⟨_, eff_storeA (n := 11) (s := 1000003) (size40.of (by rw [List.length_map, sha_length])) rfl rfl (all_bytes _) hBb3 rfl (by rw [List.length_map, sha_length]; rfl) (LT 1000001 rfl (LB 1000002 rfl (LQ 1900001 rfl (LQ 1900002 rfl (LQ 1900003 rfl (LW [2,3,9] rfl)))))), ?_⟩
 refine TL (RVN 1 rfl ?_);refine GS (TF 1 (RL 1000003 U40 rfl rfl (size40.of (by rw [List.length_map, sha_length])) ?_));refine RN ?_;refine ⟨_, eff_storeA (n := 11) (s := 1000002) (size40.of (by rw [List.length_map, sha_length])) rfl rfl (all_bytes _) hBb2 rfl (by rw [List.length_map, sha_length]; rfl) (LV 2 rfl (LT 1000001 rfl (LB 1000003 rfl (LQ 1900001 rfl (LQ 1900002 rfl (LQ 1900003 rfl LN)))))), ?_⟩
 refine TL (RN (A.ret ?_));exact End.cell1 (s := 1000002) rfl U40 rfl (size40.of (by rw [List.length_map, sha_length])) rfl rfl (Le.refl _)
theorem isZero_fn (e : EntT) (he : e.Fit) : Fn Tryz.prog 78 [.v (aggV e.v)] (.v (.bool (decide e.Z))) := by
 refine FV Tryz.func78 rfl Tryz.ntmps78 rfl fun w₀ => ?_
 refine GS (TN 0 (RN ?_));refine ZB 1000001 rfl fun b1 ⟨hBb1, hb1⟩ => ?_
 refine TL (RVN 1 rfl ?_);refine GT (RL 1000001 U54 rfl rfl (size54.of (he.len)) ?_);refine RS (ok_lit [] (EntT.v EntT.zero) (fun _ _ => rfl) (by kernel_rfl)) ?_;refine RS (ok_eqlT (n := 4) (decide e.Z) flat54 (by decide) (by kernel_rfl) (by kernel_rfl) rfl rfl he.kin EntT.zero_fit.kin (EntT.dz _)) ?_;refine RVN 1 rfl ?_;refine A.ret ?_;exact ER rfl rfl
theorem cFit_ok (n : Nat) (h1 : 1 ≤ n) (h2 : n ≤ 4096) (l j : Nat) (x : NodT) (hx : x.Fit) (ha : x.l.toNat = l) (hb : x.j = j) (hc : ftN n x = 0) : Fn Tryz.prog 77 [.v (nI (n)), .v (aggV (plV l j)), .v (aggV x.v)] (.v (.nilIface)) := by
 refine FV Tryz.func77 rfl Tryz.ntmps77 rfl fun w₀ => ?_
 refine GS (TN 0 (RN ?_));refine ZB 1000004 rfl fun b4 ⟨hBb4, hb4⟩ => ?_
 refine TN 1 (RN ?_);refine ZB 1000005 rfl fun b5 ⟨hBb5, hb5⟩ => ?_
 refine TL (RVN 1 rfl ?_);refine QS (GT (RS (ok_field field57_0 (by decide) rfl) ?_));refine RLV 1000005 U5 rfl rfl rfl ?_;refine RS (ok_conv U5 U3 rfl) ?_;refine RZ (nI (x.l.toNat)) (congrArg (Value.int .i64) (wrap_i64 (by omega) (by have := x.l.toNat_lt; omega))) ?_;refine RS (ok_field field67_0 (by decide) rfl) ?_;refine RLV 1000004 U3 rfl rfl rfl ?_;refine RB rfl rfl rfl ?_;refine RZ (.bool false) (by simp [ha]) ?_;refine RM rfl ?_;refine RQ (ok_field field57_1 (by decide) rfl) ?_;refine RQ (ok_loadV (s := 1000005) (by decide) U46 rfl rfl rfl (rfl)) ?_;refine RQ (ok_conv U46 U3 rfl) ?_;refine RZ (nI (x.j)) (congrArg (Value.int .i64) (wrap_i64 (by omega) (by have := hx.j; omega))) ?_;refine RQ (ok_field field67_1 (by decide) rfl) ?_;refine RQ (ok_loadV (s := 1000004) (by decide) U3 rfl rfl rfl (rfl)) ?_;refine RQ (ok_bin rfl rfl rfl) ?_;refine RZ (.bool false) (by simp [hb]) ?_;refine RP rfl rfl ?_;refine RF ?_;refine RV 2 rfl ?_;refine RQ (ok_loadA (s := 1000005) (by decide) U57 rfl (size57.of (hx.len)) rfl rfl) ?_;refine RQ (ok_call (nFits_fn n x hx) (A2 rfl rfl)) ?_;refine RZ (.int .i64 0) (by rw [hc]) ?_;refine RQ (ok_bin rfl rfl rfl) ?_;refine RF ?_;refine RP rfl rfl ?_;refine RF ?_;refine RN (A.no rfl ?_);refine QK (GV rfl (A.ret ?_));exact ER rfl rfl
theorem cFit_1 (n : Nat) (h1 : 1 ≤ n) (h2 : n ≤ 4096) (l j : Nat) (x : NodT) (hx : x.Fit) (ha : x.l.toNat ≠ l) : Fn Tryz.prog 77 [.v (nI (n)), .v (aggV (plV l j)), .v (aggV x.v)] (.v (wrongV (l) (j) 17)) := by
 refine FV Tryz.func77 rfl Tryz.ntmps77 rfl fun w₀ => ?_
 refine GS (TN 0 (RN ?_));refine ZB 1000004 rfl fun b4 ⟨hBb4, hb4⟩ => ?_
 refine TN 1 (RN ?_);refine ZB 1000005 rfl fun b5 ⟨hBb5, hb5⟩ => ?_
 refine TL (RVN 1 rfl ?_);refine QS (GT (RS (ok_field field57_0 (by decide) rfl) ?_));refine RLV 1000005 U5 rfl rfl rfl ?_;refine RS (ok_conv U5 U3 rfl) ?_;refine RZ (nI (x.l.toNat)) (congrArg (Value.int .i64) (wrap_i64 (by omega) (by have := x.l.toNat_lt; omega))) ?_;refine RS (ok_field field67_0 (by decide) rfl) ?_;refine RLV 1000004 U3 rfl rfl rfl ?_;refine RB rfl rfl rfl ?_;refine RZ (.bool true) (by simp; omega) ?_;refine RVN 14 rfl ?_;refine A.yes rfl ?_;refine GT (RL 1000004 U67 rfl rfl (size67.of rfl) ?_);refine RS (ok_iface U140 rfl rfl) ?_;refine RS (ok_litS [(0, aggV (plV l j)), (1, .iface 140 (.int .i64 17))] [nI l, nI j, .iface 140 (.int .i64 17)] ⟨rfl, rfl, rfl, rfl, trivial⟩ (buildW _ _ _)) ?_;refine RS (ok_iface U149 rfl rfl) ?_;refine RVN 1 rfl ?_;refine A.sub (Sv [6,1000004,1000005] rfl) ?_;refine A.ret (End.ret_then ?_);exact ER rfl rfl
theorem cFit_2 (n : Nat) (h1 : 1 ≤ n) (h2 : n ≤ 4096) (l j : Nat) (x : NodT) (hx : x.Fit) (ha : x.l.toNat = l) (hb : x.j ≠ j) : Fn Tryz.prog 77 [.v (nI (n)), .v (aggV (plV l j)), .v (aggV x.v)] (.v (wrongV (l) (j) 17)) := by
 refine FV Tryz.func77 rfl Tryz.ntmps77 rfl fun w₀ => ?_
 refine GS (TN 0 (RN ?_));refine ZB 1000004 rfl fun b4 ⟨hBb4, hb4⟩ => ?_
 refine TN 1 (RN ?_);refine ZB 1000005 rfl fun b5 ⟨hBb5, hb5⟩ => ?_
 refine TL (RVN 1 rfl ?_);refine QS (GT (RS (ok_field field57_0 (by decide) rfl) ?_));refine RLV 1000005 U5 rfl rfl rfl ?_;refine RS (ok_conv U5 U3 rfl) ?_;refine RZ (nI (x.l.toNat)) (congrArg (Value.int .i64) (wrap_i64 (by omega) (by have := x.l.toNat_lt; omega))) ?_;refine RS (ok_field field67_0 (by decide) rfl) ?_;refine RLV 1000004 U3 rfl rfl rfl ?_;refine RB rfl rfl rfl ?_;refine RZ (.bool false) (by simp [ha]) ?_;refine RM rfl ?_;refine RQ (ok_field field57_1 (by decide) rfl) ?_;refine RQ (ok_loadV (s := 1000005) (by decide) U46 rfl rfl rfl (rfl)) ?_;refine RQ (ok_conv U46 U3 rfl) ?_;refine RZ (nI (x.j)) (congrArg (Value.int .i64) (wrap_i64 (by omega) (by have := hx.j; omega))) ?_;refine RQ (ok_field field67_1 (by decide) rfl) ?_;refine RQ (ok_loadV (s := 1000004) (by decide) U3 rfl rfl rfl (rfl)) ?_;refine RQ (ok_bin rfl rfl rfl) ?_;refine RZ (.bool true) (by simp; omega) ?_;refine RP rfl rfl ?_;refine RT ?_;refine RVN 6 rfl ?_;refine A.yes rfl ?_;refine GT (RL 1000004 U67 rfl rfl (size67.of rfl) ?_);refine RS (ok_iface U140 rfl rfl) ?_;refine RS (ok_litS [(0, aggV (plV l j)), (1, .iface 140 (.int .i64 17))] [nI l, nI j, .iface 140 (.int .i64 17)] ⟨rfl, rfl, rfl, rfl, trivial⟩ (buildW _ _ _)) ?_;refine RS (ok_iface U149 rfl rfl) ?_;refine RVN 1 rfl ?_;refine A.sub (Sv [6,1000004,1000005] rfl) ?_;refine A.ret (End.ret_then ?_);exact ER rfl rfl
theorem cFit_3 (n : Nat) (h1 : 1 ≤ n) (h2 : n ≤ 4096) (l j : Nat) (x : NodT) (hx : x.Fit) (ha : x.l.toNat = l) (hb : x.j = j) (hc : ftN n x ≠ 0) : Fn Tryz.prog 77 [.v (nI (n)), .v (aggV (plV l j)), .v (aggV x.v)] (.v (wrongV (l) (j) 17)) := by
 refine FV Tryz.func77 rfl Tryz.ntmps77 rfl fun w₀ => ?_
 refine GS (TN 0 (RN ?_));refine ZB 1000004 rfl fun b4 ⟨hBb4, hb4⟩ => ?_
 refine TN 1 (RN ?_);refine ZB 1000005 rfl fun b5 ⟨hBb5, hb5⟩ => ?_
 refine TL (RVN 1 rfl ?_);refine QS (GT (RS (ok_field field57_0 (by decide) rfl) ?_));refine RLV 1000005 U5 rfl rfl rfl ?_;refine RS (ok_conv U5 U3 rfl) ?_;refine RZ (nI (x.l.toNat)) (congrArg (Value.int .i64) (wrap_i64 (by omega) (by have := x.l.toNat_lt; omega))) ?_;refine RS (ok_field field67_0 (by decide) rfl) ?_;refine RLV 1000004 U3 rfl rfl rfl ?_;refine RB rfl rfl rfl ?_;refine RZ (.bool false) (by simp [ha]) ?_;refine RM rfl ?_;refine RQ (ok_field field57_1 (by decide) rfl) ?_;refine RQ (ok_loadV (s := 1000005) (by decide) U46 rfl rfl rfl (rfl)) ?_;refine RQ (ok_conv U46 U3 rfl) ?_;refine RZ (nI (x.j)) (congrArg (Value.int .i64) (wrap_i64 (by omega) (by have := hx.j; omega))) ?_;refine RQ (ok_field field67_1 (by decide) rfl) ?_;refine RQ (ok_loadV (s := 1000004) (by decide) U3 rfl rfl rfl (rfl)) ?_;refine RQ (ok_bin rfl rfl rfl) ?_;refine RZ (.bool false) (by simp [hb]) ?_;refine RP rfl rfl ?_;refine RF ?_;refine RV 2 rfl ?_;refine RQ (ok_loadA (s := 1000005) (by decide) U57 rfl (size57.of (hx.len)) rfl rfl) ?_;refine RQ (ok_call (nFits_fn n x hx) (A2 rfl rfl)) ?_;refine RQ (ok_bin rfl rfl rfl) ?_;refine RZ (.bool true) (by simp [hc]) ?_;refine RVN 1 rfl ?_;refine A.yes rfl ?_;refine GT (RL 1000004 U67 rfl rfl (size67.of rfl) ?_);refine RS (ok_iface U140 rfl rfl) ?_;refine RS (ok_litS [(0, aggV (plV l j)), (1, .iface 140 (.int .i64 17))] [nI l, nI j, .iface 140 (.int .i64 17)] ⟨rfl, rfl, rfl, rfl, trivial⟩ (buildW _ _ _)) ?_;refine RS (ok_iface U149 rfl rfl) ?_;refine RVN 1 rfl ?_;refine A.sub (Sv [6,1000004,1000005] rfl) ?_;refine A.ret (End.ret_then ?_);exact ER rfl rfl
theorem checkFit_fn (n : Nat) (h1 : 1 ≤ n) (h2 : n ≤ 4096) (l j : Nat) (x : NodT) (hx : x.Fit) : Fn Tryz.prog 77 [.v (nI (n)), .v (aggV (plV l j)), .v (aggV x.v)] (.v (if fitA n l j x = true then .nilIface else wrongV (l) (j) 17)) := by
 by_cases ha : x.l.toNat = l
 ·by_cases hb : x.j = j
  ·by_cases hc : ftN n x = 0
   ·rw [if_pos (fitA_iff.2 ⟨ha, hb, hc⟩)]; exact cFit_ok n h1 h2 l j x hx ha hb hc
   ·rw [if_neg (fun h => hc (fitA_iff.1 h).2.2)]; exact cFit_3 n h1 h2 l j x hx ha hb hc
  ·rw [if_neg (fun h => hb (fitA_iff.1 h).2.1)]; exact cFit_2 n h1 h2 l j x hx ha hb
 ·rw [if_neg (fun h => ha (fitA_iff.1 h).1)]; exact cFit_1 n h1 h2 l j x hx ha
set_option maxHeartbeats 1000000 in
theorem children_fnB (n : Nat) (h1 : 1 ≤ n) (h2 : n ≤ 4096) (l j : Nat) (hl : l ≤ hg n) (hj : j < un n (l + 1))  : FnB Tryz.prog 73 [.v (nI (n)), .v (aggV (plV l j))] (fun B => ownP B 67 2 (kidC n l j 4) (kidL l j (kidC n l j 4))) := by
 have hh := hg_le n
 refine FnB.of Tryz.func73 rfl (by kernel_rfl) Tryz.ntmps73 (by simp) (fun w => [(0, .v (nI (n))), (1, .v (aggV (plV l j)))]) (fun w => (Start.v rfl (Start.v rfl Start.nil))) fun w₀ => ?_
 refine GS (TN 0 (RN ?_));refine ZB 1000003 rfl fun b3 ⟨hBb3, hb3⟩ => ?_
 refine TL (RVN 1 rfl ?_);refine GV rfl (QS (GV rfl (A.block (A.subL (QC 0 rfl (QC 3 rfl (QC 1000003 rfl (QX 5 rfl (kid_start (B := b3 + 1) (e := 67) n l j) (QC 9 rfl SubL.nil))))) ?_))));refine A.loop (ι := Nat) (fun i => i ≤ 4) (fun i => [(0, .v (nI (n))), (3, .v (ptr b3)), (1000003, blk b3 67 (plV l j)), (5, ownP (b3 + 1) 67 2 (kidC n l j i) (kidL l j (kidC n l j i))), (9, .v (nI (i)))]) (fun i => 4 - i) 0 ?_ ?_ ?_
 ·exact Nat.zero_le _
 ·exact (KC 0 rfl (KC 3 rfl (KC 1000003 rfl (KC 5 rfl (KE 9 rfl (by rfl) KN)))))
 intro i hi'
 refine GV rfl (QS ?_);refine A.cond rfl (fun hc10 => ?_) (fun hc10 => ?_)
 ·have hi4 : i < 4 := by simp at hc10; omega
  refine QK (QSB (GV rfl (GS (TN 7 (RM rfl ?_)))));refine RL 1000003 U67 rfl rfl (size67.of rfl) ?_;refine RM rfl ?_;refine RS (ok_call (Child_any n h1 h2 l j hl hj i hi4) (A3 rfl rfl rfl)) ?_;refine RVN 3 rfl ?_;refine ⟨_, _, eff_allocLt (n := 27) (d := 7) (k := 1000007) (r := 5) zero67 (by decide) rfl, fun b7 hb7 => ?_⟩
  have hBb7 := hb7.1
  have hlt_b3_b7 : b3 < b7 := hb7.2 1000003 _ _ _ rfl
  refine TF 8 (RN ?_);refine ⟨_, eff_storeA (n := 27) (s := 1000007) (size67.of (kidP_len _ _ _ _)) rfl rfl (kidP_one _ _ _ _) hBb7 rfl (by rw [kidP_len]; rfl) (LeftS.cons (t := 5) rfl (Surv.ltP) (LB 1000003 rfl (LW [0,3,7,9,18] rfl))), ?_⟩
  refine TL (RVN 1 rfl ?_);refine A.subL (QC 0 rfl (QC 3 rfl (QX 5 rfl (Le.lt) (QC 7 rfl (QC 8 rfl (QC 9 rfl (QC 1000003 rfl (QC 1000007 rfl SubL.nil)))))))) ?_;refine GV rfl ?_;refine A.cond rfl (fun hc20 => ?_) (fun hc20 => ?_)
  ·have hk : 0 < l ∧ i < pts n l j := Classical.byContradiction fun hk => by simp [kidE, hk] at hc20
   refine GE (TF 3 (RM rfl ?_));refine RL 1000007 U67 rfl rfl (size67.of (kidP_len _ _ _ _)) ?_;refine RS (ok_build1K U112 infoPP rfl (by decide) (by decide) rfl (kidP_len _ _ _ _)) ?_;refine RN ?_;refine ⟨_, Eff.raise (k := 1000003) rfl hBb3 (eff_appendP U112 infoPP (by decide) (by decide) rfl rfl rfl (kidP_len _ _ _ _) (kidP_one _ _ _ _) (by unfold kidC; split <;> omega) (by decide) (fun g hg => (LV 0 rfl (LV 3 rfl (LV 9 rfl (LB 1000003 rfl LN)))))), ?_⟩
   refine TL (RVN 1 rfl ?_);refine End.normal_block (EN (GTE (RB rfl rfl rfl ?_)));refine RZ (nI (i + 1)) (wrap_eq (by omega) (by omega)) ?_;refine RVN 1 rfl ?_;refine End.normal_then ?_;refine End.again (i + 1) ?_ ?_ ?_
   ·show _ ≤ _; omega
   ·show _ - _ < _ - _; omega
   ·exact (KC 0 rfl (KC 3 rfl (KC 1000003 rfl (KE 5 rfl (by first | (rw [kidC_n hk]; done) | (obtain ⟨e1, e2⟩ := kidC_y hk.1 hk.2; rw [e2, e1, ← kidL_step]; congr 2; unfold kidP; rw [if_pos hk])) (KC 9 rfl KN)))))
  ·have hk : ¬ (0 < l ∧ i < pts n l j) := fun hk => by simp [kidE, hk] at hc20
   refine A.skip (End.normal_block (EN (GTE (RB rfl rfl rfl ?_))));refine RZ (nI (i + 1)) (wrap_eq (by omega) (by omega)) ?_;refine RVN 1 rfl ?_;refine End.normal_then ?_;refine End.again (i + 1) ?_ ?_ ?_
   ·show _ ≤ _; omega
   ·show _ - _ < _ - _; omega
   ·exact (KC 0 rfl (KC 3 rfl (KC 1000003 rfl (KE 5 rfl (by first | (rw [kidC_n hk]; done) | (obtain ⟨e1, e2⟩ := kidC_y hk.1 hk.2; rw [e2, e1, ← kidL_step]; congr 2; unfold kidP; rw [if_pos hk])) (KC 9 rfl KN)))))
 ·have hi4 : i = 4 := by simp at hc10; omega
  refine A.exit (End.exit_then (End.exit_then (End.exit_here (EN (GV rfl (A.ret ?_))))));exact End.ret1 rfl rfl (by subst hi4; exact ownP_mono (by omega))
theorem emptiness_fnB (a s : Value) (ha : a.oneCell' = true) (hs : s.oneCell' = true) : FnB Tryz.prog 55 [.v (aggV [a, s])] (fun B => closE B 84 32 [a, s] 115) := by
 refine FnB.of Tryz.func55 rfl (by kernel_rfl) Tryz.ntmps55 (by simp) (fun w => [(0, .v (aggV [a, s]))]) (fun w => (Start.v rfl Start.nil)) fun w₀ => ?_
 refine GS (TN 0 (RN ?_));refine ZB 1000001 rfl fun b1 ⟨hBb1, hb1⟩ => ?_
 refine TL (RVN 1 rfl ?_);refine GS (TN 0 (RN ?_));refine ZN 1000003 zero115 fun b3 ⟨hBb3, hb3⟩ => ?_
 have hlt_b1_b3 := hb3 1000001 b1 _ _ rfl
 refine TL (RN (GS (TF 1 (RS (ok_makeFuncN [ptr b1, ptr b3] ⟨rfl, rfl, trivial⟩) ?_))));refine RN ?_;refine ⟨_, eff_storeS (n := 6) (s := 1000003) info115 rfl rfl rfl hBb3 rfl (by simp) (LV 3 rfl (LT 1000001 rfl LN)), ?_⟩
 refine TL (RN (GT (RLV 1000003 U115 rfl rfl rfl ?_)));refine RVN 1 rfl ?_;refine A.ret ?_;exact End.closE (k₁ := 1000001) (k₂ := 1000003) rfl hBb1 hBb3 (by omega) rfl rfl rfl
end
section
open Go Go.RowKit Go.Extern.Stop Go.Stop Go.Extern
abbrev vPF (a : Addr) : Value := .agg #[.pointer (some ⟨4,142, none⟩), .pointer (some a), .int .u64 150]
abbrev vF (a : Addr) (fl : Int) : Value := .agg #[.pointer (some ⟨4,140, none⟩), .pointer (some a), .int .u64 fl]
theorem e16_valueOfPF (t : Addr) (w : World) : (ReflectliteValue.unpack (.iface 142 (.pointer (some t)))).run Tryz.prog w
 = .ok (vPF ⟨w.heap.size, 0, none⟩) (w.alloc (.cells #[.pointer (some t)] 142)) := by kernel_rfl
theorem e16_typePF (a : Addr) (w : World) : (ReflectliteValue.methodAny (ReflectliteValue.valueError "reflectlite.Value.Type" 0) (fun t _ _ _ => ReflectliteType.toType t) #[vPF a]).run Tryz.prog w
 = .ok (.iface 202 (.agg #[.pointer (some ⟨4,142, none⟩)])) w := by kernel_rfl
theorem e16_methodKind (h : Value) (w : World) : (Go.method 379 202 (.agg #[h]) "Kind").run Tryz.prog w = .ok (180, h) w := by kernel_rfl
theorem e16_kindPF (w : World) : ((ReflectliteType.abiMethod fun t => (fun a : Nat => Value.int IntKind.u8 (a : Int)) <$> Rtype.kind t) #[.pointer (some ⟨4,142, none⟩)]).run Tryz.prog w = .ok (.int .u8 22) w := by kernel_rfl
theorem e16_kindF (w : World) : ((ReflectliteType.abiMethod fun t => (fun a : Nat => Value.int IntKind.u8 (a : Int)) <$> Rtype.kind t) #[.pointer (some ⟨4,140, none⟩)]).run Tryz.prog w = .ok (.int .u8 2) w := by kernel_rfl
theorem e16_rlm (z : Sem Value) (f : TypeId → Addr → Nat → Nat → Sem Value) (v : Value) :
 ReflectliteValue.method z f #[v] = (do match ← ReflectliteValue.parts v with | none => z | some (t, a, fl) => f t a fl (fl % 32)) := rfl
theorem e16_partsPF (a : Addr) (w : World) : (ReflectliteValue.parts (vPF a)).run Tryz.prog w = .ok (some (142, a, 150)) w := by kernel_rfl
theorem e16_isNil (a p : Addr) (W : World) (ha : W.cell? a = some (.pointer (some p))) :
  (ReflectliteValue.method (ReflectliteValue.valueError "reflectlite.Value.IsNil" 0) ReflectliteValue.isNil #[vPF a]).run Tryz.prog W = .ok (.bool false) W := by
 rw [e16_rlm]
 simp only [Sem.run_bind, e16_partsPF, Result.andThen]
 simp [ReflectliteValue.isNil, loadVar, isAgg, underlying, U142, ha, Result.andThen]
theorem e16_methodElem (h : Value) (w : World) : (Go.method 379 202 (.agg #[h]) "Elem").run Tryz.prog w = .ok (192, .agg #[h]) w := by kernel_rfl
theorem e16_methodImplements (h : Value) (w : World) : (Go.method 379 202 (.agg #[h]) "Implements").run Tryz.prog w = .ok (193, .agg #[h]) w := by kernel_rfl
theorem e16_methodAssignableTo (h : Value) (w : World) : (Go.method 379 202 (.agg #[h]) "AssignableTo").run Tryz.prog w = .ok (190, .agg #[h]) w := by kernel_rfl
theorem e16_elemPF (w : World) : (ReflectliteType.method ReflectliteType.elem #[.agg #[.pointer (some ⟨4,142, none⟩)]]).run Tryz.prog w = .ok (.iface 202 (.agg #[.pointer (some ⟨4,140, none⟩)])) w := by kernel_rfl
theorem e16_implementsF (w : World) : (ReflectliteType.relation "Implements" ReflectliteType.implements_ #[.agg #[.pointer (some ⟨4,140, none⟩)], .iface 202 (.agg #[.pointer (some ⟨4,104, none⟩)])]).run Tryz.prog w = .ok (.bool true) w := by kernel_rfl
theorem e16_typeOfF (v : Value) (w : World) : (ReflectliteType.typeOf #[.iface 140 v]).run Tryz.prog w = .ok (.iface 202 (.agg #[.pointer (some ⟨4,140, none⟩)])) w := by kernel_rfl
theorem e16_typeOfW (v : Value) (w : World) : (ReflectliteType.typeOf #[.iface 149 v]).run Tryz.prog w = .ok (.iface 202 (.agg #[.pointer (some ⟨4,149, none⟩)])) w := by kernel_rfl
theorem e16_assignFF (w : World) : (ReflectliteType.relation "AssignableTo" ReflectliteType.assignableTo #[.agg #[.pointer (some ⟨4,140, none⟩)], .iface 202 (.agg #[.pointer (some ⟨4,140, none⟩)])]).run Tryz.prog w = .ok (.bool true) w := by kernel_rfl
theorem e16_assignWF (w : World) : (ReflectliteType.relation "AssignableTo" ReflectliteType.assignableTo #[.agg #[.pointer (some ⟨4,149, none⟩)], .iface 202 (.agg #[.pointer (some ⟨4,140, none⟩)])]).run Tryz.prog w = .ok (.bool false) w := by kernel_rfl
theorem e16_valueOfF (k : Int) (w : World) : (ReflectliteValue.unpack (.iface 140 (.int .i64 k))).run Tryz.prog w = .ok (vF ⟨w.heap.size, 0, none⟩ 130) (w.alloc (.cells #[.int .i64 k] 140)) := by kernel_rfl
theorem e16_elemOfPF (w : World) : (Rtype.elem? 142).run Tryz.prog w = .ok (some 140) w := by kernel_rfl
theorem e16_mkF (p : Addr) (w : World) : (ReflectliteValue.mk 140 p ReflectliteValue.flagAddr).run Tryz.prog w = .ok (vF p 386) w := by kernel_rfl
theorem e16_elemV (a p : Addr) (W : World) (ha : W.cell? a = some (.pointer (some p))) :
  (ReflectliteValue.method (ReflectliteValue.valueError "reflectlite.Value.Elem" 0) ReflectliteValue.elem #[vPF a]).run Tryz.prog W = .ok (vF p 386) W := by
 rw [e16_rlm]
 simp only [Sem.run_bind, e16_partsPF, Result.andThen]
 simp [ReflectliteValue.elem, loadVar, isAgg, underlying, U142, ha, Result.andThen, e16_elemOfPF, e16_mkF]
theorem e16_rls (v x : Value) : ReflectliteValue.set #[v, x] = (do
  let (some (dst, a, fl), some (src, b, _)) := (← ReflectliteValue.parts v, ← ReflectliteValue.parts x)
   | unsupported (.noEntry "extern/(internal/reflectlite.Value).Set.zeroValue")
  if fl / ReflectliteValue.flagAddr % 2 == 0 then unsupported (.noEntry "extern/(internal/reflectlite.Value).Set.unaddressable")
  let val ← loadVar src b
  if ← Rtype.directlyAssignable dst src then storeVar dst a val
  else if ← Rtype.implements dst src then
   if (← Rtype.kind src) == 20 then
    match val with
    | .nilIface => unsupported (.noEntry "extern/reflectlite: a nil value of one interface type handed on as a value of another")
    | _ => storeVar dst a val
   else storeVar dst a (.iface src val)
  else panicString ("reflectlite.Set: value of type " ++ (← Rtype.spelt src) ++ " is not assignable to type " ++ (← Rtype.spelt dst))
  pure (.tuple #[])) := rfl
theorem e16_partsFa (a : Addr) (w : World) : (ReflectliteValue.parts (vF a 386)).run Tryz.prog w = .ok (some (140, a, 386)) w := by kernel_rfl
theorem e16_partsF (a : Addr) (w : World) : (ReflectliteValue.parts (vF a 130)).run Tryz.prog w = .ok (some (140, a, 130)) w := by kernel_rfl
theorem e16_direct (w : World) : (Rtype.directlyAssignable 140 140).run Tryz.prog w = .ok true w := by kernel_rfl
theorem e16_set (ta b : Addr) (k : Int) (old : Value) (W : World) (hb : W.cell? b = some (.int .i64 k)) (ht : W.cell? ta = some old) (hf : W.frozen? ta = false) :
  (ReflectliteValue.set #[vF ta 386, vF b 130]).run Tryz.prog W = .ok (.tuple #[]) (W.setCell ta (.int .i64 k)) := by
 rw [e16_rls]
 simp only [Sem.run_bind, e16_partsFa, e16_partsF, Result.andThen]
 simp [ReflectliteValue.flagAddr, loadVar, isAgg, underlying, U140, hb, Result.andThen, e16_direct, storeVar, Value.cells, storeCells, Addr.add]
 rw [run_store Tryz.prog W ta _ _ (by rfl)]
 simp [ht, hf]
theorem e16_as_no (v : Value) (xT : TypeId) (w : World) : (Instr.typeAssert (.iface 149 v) xT 207 true).run Tryz.prog w = .ok (.tuple #[.nilIface, .bool false]) w :=
 run_typeAssert_lacksB U207 (by kernel_rfl) (by kernel_rfl) v xT w
theorem e16_un_yes (v : Value) (xT : TypeId) (w : World) : (Instr.typeAssert (.iface 149 v) xT 210 true).run Tryz.prog w = .ok (.tuple #[.iface 149 v, .bool true]) w :=
 run_typeAssert_hasB U210 (by kernel_rfl) v xT w
theorem e16_methodUnwrap (x y z : Value) (w : World) : (Go.method 379 149 (.agg #[x, y, z]) "Unwrap").run Tryz.prog w = .ok (185, .agg #[x, y, z]) w := by kernel_rfl
theorem e16_unwrap (x y z : Value) (w : World) : Calls Tryz.prog 185 #[.agg #[x, y, z]] w fun e w' => e = .returned z ∧ w' = w.alloc (.cells #[x, y, z] 149) := by
 go_enter Tryz.func185, Tryz.ntmps185
 go_wp2
 go_ret
 exact ⟨rfl, rfl⟩
set_option maxHeartbeats 4000000 in
theorem e16_as_wrong (x y : Value) (k : Int) (a t : Addr) (old : Value) (w : World) (ha : w.cell? a = some (.pointer (some t))) (ht0 : w.cell? t = some old) (hf0 : w.frozen? t = false) :
  Calls Tryz.prog 103 #[.iface 149 (.agg #[x, y, .iface 140 (.int .i64 k)]), .iface 142 (.pointer (some t)), (vPF a), .iface 202 (.agg #[.pointer (some ⟨4,140, none⟩)])] w fun ev w' => ev = .returned (.bool true) ∧
   w' = (((w.alloc (.cells #[.pointer (some ⟨4,142, none⟩), .pointer (some a), .int .u64 150] 176)).alloc (.cells #[x, y, .iface 140 (.int .i64 k)] 149)).alloc (.cells #[.int .i64 k] 140)).setCell t (.int .i64 k) := by
 have hTO := @run_callFunc_extern Tryz.prog 124 _ (ReflectliteType.typeOf) Tryz.func124 (by kernel_rfl) (by kernel_rfl) (by kernel_rfl) (by kernel_rfl)
 have hAT := @run_callFunc_extern Tryz.prog 190 _ (ReflectliteType.relation "AssignableTo" ReflectliteType.assignableTo) Tryz.func190 (by kernel_rfl) (by kernel_rfl) (by kernel_rfl) (by kernel_rfl)
 have hVE := @run_callFunc_extern Tryz.prog 125 _ (ReflectliteValue.method (ReflectliteValue.valueError "reflectlite.Value.Elem" 0) ReflectliteValue.elem) Tryz.func125 (by kernel_rfl) (by kernel_rfl) (by kernel_rfl) (by kernel_rfl)
 have hVO := @run_callFunc_extern Tryz.prog 100 _ (fun args => ReflectliteValue.unpack (args.getD 0 (.tuple #[]))) Tryz.func100 (by kernel_rfl) (by kernel_rfl) (by kernel_rfl) (by kernel_rfl)
 have hVS := @run_callFunc_extern Tryz.prog 126 _ (ReflectliteValue.set) Tryz.func126 (by kernel_rfl) (by kernel_rfl) (by kernel_rfl) (by kernel_rfl)
 have tO := e16_typeOfF
 have tW := e16_typeOfW
 have mA := e16_methodAssignableTo
 have aF := e16_assignFF
 have aW := e16_assignWF
 have vF_ := e16_valueOfF
 have an := e16_as_no
 have uy := e16_un_yes
 have mU := e16_methodUnwrap
 have hla : a.block < w.heap.size := by
  rcases Nat.lt_or_ge a.block w.heap.size with h | h
  ·exact h
  ·simp [World.cell?, Array.getElem?_eq_none h] at ha
 have hlt : t.block < w.heap.size := by
  rcases Nat.lt_or_ge t.block w.heap.size with h | h
  ·exact h
  ·simp [World.cell?, Array.getElem?_eq_none h] at ht0
 have el := e16_elemV a t ((w.alloc (.cells #[.pointer (some ⟨4,142, none⟩), .pointer (some a), .int .u64 150] 176)).alloc (.cells #[x, y, .iface 140 (.int .i64 k)] 149)) (by rw [World.cell?_alloc_lt _ _ a (by simp; omega), World.cell?_alloc_lt _ _ a hla]; exact ha)
 have st := e16_set t ⟨w.heap.size + 1 + 1,0, none⟩ k old (((w.alloc (.cells #[.pointer (some ⟨4,142, none⟩), .pointer (some a), .int .u64 150] 176)).alloc (.cells #[x, y, .iface 140 (.int .i64 k)] 149)).alloc (.cells #[.int .i64 k] 140))
  (by rw [World.cell?_alloc_at _ _ _ _ (by simp)]; rfl) (by rw [World.cell?_alloc_lt _ _ t (by simp; omega), World.cell?_alloc_lt _ _ t (by simp; omega), World.cell?_alloc_lt _ _ t hlt]; exact ht0)
  (by rw [World.frozen?_alloc_old _ _ t (by simp; omega), World.frozen?_alloc_old _ _ t (by simp; omega), World.frozen?_alloc_old _ _ t (Nat.ne_of_lt hlt)]; exact hf0)
 go_enter Tryz.func103, Tryz.ntmps103
 go_wp2
 refine wp_loop_rounds 2 ?_
 rw [rounds_succ]
 go_wp2_with (go_at_call 185;refine (e16_unwrap _ _ _ _).mono ?_; rintro e w' ⟨rfl, rfl⟩)
 rw [rounds_succ]
 go_wp2
 go_ret
 exact ⟨rfl, rfl⟩
theorem e16_As_nil (v : Value) (w : World) : Calls Tryz.prog 75 #[.nilIface, v] w fun ev w' => ev = .returned (.bool false) ∧ w' = w := by
 go_enter Tryz.func75, Tryz.ntmps75
 go_wp2
 go_ret
 exact ⟨rfl, rfl⟩
theorem e16_no_nil (w : World) : Calls Tryz.prog 46 #[.nilIface] w fun e w' => e = .returned (.int .i64 0) ∧ Grow w w' := by
 go_enter Tryz.func46, Tryz.ntmps46
 go_wp2_with (go_at_call 75;refine (e16_As_nil _ _).mono ?_; rintro e w' ⟨rfl, rfl⟩)
 go_ret
 exact ⟨rfl, (Below.refl w.heap.size w).alloc (Nat.le_refl _) _⟩
set_option maxHeartbeats 4000000 in
theorem e16_As_wrong (x y : Value) (k : Int) (t : Addr) (old : Value) (w : World) (hg : w.cell? ⟨0,0, none⟩ = some (.iface 202 (.agg #[.pointer (some ⟨4,104, none⟩)]))) (ht0 : w.cell? t = some old) (hf0 : w.frozen? t = false) :
  Calls Tryz.prog 75 #[.iface 149 (.agg #[x, y, .iface 140 (.int .i64 k)]), .iface 142 (.pointer (some t))] w fun ev w' => ev = .returned (.bool true) ∧ w' = (((((w.alloc (.cells #[.pointer (some t)] 142)).alloc (.cells #[.pointer (some ⟨4,142, none⟩), .pointer (some ⟨w.heap.size, 0, none⟩), .int .u64 150] 176)).alloc (.cells #[.pointer (some ⟨4,142, none⟩), .pointer (some ⟨w.heap.size, 0, none⟩), .int .u64 150] 176)).alloc (.cells #[x, y, .iface 140 (.int .i64 k)] 149)).alloc (.cells #[.int .i64 k] 140)).setCell t (.int .i64 k) := by
 have hVO := @run_callFunc_extern Tryz.prog 100 _ (fun args => ReflectliteValue.unpack (args.getD 0 (.tuple #[]))) Tryz.func100 (by kernel_rfl) (by kernel_rfl) (by kernel_rfl) (by kernel_rfl)
 have hVT := @run_callFunc_extern Tryz.prog 101 _ (ReflectliteValue.methodAny (ReflectliteValue.valueError "reflectlite.Value.Type" 0) (fun t _ _ _ => ReflectliteType.toType t)) Tryz.func101 (by kernel_rfl) (by kernel_rfl) (by kernel_rfl) (by kernel_rfl)
 have hVN := @run_callFunc_extern Tryz.prog 102 _ (ReflectliteValue.method (ReflectliteValue.valueError "reflectlite.Value.IsNil" 0) ReflectliteValue.isNil) Tryz.func102 (by kernel_rfl) (by kernel_rfl) (by kernel_rfl) (by kernel_rfl)
 have hKI := @run_callFunc_extern Tryz.prog 180 _ (ReflectliteType.abiMethod fun t => do pure (.int .u8 (← Rtype.kind t))) Tryz.func180 (by kernel_rfl) (by kernel_rfl) (by kernel_rfl) (by kernel_rfl)
 have hEL := @run_callFunc_extern Tryz.prog 192 _ (ReflectliteType.method ReflectliteType.elem) Tryz.func192 (by kernel_rfl) (by kernel_rfl) (by kernel_rfl) (by kernel_rfl)
 have hIM := @run_callFunc_extern Tryz.prog 193 _ (ReflectliteType.relation "Implements" ReflectliteType.implements_) Tryz.func193 (by kernel_rfl) (by kernel_rfl) (by kernel_rfl) (by kernel_rfl)
 have f6 := e16_valueOfPF
 have f7 := e16_typePF
 have mK := e16_methodKind
 have mE := e16_methodElem
 have mI := e16_methodImplements
 have kP := e16_kindPF
 have kF := e16_kindF
 have eP := e16_elemPF
 have iF := e16_implementsF
 have hgl : 0 < w.heap.size := by
  rcases Nat.lt_or_ge 0 w.heap.size with h | h
  ·exact h
  ·simp [World.cell?, Array.getElem?_eq_none h] at hg
 have htl : t.block < w.heap.size := by
  rcases Nat.lt_or_ge t.block w.heap.size with h | h
  ·exact h
  ·simp [World.cell?, Array.getElem?_eq_none h] at ht0
 have n8 := e16_isNil ⟨w.heap.size, 0, none⟩ t ((w.alloc (.cells #[.pointer (some t)] 142)).alloc (.cells #[.pointer (some ⟨4,142, none⟩), .pointer (some ⟨w.heap.size, 0, none⟩), .int .u64 150] 176)) (by simp)
 have hg2 : ((w.alloc (.cells #[.pointer (some t)] 142)).alloc (.cells #[.pointer (some ⟨4,142, none⟩), .pointer (some ⟨w.heap.size, 0, none⟩), .int .u64 150] 176)).cell? ⟨0,0, none⟩ = some (.iface 202 (.agg #[.pointer (some ⟨4,104, none⟩)])) := by
  rw [World.cell?_alloc_lt _ _ ⟨0,0, none⟩ (by simp <;> omega), World.cell?_alloc_lt _ _ ⟨0,0, none⟩ hgl]; exact hg
 have ca := e16_as_wrong x y k ⟨w.heap.size, 0, none⟩ t old ((w.alloc (.cells #[.pointer (some t)] 142)).alloc (.cells #[.pointer (some ⟨4,142, none⟩), .pointer (some ⟨w.heap.size, 0, none⟩), .int .u64 150] 176)) (by simp)
  (by rw [World.cell?_alloc_lt _ _ t (by simp; omega), World.cell?_alloc_lt _ _ t htl]; exact ht0) (by rw [World.frozen?_alloc_old _ _ t (by simp; omega), World.frozen?_alloc_old _ _ t (Nat.ne_of_lt htl)]; exact hf0)
 go_enter Tryz.func75, Tryz.ntmps75
 go_wp2_with (go_at_call 103;refine ca.mono ?_; rintro e w' ⟨rfl, rfl⟩)
 go_ret
 exact ⟨rfl, rfl⟩
theorem e16_no_wrong (x y : Value) (k : Int) (w : World) (hg : w.cell? ⟨0,0, none⟩ = some (.iface 202 (.agg #[.pointer (some ⟨4,104, none⟩)]))) : Calls Tryz.prog 46 #[.iface 149 (.agg #[x, y, .iface 140 (.int .i64 k)])] w fun e w' => e = .returned (.int .i64 k) ∧ Grow w w' := by
 have hgl : 0 < w.heap.size := by
  rcases Nat.lt_or_ge 0 w.heap.size with h | h
  ·exact h
  ·simp [World.cell?, Array.getElem?_eq_none h] at hg
 have ca := e16_As_wrong x y k ⟨w.heap.size, 0, none⟩ (.int .i64 0) (w.alloc (.cells #[.int .i64 0] 140)) (by rw [World.cell?_alloc_lt _ _ ⟨0,0, none⟩ hgl]; exact hg) (by simp) (by simp)
 have hl : (((((((w.alloc (.cells #[.int .i64 0] 140)).alloc (.cells #[.pointer (some ⟨w.heap.size, 0, none⟩)] 142)).alloc (.cells #[.pointer (some ⟨4,142, none⟩), .pointer (some ⟨(w.alloc (.cells #[.int .i64 0] 140)).heap.size, 0, none⟩), .int .u64 150] 176)).alloc (.cells #[.pointer (some ⟨4,142, none⟩), .pointer (some ⟨(w.alloc (.cells #[.int .i64 0] 140)).heap.size, 0, none⟩), .int .u64 150] 176)).alloc (.cells #[x, y, .iface 140 (.int .i64 k)] 149)).alloc (.cells #[.int .i64 k] 140)).setCell ⟨w.heap.size, 0, none⟩ (.int .i64 k)).cell? ⟨w.heap.size, 0, none⟩ = some (.int .i64 k) := by
  refine World.cell?_setCell_same _ _ _ (u := .int .i64 0) ?_
  rw [World.cell?_alloc_lt _ _ ⟨w.heap.size, 0, none⟩ (by simp only [World.size_alloc]; omega)]
  rw [World.cell?_alloc_lt _ _ ⟨w.heap.size, 0, none⟩ (by simp only [World.size_alloc]; omega)]
  rw [World.cell?_alloc_lt _ _ ⟨w.heap.size, 0, none⟩ (by simp only [World.size_alloc]; omega)]
  rw [World.cell?_alloc_lt _ _ ⟨w.heap.size, 0, none⟩ (by simp only [World.size_alloc]; omega)]
  rw [World.cell?_alloc_lt _ _ ⟨w.heap.size, 0, none⟩ (by simp only [World.size_alloc]; omega)]
  rw [World.cell?_alloc_at _ _ _ _ rfl]; rfl
 go_enter Tryz.func46, Tryz.ntmps46
 go_wp2_with (go_at_call 75;refine ca.mono ?_; rintro e w' ⟨rfl, rfl⟩)
 go_ret
 refine ⟨rfl, ?_⟩
 exact ((((((Below.refl w.heap.size w).alloc (by first | exact Nat.le_refl _ | (simp only [World.size_alloc]; omega)) _).alloc (by first | exact Nat.le_refl _ | (simp only [World.size_alloc]; omega)) _).alloc (by first | exact Nat.le_refl _ | (simp only [World.size_alloc]; omega)) _).alloc (by first | exact Nat.le_refl _ | (simp only [World.size_alloc]; omega)) _).alloc (by first | exact Nat.le_refl _ | (simp only [World.size_alloc]; omega)) _).alloc (by first | exact Nat.le_refl _ | (simp only [World.size_alloc]; omega)) _
abbrev errT : Value := .iface 202 (.agg #[.pointer (some ⟨4,104, none⟩)])
def tabH (b : Nat) (xs : List Value) : D :=
 .p (fun B w _ => b < B ∧ ∃ e z, w.heap[b]? = some (.cells xs.toArray e z)) (fun _ _ _ _ g ⟨h1, e, z, h2⟩ => ⟨h1, e, z, (g.block b h1).trans h2⟩) (fun _ _ _ _ g ⟨h1, h2⟩ => ⟨Nat.lt_of_lt_of_le h1 g, h2⟩)
theorem Surv.tabH {B T g b : Nat} {xs : List Value} (h : b ≠ g) : Surv B T g (Go.Proofs.YtmkpekmhhbcifaaGreatDoor.tabH b xs) := fun _ _ _ k ⟨h1, e, z, h2⟩ => ⟨Nat.lt_of_lt_of_le h1 k.size, e, z, (k.other b h1 h).trans h2⟩
abbrev tabE : Env := (1900000, tabH 0 [errT]) :: tabN
theorem tabE_v : ∀ p ∈ tabE, vbase ≤ p.1 := fun p hp => (List.mem_cons.1 hp).elim (fun h => by subst h; decide) (tabN_v p)
theorem tabE_hi {w : World} (h : ∀ p ∈ tabE, p.2.Of w undef) : 3 < w.heap.size := tabN_hi fun p hp => h p (List.mem_cons_of_mem _ hp)
theorem tabE_cell {w : World} (h : ∀ p ∈ tabE, p.2.Of w undef) : w.cell? ⟨0,0, none⟩ = some errT := by
 obtain ⟨h1, e, z, h2⟩ := h _ List.mem_cons_self
 simp [World.cell?, h2]
theorem errnoOf_nil : Fn Tryz.prog 46 [.v .nilIface] (.v (.int .i64 0)) :=
 ⟨⟨_, Tryz.func46, by kernel_rfl, rfl⟩, fun vs w hl hv => by
  match vs, hl with
  | [x], _ =>
   have h1 : x = .nilIface := hv 0 _ x rfl rfl
   subst h1
   exact (e16_no_nil w).mono fun e w' ⟨h1, h2⟩ => ⟨_, h1, h2, rfl⟩⟩
theorem errnoOf_wrong (l j : Nat) (k : Int) : FnM Tryz.prog 46 tabE [.v (wrongV l j k)] (.v (.int .i64 k)) :=
 ⟨⟨_, Tryz.func46, by kernel_rfl, rfl⟩, fun vs w hM hl hv => by
  match vs, hl with
  | [x], _ =>
   have h1 : x = wrongV l j k := hv 0 _ x rfl rfl
   subst h1
   exact (e16_no_wrong _ _ k w (tabE_cell hM)).mono fun e w' ⟨h1, h2⟩ => ⟨_, h1, h2, rfl⟩⟩
end
section
open Go Go.RowKit Go.ChangeShapes Go.WideShapes Go.ChangeAt
theorem own' : ownKnob Tryz.prog.godebug = none := by kernel_rfl
theorem laidOut' : laidOutB Tryz.prog = true := by kernel_rfl
abbrev LAID : List (String × DataW Unit) := [("errors.errorType", Rows.laid_errors_errorType), ("caisson/digests.constants", Rows.laid_caisson_digests_constants), ("caisson/digests.initial", Rows.laid_caisson_digests_initial), ("caisson/nodes.sizes", Rows.laid_caisson_nodes_sizes)]
abbrev LAIDT : List (String × DataW Unit) := [("caisson/digests.constants", Rows.laid_caisson_digests_constants), ("caisson/digests.initial", Rows.laid_caisson_digests_initial), ("caisson/nodes.sizes", Rows.laid_caisson_nodes_sizes)]
theorem door_met (os : Os) (args : Array Value) : laidMetH Tryz.prog LAID ((World.doorLaid Tryz.prog 400 os).forCall (fun _ _ => 0) ⟨#[], args, []⟩).memory :=
 laidMetH_of_parts3 (fuel := 8) (laidMet_of_run' 8 (by kernel_rfl) (by kernel_rfl)) (by kernel_rfl) (by kernel_rfl)
theorem rtE : (Tryz.prog.cutTypes.find? (·.1 == "internal/reflectlite.rtype")).map (·.2) = some 202 := by kernel_rfl
theorem oneRowE : ((List.range 279).filter fun t => Tryz.prog.rowNamed t [101,114,114,111,114]) = [104] := by kernel_rfl
theorem sizeE : Tryz.prog.types.size = 279 := by kernel_rfl
theorem handleE : typeHandle Tryz.prog 104 = .pointer (some ⟨4,104, none⟩) := by kernel_rfl
theorem globalE : Tryz.prog.globalNamed "errors.errorType" = some 0 := by kernel_rfl
theorem tabs_of_laid {W : World} (h : laidMetH Tryz.prog LAID W) : ∀ p ∈ tabE, p.2.Of W undef := by
 have h' : laidMet Tryz.prog LAIDT W ∧ handlesMet Tryz.prog [("errors.errorType", Rows.laid_errors_errorType)] W := h
 obtain ⟨name, u, ty, e1, e2, e3, e4, e5⟩ := h'.2 _ (List.mem_singleton.2 rfl)
 have en : name = [101,114,114,111,114] := (Option.some.inj e1).symm
 subst en
 obtain rfl := Option.some.inj (rtE.symm.trans e2)
 have hm : ty ∈ (List.range 279).filter fun t => Tryz.prog.rowNamed t [101,114,114,111,114] := List.mem_filter.2 ⟨List.mem_range.2 (by rw [← sizeE]; exact e3), e4⟩
 rw [oneRowE] at hm
 obtain rfl := List.mem_singleton.1 hm
 rw [handleE] at e5
 have hE : (tabH 0 [errT]).Of W undef := by
  simp only [World.var?, globalE, Option.bind_some] at e5
  cases hh : W.heap[0]? with
  | none => rw [hh] at e5; cases e5
  | some o =>
   rw [hh] at e5
   cases o with
   | cells cs e z =>
    simp only [Option.some.injEq] at e5
    subst e5
    exact ⟨(Array.getElem?_eq_some_iff.1 hh).1, e, z, hh⟩
   | _ => cases e5
 obtain ⟨ps, hl, _, hr⟩ := h'.1
 have hr' := fun b off hp => (hr b off hp).1
 intro p hp
 simp only [tabE, tabN, tabS, tabs, List.mem_cons, List.not_mem_nil, or_false] at hp
 rcases hp with rfl | rfl | rfl | rfl
 ·exact hE
 ·have := tab_of_laid hl hr' (nm := "caisson/nodes.sizes") (d := Rows.laid_caisson_nodes_sizes) (by simp) (g := 1) (by kernel_rfl) (T := 200) (by kernel_rfl) U200 U3 (by kernel_rfl) (by kernel_rfl) (by decide) (ns := [185,137,137,137,137,137]) (by kernel_rfl)
  exact this
 ·have := tab_of_laid hl hr' (nm := "caisson/digests.initial") (d := Rows.laid_caisson_digests_initial) (by simp) (g := 2) (by kernel_rfl) (T := 156) (by kernel_rfl) U156 U46 (by kernel_rfl) (by kernel_rfl) (by decide) (ns := (H8.list).map fun x => (x.toNat : Int)) (by kernel_rfl)
  rw [List.map_map] at this
  exact this
 ·have := tab_of_laid hl hr' (nm := "caisson/digests.constants") (d := Rows.laid_caisson_digests_constants) (by simp) (g := 3) (by kernel_rfl) (T := 155) (by kernel_rfl) U155 U46 (by kernel_rfl) (by kernel_rfl) (by decide) (ns := (K64).map fun x => (x.toNat : Int)) (by kernel_rfl)
  rw [List.map_map] at this
  exact this
end
section
variable {κ : Cx}
section
variable {P : Program} {n : Nat} {w₀ : World} {ops : Array Oper} {E : Env} {ty : TypeId} {pos : String} {after : Array Edge}
structure SeqsF (P : Program) (w₀ : World) (N : Nat) (l : Nat) (arg : Nat → D) (ok : Nat → Bool) (V : Nat → Env) (J Jx : Nat → World → Prop) : Prop where
 grow : ∀ i a b, J i a → Grow a b → J i b
 growx : ∀ i a b, Jx i a → Grow a b → Jx i b
 holds : ∀ i W, J i W → Holds w₀ (V i) W
 holdsx : ∀ i W, Jx i W → Holds w₀ [] W
 yields : ∀ (i : Nat) (W : World) (u : Value), i < N → (∀ k, k < i → ok k = true) → J i W → (arg i).Of W u →
  YieldAt (FR none) 0 P l #[u] W fun e W' => e = .returned (.bool (ok i)) ∧ (ok i = true → J (i + 1) W') ∧ (ok i = false → Jx i W') ∧ W.heap.size ≤ W'.heap.size
theorem eff_yieldF {N l : Nat} {arg : Nat → D} {ok : Nat → Bool} {V : Nat → Env} {J Jx : Nat → World → Prop} {d vJ vN : Nat} {fv x : Operand} {ex : D} {tys : Array TypeId} {E' : Env} (hq : SeqsF P w₀ N l arg ok V J Jx) (i : Nat) (hi : i < N) (hok : ∀ k, k < i → ok k = true)
  (hJ : E.look vJ = some (jD (J i))) (hf : E.at fv = some (.v (.func (.yield l) #[] #[]))) (hx : E.at x = some ex) (hle : Le ex (arg i)) (hd : d < n) (hvN : vbase ≤ vN) (hn : n ≤ vbase) (hl : Left w₀.heap.size E' E) :
  Eff P n w₀.heap.size ops ⟨some d, .call { callee := .value fv, args := #[x], argTypes := tys }, ty, pos, after, none⟩ E ((d, .v (.bool (ok i))) :: (vN, jD (nextE ok J Jx i)) :: E') := by
 intro κ a w K Q h hK
 have h1 : a.eval fv = _ := h.at_ fv _ hf
 have h2 := hle.of (h.at_ x _ hx)
 have hJw : J i w := jD_get (hq.grow i) (h.of vJ _ hJ)
 obtain ⟨fn, tmps, assign, body, hyy, hr⟩ := hq.yields i w _ hi hok hJw h2
 rw [if_pos (by simp [Region.wanted])]
 refine ⟨fun _ _ => trivial, ?_⟩
 rw [Oper.semAt_eq _ _ _ (by nofun)]
 have hrun : (execOp a.eval ⟨some d, .call { callee := .value fv, args := #[x], argTypes := tys }, ty, pos, after, none⟩).run P w = .ok (.round l fn tmps assign body) w := by
  simp [execOp, resolve, Deferred.ofValue, h1, invoke, hyy]
 rw [hrun, Oper.uponIn_round]
 refine ⟨fun e => absurd e (by simp [FR, Fence.wide]), RoundIn.mono (F := FR κ.rd) (n := 0) hr ?_⟩
 rintro e W' ⟨rfl, hJ', hX', hs⟩
 have hb : Below w₀.heap.size w₀ W' := by
  cases hk : ok i with
  | true => exact (hq.holds _ _ (hJ' hk)).1
  | false => exact (hq.holdsx _ _ (hX' hk)).1
 have hb0 := (hq.holds _ _ hJw).1
 have hbel := below_two hb0 hb hs
 refine hK _ _ hbel (St.put ⟨Nat.le_trans h.base hs, h.defers, h.size, fun t e he => ?_⟩ hd rfl)
 by_cases hts : vN = t
 ·subst hts
  rw [look_here] at he; injection he with he; subst he
  exact jD_mk ⟨hJ', hX'⟩
 ·rw [look_past _ _ hts] at he
  obtain ⟨h7, h8⟩ := hl _ (look_mem he)
  exact h8 _ _ _ hbel h.base (h.of t e h7)
theorem A.onF {N l : Nat} {arg : Nat → D} {ok : Nat → Bool} {V : Nat → Env} {J Jx : Nat → World → Prop} {vJ vN i : Nat} {c : Code} {Q : Exit → Act → World → Prop} (hq : SeqsF P w₀ N l arg ok V J Jx) (hN : E.look vN = some (jD (nextE ok J Jx i))) (hk : ok i = true) (hvJ : vbase ≤ vJ) (hV : ∀ p ∈ V (i + 1), vbase ≤ p.1) (hn : n ≤ vbase)
  (h : A κ P w₀ n c ((vJ, jD (J (i + 1))) :: (V (i + 1) ++ E)) Q) : A κ P w₀ n c E Q := fun a w g hs => by
 have h1 : nextE ok J Jx i w := jD_get (fun a b ⟨h1, h2⟩ k => ⟨fun e => hq.grow _ a b (h1 e) k, fun e => hq.growx _ a b (h2 e) k⟩) (hs.of vN _ hN)
 have hJ := h1.1 hk
 obtain ⟨_, _, hv⟩ := hq.holds _ _ hJ
 refine h a w g ⟨hs.base, hs.defers, hs.size, fun t e he => ?_⟩
 by_cases hts : vJ = t
 ·subst hts
  rw [look_here] at he; injection he with he; subst he
  exact jD_mk hJ
 ·rw [look_past _ _ hts] at he
  rcases look_appE he with hm | hm
  ·have h2 := hv _ hm
   have h3 := hV _ hm
   simp only at h3
   have h4 : a.tmps.getD t undef = undef := by rw [Array.getD_eq_getD_getElem?, Array.getElem?_eq_none (by rw [hs.size]; omega)]; rfl
   rw [h4]; exact h2
  ·exact hs.of t e hm
theorem End.seqF {fn : Func} {N l : Nat} {arg : Nat → D} {ok : Nat → Bool} {V : Nat → Env} {J Jx : Nat → World → Prop} {vJ : Nat} (hq : SeqsF P w₀ N l arg ok V J Jx) (hr : fn.results = #[]) (hJ : E.look vJ = some (jD (J N))) (hok : ∀ k, k < N → ok k = true) :
  End Cx.top w₀ n E (BP P fn (fun e W => (∃ v, e = .returned v) ∧ DoneE N ok J Jx W) .normal) := fun a w _ hs => by
 show LeavesInM (FR none) 0 P fn a.tmps _ a.defers .returning w
 rw [show a.defers = [] from hs.defers]
 exact ⟨_, by simp [results, hr]; rfl, ⟨_, rfl⟩, .inl ⟨hok, jD_get (hq.grow N) (hs.of vJ _ hJ)⟩⟩
theorem End.seqFx {fn : Func} {N l : Nat} {arg : Nat → D} {ok : Nat → Bool} {V : Nat → Env} {J Jx : Nat → World → Prop} {vN i : Nat} (hq : SeqsF P w₀ N l arg ok V J Jx) (hr : fn.results = #[]) (hN : E.look vN = some (jD (nextE ok J Jx i))) (hi : i < N) (hok : ∀ k, k < i → ok k = true) (hk : ok i = false) :
  End Cx.top w₀ n E (BP P fn (fun e W => (∃ v, e = .returned v) ∧ DoneE N ok J Jx W) .ret) := fun a w _ hs => by
 have h1 : nextE ok J Jx i w := jD_get (fun a b ⟨h1, h2⟩ k => ⟨fun e => hq.grow _ a b (h1 e) k, fun e => hq.growx _ a b (h2 e) k⟩) (hs.of vN _ hN)
 show LeavesInM (FR none) 0 P fn a.tmps _ a.defers .returning w
 rw [show a.defers = [] from hs.defers]
 exact ⟨_, by simp [results, hr]; rfl, ⟨_, rfl⟩, .inr ⟨i, hi, hok, hk, h1.2 hk⟩⟩
theorem SeqsF.sub {N l : Nat} {arg : Nat → D} {ok : Nat → Bool} {V V' : Nat → Env} {J Jx : Nat → World → Prop} (h : SeqsF P w₀ N l arg ok V J Jx) (hs : ∀ i, ∀ p ∈ V' i, p ∈ V i) : SeqsF P w₀ N l arg ok V' J Jx :=
 ⟨h.grow, h.growx, fun i W hJ => ⟨(h.holds i W hJ).1, (h.holds i W hJ).2.1, fun p hp => (h.holds i W hJ).2.2 p (hs i p hp)⟩, h.holdsx, h.yields⟩
theorem A.rangeF1 {Q : Exit → Act → World → Prop} {g : Operand} {tp gf N vL vD : Nat} {assign body : Code} {lb : List Value} {S : Env} {V Vx Eb : Nat → Env} {arg : Nat → D} {ok : Nat → Bool} (hg : E.at g = some (.v (.func (.func gf) #[] lb.toArray)))
  (hgf : ∃ fn, P.funcs[gf]? = some fn ∧ (fn.name == "runtime.NumGoroutine") = false ∧ fn.body.isNone = false) (htp : tp < n) (hn : n ≤ vbase) (h0 : Sub (V 0 ++ S) E)
  (hS : ∀ p ∈ S, p.1 < vbase ∧ ((∃ x, p.2 = .v x) ∨ ∃ d, p.2 = old w₀.heap.size d)) (hV : ∀ i, ∀ p ∈ V i, vbase ≤ p.1) (hVx : ∀ i, ∀ p ∈ Vx i, vbase ≤ p.1)
  (hfV : ∀ i l, w₀.heap.size ≤ l → ∀ p ∈ V i, Firm l p.2) (hfX : ∀ i l, w₀.heap.size ≤ l → ∀ p ∈ Vx i, Firm l p.2) (hfE : ∀ i l, w₀.heap.size ≤ l → ∀ p ∈ Eb i, Firm l p.2)
  (hseq : ∀ (J Jx : Nat → World → Prop) (l : Nat) (w : World), SeqsF P w₀ N l arg ok V J Jx → J 0 w → Calls P gf (.func (.yield l) #[] #[] :: lb).toArray w fun e W => (∃ v, e = .returned v) ∧ DoneE N ok J Jx W)
  (hassign : ∀ i l a w, i < N → w₀.heap.size ≤ w.heap.size → St ⟨some l, []⟩ n w₀.heap.size ((tp, arg i) :: (V i ++ S)) a w → assign.wpIn (FR (some l)) 0 P (fun e a' w' => e = .normal ∧ Grow w w' ∧ St ⟨some l, []⟩ n w₀.heap.size (Eb i) a' w') a w)
  (hbody : ∀ i l D r m, i < N → (∀ k, k < i → ok k = true) → A ⟨some l, []⟩ P w₀ n body ((vL, recD l (.loop r) m) :: (vD, recD D (.deferred (some [])) 0) :: Eb i)
   (RoundE w₀ (ok i) ((vL, recD l (.loop r) m) :: (vD, recD D (.deferred (some [])) 0) :: V (i + 1)) ((vL, recD l (.loop r) m) :: (vD, recD D (.deferred (some [])) 0) :: Vx i)))
  (hend : ∀ D, w₀.heap.size ≤ D → (∀ k, k < N → ok k = true) → End ⟨none, [{ target := .collected D, args := #[] }]⟩ w₀ n ((vD, recD D (.deferred (some [])) 0) :: (V N ++ S)) (Q .normal))
  (hendx : ∀ D i, w₀.heap.size ≤ D → i < N → (∀ k, k < i → ok k = true) → ok i = false → End ⟨none, [{ target := .collected D, args := #[] }]⟩ w₀ n ((vD, recD D (.deferred (some [])) 0) :: (Vx i ++ S)) (Q .ret)) :
  A ⟨none, []⟩ P w₀ n (.rangeFunc g #[tp] assign body) E Q := fun a w hb hst => by
 show (Code.rangeFunc g #[tp] assign body).wpIn (FR none) 0 P Q a w
 refine wpIn_rangeFunc fun fn _ => ?_
 obtain ⟨rec, hrec⟩ : ∃ rec : LoopState → Option Code → Loop, rec = fun st pe => { state := st, pending := pe, fn, tmps := a.tmps, params := #[tp], assign, body, defers := w.heap.size } := ⟨_, rfl⟩
 obtain ⟨W1, hW1⟩ : ∃ W1, (w.alloc (.deferred (some []))).alloc (.loop (rec .ready none)) = W1 := ⟨_, rfl⟩
 have hg' : a.eval g = .func (.func gf) #[] lb.toArray := hst.at_ g _ hg
 obtain ⟨gfn, hf1, hf2, hf3⟩ := hgf
 have eg : ∀ args w, (callFunc gf args).run P w = .ok (.enter gf args) w := fun args w => by
  have h2' : ¬ gfn.name = "runtime.NumGoroutine" := by simpa using hf2
  have h3' : ¬ gfn.body = none := by intro h; rw [h] at hf3; cases hf3
  simp [callFunc, hf1, h2', h3']
 have hgr : Grow w W1 := by
  rw [← hW1]; exact (Grow.alloc w _).trans (Grow.alloc _ _)
 have hL1 : W1.heap[w.heap.size + 1]? = some (.loop (rec .ready none)) := by
  rw [← hW1]; have := World.alloc_heap_new (w.alloc (.deferred (some []))) (.loop (rec .ready none)); rwa [World.size_alloc] at this
 have hK1 : W1.heap[w.heap.size]? = some (.deferred (some [])) := by
  rw [← hW1]; exact (Below.heap_alloc _ _ _ (by simp)).trans (World.alloc_heap_new w _)
 have hund : ∀ t, vbase ≤ t → a.tmps.getD t undef = undef := fun t ht => by
  rw [Array.getD_eq_getD_getElem?, Array.getElem?_eq_none (by rw [hst.size]; omega)]; rfl
 have hBw := hst.base
 have hH0 : Holds w₀ (V 0) w := ⟨hb, hst.base, fun p hp => by
  have h1 := hst.of p.1 p.2 (h0 p (List.mem_append_left _ hp))
  rwa [hund _ (hV 0 p hp)] at h1⟩
 -- what holds between two rounds
 have hstS : ∀ (κ' : Cx) (F : Env) (W : World) (a' : Act) (E' : Env), (∀ p ∈ F, vbase ≤ p.1) → κ'.df = a'.defers → a'.tmps.size = n → Holds w₀ F W → w.heap.size ≤ W.heap.size → (∀ t e, E'.look t = some e → e.Of W (a'.tmps.getD t undef) ∨ ((t, e) ∈ F ++ S ∧ (t < vbase → a'.tmps.getD t undef = a.tmps.getD t undef))) → St κ' n w₀.heap.size E' a' W := by
  intro κ' F W a' E' hF hd hsz hH hs hE
  refine ⟨hH.2.1, hd.symm, hsz, fun t e he => ?_⟩
  rcases hE t e he with h | ⟨hm, hsame⟩
  ·exact h
  ·rcases List.mem_append.1 hm with hm | hm
   ·have h1 := hH.2.2 _ hm
    have ht := hF _ hm
    simp only at ht
    rwa [Array.getD_eq_getD_getElem?, Array.getElem?_eq_none (by rw [hsz]; omega)]
   ·obtain ⟨ht, hk⟩ := hS _ hm
    rw [hsame ht]
    have h1 := hst.of t e (h0 _ (List.mem_append_right _ hm))
    rcases hk with ⟨x, hx⟩ | ⟨d, hd'⟩
    ·simp only at hx; subst hx; exact h1
    ·simp only at hd'; subst hd'
     exact ⟨hH.2.1, D.OfB.keep h1.2 (below_two hb hH.1 hs)⟩
 refine ⟨w.heap.size + 1, [{ target := .collected w.heap.size, args := #[] }], W1, { target := .fn (.func gf) lb.toArray, args := #[.func (.yield (w.heap.size + 1)) #[] #[]] }, W1, gf,
  #[.func (.yield (w.heap.size + 1)) #[] #[]] ++ lb.toArray, W1, ?_, ?_, fun _ _ => trivial, ?_, fun e => absurd e (by simp [FR, Fence.wide]), ?_⟩
 ·rw [← hW1, hrec]; exact run_enterLoop_outer _ _ _ _ _
 ·have hy : a.eval (.const (.func (.yield (w.heap.size + 1)) #[] #[])) = .func (.yield (w.heap.size + 1)) #[] #[] := rfl
  simp only [resolve, hg']
  simp [Deferred.ofValue, hy]
 ·simp [invoke, eg]
 ·have harr : (#[.func (.yield (w.heap.size + 1)) #[] #[]] ++ lb.toArray : Array Value) = (.func (.yield (w.heap.size + 1)) #[] #[] :: lb).toArray := by simp
  rw [harr]
  refine callsIn_FR.2 ((hseq (fun i W => Holds w₀ (V i) W ∧ W.heap[w.heap.size + 1]? = some (.loop (rec .ready none)) ∧ W.heap[w.heap.size]? = some (.deferred (some [])))
   (fun i W => Holds w₀ (Vx i) W ∧ W.heap[w.heap.size + 1]? = some (.loop (rec .done (some .ret))) ∧ W.heap[w.heap.size]? = some (.deferred (some []))) (w.heap.size + 1) W1 ⟨?_, ?_, fun i W h => h.1, fun i W h => ⟨h.1.1, h.1.2.1, fun _ hp => by cases hp⟩, ?_⟩ ⟨hH0.grow hgr, hL1, hK1⟩).mono ?_)
  ·rintro i x y ⟨h1, h2, h3⟩ k
   exact ⟨h1.grow k, (k.block _ (Array.getElem?_eq_some_iff.1 h2).1).trans h2, (k.block _ (Array.getElem?_eq_some_iff.1 h3).1).trans h3⟩
  ·rintro i x y ⟨h1, h2, h3⟩ k
   exact ⟨h1.grow k, (k.block _ (Array.getElem?_eq_some_iff.1 h2).1).trans h2, (k.block _ (Array.getElem?_eq_some_iff.1 h3).1).trans h3⟩
  ·-- one round
   rintro i W u hi hok ⟨hH, hl, hk⟩ hu
   have hlt : w.heap.size + 1 < W.heap.size := (Array.getElem?_eq_some_iff.1 hl).1
   have hBl : w₀.heap.size ≤ w.heap.size + 1 := by omega
   have hy := run_yield (P := P) (args := #[u]) hl (by rw [hrec]; rfl)
   rw [hrec] at hy
   refine ⟨fn, _, assign, body, hy, roundIn_of_wpIn (F := FR none) trivial ?_⟩
   have hsta : St ⟨some (w.heap.size + 1), []⟩ n w₀.heap.size ((tp, arg i) :: (V i ++ S)) { tmps := a.tmps.setIfInBounds tp u, defers := [] } W := by
    refine hstS _ (V i) W _ _ (hV i) rfl (by simp [hst.size]) hH (by omega) fun t e he => ?_
    have hl1 : tp < a.tmps.size := by rw [hst.size]; exact htp
    by_cases hts : tp = t
    ·subst hts
     rw [look_here] at he; injection he with he; subst he
     left
     simpa [hl1] using hu
    ·rw [look_past _ _ hts] at he
     exact .inr ⟨look_mem he, fun _ => by simp [Array.getElem?_setIfInBounds_ne hts]⟩
   have has := hassign i (w.heap.size + 1) _ W hi hH.2.1 hsta
   have hrun0 : ({ tmps := Array.foldl (fun (tmps : Array Value) (x : Tmp × Value) => tmps.setIfInBounds x.1 x.2) a.tmps (#[tp].zip #[u]), defers := [] } : Act) = { tmps := a.tmps.setIfInBounds tp u, defers := [] } := by simp
   show assign.wpIn (FR (some (w.heap.size + 1))) 0 P _ _ W
   refine wpIn_mono (F := FR (some (w.heap.size + 1))) (n := 0) (by first | exact has | (rw [← hrun0] at has; exact has)) ?_
   rintro e a1 W2 ⟨rfl, hg2, hst2⟩
   have hl2 : W2.heap[w.heap.size + 1]? = some (.loop (rec .ready none)) := (hg2.block _ hlt).trans hl
   have hk2 : W2.heap[w.heap.size]? = some (.deferred (some [])) := (hg2.block _ (by omega)).trans hk
   have hH2 := hH.grow hg2
   have hlt2 : w.heap.size + 1 < W2.heap.size := (Array.getElem?_eq_some_iff.1 hl2).1
   refine ⟨_, run_beginRound hl2 (by rw [hrec]), ?_⟩
   have hl3 : (W2.putObj (w.heap.size + 1) (.loop { rec .ready none with state := .busy })).heap[w.heap.size + 1]? = some (.loop { rec .ready none with state := .busy }) := World.putObj_heap_same hlt2
   have hk3 : (W2.putObj (w.heap.size + 1) (.loop { rec .ready none with state := .busy })).heap[w.heap.size]? = some (.deferred (some [])) := (World.putObj_heap_other (by omega)).trans hk2
   have hH3 := hH2.putObj (.loop { rec .ready none with state := .busy }) hl2 rfl hBl (hfV i _ hBl)
   have hst3 : St ⟨some (w.heap.size + 1), []⟩ n w₀.heap.size ((vL, recD (w.heap.size + 1) (.loop { rec .ready none with state := .busy }) W.heap.size) :: (vD, recD w.heap.size (.deferred (some [])) 0) :: Eb i) a1 (W2.putObj (w.heap.size + 1) (.loop { rec .ready none with state := .busy })) := by
    refine ⟨hH3.2.1, hst2.defers, hst2.size, fun t e he => ?_⟩
    by_cases hts : vL = t
    ·subst hts
     rw [look_here] at he; injection he with he; subst he
     exact ⟨by simpa using hlt2, by simpa using hg2.size, hl3⟩
    ·rw [look_past _ _ hts] at he
     by_cases hts' : vD = t
     ·subst hts'
      rw [look_here] at he; injection he with he; subst he
      exact ⟨by simp; omega, Nat.zero_le _, hk3⟩
     ·rw [look_past _ _ hts'] at he
      exact hfE i _ hBl _ (look_mem he) W2 _ _ _ hl2 rfl (hst2.of t e he)
   refine wpIn_mono (F := FR (some (w.heap.size + 1))) (n := 0) (hbody i _ _ _ _ hi hok a1 _ hH3.1 hst3) ?_
   rintro e a3 W3 hp
   cases e with
   | normal =>
    obtain ⟨hbk, hb3, hs3, hv3⟩ := hp
    obtain ⟨hlt3, hm3, hl4⟩ := hv3 _ List.mem_cons_self
    obtain ⟨_, _, hk4⟩ := hv3 _ (List.mem_cons_of_mem _ List.mem_cons_self)
    have hH4 : Holds w₀ (V (i + 1)) W3 := ⟨hb3, hs3, fun p hp => hv3 p (List.mem_cons_of_mem _ (List.mem_cons_of_mem _ hp))⟩
    have hend := run_endRound (P := P) none hl4
    refine ⟨_, _, hend, by rw [hbk]; rfl, fun _ => ⟨hH4.putObj _ hl4 rfl hBl (hfV _ _ hBl), ?_, (World.putObj_heap_other (by omega)).trans hk4⟩, fun h => (by rw [hbk] at h; cases h), by simpa using hm3⟩
    have := World.putObj_heap_same (o := .loop { { rec .ready none with state := .busy } with state := .ready, pending := none }) hlt3
    rw [hrec] at this ⊢
    exact this
   | ret =>
    obtain ⟨hbk, hb3, hs3, hv3⟩ := hp
    obtain ⟨hlt3, hm3, hl4⟩ := hv3 _ List.mem_cons_self
    obtain ⟨_, _, hk4⟩ := hv3 _ (List.mem_cons_of_mem _ List.mem_cons_self)
    have hH4 : Holds w₀ (Vx i) W3 := ⟨hb3, hs3, fun p hp => hv3 p (List.mem_cons_of_mem _ (List.mem_cons_of_mem _ hp))⟩
    have hend := run_endRound (P := P) (some .ret) hl4
    refine ⟨_, _, hend, by rw [hbk]; rfl, fun h => (by rw [hbk] at h; cases h), fun _ => ⟨hH4.putObj _ hl4 rfl hBl (hfX _ _ hBl), ?_, (World.putObj_heap_other (by omega)).trans hk4⟩, by simpa using hm3⟩
    have := World.putObj_heap_same (o := .loop { { rec .ready none with state := .busy } with state := .done, pending := some .ret }) hlt3
    rw [hrec] at this ⊢
    exact this
   | _ => exact hp.elim
  ·-- behind it
   have hBl : w₀.heap.size ≤ w.heap.size + 1 := by omega
   rintro e W2 ⟨⟨v, rfl⟩, ⟨hok, hH, hl, hk⟩ | ⟨i, hi, hok, hko, hH, hl, hk⟩⟩
   ·have hlt2 : w.heap.size + 1 < W2.heap.size := (Array.getElem?_eq_some_iff.1 hl).1
    have hel := run_endLoop (P := P) hl (by rw [hrec]; simp)
    refine ⟨none, _, by rw [hrec] at hel; exact hel, ?_⟩
    have hH3 := hH.putObj (.loop { state := .exhausted, pending := none, fn, tmps := a.tmps, params := #[tp], assign, body, defers := w.heap.size }) hl rfl hBl (hfV N _ hBl)
    refine hend w.heap.size hst.base hok _ _ hH3.1 (hstS _ (V N) _ _ _ (hV N) (by simp [hst.defers]) hst.size hH3 (by simp; omega) fun t e he => ?_)
    by_cases hts : vD = t
    ·subst hts
     rw [look_here] at he; injection he with he; subst he
     exact .inl ⟨by simp; omega, Nat.zero_le _, (World.putObj_heap_other (by omega)).trans hk⟩
    ·rw [look_past _ _ hts] at he
     exact .inr ⟨look_mem he, fun _ => rfl⟩
   ·have hlt2 : w.heap.size + 1 < W2.heap.size := (Array.getElem?_eq_some_iff.1 hl).1
    have hel := run_endLoop (P := P) hl (by rw [hrec]; simp)
    refine ⟨some .ret, _, by rw [hrec] at hel; exact hel, ?_⟩
    have hH3 := hH.putObj (.loop { state := .exhausted, pending := some .ret, fn, tmps := a.tmps, params := #[tp], assign, body, defers := w.heap.size }) hl rfl hBl (hfX i _ hBl)
    refine wpIn_ret (hendx w.heap.size i hst.base hi hok hko _ _ hH3.1 (hstS _ (Vx i) _ _ _ (hVx i) (by simp [hst.defers]) hst.size hH3 (by simp; omega) fun t e he => ?_))
    by_cases hts : vD = t
    ·subst hts
     rw [look_here] at he; injection he with he; subst he
     exact .inl ⟨by simp; omega, Nat.zero_le _, (World.putObj_heap_other (by omega)).trans hk⟩
    ·rw [look_past _ _ hts] at he
     exact .inr ⟨look_mem he, fun _ => rfl⟩
end
end
section
theorem emT_false {n : Nat} {T : List NodT} {l j w : Nat} (hw : w < pts n (l + 1) j) (h : emT n T l (4 * j + w) = false) : emT n T (l + 1) j = false := by
 unfold emT
 exact decide_eq_false fun hh => by rw [hh w hw] at h; cases h
theorem emT_true {n : Nat} {T : List NodT} {l j : Nat} (h : ∀ w, w < pts n (l + 1) j → emT n T l (4 * j + w) = true) : emT n T (l + 1) j = true := by
 unfold emT
 exact decide_eq_true h
theorem emT_zero (n : Nat) (T : List NodT) (j : Nat) : emT n T 0 j = decide (usN (ndAt T j) = 0) := by rw [emT]
theorem kids_fnB (n : Nat) (h1 : 1 ≤ n) (h2 : n ≤ 4096) (l j : Nat) (hl : l + 1 ≤ hg n) (hj : j < un n (l + 2)) : FnB Tryz.prog 73 [.v (nI (n)), .v (aggV (plV (l + 1) j))] (fun B => ownP B 67 2 (pts n (l + 1) j) (kidL (l + 1) j (pts n (l + 1) j))) := by
 have h := children_fnB n h1 h2 (l + 1) j hl hj
 rw [kidC_4, if_neg (by omega)] at h
 exact h
theorem em_leaf (n : Nat) (h1 : 1 ≤ n) (h2 : n ≤ 4096) (j : Nat) (hj : j < un n 1) (ad : Addr) (T : List NodT) (hT : FitT T) (hlen : un n 1 ≤ T.length) (c p q : Nat)  : FnM Tryz.prog 84 (emM n ad T c p q) [.v (aggV (plV 0 j)), .v (ptr p), .v (ptr q)] (.v (.bool (emT n T 0 j))) := by
 refine FnM.ofO Tryz.func84 rfl (by kernel_rfl) Tryz.ntmps84 (by simp) (by decide) (fun w => [(0, .v (aggV (plV 0 j))), (1, .v (ptr p)), (2, .v (ptr q)), (1000601, blk p 32 [nI n, .slice (some ad) T.length c]), (1000602, blk q 115 [emF1 p q]), (1000501, old w.heap.size (memR (some ad) (nodsV T)))]) (fun w => (StartMO.v rfl (StartMO.v rfl (StartMO.v rfl (StartMO.m (by simp [emM]) (by decide) (StartMO.m (by simp [emM]) (by decide) (StartMO.mo (by simp [emM]) (by decide) StartMO.nil))))))) fun w₀ hM => ?_
 skip
 refine GS (TN 0 (RN ?_));refine ZB 1000003 rfl fun b3 ⟨hBb3, hb3⟩ => ?_
 refine TL (RVN 1 rfl ?_);refine QS (GT (RS (ok_field field67_0 (by decide) rfl) ?_));refine RLV 1000003 U3 rfl rfl rfl ?_;refine RB rfl rfl rfl ?_;refine RT ?_;refine RN (A.yes rfl ?_);refine GT (RL 1000601 U32 rfl rfl (size32.of rfl) ?_);refine RL 1000003 U67 rfl rfl (size67.of rfl) ?_;refine RS (ok_callMK (at_fn n h1 h2 0 j (Nat.zero_le _) hj ad T hT c (by rw [tot_zero]; omega)) (SubK.cons (k := 1000501) (by decide) rfl Le.unold SubK.nil) (A2 rfl rfl)) ?_;refine RS (ok_call (nUsed_fn (ndAt T (tot n 0 + j)) (hT.at _)) (A1 rfl)) ?_;refine RB rfl rfl rfl ?_;refine RZ (.bool (emT n T 0 j)) (congrArg Value.bool (by rw [emT_zero, tot_zero, Nat.zero_add]; exact decide_eq_decide.2 (by omega))) ?_;refine RVN 1 rfl ?_;refine A.ret (End.ret_then ?_);exact ER rfl rfl
set_option maxHeartbeats 1000000 in
theorem em_step (n : Nat) (h1 : 1 ≤ n) (h2 : n ≤ 4096) (l j : Nat) (hl : l + 1 ≤ hg n) (hj : j < un n (l + 2)) (ad : Addr) (T : List NodT) (hT : FitT T) (hlen : un n 1 ≤ T.length) (c p q : Nat) (ih : ∀ j, j < un n (l + 1) → FnM Tryz.prog 84 (emM n ad T c p q) [.v (aggV (plV l j)), .v (ptr p), .v (ptr q)] (.v (.bool (emT n T l j))))  : FnM Tryz.prog 84 (emM n ad T c p q) [.v (aggV (plV (l + 1) j)), .v (ptr p), .v (ptr q)] (.v (.bool (emT n T (l + 1) j))) := by
 have hp4 := pts_le n (l + 1) j
 refine FnM.ofO Tryz.func84 rfl (by kernel_rfl) Tryz.ntmps84 (by simp) (by decide) (fun w => [(0, .v (aggV (plV (l + 1) j))), (1, .v (ptr p)), (2, .v (ptr q)), (1000601, blk p 32 [nI n, .slice (some ad) T.length c]), (1000602, blk q 115 [emF1 p q]), (1000501, old w.heap.size (memR (some ad) (nodsV T)))]) (fun w => (StartMO.v rfl (StartMO.v rfl (StartMO.v rfl (StartMO.m (by simp [emM]) (by decide) (StartMO.m (by simp [emM]) (by decide) (StartMO.mo (by simp [emM]) (by decide) StartMO.nil))))))) fun w₀ hM => ?_
 skip
 refine GS (TN 0 (RN ?_));refine ZB 1000003 rfl fun b3 ⟨hBb3, hb3⟩ => ?_
 refine TL (RVN 1 rfl ?_);refine QS (GT (RS (ok_field field67_0 (by decide) rfl) ?_));refine RLV 1000003 U3 rfl rfl rfl ?_;refine RB rfl rfl rfl ?_;refine RZ (.bool false) (congrArg Value.bool (decide_eq_false (by omega))) ?_;refine RN (A.no rfl ?_);refine QK (QS (GT (RS (ok_field field32_0 (by decide) rfl) ?_)));refine RLV 1000601 U3 rfl rfl rfl ?_;refine RL 1000003 U67 rfl rfl (size67.of rfl) ?_;refine RS (ok_callB (kids_fnB n h1 h2 l j hl hj) (fun _ _ h => ownP_mono h) (A2 rfl rfl)) ?_;refine RS (ok_lenRD U112 rfl ownP_rowD) ?_;refine RVN 1 rfl ?_;refine A.block ?_;refine A.loop (ι := Nat) (fun i => i ≤ pts n (l + 1) j ∧ ∀ w, w < i → emT n T l (4 * j + w) = true) (fun i => [(2, .v (ptr q)), (18, ownP w₀.heap.size 67 2 (pts n (l + 1) j) (kidL (l + 1) j (pts n (l + 1) j))), (19, .v (nI (pts n (l + 1) j))), (20, .v (nI (i))), (1000601, blk p 32 [nI n, .slice (some ad) T.length c]), (1000602, blk q 115 [emF1 p q]), (1000501, old w₀.heap.size (memR (some ad) (nodsV T)))]) (fun i => pts n (l + 1) j - i) 0 ?_ ?_ ?_
 ·exact ⟨Nat.zero_le _, fun w h => absurd h (Nat.not_lt_zero _)⟩
 ·exact (KC 2 rfl (KC 18 rfl (KC 19 rfl (KE 20 rfl (by rfl) (KC 1000601 rfl (KC 1000602 rfl (KC 1000501 rfl KN)))))))
 intro i hG
 refine GV rfl (QS ?_);refine A.cond rfl (fun hc21 => ?_) (fun hc21 => ?_)
 ·have hi : i < pts n (l + 1) j := by simp at hc21; omega
  refine QK (QSB (GS (TN 2 (RS (ok_indexRD i U112 infoPP rfl ownP_rowD rfl hi (by rw [kidL_length]; omega)) ?_))));refine RS (ok_loadElemT 2 U67 rfl size67 (by rw [kidL_at hi]; exact Nat.le_refl _) rfl) ?_;refine RZ (aggV (plV l (4 * j + i))) (congrArg aggV (by rw [kidL_at hi]; rfl)) ?_;refine RN ?_;refine ⟨_, _, eff_allocLt (n := 29) (d := 6) (k := 1000006) (r := 18) zero67 (by decide) rfl, fun b6 hb6 => ?_⟩
  have hBb6 := hb6.1
  refine TF 3 (RN ?_);refine ZA 1000006 (size67.of rfl) hBb6 rfl rfl rfl (LeftS.cons (t := 18) rfl (Surv.ltP) (LO 1000501 rfl (LT 1000601 rfl (LT 1000602 rfl (LW [2,6,19,20] rfl))))) ?_;refine TL (RN (A.subL (QC 2 rfl (QC 6 rfl (QX 18 rfl (Le.lt) (QC 19 rfl (QC 20 rfl (QC 1000006 rfl (QC 1000501 rfl (QC 1000601 rfl (QC 1000602 rfl SubL.nil))))))))) ?_));refine GT (RLV 1000602 U115 rfl rfl rfl ?_);refine RL 1000006 U67 rfl rfl (size67.of rfl) ?_;refine RS (ok_callVMK (us := [ptr p, ptr q]) (ih (4 * j + i) (kid_ok hi)) (SubK.cons (k := 1000601) (by decide) rfl (Le.refl _) (SubK.cons (k := 1000602) (by decide) rfl (Le.refl _) (SubK.cons (k := 1000501) (by decide) rfl Le.unold SubK.nil))) rfl (A1 rfl)) ?_;refine RVN 1 rfl ?_;refine A.cond rfl (fun hc27 => ?_) (fun hc27 => ?_)
  ·have hf : emT n T l (4 * j + i) = false := by simpa using hc27
   refine GV rfl (A.ret (End.ret_block (End.ret_then (End.ret_then (End.ret_block (End.ret_then ?_))))))
   first | exact End.ret1 rfl rfl (Le.v (congrArg Value.bool (emT_false hi hf).symm)) | exact End.ret1 rfl rfl (Le.v (congrArg Value.bool (emT_true (by subst hi2; exact hG.2)).symm))
  ·have hf : emT n T l (4 * j + i) = true := by simpa using hc27
   refine A.skip (End.normal_block (EN (GTE (RB rfl rfl rfl ?_))));refine RZ (nI (i + 1)) (wrap_eq (by omega) (by omega)) ?_;refine RVN 1 rfl ?_;refine End.normal_then ?_;refine End.again (i + 1) ?_ ?_ ?_
   ·exact ⟨by omega, fun w hw => (Nat.lt_or_ge w i).elim (hG.2 w) fun h => by rw [show w = i from by omega]; exact hf⟩
   ·show _ - _ < _ - _; omega
   ·exact (Sv [2,18,19,20,1000601,1000602,1000501] rfl)
 ·have hi2 : i = pts n (l + 1) j := by have := hG.1; simp at hc21; omega
  refine A.exit (End.exit_then (End.exit_then (End.exit_here (EN (GV rfl (A.ret ?_))))))
  first | exact End.ret1 rfl rfl (Le.v (congrArg Value.bool (emT_false hi hf).symm)) | exact End.ret1 rfl rfl (Le.v (congrArg Value.bool (emT_true (by subst hi2; exact hG.2)).symm))
theorem em_fn (n : Nat) (h1 : 1 ≤ n) (h2 : n ≤ 4096) (ad : Addr) (T : List NodT) (hT : FitT T) (hlen : un n 1 ≤ T.length) (c p q : Nat) : ∀ (l j : Nat), l ≤ hg n → j < un n (l + 1) → FnM Tryz.prog 84 (emM n ad T c p q) [.v (aggV (plV l j)), .v (ptr p), .v (ptr q)] (.v (.bool (emT n T l j)))
 | 0, j, _, hj => em_leaf n h1 h2 j hj ad T hT hlen c p q
 | l + 1, j, hl, hj => em_step n h1 h2 l j hl hj ad T hT hlen c p q fun j' hj' => em_fn n h1 h2 ad T hT hlen c p q l j' (by omega) hj'
theorem places_fnB (n : Nat) : FnB Tryz.prog 76 [.v (nI (n))] (fun B => newD B 3 (fun b => .func (.func 104) #[] #[ptr b]) [nI n]) := by
 refine FnB.of Tryz.func76 rfl (by kernel_rfl) Tryz.ntmps76 (by simp) (fun w => [(0, .v (nI (n)))]) (fun w => (Start.v rfl Start.nil)) fun w₀ => ?_
 refine GS (TN 0 (RN ?_));refine ⟨_, _, eff_box1 (n := 4) (d := 1) (k := 1000001) rfl rfl (by decide), fun b1 hb1 => ?_⟩
 have hBb1 := hb1.1
 refine TL (RVN 1 rfl ?_);refine GT (RS (ok_makeFuncN [ptr b1] ⟨rfl, trivial⟩) ?_);refine RVN 1 rfl ?_;refine A.ret ?_;exact End.newF (kg := 1000001) rfl rfl rfl hBb1 rfl rfl
set_option maxHeartbeats 1000000 in
theorem places1_seq {w₀ : World} {n lf p : Nat} {ok : Nat → Bool} {J Jx : Nat → World → Prop} (h1 : 1 ≤ n) (h2 : n ≤ 4096)
  (hq : SeqsF Tryz.prog w₀ (tot n (hg n + 1)) lf (fun i => .v (aggV (plV (lev n i) (idx n i)))) ok (fun _ => [(1000091, blk p 3 [nI n])]) J Jx) {w : World} (h0 : J 0 w) :
  Calls Tryz.prog 104 (.func (.yield lf) #[] #[] :: [ptr p] : List Value).toArray w fun e W => (∃ v, e = .returned v) ∧ DoneE (tot n (hg n + 1)) ok J Jx W := by
 have hh := hg_le n
 obtain ⟨hb, hs, hV⟩ := hq.holds 0 w h0
 refine Calls.within (n := 37) (E := [(0, .v (.func (.yield lf) #[] #[])), (1, .v (ptr p)), (1000090, jD (J 0)), (1000091, blk p 3 [nI n])]) Tryz.func104 rfl Tryz.ntmps104 (by simp) (by decide) hb hs ?_ ?_
 ·intro x hx
  simp only [List.mem_cons, List.not_mem_nil, or_false] at hx
  rcases hx with rfl | rfl | rfl | rfl
  ·exact .inr ⟨_, rfl, rfl⟩
  ·exact .inr ⟨_, rfl, rfl⟩
  ·exact .inl ⟨vle rfl, jD_mk h0⟩
  ·exact .inl ⟨vle rfl, hV _ (by simp)⟩
 refine GT (RLV 1000091 U3 rfl rfl rfl ?_);refine RS (ok_call (Height_ok n h1 h2) (A1 rfl)) ?_;refine RVN 5 rfl ?_;refine GT (RV 2 rfl ?_);refine RZ (nI (hg n + 1)) (wrap_eq rfl (by omega)) ?_;refine RVN 1 rfl ?_;refine A.block ?_;refine A.loop (ι := Nat) (fun L => L ≤ hg n + 1 ∧ ∀ k, k < tot n L → ok k = true) (fun L => [(0, .v (.func (.yield lf) #[] #[])), (1, .v (ptr p)), (15, .v (nI (hg n + 1))), (16, .v (nI (L))), (1000090, jD (J (tot n L))), (1000091, blk p 3 [nI n])]) (fun L => hg n + 1 - L) 0 ?_ ?_ ?_
 ·exact ⟨Nat.zero_le _, fun k h => absurd h (Nat.not_lt_zero _)⟩
 ·exact (KC 0 rfl (KC 1 rfl (KC 15 rfl (KE 16 rfl (by rfl) (KC 1000090 rfl (KC 1000091 rfl KN))))))
 intro L hG
 refine GV rfl (QS ?_);refine A.cond rfl (fun hc17 => ?_) (fun hc17 => ?_)
 ·have hL : L < hg n + 1 := by simp at hc17; omega
  refine QK (QSB (GV rfl (GT (RLV 1000091 U3 rfl rfl rfl ?_))));refine RM rfl ?_;refine RS (ok_call (Count_ok n h1 h2 L (by omega)) (A2 rfl rfl)) ?_;refine RVN 5 rfl ?_;refine GV rfl (A.block ?_);refine A.loop (ι := Nat) (fun X => X ≤ un n (L + 1) ∧ ∀ k, k < tot n L + X → ok k = true) (fun X => [(0, .v (.func (.yield lf) #[] #[])), (1, .v (ptr p)), (5, .v (nI (L))), (15, .v (nI (hg n + 1))), (16, .v (nI (L))), (25, .v (nI (un n (L + 1)))), (26, .v (nI (X))), (1000090, jD (J (tot n L + X))), (1000091, blk p 3 [nI n])]) (fun X => un n (L + 1) - X) 0 ?_ ?_ ?_
  ·exact ⟨Nat.zero_le _, hG.2⟩
  ·exact (KC 0 rfl (KC 1 rfl (KC 5 rfl (KC 15 rfl (KC 16 rfl (KC 25 rfl (KE 26 rfl (by rfl) (KC 1000090 rfl (KC 1000091 rfl KN)))))))))
  intro X hI
  refine GV rfl (QS ?_);refine A.cond rfl (fun hc27 => ?_) (fun hc27 => ?_)
  ·have hX : X < un n (L + 1) := by simp at hc27; omega
   refine QK (QSB (GV rfl ?_))
   rcases Bool.eq_false_or_eq_true (ok (tot n L + X)) with hok | hok
   ·refine GS (TF 4 (RV 3 rfl ?_));refine RS (ok_litS [(0, nI L), (1, nI X)] (plV L X) ⟨rfl, rfl, rfl, rfl, trivial⟩ (buildP _ _)) ?_;refine RN ?_;refine ⟨_, eff_yieldF (vJ := 1000090) (vN := 1000093) hq (tot n L + X) (numP_lt (by omega) hX) hI.2 rfl rfl rfl (Le.v (by rw [lev_at (by omega) hX, idx_at (by omega) hX])) (by decide) (by decide) (by decide) (Left.cons (t := 0) rfl (Stays.v _ _) (Left.cons (t := 1) rfl (Stays.v _ _) (Left.cons (t := 5) rfl (Stays.v _ _) (Left.cons (t := 15) rfl (Stays.v _ _) (Left.cons (t := 16) rfl (Stays.v _ _) (Left.cons (t := 25) rfl (Stays.v _ _) (Left.cons (t := 26) rfl (Stays.v _ _) Left.nil))))))), ?_⟩
    refine TL (RS (ok_not rfl) ?_);refine RZ (.bool false) (by rw [hok]; rfl) ?_;refine RN (A.no rfl ?_);refine A.skip (End.normal_block (EN (A.onF (vJ := 1000090) (vN := 1000093) (i := tot n L + X) hq rfl hok (vle (d := jD (J 0)) rfl) (fun p hp => by simp only [List.mem_cons, List.not_mem_nil, or_false] at hp; rcases hp with rfl; exact vle rfl) (by decide) ?_)));refine GTE (RB rfl rfl rfl ?_);refine RZ (nI (X + 1)) (wrap_eq (by omega) (by have := un_le h1 (L + 1); omega)) ?_;refine RVN 1 rfl ?_;refine End.normal_then ?_;refine End.again (X + 1) ?_ ?_ ?_
    ·exact ⟨by omega, fun k hk => (Nat.lt_or_ge k (tot n L + X)).elim (hI.2 k) fun h => by rw [show k = tot n L + X from by omega]; exact hok⟩
    ·show _ - _ < _ - _; omega
    ·exact (Sv [0,1,5,15,16,25,26,1000090,1000091] rfl)
   ·refine GS (TF 4 (RV 3 rfl ?_));refine RS (ok_litS [(0, nI L), (1, nI X)] (plV L X) ⟨rfl, rfl, rfl, rfl, trivial⟩ (buildP _ _)) ?_;refine RN ?_;refine ⟨_, eff_yieldF (vJ := 1000090) (vN := 1000093) hq (tot n L + X) (numP_lt (by omega) hX) hI.2 rfl rfl rfl (Le.v (by rw [lev_at (by omega) hX, idx_at (by omega) hX])) (by decide) (by decide) (by decide) (Left.cons (t := 0) rfl (Stays.v _ _) (Left.cons (t := 1) rfl (Stays.v _ _) (Left.cons (t := 5) rfl (Stays.v _ _) (Left.cons (t := 15) rfl (Stays.v _ _) (Left.cons (t := 16) rfl (Stays.v _ _) (Left.cons (t := 25) rfl (Stays.v _ _) (Left.cons (t := 26) rfl (Stays.v _ _) Left.nil))))))), ?_⟩
    refine TL (RS (ok_not rfl) ?_);refine RZ (.bool true) (by rw [hok]; rfl) ?_;refine RN (A.yes rfl ?_);refine A.ret (End.ret_block (End.ret_then (End.ret_then (End.ret_block (End.ret_block (End.ret_then (End.ret_then (End.ret_block ?_))))))))
    first | exact End.seqF (vJ := 1000090) hq rfl (by subst hL2; rfl) (by subst hL2; exact hG.2) | exact End.seqFx (vN := 1000093) (i := tot n L + X) hq rfl rfl (numP_lt (by omega) hX) hI.2 hok
  ·have hX2 : X = un n (L + 1) := by have := hI.1; simp at hc27; omega
   refine A.exit (End.exit_then (End.exit_then (End.exit_here (End.normal_block (EN (GTE (RB rfl rfl rfl ?_)))))));refine RZ (nI (L + 1)) (wrap_eq (by omega) (by omega)) ?_;refine RVN 1 rfl ?_;refine End.normal_then ?_;refine End.again (L + 1) ?_ ?_ ?_
   ·exact ⟨by omega, fun k hk => hI.2 k (by rw [tot_succ] at hk; omega)⟩
   ·show _ - _ < _ - _; omega
   ·exact (KC 0 rfl (KC 1 rfl (KC 15 rfl (KC 16 rfl (KE 1000090 rfl (by rw [hX2]; rfl) (KC 1000091 rfl KN))))))
 ·have hL2 : L = hg n + 1 := by have := hG.1; simp at hc17; omega
  refine A.exit (End.exit_then (End.exit_then (End.exit_here ?_)))
  first | exact End.seqF (vJ := 1000090) hq rfl (by subst hL2; rfl) (by subst hL2; exact hG.2) | exact End.seqFx (vN := 1000093) (i := tot n L + X) hq rfl rfl (numP_lt (by omega) hX) hI.2 hok
end
section
theorem badK_cases (n : Nat) (T : List NodT) (l k : Nat) (e : EntT) : (decide e.Z ≠ emT n T l k ∧ badK n T l k e = true) ∨ (decide e.Z = true ∧ emT n T l k = true ∧ badK n T l k e = false) ∨ (decide e.Z = false ∧ emT n T l k = false ∧ e.t = sha (ndAt T (tot n l + k)).bl ∧ badK n T l k e = false) ∨ (decide e.Z = false ∧ emT n T l k = false ∧ e.t ≠ sha (ndAt T (tot n l + k)).bl ∧ badK n T l k e = true) := by
 by_cases h1 : decide e.Z = emT n T l k
 ·cases h2 : emT n T l k with
  | true =>
   rw [h2] at h1
   exact .inr (.inl ⟨h1, rfl, by unfold badK; rw [decide_eq_false_iff_not, h2]; rintro (h | h); exact h h1; exact h.1 (of_decide_eq_true h1)⟩)
  | false =>
   rw [h2] at h1
   by_cases h3 : e.t = sha (ndAt T (tot n l + k)).bl
   ·exact .inr (.inr (.inl ⟨h1, rfl, h3, by unfold badK; rw [decide_eq_false_iff_not, h2]; rintro (h | h); exact h h1; exact h.2 h3⟩))
   ·exact .inr (.inr (.inr ⟨h1, rfl, h3, by unfold badK; rw [decide_eq_true_iff]; exact .inr ⟨of_decide_eq_false h1, h3⟩⟩))
 ·exact .inl ⟨h1, by unfold badK; rw [decide_eq_true_iff]; exact .inl h1⟩
theorem kidC_pos {n l j w : Nat} (h : w < kidC n l j 4) : 0 < l ∧ w < pts n l j ∧ w < 4 := by
 rw [kidC_4] at h
 have := pts_le n l j
 split at h <;> omega
theorem errI_17 {n i : Nat} {T : List NodT} (h : fitA n (lev n i) (idx n i) (ndAt T (tot n (lev n i) + idx n i)) = false) : errI n T i = 17 := by unfold errI errA; rw [if_pos h]
theorem errI_9 {n i w : Nat} {T : List NodT} (h : fitA n (lev n i) (idx n i) (ndAt T (tot n (lev n i) + idx n i)) = true) (h0 : 0 < lev n i) (hw : w < pts n (lev n i) (idx n i)) (hb : badK n T (lev n i - 1) (4 * idx n i + w) ((ndAt T (tot n (lev n i) + idx n i)).e w) = true) : errI n T i = 9 := by
 unfold errI errA
 rw [if_neg (by simp [h]), if_pos]
 generalize lev n i = l at *
 cases l with
 | zero => omega
 | succ l => exact ⟨w, hw, hb⟩
theorem errI_0 {n i : Nat} {T : List NodT} (h : fitA n (lev n i) (idx n i) (ndAt T (tot n (lev n i) + idx n i)) = true) (hb : ∀ w, w < kidC n (lev n i) (idx n i) 4 → badK n T (lev n i - 1) (4 * idx n i + w) ((ndAt T (tot n (lev n i) + idx n i)).e w) = false) : errI n T i = 0 := by
 unfold errI errA
 rw [if_neg (by simp [h]), if_neg]
 generalize lev n i = l at *
 cases l with
 | zero => exact fun h => h
 | succ l =>
  rintro ⟨w, hw, hk⟩
  have := hb w (by rw [kidC_4, if_neg (by omega)]; exact hw)
  rw [show l + 1 - 1 = l from rfl] at this
  rw [hk] at this; cases this
theorem child_ok {n i w : Nat} {T : List NodT} (h1 : 1 ≤ n) (h2 : n ≤ 4096) (hi : i < tot n (hg n + 1)) (hok : ∀ k, k < i → errI n T k = 0) (h0 : 0 < lev n i) (hw : w < pts n (lev n i) (idx n i)) : lev n i - 1 ≤ hg n ∧ 4 * idx n i + w < un n (lev n i - 1 + 1) ∧ (ndAt T (tot n (lev n i - 1) + (4 * idx n i + w))).ck = 0 := by
 obtain ⟨a, b, c⟩ := lev_ok hi
 have hh := hg_le n
 obtain ⟨l, hl⟩ : ∃ l, lev n i = l + 1 := ⟨lev n i - 1, by omega⟩
 rw [hl] at a b c hw ⊢
 rw [show l + 1 - 1 = l from rfl]
 have hk := kid_ok hw
 refine ⟨by omega, hk, ?_⟩
 have hlt : tot n l + (4 * idx n i + w) < i := by have := tot_succ n l; omega
 have he := hok _ hlt
 rw [errI_at (by omega) hk] at he
 exact (ft_zero h1 h2 (errA_fit he).2.2).1
theorem ent_t {e : EntT} (h : e.Fit) : (e.v.drop (0 + 1)).take 32 = e.t.map byteV := by
 show (e.t.map byteV).take 32 = _
 exact List.take_of_length_le (by rw [List.length_map, h.t]; exact Nat.le_refl _)
theorem ent_part {x : NodT} (h : x.Fit) {w : Nat} (hw : w < 4) : (x.v.drop (0 + 142 + w * 33)).take 33 = (x.e w).v := by rw [Nat.zero_add]; exact h.ent_at hw
set_option maxHeartbeats 4000000 in
theorem cNodes_fn (n : Nat) (h1 : 1 ≤ n) (h2 : n ≤ 4096) (ad : Addr) (T : List NodT) (hT : FitT T) (c : Nat) (hlen : T.length = tot n (hg n + 1)) (e : Value) (he0 : (∀ k, k < tot n (hg n + 1) → errI n T k = 0) → e = .nilIface) (heN : ∀ i, i < tot n (hg n + 1) → (∀ k, k < i → errI n T k = 0) → ¬ errI n T i = 0 → e = wrongV (lev n i) (idx n i) (errI n T i))  : FnM Tryz.prog 47 (tabN ++ trM ad T) [.v (aggV [nI n, .slice (some ad) T.length c])] (.v (e)) := by
 have hh := hg_le n
 have hu1 : un n 1 ≤ T.length := by have := tot_mono (n := n) (show 1 ≤ hg n + 1 by omega); rw [tot_one] at this; omega
 refine FnM.ofO Tryz.func47 rfl (by kernel_rfl) Tryz.ntmps47 (by simp) (by decide) (fun w => [(0, .v (aggV [nI n, .slice (some ad) T.length c])), (1900001, tab 1 (sizV)), (1900002, tab 2 (H8.list.map u32V)), (1900003, tab 3 (K64.map u32V)), (1000501, old w.heap.size (memR (some ad) (nodsV T)))]) (fun w => (StartMO.v rfl (StartMO.m (by simp [tabN]) (by decide) (StartMO.m (by simp [tabN]) (by decide) (StartMO.m (by simp [tabN]) (by decide) (StartMO.mo (by simp [tabN]) (by decide) StartMO.nil)))))) fun w₀ hM => ?_
 have hMN : ∀ p ∈ tabN, p.2.Of w₀ undef := fun p hp => hM p (List.mem_append_left _ hp)
 have htab := tabN_hi hMN
 refine GS (TN 0 (RN ?_));refine ZB 1000001 rfl fun b1 ⟨hBb1, hb1⟩ => ?_
 refine TN 1 (RN ?_);refine ZN 1000002 zero104 fun b2 ⟨hBb2, hb2⟩ => ?_
 refine TL (RN (GS (RunTK.newG 1 (by decide) rfl (.inl rfl) ?_)));refine RL 1000001 U32 rfl rfl (size32.of rfl) ?_;refine RN ?_;refine ⟨_, _, _, eff_nameE (n := 66) (d := 11) (k₁ := 1000601) (k₂ := 1000602) rfl rfl (fun B' => ok_callB (emptiness_fnB _ _ rfl rfl) closE_mono (A1 rfl)) (by decide) (by decide), fun x11 hx11 => ?_⟩
 obtain ⟨p, q⟩ := x11
 have hBp : w₀.heap.size ≤ p := hx11.1
 have hBq : w₀.heap.size ≤ q := hx11.2.1
 have hlt_b1_p : b1 < p := (hx11.2.2.2 1000001 _ _ _ rfl).1
 have hlt_b1_q : b1 < q := (hx11.2.2.2 1000001 _ _ _ rfl).2
 refine TN 2 (RN ?_);refine ZN 1000003 zero115 fun b3 ⟨hBb3, hb3⟩ => ?_
 have hlt_q_b3 := hb3 1000602 q _ _ rfl
 refine TF 3 (RN ?_);refine ⟨_, eff_storeS (n := 66) (s := 1000003) info115 rfl rfl rfl hBb3 rfl (by simp) (LT 1000001 rfl (LT 1000002 rfl (LO 1000501 rfl (LT 1000601 rfl (LB 1000602 rfl (LQ 1900001 rfl (LQ 1900002 rfl (LQ 1900003 rfl (LW [1,2,3] rfl))))))))), ?_⟩
 refine TL (RN (QS (GT (RS (ok_field field32_0 (by decide) rfl) ?_))));refine RLV 1000001 U3 rfl rfl rfl ?_;refine RS (ok_callB (places_fnB n) newD_mono (A1 rfl)) ?_;refine RN ?_;refine A.openN (t := 14) (k := 1000091) rfl fun r hBr => ?_
 refine A.block ?_;refine A.rangeF1 (gf := 104) (N := tot n (hg n + 1)) (vL := 1000098) (vD := 1000099) (tp := 15) (lb := [ptr r]) (ok := fun i => decide (errI n T i = 0)) (S := [(1, .v (ptr b1)), (2, .v (ptr b2)), (3, .v (ptr b3))])
  (V := fun i => [(1000001, blk b1 32 [nI n, .slice (some ad) T.length c]), (1000002, blk b2 104 [.nilIface]), (1000003, blk b3 115 [emF1 p q]), (1000601, blk p 32 [nI n, .slice (some ad) T.length c]), (1000602, blk q 115 [emF1 p q]), (1000091, blk r 3 [nI n]), (1000501, old w₀.heap.size (memR (some ad) (nodsV T))), (1900001, tab 1 (sizV)), (1900002, tab 2 (H8.list.map u32V)), (1900003, tab 3 (K64.map u32V))]) (Vx := fun i => [(1000002, blk b2 104 [wrongV (lev n i) (idx n i) (errI n T i)])])
  (Eb := fun i => (4, freshV w₀.heap.size [] 67 (plV (lev n i) (idx n i))) :: (15, .v (aggV (plV (lev n i) (idx n i)))) :: ([(1000001, blk b1 32 [nI n, .slice (some ad) T.length c]), (1000002, blk b2 104 [.nilIface]), (1000003, blk b3 115 [emF1 p q]), (1000601, blk p 32 [nI n, .slice (some ad) T.length c]), (1000602, blk q 115 [emF1 p q]), (1000091, blk r 3 [nI n]), (1000501, old w₀.heap.size (memR (some ad) (nodsV T))), (1900001, tab 1 (sizV)), (1900002, tab 2 (H8.list.map u32V)), (1900003, tab 3 (K64.map u32V))] ++ [(1, .v (ptr b1)), (2, .v (ptr b2)), (3, .v (ptr b3))]))
  (arg := fun i => .v (aggV (plV (lev n i) (idx n i)))) rfl ⟨_, Tryz.func104, by kernel_rfl, rfl⟩ (by decide) (by decide) (Sv [1000001,1000002,1000003,1000601,1000602,1000091,1000501,1900001,1900002,1900003,1,2,3] rfl)
  (fun x hx => by simp only [List.mem_cons, List.mem_append, List.not_mem_nil, or_false, or_assoc] at hx; rcases hx with rfl | rfl | rfl <;> first | exact ⟨vlt rfl, .inl ⟨_, rfl⟩⟩ | exact ⟨vlt rfl, .inr ⟨_, rfl⟩⟩)
  (fun i x hx => by simp only [List.mem_cons, List.mem_append, List.not_mem_nil, or_false, or_assoc] at hx; rcases hx with rfl | rfl | rfl | rfl | rfl | rfl | rfl | rfl | rfl | rfl <;> exact vle rfl)
  (fun i x hx => by simp only [List.mem_cons, List.mem_append, List.not_mem_nil, or_false, or_assoc] at hx; rcases hx with rfl <;> exact vle rfl)
  (fun i l' hl' x hx => by simp only [List.mem_cons, List.mem_append, List.not_mem_nil, or_false, or_assoc] at hx; rcases hx with rfl | rfl | rfl | rfl | rfl | rfl | rfl | rfl | rfl | rfl <;> first | exact Firm.blk | exact Firm.old hl' | exact Firm.v _ _ | exact Firm.tab | exact Firm.freshV)
  (fun i l' hl' x hx => by simp only [List.mem_cons, List.mem_append, List.not_mem_nil, or_false, or_assoc] at hx; rcases hx with rfl <;> first | exact Firm.blk | exact Firm.old hl' | exact Firm.v _ _ | exact Firm.tab | exact Firm.freshV)
  (fun i l' hl' x hx => by simp only [List.mem_cons, List.mem_append, List.not_mem_nil, or_false, or_assoc] at hx; rcases hx with rfl | rfl | rfl | rfl | rfl | rfl | rfl | rfl | rfl | rfl | rfl | rfl | rfl | rfl | rfl <;> first | exact Firm.blk | exact Firm.old hl' | exact Firm.v _ _ | exact Firm.tab | exact Firm.freshV)
  (fun J Jx lf w hq h0 => places1_seq h1 h2 (hq.sub fun i x hx => by simp only [List.mem_cons, List.mem_append, List.not_mem_nil, or_false, or_assoc] at hx ⊢; subst hx; simp) h0)
  (fun i l' a w hi hb h => assign_box zero67 (size67.of rfl) rfl rfl (by decide) (by decide) hb h) ?_ ?_ (fun D i hD hi hok hko => by obtain rfl := heN i hi (fun k hk => of_decide_eq_true (hok k hk)) (of_decide_eq_false hko); exact End.ret_block (End.ret_then (End.cellS1C (s := 1000002) (vD := 1000099) rfl hD rfl U104 rfl rfl rfl)))
 ·intro i l' D rr mm hi' hok
  refine A.openFresh (t := 4) (k := 1000004) rfl fun b4 hBb4 => ?_
  obtain ⟨hl, hj, hnum⟩ := lev_ok hi'
  have hok' : ∀ k, k < i → errI n T k = 0 := fun k hk => of_decide_eq_true (hok k hk)
  have hxF := hT.at (tot n (lev n i) + idx n i)
  have hin : tot n (lev n i) + idx n i < T.length := by omega
  refine A.block (GS (TN 3 (RL 1000001 U32 rfl rfl (size32.of rfl) ?_)));refine RL 1000004 U67 rfl rfl (size67.of rfl) ?_;refine RS (ok_callMK (at_fn n h1 h2 (lev n i) (idx n i) hl hj ad T hT c hin) (SubK.cons (k := 1000501) (by decide) rfl Le.unold SubK.nil) (A2 rfl rfl)) ?_;refine RZ (aggV (ndAt T (tot n (lev n i) + (idx n i))).v) (by rfl) ?_;refine RN ?_;refine ZN 1000005 zero57 fun b5 ⟨hBb5, hb5⟩ => ?_
  refine TF 4 (RN ?_);refine ⟨_, eff_storeA (n := 66) (s := 1000005) (size57.of (hxF.len)) rfl rfl (NodT.one _) hBb5 rfl (by rw [hxF.len]; rfl) (LT 1000001 rfl (LT 1000002 rfl (LT 1000003 rfl (LT 1000004 rfl (LT 1000091 rfl (LeftS.cons (t := 1000098) rfl (Surv.rec rfl) (LeftS.cons (t := 1000099) rfl (Surv.rec rfl) (LO 1000501 rfl (LT 1000601 rfl (LT 1000602 rfl (LQ 1900001 rfl (LQ 1900002 rfl (LQ 1900003 rfl (LW [1,2,3,4,5] rfl)))))))))))))), ?_⟩
  refine TL (RN (QS (GT (RS (ok_field field32_0 (by decide) rfl) ?_))));refine RLV 1000001 U3 rfl rfl rfl ?_;refine RL 1000004 U67 rfl rfl (size67.of rfl) ?_;refine RL 1000005 U57 rfl rfl (size57.of (hxF.len)) ?_;refine RS (ok_call (checkFit_fn n h1 h2 (lev n i) (idx n i) (ndAt T (tot n (lev n i) + (idx n i))) hxF) (A3 rfl rfl rfl)) ?_;refine RVN 1 rfl ?_;refine GT (RM rfl ?_);refine RS (ok_neIf U104 rfl) ?_;refine RN ?_;refine A.cond rfl (fun hc25 => ?_) (fun hc25 => ?_)
  ·have hf : fitA n (lev n i) (idx n i) (ndAt T (tot n (lev n i) + (idx n i))) = false := by simpa using hc25
   refine GS (TF 1 (RM rfl ?_));refine RZ (wrongV (lev n i) (idx n i) (errI n T i)) (by rw [if_neg (by simp [hf]), errI_17 hf]) ?_;refine RN ?_;refine ⟨_, eff_storeS (n := 66) (s := 1000002) info104 rfl rfl rfl hBb2 rfl (by simp) (LV 2 rfl (LT 1000001 rfl (LT 1000003 rfl (LT 1000004 rfl (LT 1000005 rfl (LT 1000091 rfl (LeftS.cons (t := 1000098) rfl (Surv.rec rfl) (LeftS.cons (t := 1000099) rfl (Surv.rec rfl) (LO 1000501 rfl (LT 1000601 rfl (LT 1000602 rfl (LQ 1900001 rfl (LQ 1900002 rfl (LQ 1900003 rfl LN)))))))))))))), ?_⟩
   refine TL (RN (A.ret (End.ret_then (End.ret_block ?_))))
   first | exact End.roundEx (decide_eq_false (by rw [errI_17 hf]; decide)) (Sv [1000098,1000099,1000002] rfl) (fun p hp => by simp only [List.mem_cons, List.not_mem_nil, or_false] at hp; rcases hp with rfl | rfl | rfl <;> exact vle rfl) (by decide) | exact End.roundEx (decide_eq_false (by rw [errI_9 hf (kidC_pos hw).1 (kidC_pos hw).2.1 (by assumption)]; decide)) (Sv [1000098,1000099,1000002] rfl) (fun p hp => by simp only [List.mem_cons, List.not_mem_nil, or_false] at hp; rcases hp with rfl | rfl | rfl <;> exact vle rfl) (by decide) | exact End.cellS1C (s := 1000002) (vD := 1000099) rfl hD rfl U104 rfl rfl rfl
  ·have hf : fitA n (lev n i) (idx n i) (ndAt T (tot n (lev n i) + (idx n i))) = true := by simpa using hc25
   refine QK (GT (RS (ok_field field32_0 (by decide) rfl) ?_));refine RLV 1000001 U3 rfl rfl rfl ?_;refine RL 1000004 U67 rfl rfl (size67.of rfl) ?_;refine RS (ok_callB (children_fnB n h1 h2 (lev n i) (idx n i) hl hj) (fun _ _ h => ownP_mono h) (A2 rfl rfl)) ?_;refine RS (ok_lenRD U112 rfl ownP_rowD) ?_;refine RVN 1 rfl ?_;refine A.block ?_;refine A.loop (ι := Nat) (fun w => w ≤ kidC n (lev n i) (idx n i) 4 ∧ ∀ k, k < w → badK n T (lev n i - 1) (4 * idx n i + k) ((ndAt T (tot n (lev n i) + (idx n i))).e k) = false) (fun w => [(1, .v (ptr b1)), (2, .v (ptr b2)), (3, .v (ptr b3)), (4, .v (ptr b4)), (5, .v (ptr b5)), (30, ownP w₀.heap.size 67 2 (kidC n (lev n i) (idx n i) 4) (kidL (lev n i) (idx n i) (kidC n (lev n i) (idx n i) 4))), (31, .v (nI (kidC n (lev n i) (idx n i) 4))), (32, .v (nI (w))), (1000001, blk b1 32 [nI n, .slice (some ad) T.length c]), (1000002, blk b2 104 [.nilIface]), (1000003, blk b3 115 [emF1 p q]), (1000004, blk b4 67 (plV (lev n i) (idx n i))), (1000005, blk b5 57 (ndAt T (tot n (lev n i) + (idx n i))).v), (1000601, blk p 32 [nI n, .slice (some ad) T.length c]), (1000602, blk q 115 [emF1 p q]), (1000091, blk r 3 [nI n]), (1000098, recD l' (.loop rr) mm), (1000099, recD D (.deferred (some [])) 0), (1900001, tab 1 (sizV)), (1900002, tab 2 (H8.list.map u32V)), (1900003, tab 3 (K64.map u32V)), (1000501, old w₀.heap.size (memR (some ad) (nodsV T)))]) (fun w => kidC n (lev n i) (idx n i) 4 - w) 0 ?_ ?_ ?_
   ·exact ⟨Nat.zero_le _, fun k h => absurd h (Nat.not_lt_zero _)⟩
   ·exact (KC 1 rfl (KC 2 rfl (KC 3 rfl (KC 4 rfl (KC 5 rfl (KC 30 rfl (KC 31 rfl (KE 32 rfl (by rfl) (KC 1000001 rfl (KC 1000002 rfl (KC 1000003 rfl (KC 1000004 rfl (KC 1000005 rfl (KC 1000601 rfl (KC 1000602 rfl (KC 1000091 rfl (KC 1000098 rfl (KC 1000099 rfl (KC 1900001 rfl (KC 1900002 rfl (KC 1900003 rfl (KC 1000501 rfl KN))))))))))))))))))))))
   intro w hG
   refine GV rfl (QS ?_);refine A.cond rfl (fun hc33 => ?_) (fun hc33 => ?_)
   ·have hw : w < kidC n (lev n i) (idx n i) 4 := by simp at hc33; omega
    refine QK (QSB (GS (TN 3 (RM rfl ?_))));refine RS (ok_indexRD w U112 infoPP rfl ownP_rowD rfl hw (by rw [kidL_length]; omega)) ?_;refine RS (ok_loadElemT 2 U67 rfl size67 (by rw [kidL_at hw]; exact Nat.le_refl _) rfl) ?_;refine RZ (aggV (plV (lev n i - 1) (4 * idx n i + w))) (congrArg aggV (by rw [kidL_at hw]; rfl)) ?_;refine RN ?_;refine ⟨_, _, eff_allocLt (n := 66) (d := 8) (k := 1000008) (r := 30) zero67 (by decide) rfl, fun b8 hb8 => ?_⟩
    have hBb8 := hb8.1
    have hlt_b4_b8 : b4 < b8 := hb8.2 1000004 _ _ _ rfl
    refine TF 5 (RVN 1 rfl ?_);refine ZA 1000008 (size67.of rfl) hBb8 rfl rfl rfl (LeftS.cons (t := 30) rfl (Surv.ltP) (LT 1000001 rfl (LT 1000002 rfl (LT 1000003 rfl (LB 1000004 rfl (LT 1000005 rfl (LT 1000091 rfl (LeftS.cons (t := 1000098) rfl (Surv.rec rfl) (LeftS.cons (t := 1000099) rfl (Surv.rec rfl) (LO 1000501 rfl (LT 1000601 rfl (LT 1000602 rfl (LQ 1900001 rfl (LQ 1900002 rfl (LQ 1900003 rfl (LW [1,2,3,4,5,7,8,31,32] rfl)))))))))))))))) ?_;refine TL (RN (A.subL (QC 1 rfl (QC 2 rfl (QC 3 rfl (QC 4 rfl (QC 5 rfl (QC 7 rfl (QC 8 rfl (QX 30 rfl (Le.lt) (QC 31 rfl (QC 32 rfl (QC 1000001 rfl (QC 1000002 rfl (QC 1000003 rfl (QC 1000004 rfl (QC 1000005 rfl (QC 1000008 rfl (QC 1000091 rfl (QC 1000098 rfl (QC 1000099 rfl (QC 1000501 rfl (QC 1000601 rfl (QC 1000602 rfl (QC 1900001 rfl (QC 1900002 rfl (QC 1900003 rfl SubL.nil))))))))))))))))))))))))) ?_));refine GS (TN 4 (RM rfl ?_));refine RS (ok_field field57_3 (by decide) rfl) ?_;refine RS (ok_indexN (w) U55 size54 rfl rfl (rfl) ((kidC_pos hw).2.2)) ?_;refine RS (ok_loadP (s := 1000005) (by decide) U54 rfl size54 rfl rfl (by rw [hxF.len]; have := (kidC_pos hw).2.2; omega) (ent_part hxF (kidC_pos hw).2.2)) ?_;refine RN ?_;refine ZN 1000009 zero54 fun b9 ⟨hBb9, hb9⟩ => ?_
    refine TF 5 (RN ?_);refine ⟨_, eff_storeA (n := 66) (s := 1000009) (size54.of ((hxF.e w).len)) rfl rfl (EntT.one _) hBb9 rfl (by rw [(hxF.e w).len]; rfl) (LeftS.cons (t := 30) rfl (Surv.ownP (by decide)) (LT 1000001 rfl (LT 1000002 rfl (LT 1000003 rfl (LT 1000004 rfl (LT 1000005 rfl (LT 1000008 rfl (LT 1000091 rfl (LeftS.cons (t := 1000098) rfl (Surv.rec rfl) (LeftS.cons (t := 1000099) rfl (Surv.rec rfl) (LO 1000501 rfl (LT 1000601 rfl (LT 1000602 rfl (LQ 1900001 rfl (LQ 1900002 rfl (LQ 1900003 rfl (LW [1,2,3,4,5,8,9,31,32] rfl))))))))))))))))), ?_⟩
    refine TL (RN ?_)
    rcases badK_cases n T (lev n i - 1) (4 * idx n i + w) ((ndAt T (tot n (lev n i) + (idx n i))).e w) with ⟨ka, kb⟩ | ⟨ka, kb, kc⟩ | ⟨ka, kb, kc, kd⟩ | ⟨ka, kb, kc, kd⟩
    ·refine GTD (RL 1000009 U54 rfl rfl (size54.of ((hxF.e w).len)) ?_);refine RS (ok_call (isZero_fn ((ndAt T (tot n (lev n i) + (idx n i))).e w) (hxF.e w)) (A1 rfl)) ?_;refine RLV 1000003 U115 rfl rfl rfl ?_;refine RL 1000008 U67 rfl rfl (size67.of rfl) ?_;refine RS (ok_callVMK (us := [ptr p, ptr q]) (em_fn n h1 h2 ad T hT hu1 c p q (lev n i - 1) (4 * idx n i + w) (child_ok h1 h2 hi' hok' (kidC_pos hw).1 (kidC_pos hw).2.1).1 (child_ok h1 h2 hi' hok' (kidC_pos hw).1 (kidC_pos hw).2.1).2.1) (SubK.cons (k := 1000601) (by decide) rfl (Le.refl _) (SubK.cons (k := 1000602) (by decide) rfl (Le.refl _) (SubK.cons (k := 1000501) (by decide) rfl Le.unold SubK.nil))) rfl (A1 rfl)) ?_;refine RS (ok_neBoolS U4 rfl rfl) ?_;refine RZ (.bool true) (congrArg Value.bool (by simpa using ka)) ?_;refine RM rfl ?_;refine RT ?_;refine RV 4 rfl ?_;refine RunK.skippedU rfl rfl rfl rfl ?_;refine RunK.skippedU rfl rfl rfl rfl ?_;refine RunK.skippedU rfl rfl rfl rfl ?_;refine RunK.skippedU rfl rfl rfl rfl ?_;refine RunK.skippedU rfl rfl rfl rfl ?_;refine RunK.skippedU rfl rfl rfl rfl ?_;refine RunK.skippedU rfl rfl rfl rfl ?_;refine RV 2 rfl ?_;refine RT ?_;refine RN (A.sub (Sv [1,2,3,4,5,30,31,32,60,1000001,1000002,1000003,1000004,1000005,1000008,1000009,1000091,1000098,1000099,1000501,1000601,1000602,1900001,1900002,1900003] rfl) ?_);refine A.yes rfl ?_;refine GS (TF 4 (RL 1000004 U67 rfl rfl (size67.of rfl) ?_));refine RS (ok_iface U140 rfl rfl) ?_;refine RS (ok_litS [(0, aggV (plV (lev n i) (idx n i))), (1, .iface 140 (.int .i64 9))] [nI (lev n i), nI (idx n i), .iface 140 (.int .i64 9)] ⟨rfl, rfl, rfl, rfl, trivial⟩ (buildW _ _ _)) ?_;refine RS (ok_iface U149 rfl rfl) ?_;refine RZ (wrongV (lev n i) (idx n i) (errI n T i)) (by rw [errI_9 hf (kidC_pos hw).1 (kidC_pos hw).2.1 (by assumption)]) ?_;refine RN ?_;refine ⟨_, eff_storeS (n := 66) (s := 1000002) info104 rfl rfl rfl hBb2 rfl (by simp) (LV 2 rfl (LT 1000001 rfl (LT 1000003 rfl (LT 1000004 rfl (LT 1000005 rfl (LT 1000008 rfl (LT 1000009 rfl (LT 1000091 rfl (LeftS.cons (t := 1000098) rfl (Surv.rec rfl) (LeftS.cons (t := 1000099) rfl (Surv.rec rfl) (LO 1000501 rfl (LT 1000601 rfl (LT 1000602 rfl (LQ 1900001 rfl (LQ 1900002 rfl (LQ 1900003 rfl LN)))))))))))))))), ?_⟩
     refine TL (RN (A.ret (End.ret_block (End.ret_then (End.ret_then (End.ret_block (End.ret_block ?_)))))))
     first | exact End.roundEx (decide_eq_false (by rw [errI_17 hf]; decide)) (Sv [1000098,1000099,1000002] rfl) (fun p hp => by simp only [List.mem_cons, List.not_mem_nil, or_false] at hp; rcases hp with rfl | rfl | rfl <;> exact vle rfl) (by decide) | exact End.roundEx (decide_eq_false (by rw [errI_9 hf (kidC_pos hw).1 (kidC_pos hw).2.1 (by assumption)]; decide)) (Sv [1000098,1000099,1000002] rfl) (fun p hp => by simp only [List.mem_cons, List.not_mem_nil, or_false] at hp; rcases hp with rfl | rfl | rfl <;> exact vle rfl) (by decide) | exact End.cellS1C (s := 1000002) (vD := 1000099) rfl hD rfl U104 rfl rfl rfl
    ·refine GTD (RL 1000009 U54 rfl rfl (size54.of ((hxF.e w).len)) ?_);refine RS (ok_call (isZero_fn ((ndAt T (tot n (lev n i) + (idx n i))).e w) (hxF.e w)) (A1 rfl)) ?_;refine RLV 1000003 U115 rfl rfl rfl ?_;refine RL 1000008 U67 rfl rfl (size67.of rfl) ?_;refine RS (ok_callVMK (us := [ptr p, ptr q]) (em_fn n h1 h2 ad T hT hu1 c p q (lev n i - 1) (4 * idx n i + w) (child_ok h1 h2 hi' hok' (kidC_pos hw).1 (kidC_pos hw).2.1).1 (child_ok h1 h2 hi' hok' (kidC_pos hw).1 (kidC_pos hw).2.1).2.1) (SubK.cons (k := 1000601) (by decide) rfl (Le.refl _) (SubK.cons (k := 1000602) (by decide) rfl (Le.refl _) (SubK.cons (k := 1000501) (by decide) rfl Le.unold SubK.nil))) rfl (A1 rfl)) ?_;refine RS (ok_neBoolS U4 rfl rfl) ?_;refine RZ (.bool false) (by rw [ka, kb]; rfl) ?_;refine RM rfl ?_;refine RF ?_;refine RQ (ok_loadA (s := 1000009) (by decide) U54 rfl (size54.of ((hxF.e w).len)) rfl rfl) ?_;refine RQ (ok_call (isZero_fn ((ndAt T (tot n (lev n i) + (idx n i))).e w) (hxF.e w)) (A1 rfl)) ?_;refine RZ (.bool true) (by rw [ka]) ?_;refine RQ (ok_not rfl) ?_;refine RF ?_;refine RQ (ok_move rfl) ?_;refine RF ?_;refine RV 8 rfl ?_;refine RF ?_;refine RP rfl rfl ?_;refine RF ?_;refine RN (A.sub (Sv [1,2,3,4,5,30,31,32,60,1000001,1000002,1000003,1000004,1000005,1000008,1000009,1000091,1000098,1000099,1000501,1000601,1000602,1900001,1900002,1900003] rfl) ?_);refine A.no rfl ?_;refine A.skip (End.normal_block (EN (GTE (RB rfl rfl rfl ?_))));refine RZ (nI (w + 1)) (wrap_eq (by omega) (by have := (kidC_pos hw).2.2; omega)) ?_;refine RVN 1 rfl ?_;refine End.normal_then ?_;refine End.again (w + 1) ?_ ?_ ?_
     ·exact ⟨by omega, fun k hk => (Nat.lt_or_ge k w).elim (hG.2 k) fun h => by rw [show k = w from by omega]; assumption⟩
     ·show _ - _ < _ - _; omega
     ·exact (Sv [1,2,3,4,5,30,31,32,1000001,1000002,1000003,1000004,1000005,1000601,1000602,1000091,1000098,1000099,1900001,1900002,1900003,1000501] rfl)
    ·refine GTD (RL 1000009 U54 rfl rfl (size54.of ((hxF.e w).len)) ?_);refine RS (ok_call (isZero_fn ((ndAt T (tot n (lev n i) + (idx n i))).e w) (hxF.e w)) (A1 rfl)) ?_;refine RLV 1000003 U115 rfl rfl rfl ?_;refine RL 1000008 U67 rfl rfl (size67.of rfl) ?_;refine RS (ok_callVMK (us := [ptr p, ptr q]) (em_fn n h1 h2 ad T hT hu1 c p q (lev n i - 1) (4 * idx n i + w) (child_ok h1 h2 hi' hok' (kidC_pos hw).1 (kidC_pos hw).2.1).1 (child_ok h1 h2 hi' hok' (kidC_pos hw).1 (kidC_pos hw).2.1).2.1) (SubK.cons (k := 1000601) (by decide) rfl (Le.refl _) (SubK.cons (k := 1000602) (by decide) rfl (Le.refl _) (SubK.cons (k := 1000501) (by decide) rfl Le.unold SubK.nil))) rfl (A1 rfl)) ?_;refine RS (ok_neBoolS U4 rfl rfl) ?_;refine RZ (.bool false) (by rw [ka, kb]; rfl) ?_;refine RM rfl ?_;refine RF ?_;refine RQ (ok_loadA (s := 1000009) (by decide) U54 rfl (size54.of ((hxF.e w).len)) rfl rfl) ?_;refine RQ (ok_call (isZero_fn ((ndAt T (tot n (lev n i) + (idx n i))).e w) (hxF.e w)) (A1 rfl)) ?_;refine RZ (.bool false) (by rw [ka]) ?_;refine RQ (ok_not rfl) ?_;refine RT ?_;refine RQ (ok_move rfl) ?_;refine RT ?_;refine RQ (ok_field field54_1 (by decide) rfl) ?_;refine RQ (ok_loadP (s := 1000009) (by decide) U40 rfl size40 rfl rfl (by rw [(hxF.e w).len]; decide) (ent_t (hxF.e w))) ?_;refine RQ (ok_loadA (s := 1000001) (by decide) U32 rfl (size32.of (rfl)) rfl rfl) ?_;refine RQ (ok_loadA (s := 1000008) (by decide) U67 rfl (size67.of (rfl)) rfl rfl) ?_;refine RQ (ok_callMK (at_fn n h1 h2 (lev n i - 1) (4 * idx n i + w) (child_ok h1 h2 hi' hok' (kidC_pos hw).1 (kidC_pos hw).2.1).1 (child_ok h1 h2 hi' hok' (kidC_pos hw).1 (kidC_pos hw).2.1).2.1 ad T hT c (by have := numP_lt (child_ok h1 h2 hi' hok' (kidC_pos hw).1 (kidC_pos hw).2.1).1 (child_ok h1 h2 hi' hok' (kidC_pos hw).1 (kidC_pos hw).2.1).2.1; omega)) (SubK.cons (k := 1000501) (by decide) rfl Le.unold SubK.nil) (A2 rfl rfl)) ?_;refine RQ (ok_callM (digestOf_fn (ndAt T (tot n (lev n i - 1) + (4 * idx n i + w))) (hT.at _) (child_ok h1 h2 hi' hok' (kidC_pos hw).1 (kidC_pos hw).2.1).2.2) (Sub.cons rfl (Sub.cons rfl (Sub.cons rfl KN))) tabN_v (A1 rfl)) ?_;refine RQ (ok_neqT (n := 4) (decide (((ndAt T (tot n (lev n i) + (idx n i))).e w).t = sha (ndAt T (tot n (lev n i - 1) + (4 * idx n i + w))).bl)) flat40r (by decide) (by kernel_rfl) (by kernel_rfl) rfl rfl (kinB (hxF.e w).t) (kinB (sha_length _)) (by rw [decide_eq_true_iff]; exact ⟨fun h => congrArg _ h, fun h => bytes_inj h⟩)) ?_;refine RZ (.bool false) (by rw [decide_eq_true kc]; rfl) ?_;refine RQ (ok_pick rfl rfl) ?_;refine RF ?_;refine RP rfl rfl ?_;refine RF ?_;refine RN (A.sub (Sv [1,2,3,4,5,30,31,32,60,1000001,1000002,1000003,1000004,1000005,1000008,1000009,1000091,1000098,1000099,1000501,1000601,1000602,1900001,1900002,1900003] rfl) ?_);refine A.no rfl ?_;refine A.skip (End.normal_block (EN (GTE (RB rfl rfl rfl ?_))));refine RZ (nI (w + 1)) (wrap_eq (by omega) (by have := (kidC_pos hw).2.2; omega)) ?_;refine RVN 1 rfl ?_
     refine End.normal_then ?_;refine End.again (w + 1) ?_ ?_ ?_
     ·exact ⟨by omega, fun k hk => (Nat.lt_or_ge k w).elim (hG.2 k) fun h => by rw [show k = w from by omega]; assumption⟩
     ·show _ - _ < _ - _; omega
     ·exact (Sv [1,2,3,4,5,30,31,32,1000001,1000002,1000003,1000004,1000005,1000601,1000602,1000091,1000098,1000099,1900001,1900002,1900003,1000501] rfl)
    ·refine GTD (RL 1000009 U54 rfl rfl (size54.of ((hxF.e w).len)) ?_);refine RS (ok_call (isZero_fn ((ndAt T (tot n (lev n i) + (idx n i))).e w) (hxF.e w)) (A1 rfl)) ?_;refine RLV 1000003 U115 rfl rfl rfl ?_;refine RL 1000008 U67 rfl rfl (size67.of rfl) ?_;refine RS (ok_callVMK (us := [ptr p, ptr q]) (em_fn n h1 h2 ad T hT hu1 c p q (lev n i - 1) (4 * idx n i + w) (child_ok h1 h2 hi' hok' (kidC_pos hw).1 (kidC_pos hw).2.1).1 (child_ok h1 h2 hi' hok' (kidC_pos hw).1 (kidC_pos hw).2.1).2.1) (SubK.cons (k := 1000601) (by decide) rfl (Le.refl _) (SubK.cons (k := 1000602) (by decide) rfl (Le.refl _) (SubK.cons (k := 1000501) (by decide) rfl Le.unold SubK.nil))) rfl (A1 rfl)) ?_;refine RS (ok_neBoolS U4 rfl rfl) ?_;refine RZ (.bool false) (by rw [ka, kb]; rfl) ?_;refine RM rfl ?_;refine RF ?_;refine RQ (ok_loadA (s := 1000009) (by decide) U54 rfl (size54.of ((hxF.e w).len)) rfl rfl) ?_;refine RQ (ok_call (isZero_fn ((ndAt T (tot n (lev n i) + (idx n i))).e w) (hxF.e w)) (A1 rfl)) ?_;refine RZ (.bool false) (by rw [ka]) ?_;refine RQ (ok_not rfl) ?_;refine RT ?_;refine RQ (ok_move rfl) ?_;refine RT ?_;refine RQ (ok_field field54_1 (by decide) rfl) ?_;refine RQ (ok_loadP (s := 1000009) (by decide) U40 rfl size40 rfl rfl (by rw [(hxF.e w).len]; decide) (ent_t (hxF.e w))) ?_;refine RQ (ok_loadA (s := 1000001) (by decide) U32 rfl (size32.of (rfl)) rfl rfl) ?_;refine RQ (ok_loadA (s := 1000008) (by decide) U67 rfl (size67.of (rfl)) rfl rfl) ?_;refine RQ (ok_callMK (at_fn n h1 h2 (lev n i - 1) (4 * idx n i + w) (child_ok h1 h2 hi' hok' (kidC_pos hw).1 (kidC_pos hw).2.1).1 (child_ok h1 h2 hi' hok' (kidC_pos hw).1 (kidC_pos hw).2.1).2.1 ad T hT c (by have := numP_lt (child_ok h1 h2 hi' hok' (kidC_pos hw).1 (kidC_pos hw).2.1).1 (child_ok h1 h2 hi' hok' (kidC_pos hw).1 (kidC_pos hw).2.1).2.1; omega)) (SubK.cons (k := 1000501) (by decide) rfl Le.unold SubK.nil) (A2 rfl rfl)) ?_;refine RQ (ok_callM (digestOf_fn (ndAt T (tot n (lev n i - 1) + (4 * idx n i + w))) (hT.at _) (child_ok h1 h2 hi' hok' (kidC_pos hw).1 (kidC_pos hw).2.1).2.2) (Sub.cons rfl (Sub.cons rfl (Sub.cons rfl KN))) tabN_v (A1 rfl)) ?_;refine RQ (ok_neqT (n := 4) (decide (((ndAt T (tot n (lev n i) + (idx n i))).e w).t = sha (ndAt T (tot n (lev n i - 1) + (4 * idx n i + w))).bl)) flat40r (by decide) (by kernel_rfl) (by kernel_rfl) rfl rfl (kinB (hxF.e w).t) (kinB (sha_length _)) (by rw [decide_eq_true_iff]; exact ⟨fun h => congrArg _ h, fun h => bytes_inj h⟩)) ?_;refine RZ (.bool true) (by rw [decide_eq_false kc]; rfl) ?_;refine RQ (ok_pick rfl rfl) ?_;refine RT ?_;refine RP rfl rfl ?_;refine RT ?_;refine RN (A.sub (Sv [1,2,3,4,5,30,31,32,60,1000001,1000002,1000003,1000004,1000005,1000008,1000009,1000091,1000098,1000099,1000501,1000601,1000602,1900001,1900002,1900003] rfl) ?_);refine A.yes rfl ?_;refine GS (TF 4 (RL 1000004 U67 rfl rfl (size67.of rfl) ?_));refine RS (ok_iface U140 rfl rfl) ?_
     refine RS (ok_litS [(0, aggV (plV (lev n i) (idx n i))), (1, .iface 140 (.int .i64 9))] [nI (lev n i), nI (idx n i), .iface 140 (.int .i64 9)] ⟨rfl, rfl, rfl, rfl, trivial⟩ (buildW _ _ _)) ?_;refine RS (ok_iface U149 rfl rfl) ?_;refine RZ (wrongV (lev n i) (idx n i) (errI n T i)) (by rw [errI_9 hf (kidC_pos hw).1 (kidC_pos hw).2.1 (by assumption)]) ?_;refine RN ?_;refine ⟨_, eff_storeS (n := 66) (s := 1000002) info104 rfl rfl rfl hBb2 rfl (by simp) (LV 2 rfl (LT 1000001 rfl (LT 1000003 rfl (LT 1000004 rfl (LT 1000005 rfl (LT 1000008 rfl (LT 1000009 rfl (LT 1000091 rfl (LeftS.cons (t := 1000098) rfl (Surv.rec rfl) (LeftS.cons (t := 1000099) rfl (Surv.rec rfl) (LO 1000501 rfl (LT 1000601 rfl (LT 1000602 rfl (LQ 1900001 rfl (LQ 1900002 rfl (LQ 1900003 rfl LN)))))))))))))))), ?_⟩
     refine TL (RN (A.ret (End.ret_block (End.ret_then (End.ret_then (End.ret_block (End.ret_block ?_)))))))
     first | exact End.roundEx (decide_eq_false (by rw [errI_17 hf]; decide)) (Sv [1000098,1000099,1000002] rfl) (fun p hp => by simp only [List.mem_cons, List.not_mem_nil, or_false] at hp; rcases hp with rfl | rfl | rfl <;> exact vle rfl) (by decide) | exact End.roundEx (decide_eq_false (by rw [errI_9 hf (kidC_pos hw).1 (kidC_pos hw).2.1 (by assumption)]; decide)) (Sv [1000098,1000099,1000002] rfl) (fun p hp => by simp only [List.mem_cons, List.not_mem_nil, or_false] at hp; rcases hp with rfl | rfl | rfl <;> exact vle rfl) (by decide) | exact End.cellS1C (s := 1000002) (vD := 1000099) rfl hD rfl U104 rfl rfl rfl
   ·have hw2 : w = kidC n (lev n i) (idx n i) 4 := by have := hG.1; simp at hc33; omega
    have hk : errI n T i = 0 := errI_0 hf (by subst hw2; exact hG.2)
    refine A.exit (End.exit_then (End.exit_then (End.exit_here (End.normal_block ?_))));exact End.roundE (decide_eq_true hk) (Sv [1000098,1000099,1000001,1000002,1000003,1000601,1000602,1000091,1000501,1900001,1900002,1900003] rfl) (fun p hp => by simp only [List.mem_cons, List.not_mem_nil, or_false] at hp; rcases hp with rfl | rfl | rfl | rfl | rfl | rfl | rfl | rfl | rfl | rfl | rfl | rfl <;> exact vle rfl) (by decide)
 ·intro D hD hall
  obtain rfl : e = .nilIface := he0 fun k hk => of_decide_eq_true (hall k hk)
  refine End.normal_block (EN (GS (TF 0 (RN ?_))));refine ⟨_, eff_storeS (n := 66) (s := 1000002) info104 rfl rfl rfl hBb2 rfl (by simp) (LV 2 rfl (LT 1000001 rfl (LT 1000003 rfl (LT 1000091 rfl (LeftS.cons (t := 1000099) rfl (Surv.rec rfl) (LO 1000501 rfl (LT 1000601 rfl (LT 1000602 rfl (LQ 1900001 rfl (LQ 1900002 rfl (LQ 1900003 rfl LN))))))))))), ?_⟩
  refine TL (RN (A.ret ?_))
  first | exact End.roundEx (decide_eq_false (by rw [errI_17 hf]; decide)) (Sv [1000098,1000099,1000002] rfl) (fun p hp => by simp only [List.mem_cons, List.not_mem_nil, or_false] at hp; rcases hp with rfl | rfl | rfl <;> exact vle rfl) (by decide) | exact End.roundEx (decide_eq_false (by rw [errI_9 hf (kidC_pos hw).1 (kidC_pos hw).2.1 (by assumption)]; decide)) (Sv [1000098,1000099,1000002] rfl) (fun p hp => by simp only [List.mem_cons, List.not_mem_nil, or_false] at hp; rcases hp with rfl | rfl | rfl <;> exact vle rfl) (by decide) | exact End.cellS1C (s := 1000002) (vD := 1000099) rfl hD rfl U104 rfl rfl rfl
end
section
abbrev trO (A₀ : Option Addr) (T : List NodT) : Env := [(1000501, memR A₀ (nodsV T))]
theorem FnM.addr {P : Program} {f : FuncId} {M : Env} {A₀ : Option Addr} {T : List NodT} {ds : Option Addr → List D} {d : D} (hbody : ∃ fn, P.funcs[f]? = some fn ∧ (fn.name == "runtime.NumGoroutine") = false ∧ fn.body.isNone = false) (hT : FitT T) (h0 : 0 < T.length) (h : ∀ ad, FnM P f (M ++ trO (some ad) T) (ds (some ad)) d) : FnM P f (M ++ trO A₀ T) (ds A₀) d := by
 cases A₀ with
 | some ad => exact h ad
 | none => exact ⟨hbody, fun vs w hM _ _ => by
   have hr : RowIn w.heap.size w none (nodsV T) := hM (1000501, memR none (nodsV T)) (List.mem_append_right _ List.mem_cons_self)
   have hl : 0 < (nodsV T).length := by rw [nods_len hT]; omega
   obtain ⟨_, h1, _⟩ := hr 0 _ (List.getElem?_eq_getElem hl)
   cases h1⟩
theorem made_flat {α : Type} {v : α → List Value} {k : Nat} {z : Array Value} {a : α} (hk : 0 < k) (ha : (v a).length = k) (hz : z.toList = v a) (n : Nat) : (madeCells z (n * k)).toList = (List.replicate n a).flatMap v := by
 have hs : z.size = k := by rw [← Array.length_toList, hz, ha]
 have hl : ∀ x ∈ List.replicate n a, (v x).length = k := fun x hx => by rw [List.eq_of_mem_replicate hx, ha]
 have hf : ((List.replicate n a).flatMap v).length = n * k := by rw [flat_length hl, List.length_replicate]
 apply List.ext_getElem?
 intro q
 by_cases hq : q < n * k
 ·have hqn : q / k < n := (Nat.div_lt_iff_lt_mul hk).2 hq
  have hqm : q % k < k := Nat.mod_lt _ hk
  have h1 := flat_getD (v := v) hl (i := q / k) (by rw [List.length_replicate]; exact hqn) a
  have h2 : (((List.replicate n a).flatMap v).drop (q / k * k)).take k = v a := by
   rw [h1]; congr 1
   rw [List.getD_eq_getElem?_getD, List.getElem?_replicate]; split <;> rfl
  have h3 : ((List.replicate n a).flatMap v)[q]? = (v a)[q % k]? := by
   rw [← h2, List.getElem?_take, if_pos hqm, List.getElem?_drop]
   congr 1
   have := Nat.div_add_mod q k
   rw [Nat.mul_comm]; omega
  rw [h3, ← hz]
  have hm' : q % k < z.size := by omega
  simp [madeCells, hq, hs]
  rw [Array.getElem?_eq_getElem hm']
  simp [hm']
 ·rw [List.getElem?_eq_none (by rw [Array.length_toList, size_madeCells]; omega), List.getElem?_eq_none (by rw [hf]; omega)]
def pgM (n : Nat) (f : Nat → RecT) (i : Nat) : List RecT := (List.range n).map fun k => if k < i then f k else RecT.zero
theorem pgM_zero (n : Nat) (f : Nat → RecT) : pgM n f 0 = List.replicate n RecT.zero := by
 apply List.ext_getElem?; intro k
 by_cases hk : k < n <;> simp [pgM, hk]
theorem made_rec (n : Nat) (f : Nat → RecT) : (madeCells (aggV RecT.zero.v).cells (n * 35)).toList = recsV (pgM n f 0) := by
 rw [made_flat (z := (aggV RecT.zero.v).cells) (v := RecT.v) (a := RecT.zero) (k := 35) (by decide) RecT.zero_fit.len rfl n, pgM_zero]
theorem Check_m (n : Int) (A₀ : Option Addr) (T : List NodT) (hT : FitT T) (c : Nat) (hm : ¬ (1 ≤ n ∧ n ≤ 4096))  : FnM Tryz.prog 15 (tabE ++ trO A₀ T) [.v (aggV [.int .i64 n, .slice A₀ T.length c])] (.v (.int .i64 (1))) := by
 refine FnM.ofO Tryz.func15 rfl (by kernel_rfl) Tryz.ntmps15 (by simp) (by decide) (fun w => [(0, .v (aggV [.int .i64 n, .slice A₀ T.length c])), (1900000, tabH 0 ([errT])), (1900001, tab 1 (sizV)), (1900002, tab 2 (H8.list.map u32V)), (1900003, tab 3 (K64.map u32V)), (1000501, old w.heap.size (memR A₀ (nodsV T)))]) (fun w => (StartMO.v rfl (StartMO.m (by simp [tabE]) (by decide) (StartMO.m (by simp [tabE]) (by decide) (StartMO.m (by simp [tabE]) (by decide) (StartMO.m (by simp [tabE]) (by decide) (StartMO.mo (by simp [tabE]) (by decide) StartMO.nil))))))) fun w₀ hM => ?_
 have htab := tabE_hi fun p hp => hM p (List.mem_append_left _ hp)
 refine GS (TN 0 (RN ?_));refine ZB 1000001 rfl fun b1 ⟨hBb1, hb1⟩ => ?_
 refine TL (RVN 1 rfl ?_);refine GT (RS (ok_field field32_0 (by decide) rfl) ?_);refine RLV 1000001 U3 rfl rfl rfl ?_;refine RS (ok_call (Total_bad n hm) (A1 rfl)) ?_;refine RVN 5 rfl ?_;refine QSB (GT (RV 2 rfl ?_));refine RT ?_;refine RVN 1 rfl ?_;refine A.yes rfl ?_;refine GV rfl (A.ret (End.ret_block (End.ret_then ?_)));exact ER rfl rfl
theorem Check_l (n : Nat) (h1 : 1 ≤ n) (h2 : n ≤ 4096) (A₀ : Option Addr) (T : List NodT) (hT : FitT T) (c : Nat) (hl : T.length ≠ tot n (hg n + 1))  : FnM Tryz.prog 15 (tabE ++ trO A₀ T) [.v (aggV [.int .i64 n, .slice A₀ T.length c])] (.v (.int .i64 (1))) := by
 refine FnM.ofO Tryz.func15 rfl (by kernel_rfl) Tryz.ntmps15 (by simp) (by decide) (fun w => [(0, .v (aggV [.int .i64 n, .slice A₀ T.length c])), (1900000, tabH 0 ([errT])), (1900001, tab 1 (sizV)), (1900002, tab 2 (H8.list.map u32V)), (1900003, tab 3 (K64.map u32V)), (1000501, old w.heap.size (memR A₀ (nodsV T)))]) (fun w => (StartMO.v rfl (StartMO.m (by simp [tabE]) (by decide) (StartMO.m (by simp [tabE]) (by decide) (StartMO.m (by simp [tabE]) (by decide) (StartMO.m (by simp [tabE]) (by decide) (StartMO.mo (by simp [tabE]) (by decide) StartMO.nil))))))) fun w₀ hM => ?_
 have htab := tabE_hi fun p hp => hM p (List.mem_append_left _ hp)
 refine GS (TN 0 (RN ?_));refine ZB 1000001 rfl fun b1 ⟨hBb1, hb1⟩ => ?_
 refine TL (RVN 1 rfl ?_);refine GT (RS (ok_field field32_0 (by decide) rfl) ?_);refine RLV 1000001 U3 rfl rfl rfl ?_;refine RS (ok_call (Total_ok n h1 h2) (A1 rfl)) ?_;refine RVN 5 rfl ?_;refine QSB (GT (RV 2 rfl ?_));refine RF ?_;refine RVN 1 rfl ?_;refine A.no rfl ?_;refine GT (RS (ok_field field32_1 (by decide) rfl) ?_);refine RLV 1000001 U30 rfl rfl rfl ?_;refine RS (ok_lenV U30 rfl) ?_;refine RV 2 rfl ?_;refine RZ (.bool true) (congrArg Value.bool (by simp; omega)) ?_;refine RVN 1 rfl ?_;refine A.yes rfl ?_;refine GV rfl (A.ret (End.ret_block (End.ret_then ?_)));exact ER rfl rfl
theorem Check_0 (n : Nat) (h1 : 1 ≤ n) (h2 : n ≤ 4096) (ad : Addr) (T : List NodT) (hT : FitT T) (c : Nat) (hl : T.length = tot n (hg n + 1)) (h : ∀ k, k < tot n (hg n + 1) → errI n T k = 0)  : FnM Tryz.prog 15 (tabE ++ trO (some ad) T) [.v (aggV [nI n, .slice (some ad) T.length c])] (.v (.int .i64 (0))) := by
 refine FnM.ofO Tryz.func15 rfl (by kernel_rfl) Tryz.ntmps15 (by simp) (by decide) (fun w => [(0, .v (aggV [nI n, .slice (some ad) T.length c])), (1900000, tabH 0 ([errT])), (1900001, tab 1 (sizV)), (1900002, tab 2 (H8.list.map u32V)), (1900003, tab 3 (K64.map u32V)), (1000501, old w.heap.size (memR ((some ad)) (nodsV T)))]) (fun w => (StartMO.v rfl (StartMO.m (by simp [tabE]) (by decide) (StartMO.m (by simp [tabE]) (by decide) (StartMO.m (by simp [tabE]) (by decide) (StartMO.m (by simp [tabE]) (by decide) (StartMO.mo (by simp [tabE]) (by decide) StartMO.nil))))))) fun w₀ hM => ?_
 have htab := tabE_hi fun p hp => hM p (List.mem_append_left _ hp)
 refine GS (TN 0 (RN ?_));refine ZB 1000001 rfl fun b1 ⟨hBb1, hb1⟩ => ?_
 refine TL (RVN 1 rfl ?_);refine GT (RS (ok_field field32_0 (by decide) rfl) ?_);refine RLV 1000001 U3 rfl rfl rfl ?_;refine RS (ok_call (Total_ok n h1 h2) (A1 rfl)) ?_;refine RVN 5 rfl ?_;refine QSB (GT (RV 2 rfl ?_));refine RF ?_;refine RVN 1 rfl ?_;refine A.no rfl ?_;refine GT (RS (ok_field field32_1 (by decide) rfl) ?_);refine RLV 1000001 U30 rfl rfl rfl ?_;refine RS (ok_lenV U30 rfl) ?_;refine RV 2 rfl ?_;refine RZ (.bool false) (congrArg Value.bool (by simp; omega)) ?_;refine RVN 1 rfl ?_;refine A.no rfl ?_;refine A.skip (End.normal_block (EN (GT (RL 1000001 U32 rfl rfl (size32.of rfl) ?_))));refine RS (ok_callMK (cNodes_fn n h1 h2 ad T hT c hl (.nilIface) (fun _ => rfl) (fun i hi _ h0 => absurd (h i hi) h0)) (SubK.app (SubK.of (Sub.cons rfl (Sub.cons rfl (Sub.cons rfl KN))) tabN_v) (SubK.cons (k := 1000501) (by decide) rfl Le.unold SubK.nil)) (A1 rfl)) ?_;refine RS (ok_call (errnoOf_nil) (A1 rfl)) ?_;refine RVN 1 rfl ?_;refine A.ret ?_;exact ER rfl rfl
theorem Check_i (n : Nat) (h1 : 1 ≤ n) (h2 : n ≤ 4096) (ad : Addr) (T : List NodT) (hT : FitT T) (c : Nat) (hl : T.length = tot n (hg n + 1)) (i : Nat) (hi : i < tot n (hg n + 1)) (h : ∀ k, k < i → errI n T k = 0) (h0 : ¬ errI n T i = 0)  : FnM Tryz.prog 15 (tabE ++ trO (some ad) T) [.v (aggV [nI n, .slice (some ad) T.length c])] (.v (.int .i64 (errI n T i))) := by
 refine FnM.ofO Tryz.func15 rfl (by kernel_rfl) Tryz.ntmps15 (by simp) (by decide) (fun w => [(0, .v (aggV [nI n, .slice (some ad) T.length c])), (1900000, tabH 0 ([errT])), (1900001, tab 1 (sizV)), (1900002, tab 2 (H8.list.map u32V)), (1900003, tab 3 (K64.map u32V)), (1000501, old w.heap.size (memR ((some ad)) (nodsV T)))]) (fun w => (StartMO.v rfl (StartMO.m (by simp [tabE]) (by decide) (StartMO.m (by simp [tabE]) (by decide) (StartMO.m (by simp [tabE]) (by decide) (StartMO.m (by simp [tabE]) (by decide) (StartMO.mo (by simp [tabE]) (by decide) StartMO.nil))))))) fun w₀ hM => ?_
 have htab := tabE_hi fun p hp => hM p (List.mem_append_left _ hp)
 refine GS (TN 0 (RN ?_));refine ZB 1000001 rfl fun b1 ⟨hBb1, hb1⟩ => ?_
 refine TL (RVN 1 rfl ?_);refine GT (RS (ok_field field32_0 (by decide) rfl) ?_);refine RLV 1000001 U3 rfl rfl rfl ?_;refine RS (ok_call (Total_ok n h1 h2) (A1 rfl)) ?_;refine RVN 5 rfl ?_;refine QSB (GT (RV 2 rfl ?_));refine RF ?_;refine RVN 1 rfl ?_;refine A.no rfl ?_;refine GT (RS (ok_field field32_1 (by decide) rfl) ?_);refine RLV 1000001 U30 rfl rfl rfl ?_;refine RS (ok_lenV U30 rfl) ?_;refine RV 2 rfl ?_;refine RZ (.bool false) (congrArg Value.bool (by simp; omega)) ?_;refine RVN 1 rfl ?_;refine A.no rfl ?_;refine A.skip (End.normal_block (EN (GT (RL 1000001 U32 rfl rfl (size32.of rfl) ?_))));refine RS (ok_callMK (cNodes_fn n h1 h2 ad T hT c hl (wrongV (lev n i) (idx n i) (errI n T i)) (fun ha => absurd (ha i hi) h0) (fun k hk hb hb0 => by rcases Nat.lt_trichotomy k i with hlt | rfl | hlt; exact absurd (h k hlt) hb0; rfl; exact absurd (hb i hlt) h0)) (SubK.app (SubK.of (Sub.cons rfl (Sub.cons rfl (Sub.cons rfl KN))) tabN_v) (SubK.cons (k := 1000501) (by decide) rfl Le.unold SubK.nil)) (A1 rfl)) ?_;refine RS (ok_callMK (errnoOf_wrong (lev n i) (idx n i) (errI n T i)) (SubK.of (Sub.cons rfl (Sub.cons rfl (Sub.cons rfl (Sub.cons rfl KN)))) tabE_v) (A1 rfl)) ?_;refine RVN 1 rfl ?_;refine A.ret ?_;exact ER rfl rfl
theorem Check_fn (n : Int) (A₀ : Option Addr) (T : List NodT) (hT : FitT T) (c : Nat) : FnM Tryz.prog 15 (tabE ++ trO A₀ T) [.v (aggV [.int .i64 n, .slice A₀ T.length c])] (.v (.int .i64 (chkT n T))) := by
 by_cases hn : 1 ≤ n ∧ n ≤ 4096
 ·obtain ⟨k, rfl⟩ : ∃ k : Nat, n = k := ⟨n.toNat, by omega⟩
  have h1 : 1 ≤ k := by omega
  have h2 : k ≤ 4096 := by omega
  by_cases hl : T.length = tot k (hg k + 1)
  ·rw [chk_ok h1 h2 hl]
   refine FnM.addr (ds := fun a => [.v (aggV [.int .i64 (k : Int), .slice a T.length c])]) (Check_m 0 none [] FitT.nil 0 (by omega)).body hT (by have := tot_pos h1; omega) fun ad => ?_
   by_cases h : fstN (errI k T) (tot k (hg k + 1)) = 0
   ·rw [h]; exact Check_0 k h1 h2 ad T hT c hl (fstN_zero.1 h)
   ·obtain ⟨i, hi, hz, h0, he⟩ := fstN_ex h
    rw [he]; exact Check_i k h1 h2 ad T hT c hl i hi hz h0
  ·rw [chk_len h1 h2 hl]; exact Check_l k h1 h2 A₀ T hT c hl
 ·rw [chk_bad hn]; exact Check_m n A₀ T hT c hn
theorem Root_ok (n : Nat) (ad : Addr) (T : List NodT) (hT : FitT T) (c : Nat) (ht : Tree n T)  : FnM Tryz.prog 16 (tabE ++ trO (some ad) T) [.v (aggV [nI n, .slice (some ad) T.length c])] (.v (.tuple #[aggV ((sha (ndAt T (tot n (hg n))).bl).map byteV), .int .i64 0])) := by
 have h1 := ht.h1
 have h2 := ht.h2
 have hl := ht.len
 have he : chkT n T = 0 := ht.chkT
 have hh := hg_le n
 have htp := un_top h1 h2
 have hsm := tot_small h1 h2 (show hg n + 1 ≤ 6 by omega)
 refine FnM.ofO Tryz.func16 rfl (by kernel_rfl) Tryz.ntmps16 (by simp) (by decide) (fun w => [(0, .v (aggV [nI n, .slice (some ad) T.length c])), (1900000, tabH 0 ([errT])), (1900001, tab 1 (sizV)), (1900002, tab 2 (H8.list.map u32V)), (1900003, tab 3 (K64.map u32V)), (1000501, old w.heap.size (memR ((some ad)) (nodsV T)))]) (fun w => (StartMO.v rfl (StartMO.m (by simp [tabE]) (by decide) (StartMO.m (by simp [tabE]) (by decide) (StartMO.m (by simp [tabE]) (by decide) (StartMO.m (by simp [tabE]) (by decide) (StartMO.mo (by simp [tabE]) (by decide) StartMO.nil))))))) fun w₀ hM => ?_
 have htab := tabE_hi fun p hp => hM p (List.mem_append_left _ hp)
 refine GS (TN 0 (RN ?_));refine ZB 1000001 rfl fun b1 ⟨hBb1, hb1⟩ => ?_
 refine TN 1 (RN ?_);refine ZN 1000002 zero40 fun b2 ⟨hBb2, hb2⟩ => ?_
 refine TL (RVN 1 rfl ?_);refine QS (GT (RL 1000001 U32 rfl rfl (size32.of rfl) ?_));refine RS (ok_callMK (Check_fn n (some ad) T hT c) (SubK.app (SubK.of (Sub.cons rfl (Sub.cons rfl (Sub.cons rfl (Sub.cons rfl KN)))) tabE_v) (SubK.cons (k := 1000501) (by decide) rfl Le.unold SubK.nil)) (A1 rfl)) ?_;refine RVN 1 rfl ?_;refine GT (RV 2 rfl ?_);refine RZ (.bool false) (congrArg Value.bool (by simp [he])) ?_;refine RN (A.no rfl ?_);refine QK (GS (TF 9 (RS (ok_field field32_1 (by decide) rfl) ?_)));refine RLV 1000001 U30 rfl rfl rfl ?_;refine RS (ok_field field32_1 (by decide) rfl) ?_;refine RLV 1000001 U30 rfl rfl rfl ?_;refine RS (ok_lenV U30 rfl) ?_;refine RB rfl rfl rfl ?_;refine RZ (nI (tot n (hg n))) (wrap_eq (by omega) (by omega)) ?_;refine RS (ok_indexR (s := 1000501) (tot n (hg n)) U30 infoN rfl rfl (by decide) rfl (by omega : tot n (hg n) < T.length) (by rw [nods_len hT]; omega)) ?_;refine RS (ok_loadElemT 274 U57 rfl size57 (by rw [nods_at hT (by omega : tot n (hg n) < T.length), (hT.at _).len]; exact Nat.le_refl _) rfl) ?_;refine RZ (aggV (ndAt T (tot n (hg n))).v) (congrArg aggV (by rw [nods_at hT (by omega : tot n (hg n) < T.length)]; exact List.take_of_length_le (Nat.le_of_eq (hT.at _).len))) ?_;refine RS (ok_callMK (digestOf_fn (ndAt T (tot n (hg n))) (hT.at _) (by have := (ht.fit (l := hg n) (j := 0) (Nat.le_refl _) (by rw [un_root h1 h2]; decide)).2.2.1; rwa [Nat.add_zero] at this)) (SubK.of (Sub.cons rfl (Sub.cons rfl (Sub.cons rfl KN))) tabN_v) (A1 rfl)) ?_;refine RN ?_;refine ⟨_, eff_storeA (n := 20) (s := 1000002) (size40.of (by rw [List.length_map, sha_length])) rfl rfl (all_bytes _) hBb2 rfl (by rw [List.length_map, sha_length]; rfl) (LV 2 rfl (LT 1000001 rfl (LO 1000501 rfl (LeftS.cons (t := 1900000) rfl (Surv.tabH (by omega)) (LQ 1900001 rfl (LQ 1900002 rfl (LQ 1900003 rfl LN))))))), ?_⟩
 refine TL (RVN 1 rfl ?_);refine A.ret ?_;exact End.cellV (s := 1000002) rfl U40 rfl (size40.of (by rw [List.length_map, sha_length])) rfl rfl rfl
end
section
variable {κ : Cx}
theorem RowX.keepB {lo : Nat} {e : TypeId} {B : Nat} {w w' : World} {A : Option Addr} {xs : List Value} (h : RowX lo e B w A xs) (g : Below B w w') : RowX lo e B w' A xs := h.other (Nat.le_refl _) fun b _ _ _ hb _ => g.block b hb
theorem RowX.upB {lo : Nat} {e : TypeId} {B B' : Nat} {w : World} {A : Option Addr} {xs : List Value} (h : RowX lo e B w A xs) (g : B ≤ B') : RowX lo e B' w A xs := h.other g fun _ _ _ _ _ _ => rfl
theorem RowX.blk {lo b : Nat} {e : TypeId} {B : Nat} {w : World} {cs : Array Value} {fr : Nat × Nat} {xs : List Value} (hlo : lo ≤ b) (hb : b < B) (hh : w.heap[b]? = some (.cells cs e fr)) (hx : ∀ (j : Nat) (u : Value), xs[j]? = some u → cs[j]? = some u) : RowX lo e B w (some ⟨b, 0, none⟩) xs := fun j u hu =>
 ⟨_, rfl, hlo, hb, ⟨cs, fr, hh⟩, by rw [add_lit0, Nat.zero_add]; simp [World.cell?, hh, hx j u hu]⟩
def rowXD (e : TypeId) (n : Nat) (xs : List Value) : D :=
 .p (fun B w x => ∃ A q, x = .slice A n q ∧ RowX 0 e B w A xs) (fun _ _ _ _ g ⟨A, q, h1, h2⟩ => ⟨A, q, h1, h2.keepB g⟩) (fun _ _ _ _ g ⟨A, q, h1, h2⟩ => ⟨A, q, h1, h2.upB g⟩)
theorem rowX_one {e : TypeId} {n : Nat} {xs : List Value} (B : Nat) (w : World) (x : Value) (h : (rowXD e n xs).OfB B w x) : x.oneCell' = true := by
 obtain ⟨A, q, rfl, _⟩ := h; rfl
theorem rowXD_one' {e : TypeId} {n : Nat} {xs : List Value} {B : Nat} {w : World} {x : Value} (h : (rowXD e n xs).OfB B w x) : x.oneCell' = true := rowX_one B w x h
theorem ownP_rowX {base sz n : Nat} {e : TypeId} {xs : List Value} : Le (ownP base e sz n xs) (rowXD e n xs) := fun B w x ⟨⟨hl, h2⟩, hlt⟩ => by
 rcases h2 with ⟨rfl, rfl⟩ | ⟨g, cap, cur, rfl, _, hh, _, _, _, htk⟩
 ·refine ⟨none, 0, rfl, fun j u hu => ?_⟩
  have : xs = [] := List.length_eq_zero_iff.1 (by omega)
  subst this; cases hu
 ·refine ⟨_, _, rfl, RowX.blk (Nat.zero_le _) (hlt g rfl) hh fun j u hu => ?_⟩
  rw [← htk, List.getElem?_take] at hu
  split at hu
  ·simpa using hu
  ·cases hu
theorem ownP_one {base sz n : Nat} {e : TypeId} {xs : List Value} {w : World} {x : Value} (h : (ownP base e sz n xs).Of w x) : x.oneCell' = true := rowXD_one' (ownP_rowX _ _ _ h)
section
variable {P : Program} {w₀ : World} {n : Nat} {c : Code} {E : Env} {Q : Exit → Act → World → Prop}
theorem A.openD {k k' b : Nat} {T : TypeId} {d : D} (hk : E.look k = some (varD b T d)) (h1 : ∀ w x, d.Of w x → x.oneCell' = true) (h : ∀ v : Value, v.oneCell' = true → A κ P w₀ n c ((k, blk b T [v]) :: (k', valM v d) :: E) Q) : A κ P w₀ n c E Q := fun a w g hs => by
 obtain ⟨h2, v, h3, h4⟩ := hs.of k _ hk
 exact h v (h1 w v h4) a w g ((hs.push (t := k') (d := valM v d) h4).push (t := k) (d := blk b T [v]) ⟨h2, h3⟩)
end
end
section
variable {κ : Cx}
section
variable {P : Program} {B : Nat} {E : Env} {dst : Option Tmp} {ty : TypeId} {pos : String} {after : Array Edge} {guard : Option (Nat × Bool)}
theorem ok_slice3X {t e : TypeId} {z : Value} {nb sz : Nat} {x lo ho mo : Operand} {ad : Addr} {len c : Nat} {k1 k2 k3 : IntKind} (l h m : Nat) (ht : P.underlying t = some (.slice e)) (hs : InfoP P e z sz nb) (hx : E.at x = some (.v (.slice (some ad) len c))) (hlo : E.at lo = some (.v (.int k1 (l : Int)))) (hho : E.at ho = some (.v (.int k2 (h : Int)))) (hmo : E.at mo = some (.v (.int k3 (m : Int))))
  (hlh : l ≤ h) (hhm : h ≤ m) (hlm : l < m) (hmc : m ≤ c) : OpOk P B ⟨dst, .slice t x (some lo) (some ho) (some mo), ty, pos, after, guard⟩ E (.v (.slice (some (ad.add (l * sz))) (h - l) (m - l))) := fun ρ w _ _ hρ => by
 have h1 : ρ x = _ := hρ x (by simp [Op.operands]) _ hx
 have h2 : ρ lo = .int k1 (l : Int) := hρ lo (by simp [Op.operands]) _ hlo
 have h3 : ρ ho = .int k2 (h : Int) := hρ ho (by simp [Op.operands]) _ hho
 have h4 : ρ mo = .int k3 (m : Int) := hρ mo (by simp [Op.operands]) _ hmo
 obtain ⟨info, hinfo, _, hsize, _⟩ := hs.get
 have hm : ¬ m = l := by omega
 refine out_val (w' := w) ?_ ⟨Grow.refl w, rfl⟩
 simp [execOp, h1, h2, h3, h4, Instr.sliceAt, Instr.slice, run_underlying ht, Instr.sliceBounds, Instr.sliceBound, asIntOf, sizeOf, typeInfo, hinfo, hsize, hlh, hhm, hmc, hm]
theorem ok_sliceLX {t e : TypeId} {z : Value} {nb sz : Nat} {x lo : Operand} {ad : Addr} {len c : Nat} {k1 : IntKind} (l : Nat) (ht : P.underlying t = some (.slice e)) (hs : InfoP P e z sz nb) (hx : E.at x = some (.v (.slice (some ad) len c))) (hlo : E.at lo = some (.v (.int k1 (l : Int)))) (hl : l ≤ len) (hc : l < c) (hlc : len ≤ c) :
  OpOk P B ⟨dst, .slice t x (some lo) none none, ty, pos, after, guard⟩ E (.v (.slice (some (ad.add (l * sz))) (len - l) (c - l))) := fun ρ w _ _ hρ => by
 have h1 : ρ x = _ := hρ x (by simp [Op.operands]) _ hx
 have h2 : ρ lo = .int k1 (l : Int) := hρ lo (by simp [Op.operands]) _ hlo
 obtain ⟨info, hinfo, _, hsize, _⟩ := hs.get
 have hm : ¬ c = l := by omega
 refine out_val (w' := w) ?_ ⟨Grow.refl w, rfl⟩
 simp [execOp, h1, h2, Instr.sliceAt, Instr.slice, run_underlying ht, Instr.sliceBounds, Instr.sliceBound, asIntOf, sizeOf, typeInfo, hinfo, hsize, hl, hlc, hm]
theorem ok_lenPM {t e e' : TypeId} {x : Operand} {v : Value} {k m base sz : Nat} {xs : List Value} (ht : P.underlying t = some (.slice e)) (hx : E.at x = some (.v v)) (hkv : vbase ≤ k) (hk : E.look k = some (valM v (ownP base e' sz m xs))) :
  OpOk P B ⟨dst, .call { callee := .builtin .len, args := #[x], argTypes := #[t] }, ty, pos, after, guard⟩ E (.v (nI m)) := fun ρ w _ hv hρ => by
 have h1 : ρ x = v := hρ x (by simp [Op.operands, Call.operands]) _ hx
 obtain ⟨⟨hl, h2⟩, _⟩ := hv k _ hkv hk
 rcases h2 with ⟨rfl, rfl⟩ | ⟨g, cap, cur, rfl, _⟩
 ·exact out_val (w' := w) (by simp [execOp, resolve, invoke, builtin, Builtin.len_, run_underlying ht, h1, goInt]) ⟨Grow.refl w, rfl⟩
 ·exact out_val (w' := w) (by simp [execOp, resolve, invoke, builtin, Builtin.len_, run_underlying ht, h1, goInt]) ⟨Grow.refl w, rfl⟩
end
theorem valM_le {v : Value} {d d' : D} (h : Le d d') : Le (valM v d) (valM v d') := fun B w _ hx => h B w v hx
theorem Firm.ownP {l base sz n : Nat} {e : TypeId} {xs : List Value} : Firm l (Go.Proofs.YtmkpekmhhbcifaaGreatDoor.ownP base e sz n xs) := fun w o o' x hl ho ⟨⟨h1, h2⟩, h3⟩ => by
 refine ⟨⟨h1, h2.imp id ?_⟩, fun g hg => by simpa using h3 g hg⟩
 rintro ⟨g, cap, cur, h4, h5, h6, h7⟩
 exact ⟨g, cap, cur, h4, h5, (World.putObj_heap_other fun hb => by subst hb; rw [hl] at h6; injection h6 with h6; subst h6; cases ho).trans h6, h7⟩
section
variable {P : Program} {n B : Nat} {ops : Array Oper} {E : Env} {ty : TypeId} {pos : String} {after : Array Edge}
theorem eff_allocLtM {T e : TypeId} {zs xs : List Value} {d k r base sz m : Nat} {v : Value} (hz : ZeroIs P T zs) (hdn : d < n) (hr : E.look r = some (valM v (ownP base e sz m xs))) :
  EffG P n B ops ⟨some d, .alloc T, ty, pos, after, none⟩ E (NewB B E) (fun b => (d, .v (.pointer (some ⟨b, 0, none⟩))) :: (k, blk b T zs) :: (r, valM v (ltD b (ownP base e sz m xs))) :: E) :=
 eff_newTo (dr' := fun b => valM v (ltD b (ownP base e sz m xs))) rfl rfl (fun _ a w _ => by
  obtain ⟨i, z, hi, hz, hc⟩ := hz.get
  simp [execOp, Instr.alloc, zeroValue, typeInfo, hi, hz, newVar, newRow, hc]) hdn hr fun w x h => ⟨h, h.2⟩
theorem Eff.named {o : Oper} {dst k : Nat} {d : D} {E' : Env} (h1 : ∀ w x, d.Of w x → x.oneCell' = true) (hk : vbase ≤ k) (hn : n ≤ vbase) (hne : dst < n) (h : Eff P n B ops o E ((dst, d) :: E')) :
  EffG P n B ops o E (fun v : Value => v.oneCell' = true) (fun v => (dst, .v v) :: (k, valM v d) :: E') := fun κ a w K Q hs hK =>
 h κ a w K Q hs fun a' w' hb hs' => by
  have hd := hs'.of dst d (look_here _ _ _)
  refine hK _ a' w' (h1 _ _ hd) hb ⟨hs'.base, hs'.defers, hs'.size, fun t e he => ?_⟩
  by_cases hts : dst = t
  ·subst hts
   rw [look_here] at he; injection he with he; subst he
   rfl
  ·rw [look_past _ _ hts] at he
   by_cases htk : k = t
   ·subst htk
    rw [look_here] at he; injection he with he; subst he
    exact hd
   ·rw [look_past _ _ htk] at he
    exact hs'.of t e ((look_past _ _ hts).trans he)
theorem eff_nameV {o : Oper} {d k : Nat} {f : D} (ht : o.dst = some d) (hg : o.guard = none) (hok : OpOk P B o E f) (h1 : ∀ w x, f.Of w x → x.oneCell' = true) (hdn : d < n) (hnv : n ≤ vbase) (hk : vbase ≤ k) :
  EffG P n B ops o E (fun v : Value => v.oneCell' = true) (fun v => (d, .v v) :: (k, valM v f) :: E) := by
 intro κ a w K Q h hK
 rw [if_pos (by simp [Region.wanted, hg])]
 refine wp_of_out ht ((hok a.eval w h.base (h.virt hnv) fun x _ u hu => h.at_ x _ hu).mono ?_)
 rintro x w' ⟨hgr, hx⟩
 refine hK x _ _ (h1 _ _ hx) (Below.mono hgr h.base) (St.put ?_ hdn rfl)
 exact (h.grow hgr).push (t := k) (d := valM x f) hx
end
section
variable {P : Program} {n : Nat} {E : Env} {w₀ : World} {c : Code} {Q : Exit → Act → World → Prop}
theorem A.openRowP {k k' base sz m : Nat} {e : TypeId} {v : Value} {xs : List Value} (hk : E.look k = some (valM v (ownP base e sz m xs))) (hx : 0 < xs.length) (h : ∀ (ad : Addr) (q : Nat), m ≤ q → v = .slice (some ad) m q → A κ P w₀ n c ((k', memR (some ad) xs) :: E) Q) : A κ P w₀ n c E Q := fun a w g hs => by
 have h0 : (ownP base e sz m xs).OfB w.heap.size w v := hs.of k _ hk
 obtain ⟨A₀, q, h1, h3, h2⟩ := ownP_rowLg _ _ _ h0
 obtain ⟨ad, rfl, _, _⟩ := h2 0 _ (List.getElem?_eq_getElem hx)
 exact h ad q h3 h1 a w g (hs.push (t := k') (d := memR (some ad) xs) h2)
end
end
section
def chkR (R : List RecT) (i : Nat) : List RecT := (R.drop (4 * i)).take 4
theorem chkR_len (R : List RecT) (i : Nat) : (chkR R i).length = pts R.length 0 i := by unfold chkR pts un; rw [List.length_take, List.length_drop]; omega
theorem chkR_fit {R : List RecT} (h : FitR R) (i : Nat) : FitR (chkR R i) := fun r hr => h r (List.mem_of_mem_drop (List.mem_of_mem_take hr))
theorem chkR_v {R : List RecT} (h : FitR R) (i : Nat) : ((recsV R).drop (4 * i * 35)).take (pts R.length 0 i * 35) = recsV (chkR R i) := by
 have e1 := flat_drop (RecT.lens h) (4 * i)
 rw [recsV, e1]
 have hf : ∀ r ∈ R.drop (4 * i), r.v.length = 35 := fun r hr => (h r (List.mem_of_mem_drop hr)).len
 have e2 : (R.drop (4 * i)).flatMap RecT.v = recsV (chkR R i) ++ recsV ((R.drop (4 * i)).drop 4) := by
  unfold chkR recsV
  rw [← List.flatMap_append, List.take_append_drop]
 rw [e2, List.take_left' (by rw [recs_len (chkR_fit h i), chkR_len])]
theorem pg_chk (R : List RecT) (i : Nat) : pg RecT.zero (fun w => recAt R (4 * i + w)) (pts R.length 0 i) = chkR R i ++ List.replicate (4 - (chkR R i).length) RecT.zero := by
 have hl := chkR_len R i
 have hp := pts_le R.length 0 i
 apply ext4 (pg_length _ _ _) (by rw [List.length_append, List.length_replicate]; omega) RecT.zero
 intro w hw
 rw [pg_getD _ _ _ hw]
 split
 ·rename_i h
  rw [List.getD_eq_getElem?_getD, List.getElem?_append_left (by omega)]
  unfold chkR recAt
  rw [List.getElem?_take, if_pos hw, List.getElem?_drop, List.getD_eq_getElem?_getD]
 ·rename_i h
  rw [List.getD_eq_getElem?_getD, List.getElem?_append_right (by omega), List.getElem?_replicate]
  split <;> rfl
theorem set_grp {R : List RecT} (h : FitR R) {i : Nat} (hi : i < 4294967296) : (NodT.emp 0 i).v.take (0 + 2) ++ recsV (chkR R i) ++ (NodT.emp 0 i).v.drop (0 + 2 + pts R.length 0 i * 35) = (grpR R i).v := by
 have hl := chkR_len R i
 have hp := pts_le R.length 0 i
 show [byteV 0, nW i] ++ recsV (chkR R i) ++ List.drop (2 + pts R.length 0 i * 35) ([byteV 0, nW i] ++ (recsV zerosR ++ entsV zerosE)) = nodV 0 i (pg RecT.zero (fun w => recAt R (4 * i + w)) (pts R.length 0 i)) zerosE
 rw [pg_chk, ← List.drop_drop, List.drop_left' (show ([byteV 0, nW i] : List Value).length = 2 from rfl)]
 have hz : (recsV zerosR ++ entsV zerosE).drop (pts R.length 0 i * 35) = recsV (List.replicate (4 - (chkR R i).length) RecT.zero) ++ entsV zerosE := by
  rw [List.drop_append_of_le_length (by rw [show (recsV zerosR).length = 140 from rfl]; omega)]
  congr 1
  rw [recsV, flat_drop (RecT.lens NodT.zr_fit)]
  unfold zerosR
  rw [List.drop_replicate, hl]
 rw [hz]
 unfold nodV recsV
 rw [List.flatMap_append]
 simp only [List.append_assoc]
def grpsT (R : List RecT) (i : Nat) : List NodT := (List.range i).map (grpR R)
theorem grpsT_step (R : List RecT) (i : Nat) : nodsV (grpsT R i) ++ (grpR R i).v = nodsV (grpsT R (i + 1)) := by
 unfold grpsT nodsV; rw [List.range_succ, List.map_append, List.flatMap_append]; simp
theorem grpsT_tre (R : List RecT) (S : List Nat) : grpsT R (un R.length 1) = treR R S (tot R.length 1) := by
 unfold grpsT treR
 rw [tot_one]
 apply List.map_congr_left
 intro k hk
 have hk := List.mem_range.1 hk
 have e1 := lev_at (n := R.length) (l := 0) (j := k) (by decide) hk
 have e2 := idx_at (n := R.length) (l := 0) (j := k) (by decide) hk
 rw [tot_zero, Nat.zero_add] at e1 e2
 rw [e1, e2, nodR_zero]
theorem A.openNilP {P : Program} {n : Nat} {κ : Cx} {E : Env} {w₀ : World} {c : Code} {Q : Exit → Act → World → Prop} {k b B' sz : Nat} {T e : TypeId} (hk : E.look k = some (blk b T [.slice none 0 0])) (h : A κ P w₀ n c ((k, varD b T (ownP B' e sz 0 [])) :: E) Q) : A κ P w₀ n c E Q := fun a w g hs => by
 obtain ⟨h1, h2⟩ := hs.of k _ hk
 exact h a w g (hs.push (t := k) (d := varD b T (ownP B' e sz 0 [])) ⟨h1, .slice none 0 0, h2, ownP_nil.of (w := w) rfl⟩)
theorem zero30 : ZeroIs Tryz.prog 30 [.slice none 0 0] := by unfold ZeroIs; kernel_rfl
theorem ChunkR_fnB (ad : Addr) (m c : Nat) : FnB Tryz.prog 67 [.v (.slice (some ad) m c), .v (.int .i64 (4))] (fun B => closD B 96 26 3 (.slice (some ad) m c) (.int .i64 4)) := by
 refine FnB.of Tryz.func67 rfl (by kernel_rfl) Tryz.ntmps67 (by simp) (fun w => [(0, .v (.slice (some ad) m c)), (1, .v (.int .i64 (4)))]) (fun w => (Start.v rfl (Start.v rfl Start.nil))) fun w₀ => ?_
 refine GS (TN 0 (RN ?_));refine ⟨_, _, eff_box1 (n := 9) (d := 2) (k := 1000002) rfl rfl (by decide), fun b2 hb2 => ?_⟩
 have hBb2 := hb2.1
 refine TN 1 (RN ?_);refine ⟨_, _, eff_box1 (n := 9) (d := 3) (k := 1000003) rfl rfl (by decide), fun b3 hb3 => ?_⟩
 have hBb3 := hb3.1
 have hlt_b2_b3 : b2 < b3 := hb3.2 1000002 _ _ _ rfl
 refine TL (RVN 1 rfl ?_);refine QS (GT (RLV 1000003 U3 rfl rfl rfl ?_));refine RB rfl rfl rfl ?_;refine RF ?_;refine RN (A.no rfl ?_);refine QK (GT (RS (ok_makeFunc2 rfl rfl) ?_));refine RVN 1 rfl ?_;refine A.ret ?_;exact End.clos rfl hBb2 hlt_b2_b3 rfl (k₁ := 1000002) (k₂ := 1000003) rfl rfl
set_option maxHeartbeats 1000000 in
theorem ChunkR_seq {w₀ : World} {ad : Addr} {m c lf p q : Nat} {J : Nat → World → Prop} (h1 : 1 ≤ m) (h2 : m ≤ 4096) (hc : m ≤ c)
  (hq : Seqs Tryz.prog w₀ (un m 1) lf (fun i => .v (.slice (some (ad.add (4 * i * 35))) (pts m 0 i) (pts m 0 i))) (fun _ => [(1000091, blk p 26 [.slice (some ad) m c]), (1000092, blk q 3 [.int .i64 4])]) J) {w : World} (h0 : J 0 w) :
  Calls Tryz.prog 96 (.func (.yield lf) #[] #[] :: [ptr p, ptr q] : List Value).toArray w fun e W => (∃ v, e = .returned v) ∧ J (un m 1) W := by
 have hu : un m 1 = (m + 3) / 4 := rfl
 obtain ⟨hb, hs, hV⟩ := hq.holds 0 w h0
 refine Calls.within (n := 31) (E := [(0, .v (.func (.yield lf) #[] #[])), (1, .v (ptr p)), (2, .v (ptr q)), (1000090, jD (J 0)), (1000091, blk p 26 [.slice (some ad) m c]), (1000092, blk q 3 [.int .i64 4])]) Tryz.func96 rfl Tryz.ntmps96 (by simp) (by decide) hb hs ?_ ?_
 ·intro x hx
  simp only [List.mem_cons, List.not_mem_nil, or_false] at hx
  rcases hx with rfl | rfl | rfl | rfl | rfl | rfl
  ·exact .inr ⟨_, rfl, rfl⟩
  ·exact .inr ⟨_, rfl, rfl⟩
  ·exact .inr ⟨_, rfl, rfl⟩
  ·exact .inl ⟨vle rfl, jD_mk h0⟩
  ·exact .inl ⟨vle rfl, hV _ (by simp)⟩
  ·exact .inl ⟨vle rfl, hV _ (by simp)⟩
 refine GV rfl (A.block ?_);refine A.loop (ι := Nat) (fun i => i ≤ un m 1) (fun i => [(0, .v (.func (.yield lf) #[] #[])), (1, .v (ptr p)), (2, .v (ptr q)), (4, .v (nI (4 * i))), (1000090, jD (J i)), (1000091, blk p 26 [.slice (some ad) m c]), (1000092, blk q 3 [.int .i64 4])]) (fun i => un m 1 - i) 0 ?_ ?_ ?_
 ·exact Nat.zero_le _
 ·exact (Sv [0,1,2,4,1000090,1000091,1000092] rfl)
 intro i hi
 refine QS (GT (RM rfl ?_));refine RLV 1000091 U26 rfl rfl rfl ?_;refine RS (ok_lenV U26 rfl) ?_;refine RVN 1 rfl ?_;refine A.cond rfl (fun hc9 => ?_) (fun hc9 => ?_)
 ·have hlt : i < un m 1 := by simp at hc9; omega
  have hp : pts m 0 i = min (m - 4 * i) 4 := rfl
  refine QK (QSB (GTD (RLV 1000092 U3 rfl rfl rfl ?_)));refine RLV 1000091 U26 rfl rfl rfl ?_;refine RM rfl ?_;refine RS (ok_sliceLX (4 * i) U26 infoP51 rfl rfl (by omega) (by omega) hc) ?_;refine RS (ok_lenV U26 rfl) ?_;refine RS (ok_min rfl rfl) ?_;refine RZ (nI (pts m 0 i)) (congrArg (Value.int .i64) (by have hp : pts m 0 i = min (m - 4 * i) 4 := rfl; omega)) ?_;refine RVN 1 rfl ?_;refine GS (TF 10 (RM rfl ?_));refine RLV 1000091 U26 rfl rfl rfl ?_;refine RV 4 rfl ?_;refine RZ (nI (4 * i + pts m 0 i)) (wrap_eq (by omega) (by omega)) ?_;refine RV 3 rfl ?_;refine RZ (nI (4 * i + pts m 0 i)) (wrap_eq (by omega) (by omega)) ?_;refine RS (ok_slice3X (4 * i) (4 * i + pts m 0 i) (4 * i + pts m 0 i) U26 infoP51 rfl rfl rfl rfl (by omega) (by omega) (by omega) (by omega)) ?_;refine RZ (.slice (some (ad.add (4 * i * 35))) (pts m 0 i) (pts m 0 i)) (by rw [Nat.add_sub_cancel_left]) ?_;refine RN ?_;refine ⟨_, eff_yield (vJ := 1000090) hq i hlt rfl rfl rfl (Le.refl _) (by decide) (fun p hp => by simp only [List.mem_cons, List.not_mem_nil, or_false] at hp; rcases hp with rfl | rfl <;> exact vle rfl) (by decide) (Left.cons (t := 0) rfl (Stays.v _ _) (Left.cons (t := 1) rfl (Stays.v _ _) (Left.cons (t := 2) rfl (Stays.v _ _) (Left.cons (t := 4) rfl (Stays.v _ _) Left.nil)))), ?_⟩
  refine TL (RS (ok_not rfl) ?_);refine RZ (.bool false) (rfl) ?_;refine RN (A.no rfl ?_);refine A.skip (End.normal_block (EN (GTE (RM rfl ?_))));refine RLV 1000092 U3 rfl rfl rfl ?_;refine RB rfl rfl rfl ?_;refine RZ (nI (4 * (i + 1))) (wrap_eq (by omega) (by omega)) ?_;refine RVN 1 rfl ?_;refine End.sub (Sv [0,1,2,4,1000090,1000091,1000092] rfl) ?_;refine End.normal_then ?_;refine End.again (i + 1) ?_ ?_ ?_
  ·show _ ≤ _; omega
  ·show _ - _ < _ - _; omega
  ·exact (Sv [0,1,2,4,1000090,1000091,1000092] rfl)
 ·have hi2 : i = un m 1 := by simp at hc9; omega
  refine A.exit (End.exit_then (End.exit_then (End.exit_here ?_)));exact End.seq (vJ := 1000090) hq rfl (by subst hi2; rfl)
abbrev recM (ad : Addr) (R : List RecT) : Env := [(1000801, memR (some ad) (recsV R))]
set_option maxHeartbeats 2000000 in
theorem groups_fnB (ad : Addr) (R : List RecT) (hR : FitR R) (h1 : 1 ≤ R.length) (h2 : R.length ≤ 4096) (c : Nat) (hc : R.length ≤ c)  : FnMB Tryz.prog 40 (recM ad R) [.v (.slice (some ad) R.length c)] (fun B => ownP B 57 274 (un R.length 1) (nodsV (grpsT R (un R.length 1)))) := by
 have hu : un R.length 1 = (R.length + 3) / 4 := rfl
 refine FnMB.ofO Tryz.func40 rfl (by kernel_rfl) Tryz.ntmps40 (by simp) (by decide) (fun w => [(0, .v (.slice (some ad) R.length c)), (1000801, old w.heap.size (memR (some ad) (recsV R)))]) (fun w => (StartMO.v rfl (StartMO.mo (by simp [recM]) (by decide) StartMO.nil))) fun w₀ hM => ?_
 skip
 refine GV rfl (GS (TN 0 (RN ?_)));refine ZN 1000003 zero30 fun b3 ⟨hBb3, hb3⟩ => ?_
 refine TL (RN (QS (GT (RM rfl ?_))));refine RS (ok_callB (ChunkR_fnB ad R.length c) (fun _ _ => closD_mono _ _) (A2 rfl rfl)) ?_;refine RN ?_;refine A.openClos (t := 7) (k₁ := 1000091) (k₂ := 1000092) rfl fun p q hBp hpq => ?_
 refine A.openNilP (k := 1000003) (B' := w₀.heap.size) (e := 57) (sz := 274) rfl ?_;refine A.block ?_;refine A.range (gf := 96) (N := un R.length 1) (vL := 1000098) (vD := 1000099) (tp := 8) (lb := [ptr p, ptr q]) (S := [(3, .v (ptr b3))])
  (V := fun i => [(1000003, varD b3 30 (ownP w₀.heap.size 57 274 (i) (nodsV (grpsT R (i))))), (1000091, blk p 26 [.slice (some ad) R.length c]), (1000092, blk q 3 [.int .i64 4]), (1000801, old w₀.heap.size (memR (some ad) (recsV R)))])
  (Eb := fun i => (4, .v (.slice (some (ad.add (4 * i * 35))) (pts R.length 0 i) (pts R.length 0 i))) :: (8, .v (.slice (some (ad.add (4 * i * 35))) (pts R.length 0 i) (pts R.length 0 i))) :: ([(1000003, varD b3 30 (ownP w₀.heap.size 57 274 (i) (nodsV (grpsT R (i))))), (1000091, blk p 26 [.slice (some ad) R.length c]), (1000092, blk q 3 [.int .i64 4]), (1000801, old w₀.heap.size (memR (some ad) (recsV R)))] ++ [(3, .v (ptr b3))]))
  (arg := fun i => .v (.slice (some (ad.add (4 * i * 35))) (pts R.length 0 i) (pts R.length 0 i))) rfl ⟨_, Tryz.func96, by kernel_rfl, rfl⟩ (by decide) (by decide) (KE 1000003 rfl (by rfl) (KC 1000091 rfl (KC 1000092 rfl (KC 1000801 rfl (KC 3 rfl KN)))))
  (fun x hx => by simp only [List.mem_cons, List.mem_append, List.not_mem_nil, or_false, or_assoc] at hx; rcases hx with rfl <;> exact ⟨vlt rfl, .inl ⟨_, rfl⟩⟩)
  (fun i x hx => by simp only [List.mem_cons, List.mem_append, List.not_mem_nil, or_false, or_assoc] at hx; rcases hx with rfl | rfl | rfl | rfl <;> exact vle rfl)
  (fun i l' hl' x hx => by simp only [List.mem_cons, List.mem_append, List.not_mem_nil, or_false, or_assoc] at hx; rcases hx with rfl | rfl | rfl | rfl <;> first | exact Firm.blk | exact Firm.old hl' | exact Firm.v _ _ | exact Firm.tab | exact Firm.freshV | exact Firm.varD Firm.ownP)
  (fun i l' hl' x hx => by simp only [List.mem_cons, List.mem_append, List.not_mem_nil, or_false, or_assoc] at hx; rcases hx with rfl | rfl | rfl | rfl | rfl | rfl | rfl <;> first | exact Firm.blk | exact Firm.old hl' | exact Firm.v _ _ | exact Firm.tab | exact Firm.freshV | exact Firm.varD Firm.ownP)
  (fun J l' w hq h0 => ChunkR_seq h1 h2 hc (hq.sub fun i x hx => by simp only [List.mem_cons, List.mem_append, List.not_mem_nil, or_false, or_assoc] at hx ⊢; rcases hx with rfl | rfl <;> simp) h0)
  (fun i l' a w _ h => assign_one (by decide) (by decide) (by decide) h) ?_ ?_
 ·intro i l' D rr mm hi
  refine A.partM (k := 1000801) (k' := 1000802) (4 * i * 35) (pts R.length 0 i * 35) rfl ?_
  have hp : pts R.length 0 i = min (R.length - 4 * i) 4 := rfl
  refine A.block ?_;refine A.openD (k := 1000003) (k' := 1000203) rfl (fun w x h => ownP_one h) fun v3 hv3 => ?_
  refine GS (TN 4 (RLV 1000003 U30 rfl rfl rfl ?_));refine RS (ok_lenPM (k := 1000203) U30 rfl (by decide) rfl) ?_;refine RS (ok_conv U3 U46 rfl) ?_;refine RZ (nW i) (congrArg (Value.int .u32) (wrap_u32 (by omega) (by omega))) ?_;refine RS (ok_call (nEmpty_fn 0 i (by omega)) (A2 rfl rfl)) ?_;refine RN ?_;refine ⟨_, _, eff_allocLtM (n := 22) (d := 5) (k := 1000005) (r := 1000203) zero57 (by decide) rfl, fun b5 hb5 => ?_⟩
  have hBb5 := hb5.1
  refine TF 5 (RN ?_);refine ⟨_, eff_storeA (n := 22) (s := 1000005) (size57.of ((NodT.emp_fit 0 (j := i) (by omega)).len)) rfl rfl (NodT.one _) hBb5 rfl (by rw [(NodT.emp_fit 0 (j := i) (by omega)).len]; rfl) (LT 1000003 rfl (LT 1000091 rfl (LT 1000092 rfl (LeftS.cons (t := 1000098) rfl (Surv.rec rfl) (LeftS.cons (t := 1000099) rfl (Surv.rec rfl) (LeftS.cons (t := 1000203) rfl (Surv.valM Surv.ltP) (LO 1000801 rfl (LO 1000802 rfl (LW [3,4,5] rfl))))))))), ?_⟩
  refine TL (RN (GS (TF 3 (RS (ok_field field57_2 (by decide) rfl) ?_))));refine RS (ok_sliceN 0 4 U52 size51 rfl (.inr ⟨rfl, rfl⟩) (.inr ⟨rfl, rfl, rfl⟩) (.inr ⟨rfl, rfl⟩) (by decide) (by decide) (by decide)) ?_;refine RZ (.slice (some ⟨b5,0 + 2, none⟩) 4 4) (by rfl) ?_;refine RVN 1 rfl ?_;refine ⟨_, eff_copyK (n := 22) (s := 1000005) (k := 1000802) (ys := recsV (chkR R i)) U26 infoP51 rfl rfl (by show some (old _ (memR _ _)) = _; rw [chkR_v hR i]; rfl) (RecT.all1 _) (by rw [recs_len (chkR_fit hR i), chkR_len]) (pts_le _ _ _) (by decide) hBb5 rfl (by rw [show (NodT.emp 0 i).v.length = 274 from rfl]; have := pts_le R.length 0 i; omega) (by decide) (LT 1000003 rfl (LT 1000091 rfl (LT 1000092 rfl (LeftS.cons (t := 1000098) rfl (Surv.rec rfl) (LeftS.cons (t := 1000099) rfl (Surv.rec rfl) (LeftS.cons (t := 1000203) rfl (Surv.valM Surv.ltP) (LO 1000801 rfl (LO 1000802 rfl (LW [3,5] rfl))))))))), ?_⟩
  refine TL (RN (A.sub (KC 3 rfl (KC 5 rfl (KC 1000003 rfl (KE 1000005 rfl (show _ = blk b5 57 (grpR R i).v from congrArg (blk b5 57) (set_grp hR (by omega))) (KC 1000091 rfl (KC 1000092 rfl (KC 1000098 rfl (KC 1000099 rfl (KC 1000203 rfl (KC 1000801 rfl (KC 1000802 rfl KN))))))))))) ?_));refine A.subL (QC 3 rfl (QC 5 rfl (QC 1000003 rfl (QC 1000005 rfl (QC 1000091 rfl (QC 1000092 rfl (QC 1000098 rfl (QC 1000099 rfl (QX 1000203 rfl (valM_le Le.lt) (QC 1000801 rfl (QC 1000802 rfl SubL.nil))))))))))) ?_;refine GE (TF 3 (RS (OpOk.valP (k := 1000203) (ok_loadV (s := 1000003) (by decide) U30 rfl rfl rfl (rfl)) (by decide) rfl) ?_));refine RL 1000005 U57 rfl rfl (size57.of ((grpR_fit hR (by omega)).len)) ?_;refine RS (ok_build1K U30 infoN rfl (by decide) (by decide) rfl (grpR_fit hR (by omega)).len) ?_;refine RN ?_;refine ⟨_, eff_appendG U30 infoN (by decide) (by decide) rfl rfl rfl (grpR_fit hR (by omega)).len (NodT.one _) (by omega) (by decide) (fun g hg => (LV 3 rfl (LT 1000003 rfl (LT 1000091 rfl (LT 1000092 rfl (LeftS.cons (t := 1000098) rfl (Surv.rec rfl) (LeftS.cons (t := 1000099) rfl (Surv.rec rfl) (LO 1000801 rfl (LO 1000802 rfl LN))))))))), ?_⟩
  refine TF 4 (RN ?_);refine ⟨_, eff_storeD (n := 22) (s := 1000003) info30 rfl rfl (fun _ _ h => ownP_one h) hBb3 rfl (Surv.ownP (by decide)) (LT 1000091 rfl (LT 1000092 rfl (LeftS.cons (t := 1000098) rfl (Surv.rec rfl) (LeftS.cons (t := 1000099) rfl (Surv.rec rfl) (LO 1000801 rfl (LO 1000802 rfl LN)))))), ?_⟩
  refine TL (RN (End.normal_block ?_));exact End.round (KC 1000098 rfl (KC 1000099 rfl (KE 1000003 rfl (varD_eq (by rw [← grpsT_step])) (KC 1000091 rfl (KC 1000092 rfl (KC 1000801 rfl KN)))))) (fun x hx => by simp only [List.mem_cons, List.not_mem_nil, or_false] at hx; rcases hx with rfl | rfl | rfl | rfl | rfl | rfl <;> exact vle rfl) (by decide)
 ·intro D hD
  refine End.normal_block (EN (GT (RS (ok_loadD (s := 1000003) (by decide) U30 rfl rfl rfl) ?_)));refine RVN 1 rfl ?_;refine A.ret ?_;exact End.ret1C (vD := 1000099) rfl hD rfl rfl Firm.ownP (Le.refl _)
end
end Go.Proofs.YtmkpekmhhbcifaaGreatDoor
