/-
  OWN WORDS: functions that write one block of their caller's and return a value; function values that hold two variables of several cells; slices told exactly up to their ends; append to a slice without room; values of which something is known in memory. Nothing of one program stands here.
-/
import Derived.Test.YtbmpjeheaemgmaaWrite
import Derived.Test.YtbmpjeheaemgmaaNest
import Derived.Test.YtbmpjeheaemgmaaFresh
namespace Go.Proofs.Ytbmpjeheaemgmaa
open Go Go.RowKit
variable {κ : Cx}

/-- A contract: block g, whose cells are xs, is left with the cells ys, and u is returned; M tells of other memory. -/
structure FnWR (P : Program) (f : FuncId) (M : Env) (T g : Nat) (xs ys : List Value) (ds : List D) (u : Value) : Prop where
  body : ∃ fn, P.funcs[f]? = some fn ∧ (fn.name == "runtime.NumGoroutine") = false ∧ fn.body.isNone = false
  calls : ∀ (vs : List Value) (w : World), vs.length = ds.length → (∀ (j : Nat) (e : D) (u : Value), ds[j]? = some e → vs[j]? = some u → e.Of w u) → (∀ p ∈ M, p.2.Of w undef) → g < w.heap.size → w.heap[g]? = some (.cells xs.toArray T (0, 0)) →
    Calls P f vs.toArray w fun e w' => e = .returned u ∧ Wrote g T g w w' ∧ w'.heap[g]? = some (.cells ys.toArray T (0, 0))
section
variable {P : Program} {n B : Nat} {ops : Array Oper} {E : Env} {ty : TypeId} {pos : String} {after : Array Edge}
theorem FnWR.of {f : FuncId} {fn : Func} {c : Code} {M : Env} {T g kb kw : Nat} {xs ys us : List Value} {u : Value} (hf : P.funcs[f]? = some fn) (hb : fn.body = some c) (hname : (fn.name == "runtime.NumGoroutine") = false) (hn : fn.ntmps = n) (hds : us.length ≤ n) (hnv : n ≤ vbase)
    (hMb : ∀ p ∈ M, vbase ≤ p.1) (hkb : vbase ≤ kb) (hkw : vbase ≤ kw) (args : Env) (hargs : ∀ p ∈ args, ∃ v, p.2 = .v v ∧ us[p.1]? = some v)
    (h : ∀ w₀ w₁ : World, w₀.heap.size = g → A Cx.top P w₀ n c (args ++ ((kb, blk g T xs) :: (kw, wroteD T g w₁) :: M)) (BP P fn fun e w' => e = .returned u ∧ Wrote g T g w₁ w' ∧ w'.heap[g]? = some (.cells ys.toArray T (0, 0)))) :
    FnWR P f M T g xs ys (us.map D.v) u := by
  refine ⟨⟨fn, hf, hname, by rw [hb]; rfl⟩, fun vs w hl hv hM hlt hh => ?_⟩
  have hvs : vs = us := by
    apply List.ext_getElem?
    intro j
    simp only [List.length_map] at hl
    rcases Nat.lt_or_ge j us.length with hj | hj
    · have h1 := hv j (.v us[j]) vs[j] (by simp [hj]) (List.getElem?_eq_getElem (by omega))
      rw [List.getElem?_eq_getElem hj, List.getElem?_eq_getElem (by omega)]
      exact congrArg some h1
    · rw [List.getElem?_eq_none hj, List.getElem?_eq_none (by omega)]
  subst hvs
  have hsz := cutW_size (w := w) (g := g) (Nat.le_of_lt hlt)
  refine callsIn_FR.1 (callsIn_of_wp_marks (F := FR none) (n := 0) hf hb trivial (h (cutW w g) w hsz _ w (cutW_below (Nat.le_of_lt hlt)) ⟨by rw [hsz]; omega, rfl, ?_, fun t e he => ?_⟩))
  · simp [hn]; omega
  · show e.Of w ((vs.toArray ++ Array.replicate (fn.ntmps - vs.toArray.size) undef).getD t undef)
    have hund : vbase ≤ t → (vs.toArray ++ Array.replicate (fn.ntmps - vs.toArray.size) undef).getD t undef = undef := fun ht => by
      rw [Array.getD_eq_getD_getElem?, Array.getElem?_eq_none (by simp [hn]; omega)]; rfl
    rcases List.mem_append.1 (look_mem he) with hm | hm
    · obtain ⟨v, h1, h2⟩ := hargs _ hm
      simp only at h1 h2
      have hj : t < vs.length := (List.getElem?_eq_some_iff.1 h2).1
      rw [Array.getD_eq_getD_getElem?, Array.getElem?_append_left (by simpa using hj)]
      subst h1
      simp [h2]; rfl
    · rcases List.mem_cons.1 hm with h1 | hm
      · injection h1 with h1 h2; subst h1; subst h2
        exact ⟨hlt, hh⟩
      · rcases List.mem_cons.1 hm with h1 | hm
        · injection h1 with h1 h2; subst h1; subst h2
          exact ⟨Nat.le_refl _, Nat.le_refl _, rfl, rfl, rfl, Nat.le_refl _, fun o ho => by rw [hh] at ho; injection ho with ho; exact ⟨_, _, ho.symm⟩, fun _ _ _ => rfl⟩
        · have h1 := hMb _ hm
          rw [hund h1]
          exact hM _ hm
theorem End.wroteR {w₀ w₁ : World} {fn : Func} {T g kb kw r : Nat} {xs ys : List Value} {u : Value} {x : Exit} (hex : x = .ret ∨ x = .normal) (hr : fn.results = #[.tmp r]) (he : E.look r = some (.v u)) (hb : E.look kb = some (blk g T xs)) (hx : xs = ys) (hw : E.look kw = some (wroteD T g w₁)) :
    End Cx.top w₀ n E (BP P fn (fun e w' => e = .returned u ∧ Wrote g T g w₁ w' ∧ w'.heap[g]? = some (.cells ys.toArray T (0, 0))) x) := fun a w _ hs => by
  subst hx
  have key : LeavesInM (FR none) 0 P fn a.tmps (fun e w' => e = .returned u ∧ Wrote g T g w₁ w' ∧ w'.heap[g]? = some (.cells xs.toArray T (0, 0))) a.defers .returning w := by
    rw [show a.defers = [] from hs.defers]
    have h1 : a.tmps.getD r undef = u := hs.of r _ he
    exact ⟨a.tmps.getD r undef, by simp [results, hr], by rw [h1], (hs.of kw _ hw).2, (hs.of kb _ hb).2⟩
  rcases hex with rfl | rfl
  · exact key
  · exact key
end

/-! ### Function values that hold two variables of several cells -/
section
variable {P : Program} {n : Nat} {w₀ : World} {E : Env}
/-- return of a variable's value, and of another value. -/
theorem End.cellT {fn : Func} {r s b r' : Nat} {T e : TypeId} {td : TypeDesc} {xs : List Value} {d d' e' : D} (hr : fn.results = #[.cell r T, .tmp r']) (ht : P.underlying T = some td) (hp : (match td with | .struct _ | .array _ _ => true | _ => false) = true) (hsz : SizeIs P T xs.length)
    (h1 : E.look r = some (.v (.pointer (some ⟨b, 0, none⟩)))) (h2 : E.look s = some (blk b e xs)) (hl : Le (.v (aggV xs)) d) (h1' : E.look r' = some e') (hl' : Le e' d') : End Cx.top w₀ n E (BP P fn (PostOf w₀ (tup [d, d'])) .ret) := fun a w g hs => by
  have h3 : a.tmps[r]?.getD undef = .pointer (some ⟨b, 0, none⟩) := by rw [← Array.getD_eq_getD_getElem?]; exact hs.of r _ h1
  obtain ⟨_, hh⟩ := hs.of s _ h2
  have k1 := run_loadVar_row (P := P) w b e T xs.toArray (0, 0) td hh ht hp (by simpa [SizeIs] using hsz)
  refine BP.ret hs.defers ⟨.tuple #[aggV xs, a.tmps.getD r' undef], by simp [results, hr, h3, asAddr, k1, aggV], _, rfl, g, [aggV xs, a.tmps.getD r' undef], rfl, rfl, fun j e u he hu => ?_⟩
  match j, he, hu with
  | 0, he, hu => simp at he hu; subst he; subst hu; exact hl.of rfl
  | 1, he, hu => simp only [List.getElem?_cons_succ, List.getElem?_cons_zero, Option.some.injEq] at he hu; subst he; subst hu; exact hl'.of (hs.of r' _ h1')
  | j + 2, he, _ => simp at he
/-- A slice that came in gets a name: of its value something is known in memory. -/
def valM (v : Value) (d : D) : D := .p (fun B w _ => d.OfB B w v) (fun _ _ _ _ g h => h.keep g) (fun _ _ _ _ g h => h.up g)
end
section
variable {P : Program} {B : Nat} {E : Env} {dst : Option Tmp} {ty : TypeId} {pos : String} {after : Array Edge} {guard : Option (Nat × Bool)}
/-- What a value means in memory that is known. -/
theorem OpOk.fact {o : Oper} {v : Value} {d : D} {s b : Nat} {e : TypeId} {xs : List Value} (h : OpOk P B o E (.v v)) (hs : vbase ≤ s) (hk : E.look s = some (blk b e xs)) (hd : ∀ B w, b < B → w.heap[b]? = some (.cells xs.toArray e (0, 0)) → d.OfB B w v) : OpOk P B o E d := fun ρ w hB hv hρ => by
  refine (h ρ w hB hv hρ).mono fun x w' hx => ⟨hx.1, ?_⟩
  obtain ⟨h1, h2⟩ := (hv s _ hs hk : (blk b e xs).Of w undef)
  have h3 : (blk b e xs).Of w' undef := D.Of.grow (d := blk b e xs) ⟨h1, h2⟩ hx.1
  obtain ⟨h4, h5⟩ := h3
  rw [show x = v from hx.2]
  exact hd _ _ h4 h5
theorem slice_byt {b o n c : Nat} {e : TypeId} {xs : List Value} (l : List UInt8) (hn : n = l.length) (hc : n ≤ c) (hm : c ≤ maxLen) (hl : (xs.drop o).take n = l.map byteV) (B : Nat) (w : World) (hb : b < B) (hh : w.heap[b]? = some (.cells xs.toArray e (0, 0))) : (byt l).OfB B w (.slice (some ⟨b, o, none⟩) n c) := by
  subst hn
  refine ⟨c, bytes_mk hc hm fun j u hu => ?_⟩
  rw [← hl, List.getElem?_take] at hu
  split at hu
  · rw [List.getElem?_drop] at hu
    refine ⟨_, rfl, hb, ?_⟩
    rw [add_lit0]
    simp [World.cell?, hh, hu]
  · cases hu
/-- append to a slice of bytes that has no room: a new row of the call's own. -/
theorem ok_appendFull {t e : TypeId} {z : Value} {nb : Nat} {r x : Operand} {f g : D} {l m : List UInt8} (ht : P.underlying t = some (.slice e)) (hinfo : InfoIs P e z nb) (hnb : nb ≤ 64) (hz1 : z.cells.size = 1)
    (hr : E.at r = some g) (hg : Le g (bytes l l.length)) (hx : E.at x = some f) (hf : Le f (byt m)) (hl : 0 < l.length) (hpos : 0 < m.length) (hk : l.length + m.length ≤ 1099511627776) :
    OpOk P B ⟨dst, .call { callee := .builtin .append, args := #[r, x], argTypes := #[t, t] }, ty, pos, after, guard⟩ E (own B e (l.length + m.length) ((l ++ m).map byteV)) := fun ρ w hB hv hρ => by
  obtain ⟨i, hi, hz, hs, hby⟩ := hinfo.get
  obtain ⟨A1, hre, _, hlm, hrow1⟩ := bytes_open (l := l) (hg.of (hρ r (by simp [Op.operands, Call.operands]) _ hr))
  obtain ⟨c, hb⟩ := hf.of (hρ x (by simp [Op.operands, Call.operands]) _ hx)
  obtain ⟨A2, hxe, hle, hcm, hrow⟩ := bytes_open (l := m) hb
  have h1 : ∃ a1, A1 = some a1 := by
    cases l with
    | nil => simp at hl
    | cons b l => obtain ⟨ad, h, _⟩ := hrow1 0 (byteV b) rfl; exact ⟨ad, h⟩
  have h2 : ∃ a2, A2 = some a2 := by
    cases m with
    | nil => simp at hpos
    | cons b l => obtain ⟨ad, h, _⟩ := hrow 0 (byteV b) rfl; exact ⟨ad, h⟩
  obtain ⟨a1, rfl⟩ := h1
  obtain ⟨a2, rfl⟩ := h2
  have hbb : (l.length + m.length) * i.bytes ≤ (l.length + m.length) * 64 := Nat.mul_le_mul_left _ (by omega)
  obtain ⟨v', w', h2, h3, h4⟩ := run_append_arg_grows (P := P) w t ty e i z 1 i.bytes ht hi hz hs rfl hz1 (by omega) a1 l.length l.length (l.map byteV) (by simp) hrow1.cell a2 m.length c (m.map byteV) (by simp) hrow.cell (by omega) (by simp only [maxLen]; omega) (by omega)
  refine out_val (x := v') (w' := w') (by simp [execOp, resolve, invoke, builtin, hre, hxe, h2]) ⟨(Below.refl w.heap.size w).grown h4 (Nat.le_refl _) (fun g hg => by cases hg), ?_⟩
  rw [List.map_append]
  refine ⟨⟨h3.1, h3.2.imp id ?_⟩, fun g hg => ?_⟩
  · rintro ⟨g, cap, cur, h5, h6, h7⟩; exact ⟨g, cap, cur, h5, by omega, h7⟩
  · rcases h3.2 with ⟨hv', _⟩ | ⟨g', cap, cur, hv', _, hh', _⟩
    · rw [hv'] at hg; simp [Value.ownBlock] at hg
    · rw [hv'] at hg; simp [Value.ownBlock] at hg; subst hg
      rcases Nat.lt_or_ge g' w'.heap.size with h | h
      · exact h
      · rw [Array.getElem?_eq_none h] at hh'; cases hh'
end
end Go.Proofs.Ytbmpjeheaemgmaa
