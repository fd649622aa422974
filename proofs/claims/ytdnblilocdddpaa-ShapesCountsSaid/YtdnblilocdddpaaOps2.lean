/-
  OWN WORDS, PART THREE: contracts whose result is new memory of the call's own; a region with a base of its own; environments weakened by 'Le'; min; an empty slice literal that is appended to. Nothing of one program stands here.
-/
import Derived.Test.YtdnblilocdddpaaOps
namespace Go.Proofs.Ytdnblilocdddpaa
open Go Go.RowKit
variable {κ : Cx}

/-! ### Weaker environments -/
def SubL (E' E : Env) : Prop := ∀ p ∈ E', ∃ e, E.look p.1 = some e ∧ Le e p.2
theorem SubL.nil {E : Env} : SubL [] E := fun _ h => by cases h
theorem SubL.cons {E' E : Env} {t : Nat} {d e : D} (h : E.look t = some e) (hl : Le e d) (hs : SubL E' E) : SubL ((t, d) :: E') E := fun p hp => by
  rcases List.mem_cons.1 hp with rfl | hp
  · exact ⟨e, h, hl⟩
  · exact hs p hp
theorem St.subL {n B : Nat} {E E' : Env} {a : Act} {w : World} (h : St κ n B E a w) (hs : SubL E' E) : St κ n B E' a w :=
  ⟨h.base, h.defers, h.size, fun t d hd => by
    obtain ⟨e, he, hl⟩ := hs (t, d) (look_mem hd)
    exact hl.of (h.of t e he)⟩
theorem A.subL {P : Program} {w₀ : World} {n : Nat} {c : Code} {E E₁ : Env} {Q : Exit → Act → World → Prop} (hs : SubL E₁ E) (h : A κ P w₀ n c E₁ Q) : A κ P w₀ n c E Q := fun a w g hst => h a w g (hst.subL hs)
theorem End.subL {w₀ : World} {n : Nat} {E E₁ : Env} {R : Act → World → Prop} (hs : SubL E₁ E) (h : End κ w₀ n E₁ R) : End κ w₀ n E R := fun a w g hst => h a w g (hst.subL hs)

/-! ### A region with a base of its own: what is known at its beginning stays, whatever the region writes into memory that it makes -/
def OldOf (B : Nat) (E' E : Env) : Prop := ∀ p ∈ E', ∃ d, E.look p.1 = some d ∧ (p.2 = d ∧ (∃ x, d = .v x) ∨ p.2 = old B d)
theorem OldOf.nil {B : Nat} {E : Env} : OldOf B [] E := fun _ h => by cases h
theorem OldOf.v {B : Nat} {E E' : Env} {t : Nat} {x : Value} (h : E.look t = some (.v x)) (hr : OldOf B E' E) : OldOf B ((t, .v x) :: E') E := fun p hp => by
  rcases List.mem_cons.1 hp with rfl | hp
  · exact ⟨_, h, .inl ⟨rfl, _, rfl⟩⟩
  · exact hr p hp
theorem OldOf.p {B : Nat} {E E' : Env} {t : Nat} {d : D} (h : E.look t = some d) (hr : OldOf B E' E) : OldOf B ((t, old B d) :: E') E := fun p hp => by
  rcases List.mem_cons.1 hp with rfl | hp
  · exact ⟨d, h, .inr rfl⟩
  · exact hr p hp
theorem A.regsG {P : Program} {w₀ : World} {n : Nat} {y : Code} {E : Env} {Q : Exit → Act → World → Prop} {id : Nat} {ops : Array Oper} {draw : Bool} (E' : Nat → Env) (hE : ∀ B, OldOf B (E' B) E) (hm : P.follows .mixedOrders = true) (hf : fits n ops = true) (ht : draw = false ∨ tied ops = true)
    (hr : ∀ B, w₀.heap.size ≤ B → RunTK P n B ops draw (fun E₁ => A κ P w₀ n y E₁ Q) 0 (E' B)) : A κ P w₀ n (.seq (.region id ops draw) y) E Q := A.seq fun a w g hst => by
  have hst' : St κ n w.heap.size (E' w.heap.size) a w := ⟨Nat.le_refl _, hst.defers, hst.size, fun t d hd => by
    obtain ⟨d', hd', h⟩ := hE w.heap.size _ (look_mem hd)
    have h1 := hst.of t d' hd'
    rcases h with ⟨h2, _⟩ | h2
    · simp only at h2; rw [h2]; exact h1
    · simp only at h2; rw [h2]; exact ⟨Nat.le_refl _, h1⟩⟩
  exact wp_regT hm hf ht hst' (hr w.heap.size hst.base) fun _ a' w' h2 g' h' => h2 a' w' (g.trans (g'.mono hst.base)) ⟨Nat.le_trans hst.base g'.size, h'.defers, h'.size, h'.of⟩

/-! ### A contract whose result is told over the heap's size at the call -/
structure FnB (P : Program) (f : FuncId) (ds : List D) (d : Nat → D) : Prop where
  body : ∃ fn, P.funcs[f]? = some fn ∧ (fn.name == "runtime.NumGoroutine") = false ∧ fn.body.isNone = false
  calls : ∀ (vs : List Value) (w : World), vs.length = ds.length → (∀ (j : Nat) (e : D) (u : Value), ds[j]? = some e → vs[j]? = some u → e.Of w u) → Calls P f vs.toArray w (PostOf w (d w.heap.size))
theorem FnB.fn {P : Program} {f : FuncId} {ds : List D} {d : Nat → D} {d' : D} (h : FnB P f ds d) (hd : ∀ B, Le (d B) d') : Fn P f ds d' :=
  ⟨h.body, fun vs w h1 h2 => (h.calls vs w h1 h2).mono fun _ _ ⟨x, he, g, hx⟩ => ⟨x, he, g, (hd _).of hx⟩⟩
theorem ok_callB {P : Program} {B : Nat} {E : Env} {dst : Option Tmp} {ty : TypeId} {pos : String} {after : Array Edge} {guard : Option (Nat × Bool)} {f : FuncId} {args : Array Operand} {argTypes : Array TypeId} {ds : List D} {d : Nat → D} (hf : FnB P f ds d) (hd : ∀ B B', B ≤ B' → Le (d B') (d B)) (ha : Args E ds args.toList) :
    OpOk P B ⟨dst, .call { callee := .value (.func f), args := args, argTypes := argTypes }, ty, pos, after, guard⟩ E (d B) := fun ρ w hB _ hρ => by
  obtain ⟨fn, h1, h2, h3⟩ := hf.body
  have hfun : ρ (.func f) = .func (.func f) #[] #[] := hρ (.func f) (by simp [Op.operands, Call.operands]) _ rfl
  have hrun : (execOp ρ ⟨dst, .call { callee := .value (.func f), args := args, argTypes := argTypes }, ty, pos, after, guard⟩).run P w = .ok (.enter f (args.map ρ)) w := by
    have h2' : ¬ fn.name = "runtime.NumGoroutine" := by simpa using h2
    have h3' : ¬ fn.body = none := by intro h; rw [h] at h3; cases h3
    simp [execOp, resolve, Deferred.ofValue, hfun, invoke, callFunc, h1, h2', h3']
  unfold Out
  rw [hrun]
  have := hf.calls (args.toList.map ρ) w (by rw [List.length_map, ha.length]) fun j e u he hu => by
    rw [List.getElem?_map] at hu
    cases hx : args.toList[j]? with
    | none => rw [hx] at hu; cases hu
    | some x =>
      rw [hx] at hu; injection hu with hu; subst hu
      obtain ⟨e', h4, h5⟩ := ha.nth he hx
      exact h5.of (hρ x (by simp [Op.operands, Call.operands]; exact .inr (by simpa using List.mem_of_getElem? hx)) _ h4)
  have harr : (args.toList.map ρ).toArray = args.map ρ := by apply Array.ext'; simp
  rw [harr] at this
  exact this.mono fun e w' ⟨x, he, g, hx⟩ => ⟨x, he, g, (hd _ _ hB).of hx⟩
theorem FnB.of {P : Program} {n : Nat} {f : FuncId} {fn : Func} {c : Code} {ds : List D} {d : Nat → D} (hf : P.funcs[f]? = some fn) (hb : fn.body = some c) (hname : (fn.name == "runtime.NumGoroutine") = false) (hn : fn.ntmps = n) (hds : ds.length ≤ n) (E : World → Env)
    (hE : ∀ w, Start w.heap.size ds (E w)) (h : ∀ w₀, A Cx.top P w₀ n c (E w₀) (BP P fn (PostOf w₀ (d w₀.heap.size)))) : FnB P f ds d := by
  refine ⟨⟨fn, hf, hname, by rw [hb]; rfl⟩, fun vs w hl hv => callsIn_FR.1 (callsIn_of_wp_marks (F := FR none) (n := 0) hf hb trivial (h w _ w (Below.refl _ _) ⟨Nat.le_refl _, rfl, ?_, fun t e he => ?_⟩))⟩
  · simp [hl, hn]; omega
  · obtain ⟨d', hd', hor⟩ := hE w _ (look_mem he)
    have hlt : t < vs.length := by have := (List.getElem?_eq_some_iff.1 hd').1; simp at this; omega
    have hget : (vs.toArray ++ Array.replicate (fn.ntmps - vs.toArray.size) undef).getD t undef = vs[t] := by
      rw [Array.getD_eq_getD_getElem?, Array.getElem?_append_left (by simpa using hlt)]
      simp [hlt]
    show e.Of w ((vs.toArray ++ Array.replicate (fn.ntmps - vs.toArray.size) undef).getD t undef)
    rw [hget]
    have h1 := hv t d' vs[t] hd' (List.getElem?_eq_getElem hlt)
    rcases hor with h2 | h2
    · simp only at h2; rw [h2]; exact h1
    · simp only at h2; rw [h2]; exact ⟨Nat.le_refl _, h1⟩
theorem fresh_mono {e : TypeId} {xs : List Value} {n : Nat} (B B' : Nat) (h : B ≤ B') : Le (fresh B' e xs n) (fresh B e xs n) := fun _ _ _ ⟨b, h1, h2, h3, h4⟩ => ⟨b, h1, by omega, h3, h4⟩
theorem fresh_bytes {B : Nat} {e : TypeId} {l : List UInt8} {n : Nat} (hn : n = l.length) (hm : n ≤ maxLen) : Le (fresh B e (l.map byteV) n) (bytes l n) := by
  subst hn
  rintro B' w x ⟨b, rfl, _, h3, h4⟩
  have := blk_row h3 h4 l.length
  rw [List.take_of_length_le (by simp)] at this
  simp only [List.length_map]
  exact bytes_mk (Nat.le_refl _) hm this
theorem End.fresh {w₀ : World} {n : Nat} {E : Env} {fn : Func} {P : Program} {r k : Nat} {b : Nat} {e : TypeId} {xs ys : List Value} {m c : Nat} (hr : fn.results = #[.tmp r]) (hb : w₀.heap.size ≤ b) (ht : E.look r = some (.v (.slice (some ⟨b, 0, none⟩) m c))) (hc : c = ys.length) (hk : E.look k = some (blk b e xs)) (hx : xs = ys) :
    End Cx.top w₀ n E (BP P fn (PostOf w₀ (Go.Proofs.Ytdnblilocdddpaa.fresh w₀.heap.size e ys m)) .ret) := fun a w g hs => by
  subst hx; subst hc
  obtain ⟨h4, h5⟩ := hs.of k _ hk
  exact BP.ret hs.defers ⟨a.tmps.getD r undef, by simp [results, hr], _, rfl, g, b, hs.of r _ ht, hb, h4, h5⟩

/-! ### More operations -/
section
variable {P : Program} {B : Nat} {E : Env} {dst : Option Tmp} {ty : TypeId} {pos : String} {after : Array Edge} {guard : Option (Nat × Bool)}
theorem ok_min {x y : Operand} {a b : Int} {ts : Array TypeId} (hx : E.at x = some (.v (.int .i64 a))) (hy : E.at y = some (.v (.int .i64 b))) :
    OpOk P B ⟨dst, .call { callee := .builtin .min, args := #[x, y], argTypes := ts }, ty, pos, after, guard⟩ E (.v (.int .i64 (min a b))) := fun ρ w _ _ hρ => by
  have h1 : ρ x = .int .i64 a := hρ x (by simp [Op.operands, Call.operands]) _ hx
  have h2 : ρ y = .int .i64 b := hρ y (by simp [Op.operands, Call.operands]) _ hy
  exact out_val (w' := w) (by simp [execOp, resolve, invoke, builtin, Builtin.min_, Builtin.min2, h1, h2]; omega) ⟨Grow.refl w, rfl⟩
theorem ok_build0own {t e : TypeId} {z : Value} {nb : Nat} (ht : P.underlying t = some (.slice e)) (hinfo : InfoIs P e z nb) : OpOk P B ⟨dst, .buildSlice t 0 #[], ty, pos, after, guard⟩ E (own B e 0 []) := fun ρ w hB _ _ => by
  obtain ⟨i, hi, hz, hs, _⟩ := hinfo.get
  refine out_val (x := .slice (some ⟨w.heap.size, 0, none⟩) 0 0) (w' := w.alloc (.cells #[] e)) ?_ ⟨Grow.alloc w _, ⟨rfl, .inr ⟨w.heap.size, 0, #[], rfl, hB, heap_alloc_new w _, Nat.le_refl _, Nat.zero_le _, rfl, rfl⟩⟩, fun g hg => ?_⟩
  · simp [execOp, Instr.buildSlice, run_underlying ht, sizeOf, typeInfo, hi, Instr.fill, newRow]
    rw [show (Array.map (fun _ => (default : Value)) (Array.range 0)) = #[] from Array.eq_empty_of_size_eq_zero (by simp)]
  · simp [Value.ownBlock] at hg; subst hg; simp
end
theorem own_nil {B : Nat} {e : TypeId} : Le (.v (.slice none 0 0)) (own B e 0 []) := fun _ _ _ h => by
  have h : _ = _ := h
  subst h
  exact ⟨⟨rfl, .inl ⟨rfl, rfl⟩⟩, fun g hg => by simp [Value.ownBlock] at hg⟩
theorem own_byt {B : Nat} {e : TypeId} {n : Nat} {l : List UInt8} (hn : n = l.length) : Le (own B e n (l.map byteV)) (byt l) := by
  have h := own_le (B := B) (e := e) (n := n) (vs := l.map byteV) (by simpa using hn)
  unfold byt
  rw [List.map_map] at h
  exact h
theorem lst_le {ds es : List D} (hl : ds.length = es.length) (h : ∀ (j : Nat) (d e : D), ds[j]? = some d → es[j]? = some e → Le d e) : Le (lst ds) (lst es) := fun B w x ⟨c, hx⟩ => ⟨c, list_le hl h B w x hx⟩
theorem list_lst1 {c : Nat} {d₁ e₁ : D} (h₁ : Le d₁ e₁) : Le (list [d₁] c) (lst [e₁]) := (list_le (ds := [d₁]) (es := [e₁]) rfl fun j d e hd he => by
  match j, hd, he with
  | 0, hd, he => simp at hd he; subst hd; subst he; exact h₁
  | j + 1, hd, _ => simp at hd).trans (le_lst _ _)
theorem list_lst2 {c : Nat} {d₁ e₁ d₂ e₂ : D} (h₁ : Le d₁ e₁) (h₂ : Le d₂ e₂) : Le (list [d₁, d₂] c) (lst [e₁, e₂]) := (list_le (ds := [d₁, d₂]) (es := [e₁, e₂]) rfl fun j d e hd he => by
  match j, hd, he with
  | 0, hd, he => simp at hd he; subst hd; subst he; exact h₁
  | 1, hd, he => simp at hd he; subst hd; subst he; exact h₂
  | j + 2, hd, _ => simp at hd).trans (le_lst _ _)
theorem list_lst3 {c : Nat} {d₁ e₁ d₂ e₂ d₃ e₃ : D} (h₁ : Le d₁ e₁) (h₂ : Le d₂ e₂) (h₃ : Le d₃ e₃) : Le (list [d₁, d₂, d₃] c) (lst [e₁, e₂, e₃]) := (list_le (ds := [d₁, d₂, d₃]) (es := [e₁, e₂, e₃]) rfl fun j d e hd he => by
  match j, hd, he with
  | 0, hd, he => simp at hd he; subst hd; subst he; exact h₁
  | 1, hd, he => simp at hd he; subst hd; subst he; exact h₂
  | 2, hd, he => simp at hd he; subst hd; subst he; exact h₃
  | j + 3, hd, _ => simp at hd).trans (le_lst _ _)
theorem lst_one {ds : List D} {w : World} {x : Value} (h : (lst ds).Of w x) : x.oneCell' = true := by
  obtain ⟨c, A, vs, rfl, _⟩ := h; rfl
theorem bytes_one {l : List UInt8} {c : Nat} {w : World} {x : Value} (h : (bytes l c).Of w x) : x.oneCell' = true := by
  obtain ⟨A, vs, rfl, _⟩ := h; rfl
theorem list_one {ds : List D} {c : Nat} {w : World} {x : Value} (h : (list ds c).Of w x) : x.oneCell' = true := by
  obtain ⟨A, vs, rfl, _⟩ := h; rfl
theorem old_one {B : Nat} {d : D} (hd : ∀ w x, d.Of w x → x.oneCell' = true) {w : World} {x : Value} (h : (old B d).Of w x) : x.oneCell' = true := hd w x ((Le.old B d).of h)
theorem v_one {y : Value} (hy : y.oneCell' = true) {w : World} {x : Value} (h : (D.v y).Of w x) : x.oneCell' = true := by
  have h : x = y := h
  subst h; exact hy
end Go.Proofs.Ytdnblilocdddpaa
