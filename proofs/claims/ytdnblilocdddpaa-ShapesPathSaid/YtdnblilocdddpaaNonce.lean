/-
  OWN WORDS: nonces and allocators as plain mathematics; rows of numbers; literals of some fields; calls of function values that write one block. Nothing of one program stands here.
-/
import Derived.Test.YtdnblilocdddpaaNum
import Derived.Test.YtdnblilocdddpaaHold
namespace Go.Proofs.Ytdnblilocdddpaa
open Go Go.RowKit
variable {κ : Cx}
abbrev qV (n : Nat) : Value := .int .u64 (n : Int)
abbrev sV (n : Nat) : Value := .int .u16 (n : Int)
def rowQ (cs : List Nat) : List Value := cs.map qV
theorem rowQ_length (cs : List Nat) : (rowQ cs).length = cs.length := by simp [rowQ]
theorem rowQ_get {cs : List Nat} {i : Nat} (h : i < cs.length) : (rowQ cs)[i]? = some (qV (cs.getD i 0)) := by
  simp [rowQ, h, List.getD_eq_getElem?_getD]
theorem rowQ_set (cs : List Nat) (i n : Nat) : (rowQ cs).set i (qV n) = rowQ (cs.set i n) := by simp [rowQ]
theorem rowQ_one (cs : List Nat) : (rowQ cs).all (·.oneCell') = true := by
  simp [rowQ, List.all_eq_true, Value.oneCell']
theorem rowQ_rep (n c : Nat) : List.replicate n (qV c) = rowQ (List.replicate n c) := by simp [rowQ]
theorem rowQ_take (cs : List Nat) (z : List Value) : (rowQ cs ++ z).take cs.length = rowQ cs := List.take_left' (rowQ_length cs)
theorem rowQ_getA {cs : List Nat} {z : List Value} {i : Nat} (h : i < cs.length) : (rowQ cs ++ z)[i]? = some (qV (cs.getD i 0)) := by
  rw [List.getElem?_append_left (by rw [rowQ_length]; exact h), rowQ_get h]
theorem rowQ_setA {cs : List Nat} {z : List Value} {i n : Nat} (h : i < cs.length) : (rowQ cs ++ z).set i (qV n) = rowQ (cs.set i n) ++ z := by
  rw [List.set_append_left _ _ (by rw [rowQ_length]; exact h), rowQ_set]
theorem rowQ_rep0 {n m : Nat} (h : 0 < n) : (rowQ (List.replicate n m))[0]? = some (qV m) := by
  rw [← rowQ_rep]; simp [h]
def alR (m l r : Nat) : List Value := [qV m, qV l, qV r]
/-- The greatest of them. -/
def mx (cs : List Nat) : Nat := cs.foldl max 0
theorem foldl_max (cs : List Nat) (a m : Nat) : cs.foldl max a ≤ m ↔ a ≤ m ∧ ∀ c ∈ cs, c ≤ m := by
  induction cs generalizing a with
  | nil => simp
  | cons c cs ih => rw [List.foldl_cons, ih, Nat.max_le, List.forall_mem_cons, and_assoc]
theorem mx_le {cs : List Nat} {m : Nat} : mx cs ≤ m ↔ ∀ c ∈ cs, c ≤ m := by simp [mx, foldl_max]
theorem mx_succ {cs : List Nat} {i : Nat} (h : i < cs.length) : mx (cs.take (i + 1)) = max (mx (cs.take i)) (cs.getD i 0) := by
  rw [List.take_add_one, List.getElem?_eq_getElem h, List.getD_eq_getElem?_getD, List.getElem?_eq_getElem h]
  simp only [mx, List.foldl_append, Option.toList_some, List.foldl_cons, List.foldl_nil, Option.getD_some]
def Valid (cs : List Nat) (m l r : Nat) : Prop := 1 ≤ cs.length ∧ cs.length ≤ 8 ∧ (∀ c ∈ cs, c ≤ m) ∧ m ≤ l ∧ 1 ≤ r ∧ r ≤ 4294967296 ∧ r ≤ l
theorem getD_le {cs : List Nat} {m i : Nat} (h : ∀ c ∈ cs, c ≤ m) : cs.getD i 0 ≤ m := by
  rw [List.getD_eq_getElem?_getD]
  rcases Nat.lt_or_ge i cs.length with hi | hi
  · rw [List.getElem?_eq_getElem hi]; exact h _ (List.getElem_mem hi)
  · rw [List.getElem?_eq_none hi]; exact Nat.zero_le _

/-- The counters of the statements' allocators. -/
def ofC (us : List Nat) (m : Nat) : List Nat := if us = [] then [m / 2] else (us.take 8).map (· % (m + 1))
def ofT (us : List Nat) (m i : Nat) : List Value := rowQ ((us.take i).map (· % (m + 1)))
theorem ofT_succ {us : List Nat} {m i : Nat} (h : i < us.length) : ofT us m i ++ [qV (us.getD i 0 % (m + 1))] = ofT us m (i + 1) := by
  rw [ofT, ofT, List.take_add_one, List.getElem?_eq_getElem h, List.getD_eq_getElem?_getD, List.getElem?_eq_getElem h]
  simp only [rowQ, List.map_append, Option.toList_some, List.map_cons, List.map_nil, Option.getD_some]
theorem ofT_length {us : List Nat} {m i : Nat} (h : i ≤ us.length) : (ofT us m i).length = i := by simp [ofT, rowQ]; omega
theorem ofT_end {us : List Nat} {m i : Nat} (h0 : i ≠ 0) (h : i = min us.length 8) : ofT us m i = rowQ (ofC us m) := by
  have : us ≠ [] := fun h1 => by subst h1; simp at h; omega
  rw [ofT, ofC, if_neg this]
  rcases Nat.lt_or_ge us.length 8 with h8 | h8
  · rw [List.take_of_length_le (by omega), List.take_of_length_le (by omega)]
  · rw [show i = 8 from by omega]
theorem ofT_nil {us : List Nat} {m i : Nat} (h0 : i = 0) (h : i = min us.length 8) : ofT us m i ++ [qV (m / 2)] = rowQ (ofC us m) := by
  have : us = [] := List.eq_nil_of_length_eq_zero (by omega)
  subst this; subst h0
  rfl
theorem ofC_length {us : List Nat} {m : Nat} : 1 ≤ (ofC us m).length ∧ (ofC us m).length ≤ 8 := by
  unfold ofC
  split
  · simp
  · rename_i h
    have : us.length ≠ 0 := fun h1 => h (List.eq_nil_of_length_eq_zero h1)
    simp; omega
theorem ofC_le {us : List Nat} {m : Nat} : ∀ c ∈ ofC us m, c ≤ m := by
  unfold ofC
  split
  · intro c hc; simp at hc; omega
  · intro c hc
    simp only [List.mem_map] at hc
    obtain ⟨a, _, rfl⟩ := hc
    have := Nat.mod_lt a (Nat.succ_pos m)
    exact Nat.le_of_lt_succ this
theorem rowH_get {us : List Nat} {i : Nat} (h : i < us.length) : (us.map sV)[i]? = some (sV (us.getD i 0)) := by simp [h, List.getD_eq_getElem?_getD]
theorem getD_lt {us : List Nat} {k i : Nat} (h : ∀ u ∈ us, u < k) (hi : i < us.length) : us.getD i 0 < k := by
  rw [List.getD_eq_getElem?_getD, List.getElem?_eq_getElem hi]; exact h _ (List.getElem_mem hi)
def nonceL (s c : Nat) : List UInt8 := be 4 s ++ be 8 c
theorem nonceL_length (s c : Nat) : (nonceL s c).length = 12 := by simp [nonceL, be_length]
theorem less_append : ∀ {a a' b b' : List UInt8}, a.length = a'.length → Op.bytesLess (a ++ b) (a' ++ b') = (Op.bytesLess a a' || (a == a' && Op.bytesLess b b'))
  | [], [], b, b', _ => by simp [Op.bytesLess]
  | [], _ :: _, _, _, h => by cases h
  | _ :: _, [], _, _, h => by cases h
  | x :: a, y :: a', b, b', h => by
    have ih := less_append (a := a) (a' := a') (b := b) (b' := b') (by simpa using h)
    simp only [List.cons_append, Op.bytesLess, ih, List.cons_beq_cons]
    cases decide (x < y) <;> cases (x == y) <;> simp
theorem eq_append {a a' b b' : List UInt8} (h : a.length = a'.length) : (a ++ b == a' ++ b') = (a == a' && b == b') := by
  rw [Bool.eq_iff_iff]
  simp only [beq_iff_eq, Bool.and_eq_true]
  exact ⟨fun he => List.append_inj he h, fun ⟨h1, h2⟩ => by rw [h1, h2]⟩
theorem nonce_less {s c s' c' : Nat} (hs : s < 4294967296) (hs' : s' < 4294967296) (hc : c < 18446744073709551616) (hc' : c' < 18446744073709551616) : Op.bytesLess (nonceL s c) (nonceL s' c') = decide (s < s' ∨ s = s' ∧ c < c') := by
  rw [nonceL, nonceL, less_append (by rw [be_length, be_length]), be_less (by omega) (by omega), be_beq (by omega) (by omega), be_less (by omega) (by omega)]
  simp
theorem nonce_eq {s c s' c' : Nat} (hs : s < 4294967296) (hs' : s' < 4294967296) (hc : c < 18446744073709551616) (hc' : c' < 18446744073709551616) : (nonceL s c == nonceL s' c') = decide (s = s' ∧ c = c') := by
  rw [nonceL, nonceL, eq_append (by rw [be_length, be_length]), be_beq (by omega) (by omega), be_beq (by omega) (by omega)]
  simp
def cmp1 (a b : Nat) : Int := if a < b then -1 else if b < a then 1 else 0
def cmpN (s c s' c' : Nat) : Int := if cmp1 s s' = 0 then cmp1 c c' else cmp1 s s'
theorem cmpN_neg (s c s' c' : Nat) : cmpN s' c' s c = - cmpN s c s' c' := by
  unfold cmpN cmp1
  repeat' split
  all_goals first | omega | rfl
theorem cmpN_less {s c s' c' : Nat} (h : s < s' ∨ s = s' ∧ c < c') : cmpN s c s' c' = -1 := by
  unfold cmpN cmp1
  repeat' split
  all_goals first | omega | rfl
theorem cmpN_same {s c s' c' : Nat} (h : s = s' ∧ c = c') : cmpN s c s' c' = 0 := by
  unfold cmpN cmp1
  repeat' split
  all_goals first | omega | rfl
theorem cmpN_more {s c s' c' : Nat} (h : ¬ (s < s' ∨ s = s' ∧ c < c')) (h2 : ¬ (s = s' ∧ c = c')) : cmpN s c s' c' = 1 := by
  unfold cmpN cmp1
  repeat' split
  all_goals first | omega | rfl

section
variable {P : Program} {B : Nat} {E : Env} {dst : Option Tmp} {ty : TypeId} {pos : String} {after : Array Edge} {guard : Option (Nat × Bool)}
theorem ok_lenU {t e : TypeId} {x : Operand} {f : D} {us : List Value} (m : Nat) (ht : P.underlying t = some (.slice e)) (hx : E.at x = some f) (hf : Le f (vlst us)) (hm : us.length = m) :
    OpOk P B ⟨dst, .call { callee := .builtin .len, args := #[x], argTypes := #[t] }, ty, pos, after, guard⟩ E (.v (.int .i64 (m : Int))) := by
  have := ok_len (P := P) (B := B) (dst := dst) (ty := ty) (pos := pos) (after := after) (guard := guard) ht hx hf
  rwa [List.length_map, hm] at this
theorem ok_capU {t e : TypeId} {x : Operand} {f : D} {us : List Value} {c : Nat} (ht : P.underlying t = some (.slice e)) (hx : E.at x = some f) (hf : Le f (vlist us c)) :
    OpOk P B ⟨dst, .call { callee := .builtin .cap, args := #[x], argTypes := #[t] }, ty, pos, after, guard⟩ E (.v (.int .i64 (c : Int))) := ok_cap ht hx hf
theorem ok_capV {t e : TypeId} {x : Operand} {A : Option Addr} {n c : Nat} (ht : P.underlying t = some (.slice e)) (hx : E.at x = some (.v (.slice A n c))) :
    OpOk P B ⟨dst, .call { callee := .builtin .cap, args := #[x], argTypes := #[t] }, ty, pos, after, guard⟩ E (.v (.int .i64 (c : Int))) := fun ρ w _ _ hρ => by
  have h1 : ρ x = .slice A n c := hρ x (by simp [Op.operands, Call.operands]) _ hx
  exact out_val (w' := w) (by simp [execOp, resolve, invoke, builtin, Builtin.cap_, run_underlying ht, h1, goInt]) ⟨Grow.refl w, rfl⟩
theorem ok_indexU {t e : TypeId} {z : Value} {nb : Nat} {x i : Operand} {f : D} {us : List Value} {k : IntKind} {u : Value} (m : Nat) (ht : P.underlying t = some (.slice e)) (hs : InfoIs P e z nb) (hx : E.at x = some f) (hf : Le f (vlst us)) (hi : E.at i = some (.v (.int k (m : Int))))
    (hu : us[m]? = some u) : OpOk P B ⟨dst, .indexAddr t x i, ty, pos, after, guard⟩ E (elem (.v u)) :=
  ok_index ht hs hx hf hi (Int.natCast_nonneg _) (by rw [Int.toNat_natCast, List.getElem?_map, hu]; rfl)
/-- A literal of some fields. -/
def LitS (E : Env) : List (Nat × Value) → List (Nat × Operand) → Prop
  | [], [] => True
  | (i, u) :: us, (j, x) :: ps => i = j ∧ E.at x = some (.v u) ∧ LitS E us ps
  | _, _ => False
theorem LitS.map {ρ : Operand → Value} : ∀ {us : List (Nat × Value)} {ps : List (Nat × Operand)}, LitS E us ps → (∀ x, x ∈ ps.map (·.2) → ∀ v, E.at x = some (.v v) → ρ x = v) → ps.map (fun p => (p.1, ρ p.2)) = us
  | [], [], _, _ => rfl
  | [], _ :: _, h, _ => h.elim
  | _ :: _, [], h, _ => h.elim
  | (i, u) :: us, (j, x) :: ps, ⟨h1, h2, h3⟩, hρ => by
    subst h1
    simp only [List.map_cons, hρ x (by simp) u h2]
    rw [LitS.map h3 fun y hy v hv => hρ y (by simp only [List.map_cons, List.mem_cons]; exact .inr hy) v hv]
theorem ok_litS {t : TypeId} {ps : Array (Nat × Operand)} (us : List (Nat × Value)) (ys : List Value) (hl : LitS E us ps.toList) (hb : P.built t us = some ys.toArray) : OpOk P B ⟨dst, .build t ps, ty, pos, after, guard⟩ E (.v (aggV ys)) :=
  ok_lit us ys (fun _ hρ => hl.map hρ) hb
theorem ok_buildS {t : TypeId} {x : Operand} {ps : Array (Nat × Operand)} {f : D} {rest : List Value} {l : List (Nat × Operand)} (ks : List (Nat × Value)) (hps : ps.toList = (0, x) :: l) (hx : E.at x = some f) (hf : ∀ B w u, f.OfB B w u → ∃ A m c, u = .slice A m c)
    (hl : LitS E ks l) (hb : ∀ A m c, P.built t ((0, .slice A m c) :: ks) = some (Value.slice A m c :: rest : List Value).toArray) : OpOk P B ⟨dst, .build t ps, ty, pos, after, guard⟩ E (hdD f rest) :=
  ok_buildH hps hx hf (fun _ hρ => hl.map hρ) hb
end
theorem fresh_slice {b : Nat} {e : TypeId} {xs : List Value} {n : Nat} : ∀ B w u, (fresh b e xs n).OfB B w u → ∃ A m c, u = .slice A m c := fun _ _ _ ⟨_, h, _⟩ => ⟨_, _, _, h⟩
theorem vlist_slice {us : List Value} {c : Nat} : ∀ B w u, (vlist us c).OfB B w u → ∃ A m c, u = .slice A m c := fun _ _ _ h => by obtain ⟨A, h, _⟩ := vlist_open h; exact ⟨_, _, _, h⟩
theorem fresh_vlist {b : Nat} {e : TypeId} {xs : List Value} {n : Nat} (hn : n = xs.length) (hm : n ≤ maxLen) : Le (fresh b e xs n) (vlist xs n) := fun B w x ⟨g, h1, h2, h3, h4⟩ => by
  subst h1; subst hn
  exact slice_vlist xs rfl (Nat.le_refl _) hm (List.take_length ..) B w h3 h4
section
variable {P : Program} {n B : Nat} {ops : Array Oper} {E : Env} {ty : TypeId} {pos : String} {after : Array Edge}
/-- A call of a function value that writes one block. -/
theorem eff_callVR {f : FuncId} {M : Env} {T g s dst : Nat} {xs ys us : List Value} {ds : List D} {u : Value} {x : Operand} {args : Array Operand} {argTypes : Array TypeId} {E' : Env} (hf : FnWR P f M T g xs ys (ds ++ us.map D.v) u) (hM : ∀ p ∈ M, ∃ k, vbase ≤ k ∧ E.look k = some p.2)
    (hx : E.at x = some (.v (.func (.func f) #[] us.toArray))) (ha : Args E ds args.toList) (hg : B ≤ g) (hblk : E.look s = some (blk g T xs)) (hn : n ≤ vbase) (hdst : dst < n) (hl : LeftS B T g E' E) :
    Eff P n B ops ⟨some dst, .call { callee := .value x, args := args, argTypes := argTypes }, ty, pos, after, none⟩ E ((dst, .v u) :: (s, blk g T ys) :: E') := by
  intro κ a w K Q h hK
  obtain ⟨fn, h1, h2, h3⟩ := hf.body
  have hfun : a.eval x = .func (.func f) #[] us.toArray := h.at_ x _ hx
  have hrun : (execOp a.eval ⟨some dst, .call { callee := .value x, args := args, argTypes := argTypes }, ty, pos, after, none⟩).run P w = .ok (.enter f (args.map a.eval ++ us.toArray)) w := by
    have h2' : ¬ fn.name = "runtime.NumGoroutine" := by simpa using h2
    have h3' : ¬ fn.body = none := by intro h; rw [h] at h3; cases h3
    simp [execOp, resolve, Deferred.ofValue, hfun, invoke, callFunc, h1, h2', h3']
  obtain ⟨hlt, hh⟩ := h.of s _ hblk
  have hcall := hf.calls (args.toList.map a.eval ++ us) w (by simp [ha.length]) (fun j e v he hv => by
    rcases Nat.lt_or_ge j ds.length with hj | hj
    · rw [List.getElem?_append_left hj] at he
      rw [List.getElem?_append_left (by rw [List.length_map, ← ha.length]; exact hj), List.getElem?_map] at hv
      cases hxj : args.toList[j]? with
      | none => rw [hxj] at hv; cases hv
      | some y =>
        rw [hxj] at hv; injection hv with hv; subst hv
        obtain ⟨e', h4, h5⟩ := ha.nth he hxj
        exact h5.of (h.at_ y _ h4)
    · rw [List.getElem?_append_right hj, List.getElem?_map] at he
      rw [List.getElem?_append_right (by rw [List.length_map, ← ha.length]; exact hj), List.length_map, ← ha.length] at hv
      rw [hv] at he
      injection he with he; subst he; rfl) (fun p hp => by
    obtain ⟨k, h4, h5⟩ := hM p hp
    have h6 := h.of k _ h5
    rwa [show a.tmps.getD k undef = undef from by
      rw [Array.getD_eq_getD_getElem?, Array.getElem?_eq_none (by rw [h.size]; omega)]; rfl] at h6) hlt hh
  have harr : (args.toList.map a.eval ++ us).toArray = args.map a.eval ++ us.toArray := by apply Array.ext'; simp
  rw [harr] at hcall
  rw [if_pos (by simp [Region.wanted])]
  refine opR (by nofun) ?_
  unfold Oper.wp
  rw [hrun, Oper.upon_enter]
  refine Calls.mono hcall ?_
  rintro e w' ⟨rfl, hw, hh'⟩
  have hwr : Wrote B T g w w' := ⟨hg, hw.os, hw.tape, hw.output, hw.size, hw.cel, hw.other⟩
  have hst := hl.st h hwr
  have hlt' : g < w'.heap.size := (Array.getElem?_eq_some_iff.1 hh').1
  exact hK _ _ (hwr.below h.base) (St.put (hst.push (d := blk g T ys) ⟨hlt', hh'⟩) hdst rfl)
theorem End.wrote0 {w₀ w₁ : World} {fn : Func} {T g kb kw : Nat} {xs ys : List Value} {x : Exit} (hex : x = .ret ∨ x = .normal) (hr : fn.results = #[]) (hb : E.look kb = some (blk g T xs)) (hx : xs = ys) (hw : E.look kw = some (wroteD T g w₁)) :
    End Cx.top w₀ n E (BP P fn (fun e w' => e = .returned (.tuple #[]) ∧ Wrote g T g w₁ w' ∧ w'.heap[g]? = some (.cells ys.toArray T (0, 0))) x) := fun a w _ hs => by
  subst hx
  have key : LeavesInM (FR none) 0 P fn a.tmps (fun e w' => e = .returned (.tuple #[]) ∧ Wrote g T g w₁ w' ∧ w'.heap[g]? = some (.cells xs.toArray T (0, 0))) a.defers .returning w := by
    rw [show a.defers = [] from hs.defers]
    exact ⟨.tuple #[], by simp [results, hr], rfl, (hs.of kw _ hw).2, (hs.of kb _ hb).2⟩
  rcases hex with rfl | rfl
  · exact key
  · exact key
end
end Go.Proofs.Ytdnblilocdddpaa
