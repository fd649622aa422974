/-
  OWN WORDS, PART TWO: the facts (a slice that reads as a list, a block known whole, a slice just made), the operations by facts, the code by facts, a function's contract by facts. Nothing of one program stands here.
-/
import Derived.Test.YtdnblilocdddpaaAbs
import Derived.Great.BuildSlice
import Derived.Maps.AppendAt
import Derived.ArgAppend
namespace Go.Proofs.Ytdnblilocdddpaa
open Go Go.RowKit

/-! ### Facts -/
def Le (e d : D) : Prop := ∀ B w x, e.OfB B w x → d.OfB B w x
theorem Le.refl (d : D) : Le d d := fun _ _ _ h => h
theorem Le.trans {a b c : D} (h : Le a b) (k : Le b c) : Le a c := fun B w x hx => k B w x (h B w x hx)
theorem Le.v {x y : Value} (h : x = y) : Le (.v x) (.v y) := h ▸ Le.refl _
theorem Le.eq {d e : D} (h : d = e) : Le d e := h ▸ Le.refl _
theorem Le.of {e d : D} (h : Le e d) {w : World} {x : Value} (hx : e.Of w x) : d.Of w x := h _ _ _ hx

/-- What lay below block B when the function was called stays as it was. -/
def old (B : Nat) (d : D) : D := .p (fun B' w x => B ≤ B' ∧ d.OfB B w x) (fun _ _ _ _ g h => ⟨h.1, D.OfB.keep h.2 (g.mono h.1)⟩) (fun _ _ _ _ g h => ⟨Nat.le_trans h.1 g, h.2⟩)
theorem Le.old (B : Nat) (d : D) : Le (old B d) d := fun _ _ _ h => D.OfB.up h.2 h.1
theorem Le.old' {B : Nat} {e d : D} (h : Le e d) : Le (Go.Proofs.Ytdnblilocdddpaa.old B e) d := (Le.old B e).trans h
/-- It stays while memory below B stays. -/
def Stays (B : Nat) (d : D) : Prop := ∀ w w' x, Below B w w' → B ≤ w.heap.size → d.Of w x → d.Of w' x
theorem Stays.v (B : Nat) (x : Value) : Stays B (.v x) := fun _ _ _ _ _ h => h
theorem Stays.old (B : Nat) (d : D) : Stays B (Go.Proofs.Ytdnblilocdddpaa.old B d) := fun _ _ _ g hb h => ⟨Nat.le_trans hb g.size, D.OfB.keep h.2 g⟩

/-- Slots that hold the values vs, from an address on, below block B. -/
def RowIn (B : Nat) (w : World) (A : Option Addr) (vs : List Value) : Prop := ∀ (j : Nat) (u : Value), vs[j]? = some u → ∃ ad, A = some ad ∧ ad.block < B ∧ w.cell? (ad.add j) = some u
theorem block_of_add (a : Addr) (n : Nat) : (a.add n).block = a.block := by unfold Addr.add; split <;> rfl
theorem add_of_add (a : Addr) (i j : Nat) : (a.add i).add j = a.add (i + j) := by
  unfold Addr.add
  by_cases hi : i = 0 <;> by_cases hj : j = 0 <;> simp [hi, hj, Nat.add_assoc]
theorem RowIn.keep {B : Nat} {w w' : World} {A : Option Addr} {vs : List Value} (h : RowIn B w A vs) (g : Below B w w') : RowIn B w' A vs := fun j u hu => by
  obtain ⟨ad, h1, h2, h3⟩ := h j u hu
  exact ⟨ad, h1, h2, (g.cell (p := ad.add j) (by rw [block_of_add]; exact h2)).trans h3⟩
theorem RowIn.up {B B' : Nat} {w : World} {A : Option Addr} {vs : List Value} (h : RowIn B w A vs) (g : B ≤ B') : RowIn B' w A vs := fun j u hu => by
  obtain ⟨ad, h1, h2, h3⟩ := h j u hu
  exact ⟨ad, h1, by omega, h3⟩
theorem RowIn.nil {B : Nat} {w : World} {A : Option Addr} : RowIn B w A [] := fun j u h => by simp at h
theorem RowIn.cell {B : Nat} {w : World} {ad : Addr} {vs : List Value} (h : RowIn B w (some ad) vs) : ∀ (j : Nat) (u : Value), vs[j]? = some u → w.cell? (ad.add j) = some u := fun j u hu => by
  obtain ⟨ad', h1, _, h3⟩ := h j u hu
  injection h1 with h1; subst h1; exact h3

/-- A slice of c places whose elements, of one cell each, are as ds says. -/
def ListF (ds : List D) (c B : Nat) (w : World) (x : Value) : Prop :=
  ∃ (A : Option Addr) (vs : List Value), x = .slice A ds.length c ∧ ds.length ≤ c ∧ c ≤ maxLen ∧ vs.length = ds.length ∧ RowIn B w A vs ∧ ∀ (j : Nat) (d : D) (u : Value), ds[j]? = some d → vs[j]? = some u → d.OfB B w u
theorem ListF.keep {ds : List D} {c B : Nat} {w w' : World} {x : Value} (g : Below B w w') : ListF ds c B w x → ListF ds c B w' x :=
  fun ⟨A, vs, h1, h2, h3, h4, h5, h6⟩ => ⟨A, vs, h1, h2, h3, h4, h5.keep g, fun j d u hd hu => (h6 j d u hd hu).keep g⟩
theorem ListF.up {ds : List D} {c B B' : Nat} {w : World} {x : Value} (g : B ≤ B') : ListF ds c B w x → ListF ds c B' w x :=
  fun ⟨A, vs, h1, h2, h3, h4, h5, h6⟩ => ⟨A, vs, h1, h2, h3, h4, h5.up g, fun j d u hd hu => (h6 j d u hd hu).up g⟩
def list (ds : List D) (c : Nat) : D := .p (ListF ds c) (fun _ _ _ _ g h => h.keep g) (fun _ _ _ _ g h => h.up g)
def byteV (b : UInt8) : Value := .int .u8 (b.toNat : Int)
def byteD (b : UInt8) : D := .v (byteV b)
/-- A slice of bytes, of c places. -/
def bytes (l : List UInt8) (c : Nat) : D := list (l.map byteD) c
/-- The same, of whatever capacity. -/
def lst (ds : List D) : D := .p (fun B w x => ∃ c, ListF ds c B w x) (fun _ _ _ _ g ⟨c, h⟩ => ⟨c, h.keep g⟩) (fun _ _ _ _ g ⟨c, h⟩ => ⟨c, h.up g⟩)
def byt (l : List UInt8) : D := lst (l.map byteD)
theorem le_lst (ds : List D) (c : Nat) : Le (list ds c) (lst ds) := fun _ _ _ h => ⟨c, h⟩
theorem le_byt (l : List UInt8) (c : Nat) : Le (bytes l c) (byt l) := le_lst _ c
/-- An address at which the one cell is as d says. -/
def ElemF (d : D) (B : Nat) (w : World) (x : Value) : Prop := ∃ (ad : Addr) (u : Value), x = .pointer (some ad) ∧ ad.block < B ∧ w.cell? ad = some u ∧ d.OfB B w u
theorem ElemF.keep {d : D} {B : Nat} {w w' : World} {x : Value} (g : Below B w w') : ElemF d B w x → ElemF d B w' x := fun ⟨ad, u, h1, h2, h3, h4⟩ => ⟨ad, u, h1, h2, (g.cell h2).trans h3, h4.keep g⟩
theorem ElemF.up {d : D} {B B' : Nat} {w : World} {x : Value} (g : B ≤ B') : ElemF d B w x → ElemF d B' w x := fun ⟨ad, u, h1, h2, h3, h4⟩ => ⟨ad, u, h1, by omega, h3, h4.up g⟩
def elem (d : D) : D := .p (ElemF d) (fun _ _ _ _ g h => h.keep g) (fun _ _ _ _ g h => h.up g)
/-- Several results at once. -/
def TupF (ds : List D) (B : Nat) (w : World) (x : Value) : Prop := ∃ xs : List Value, x = .tuple xs.toArray ∧ xs.length = ds.length ∧ ∀ (j : Nat) (d : D) (u : Value), ds[j]? = some d → xs[j]? = some u → d.OfB B w u
theorem TupF.keep {ds : List D} {B : Nat} {w w' : World} {x : Value} (g : Below B w w') : TupF ds B w x → TupF ds B w' x := fun ⟨xs, h1, h2, h3⟩ => ⟨xs, h1, h2, fun j d u hd hu => (h3 j d u hd hu).keep g⟩
theorem TupF.up {ds : List D} {B B' : Nat} {w : World} {x : Value} (g : B ≤ B') : TupF ds B w x → TupF ds B' w x := fun ⟨xs, h1, h2, h3⟩ => ⟨xs, h1, h2, fun j d u hd hu => (h3 j d u hd hu).up g⟩
def tup (ds : List D) : D := .p (TupF ds) (fun _ _ _ _ g h => h.keep g) (fun _ _ _ _ g h => h.up g)
/-- Block b is a row of the cells xs (of no slot: it stands in the environment under a number that is no slot's). -/
def blk (b : Nat) (e : TypeId) (xs : List Value) : D :=
  .p (fun B w _ => b < B ∧ w.heap[b]? = some (.cells xs.toArray e (0, 0))) (fun _ _ _ _ g h => ⟨h.1, (g.block b h.1).trans h.2⟩) (fun _ _ _ _ g h => ⟨by omega, h.2⟩)
/-- A slice of n elements at the head of a block of the call's own. -/
def fresh (base : Nat) (e : TypeId) (xs : List Value) (n : Nat) : D :=
  .p (fun B w x => ∃ b, x = .slice (some ⟨b, 0, none⟩) n xs.length ∧ base ≤ b ∧ b < B ∧ w.heap[b]? = some (.cells xs.toArray e (0, 0)))
    (fun _ _ _ _ g ⟨b, h1, h2, h3, h4⟩ => ⟨b, h1, h2, h3, (g.block b h3).trans h4⟩) (fun _ _ _ _ g ⟨b, h1, h2, h3, h4⟩ => ⟨b, h1, h2, by omega, h4⟩)
/-- A slice that owns the cells xs: nil, or at the head of a block of the call's own, with or without room behind. -/
def own (base : Nat) (e : TypeId) (n : Nat) (xs : List Value) : D :=
  .p (fun B w x => w.ownsRow base e 1 x n xs ∧ ∀ g, x.ownBlock = some g → g < B)
    (fun B w w' x g ⟨h1, h2⟩ => ⟨by
      obtain ⟨h3, h4⟩ := h1
      refine ⟨h3, h4.imp id ?_⟩
      rintro ⟨k, cap, cur, rfl, hk, hh, hr⟩
      exact ⟨k, cap, cur, rfl, hk, (g.block k (h2 k (by simp [Value.ownBlock]))).trans hh, hr⟩, h2⟩)
    (fun _ _ _ _ g ⟨h1, h2⟩ => ⟨h1, fun k hk => Nat.lt_of_lt_of_le (h2 k hk) g⟩)
def str (l : List UInt8) : D := .v (.string ⟨l.toArray⟩)

theorem byt_nil_le : Le (.v (.slice none 0 0)) (byt []) := fun B w x h => ⟨0, none, [], by simpa [D.OfB] using h, Nat.zero_le _, Nat.zero_le _, rfl, RowIn.nil, fun j d u hd => by simp at hd⟩
theorem lst_nil_le : Le (.v (.slice none 0 0)) (lst []) := byt_nil_le
theorem bytes_nil_le : Le (.v (.slice none 0 0)) (bytes [] 0) := fun B w x h => ⟨none, [], by simpa [D.OfB] using h, Nat.zero_le _, Nat.zero_le _, rfl, RowIn.nil, fun j d u hd => by simp at hd⟩
theorem list_nil_le : Le (.v (.slice none 0 0)) (list [] 0) := fun B w x h => ⟨none, [], by simpa [D.OfB] using h, Nat.zero_le _, Nat.zero_le _, rfl, RowIn.nil, fun j d u hd => by simp at hd⟩
theorem list_le {ds es : List D} {c : Nat} (hl : ds.length = es.length) (h : ∀ (j : Nat) (d e : D), ds[j]? = some d → es[j]? = some e → Le d e) : Le (list ds c) (list es c) := by
  rintro B w x ⟨A, vs, rfl, h2, h3, h4, h5, h6⟩
  refine ⟨A, vs, by rw [hl], by omega, h3, by omega, h5, fun j e u he hu => ?_⟩
  have hj : j < ds.length := by have := (List.getElem?_eq_some_iff.1 he).1; omega
  exact h j ds[j] e (List.getElem?_eq_getElem hj) he B w u (h6 j _ u (List.getElem?_eq_getElem hj) hu)
/-- The values of a slice of bytes. -/
theorem bytes_open {l : List UInt8} {c B : Nat} {w : World} {x : Value} (h : (bytes l c).OfB B w x) : ∃ A, x = .slice A l.length c ∧ l.length ≤ c ∧ c ≤ maxLen ∧ RowIn B w A (l.map byteV) := by
  obtain ⟨A, vs, h1, h2, h3, h4, h5, h6⟩ := h
  simp only [List.length_map] at h1 h2 h4
  refine ⟨A, h1, h2, h3, ?_⟩
  have : vs = l.map byteV := by
    apply List.ext_getElem?
    intro j
    rcases Nat.lt_or_ge j l.length with hj | hj
    · have hu : vs[j]? = some vs[j] := List.getElem?_eq_getElem (by omega)
      have := h6 j (byteD l[j]) vs[j] (by simp [hj]) hu
      rw [hu, this]; simp [hj]
    · rw [List.getElem?_eq_none (by omega), List.getElem?_eq_none (by simpa using hj)]
  rw [← this]; exact h5
theorem bytes_mk {l : List UInt8} {c B : Nat} {w : World} {A : Option Addr} (h1 : l.length ≤ c) (h2 : c ≤ maxLen) (h : RowIn B w A (l.map byteV)) : (bytes l c).OfB B w (.slice A l.length c) :=
  ⟨A, l.map byteV, by simp, by simpa using h1, h2, by simp, h, fun j d u hd hu => by
    simp only [List.getElem?_map] at hd hu
    cases hj : l[j]? with
    | none => rw [hj] at hd; cases hd
    | some b => rw [hj] at hd hu; simp at hd hu; subst hd; subst hu; rfl⟩
theorem blk_row {b B : Nat} {e : TypeId} {xs : List Value} {w : World} (hb : b < B) (h : w.heap[b]? = some (.cells xs.toArray e (0, 0))) (n : Nat) : RowIn B w (some ⟨b, 0, none⟩) (xs.take n) := fun j u hu => by
  refine ⟨_, rfl, hb, ?_⟩
  rw [List.getElem?_take] at hu
  split at hu
  · have : (⟨b, 0, none⟩ : Addr).add j = ⟨b, j, none⟩ := by unfold Addr.add; split <;> simp_all
    rw [this]
    simp [World.cell?, h, hu]
  · cases hu

/-- The row of an element type in the table of types: its zero value, one cell, its bytes. -/
def InfoIs (P : Program) (e : TypeId) (z : Value) (nb : Nat) : Prop := (P.info? e).map (fun i => (i.zero, i.size, i.bytes)) = some (some z, 1, nb)
theorem InfoIs.get {P : Program} {e : TypeId} {z : Value} {nb : Nat} (h : InfoIs P e z nb) : ∃ i, P.info? e = some i ∧ i.zero = some z ∧ i.size = 1 ∧ i.bytes = nb := by
  unfold InfoIs at h
  cases hi : P.info? e with
  | none => rw [hi] at h; cases h
  | some i => rw [hi] at h; simp only [Option.map_some, Option.some.injEq, Prod.mk.injEq] at h; exact ⟨i, rfl, h.1, h.2.1, h.2.2⟩

/-! ### Operations by facts -/
section
variable {P : Program} {B : Nat} {E : Env} {dst : Option Tmp} {ty : TypeId} {pos : String} {after : Array Edge} {guard : Option (Nat × Bool)}

theorem out_val {o : Oper} {ρ : Operand → Value} {w : World} {K : Value → World → Prop} {x : Value} {w' : World} (h : (execOp ρ o).run P w = .ok (.value x) w') (hK : K x w') : Out P o ρ w K := by
  unfold Out; rw [h]; exact hK
theorem OpOk.le {o : Oper} {d d' : D} (h : OpOk P B o E d) (hd : Le d d') : OpOk P B o E d' := fun ρ w hB hv hρ => (h ρ w hB hv hρ).mono fun _ _ hx => ⟨hx.1, hd.of hx.2⟩
theorem ok_move {x : Operand} {d : D} (h : E.at x = some d) : OpOk P B ⟨dst, .move x, ty, pos, after, guard⟩ E d := fun ρ w _ _ hρ =>
  out_val (by simp [execOp]) ⟨Grow.refl w, hρ x (by simp [Op.operands]) d h⟩
theorem ok_assign {x : Operand} {d : D} (h : E.at x = some d) : OpOk P B ⟨dst, .assign x, ty, pos, after, guard⟩ E d := fun ρ w _ _ hρ =>
  out_val (by simp [execOp]) ⟨Grow.refl w, hρ x (by simp [Op.operands]) d h⟩
theorem ok_pick {c x y : Operand} {b : Bool} {d : D} (hc : E.at c = some (.v (.bool b))) (h : E.at (cond b x y) = some d) : OpOk P B ⟨dst, .pick c x y, ty, pos, after, guard⟩ E d := fun ρ w _ _ hρ => by
  have h1 : ρ c = .bool b := hρ c (by simp [Op.operands]) _ hc
  refine out_val (x := ρ (cond b x y)) (w' := w) (by simp [execOp, h1, asBool]; cases b <;> rfl) ⟨Grow.refl w, hρ _ ?_ d h⟩
  cases b <;> simp [Op.operands]
/-- The value of an operation on numbers, strings, bools: as the model reckons it. -/
def binV (op : BinOp) (x y : Value) : Option Value :=
  match op, x, y with
  | .add, .int k a, .int k' b => if k = k' then some (.int k (k.wrap (a + b))) else none
  | .sub, .int k a, .int k' b => if k = k' then some (.int k (k.wrap (a - b))) else none
  | .mul, .int k a, .int k' b => if k = k' then some (.int k (k.wrap (a * b))) else none
  | .eql, .int k a, .int k' b => if k = k' then some (.bool (a == b)) else none
  | .neq, .int k a, .int k' b => if k = k' then some (.bool (a != b)) else none
  | .lss, .int k a, .int k' b => if k = k' then some (.bool (decide (a < b))) else none
  | .leq, .int k a, .int k' b => if k = k' then some (.bool (decide (a ≤ b))) else none
  | .gtr, .int k a, .int k' b => if k = k' then some (.bool (decide (a > b))) else none
  | .geq, .int k a, .int k' b => if k = k' then some (.bool (decide (a ≥ b))) else none
  | .and, .int k a, .int k' b => if k = k' then some (.int k (k.wrap (BitVec.ofInt k.bits a &&& BitVec.ofInt k.bits b).toNat)) else none
  | .or, .int k a, .int k' b => if k = k' then some (.int k (k.wrap (BitVec.ofInt k.bits a ||| BitVec.ofInt k.bits b).toNat)) else none
  | .xor, .int k a, .int k' b => if k = k' then some (.int k (k.wrap (BitVec.ofInt k.bits a ^^^ BitVec.ofInt k.bits b).toNat)) else none
  | .andNot, .int k a, .int k' b => if k = k' then some (.int k (k.wrap (BitVec.ofInt k.bits a &&& ~~~ BitVec.ofInt k.bits b).toNat)) else none
  | .eql, .string a, .string b => some (.bool (a.toList == b.toList))
  | .neq, .string a, .string b => some (.bool (!(a.toList == b.toList)))
  | .lss, .string a, .string b => some (.bool (Op.bytesLess a.toList b.toList))
  | _, _, _ => none
theorem binV_run {op : BinOp} {x y c : Value} (h : binV op x y = some c) (t : TypeId) (w : World) : (binOp op t x y).run P w = .ok c w := by
  unfold binV at h
  split at h <;> first
    | (cases h; done)
    | (split at h
       · rename_i hk; subst hk; injection h with h; subst h
         simp [binOp, Op.intArith, Op.intCmp, Op.intBits]
       · cases h)
    | (injection h with h; subst h; simp [binOp, Op.stringOp])
theorem eqGuard_scalar {op : BinOp} {a b : Value} (h : ∃ c, binV op a b = some c) (t : TypeId) (x y : Operand) (w : World) : (eqGuard op t x y a b).run P w = .ok () w := by
  obtain ⟨c, h⟩ := h
  unfold binV at h
  split at h <;> first
    | (cases h; done)
    | (simp [eqGuard]; done)
theorem ok_bin {op : BinOp} {t t' : TypeId} {x y : Operand} {a b c : Value} (hx : E.at x = some (.v a)) (hy : E.at y = some (.v b)) (h : binV op a b = some c) : OpOk P B ⟨dst, .binOp op t x y t', ty, pos, after, guard⟩ E (.v c) := fun ρ w _ _ hρ => by
  have h1 : ρ x = a := hρ x (by simp [Op.operands]) _ hx
  have h2 : ρ y = b := hρ y (by simp [Op.operands]) _ hy
  exact out_val (x := c) (w' := w) (by simp [execOp, h1, h2, eqGuard_scalar ⟨c, h⟩, binV_run h]) ⟨Grow.refl w, rfl⟩
/-- The same, the value told by hand. -/
theorem ok_bin' {op : BinOp} {t t' : TypeId} {x y : Operand} {a b : Value} (c : Value) (hx : E.at x = some (.v a)) (hy : E.at y = some (.v b)) (h : binV op a b = some c) : OpOk P B ⟨dst, .binOp op t x y t', ty, pos, after, guard⟩ E (.v c) := ok_bin hx hy h
theorem ok_div {t t' : TypeId} {x y : Operand} {k : IntKind} {a b : Int} (hx : E.at x = some (.v (.int k a))) (hy : E.at y = some (.v (.int k b))) (h : b ≠ 0) : OpOk P B ⟨dst, .binOp .quo t x y t', ty, pos, after, guard⟩ E (.v (.int k (k.wrap (a.tdiv b)))) := fun ρ w _ _ hρ => by
  have h1 := hρ x (by simp [Op.operands]) _ hx
  have h2 := hρ y (by simp [Op.operands]) _ hy
  exact out_val (w' := w) (by simp [execOp, (show ρ x = _ from h1), (show ρ y = _ from h2), eqGuard, binOp, Op.intDiv, h]) ⟨Grow.refl w, rfl⟩
theorem ok_rem {t t' : TypeId} {x y : Operand} {k : IntKind} {a b : Int} (hx : E.at x = some (.v (.int k a))) (hy : E.at y = some (.v (.int k b))) (h : b ≠ 0) : OpOk P B ⟨dst, .binOp .rem t x y t', ty, pos, after, guard⟩ E (.v (.int k (a.tmod b))) := fun ρ w _ _ hρ => by
  have h1 := hρ x (by simp [Op.operands]) _ hx
  have h2 := hρ y (by simp [Op.operands]) _ hy
  exact out_val (w' := w) (by simp [execOp, (show ρ x = _ from h1), (show ρ y = _ from h2), eqGuard, binOp, Op.intDiv, h]) ⟨Grow.refl w, rfl⟩
theorem ok_shl {t t' : TypeId} {x y : Operand} {k k' : IntKind} {a b : Int} (hx : E.at x = some (.v (.int k a))) (hy : E.at y = some (.v (.int k' b))) (h : 0 ≤ b) : OpOk P B ⟨dst, .binOp .shl t x y t', ty, pos, after, guard⟩ E (.v (.int k (k.wrap (a * 2 ^ min b.toNat k.bits)))) := fun ρ w _ _ hρ => by
  have h1 := hρ x (by simp [Op.operands]) _ hx
  have h2 := hρ y (by simp [Op.operands]) _ hy
  exact out_val (w' := w) (by simp [execOp, (show ρ x = _ from h1), (show ρ y = _ from h2), eqGuard, binOp, Op.shift, show ¬ b < 0 from by omega]) ⟨Grow.refl w, rfl⟩
theorem ok_shr {t t' : TypeId} {x y : Operand} {k k' : IntKind} {a b : Int} (hx : E.at x = some (.v (.int k a))) (hy : E.at y = some (.v (.int k' b))) (h : 0 ≤ b) : OpOk P B ⟨dst, .binOp .shr t x y t', ty, pos, after, guard⟩ E (.v (.int k (a.fdiv (2 ^ min b.toNat k.bits)))) := fun ρ w _ _ hρ => by
  have h1 := hρ x (by simp [Op.operands]) _ hx
  have h2 := hρ y (by simp [Op.operands]) _ hy
  exact out_val (w' := w) (by simp [execOp, (show ρ x = _ from h1), (show ρ y = _ from h2), eqGuard, binOp, Op.shift, show ¬ b < 0 from by omega]) ⟨Grow.refl w, rfl⟩
theorem ok_beq {t t' : TypeId} {x y : Operand} {a b : Bool} (ht : P.underlying t = some .bool) (hx : E.at x = some (.v (.bool a))) (hy : E.at y = some (.v (.bool b))) : OpOk P B ⟨dst, .binOp .eql t x y t', ty, pos, after, guard⟩ E (.v (.bool (a == b))) := fun ρ w _ _ hρ => by
  have h1 := hρ x (by simp [Op.operands]) _ hx
  have h2 := hρ y (by simp [Op.operands]) _ hy
  have h3 : (Op.equalIn 10000 t (.bool a) (.bool b)).run P w = .ok (a == b) w := by
    rw [show 10000 = 9999 + 1 from rfl, Op.equalIn]
    simp [run_underlying ht]
  have h4 : (binOp .eql t (.bool a) (.bool b)).run P w = .ok (.bool (a == b)) w := by
    simp only [binOp, Op.equal, Op.maxDepth, Sem.run_bind, h3, Result.andThen_ok, Sem.run_pure]
  exact out_val (w' := w) (by simp [execOp, (show ρ x = _ from h1), (show ρ y = _ from h2), eqGuard, h4]) ⟨Grow.refl w, rfl⟩
theorem ok_seq {t t' : TypeId} {x y : Operand} {a b : List UInt8} (hx : E.at x = some (str a)) (hy : E.at y = some (str b)) : OpOk P B ⟨dst, .binOp .eql t x y t', ty, pos, after, guard⟩ E (.v (.bool (a == b))) :=
  ok_bin hx hy (by simp only [binV, ByteArray.toList_mk])
theorem ok_sne {t t' : TypeId} {x y : Operand} {a b : List UInt8} (hx : E.at x = some (str a)) (hy : E.at y = some (str b)) : OpOk P B ⟨dst, .binOp .neq t x y t', ty, pos, after, guard⟩ E (.v (.bool (!(a == b)))) :=
  ok_bin hx hy (by simp only [binV, ByteArray.toList_mk])
theorem ok_slt {t t' : TypeId} {x y : Operand} {a b : List UInt8} (hx : E.at x = some (str a)) (hy : E.at y = some (str b)) : OpOk P B ⟨dst, .binOp .lss t x y t', ty, pos, after, guard⟩ E (.v (.bool (Op.bytesLess a b))) :=
  ok_bin hx hy (by simp only [binV, ByteArray.toList_mk])
theorem ok_not {t : TypeId} {x : Operand} {a : Bool} (hx : E.at x = some (.v (.bool a))) : OpOk P B ⟨dst, .unOp .not t x, ty, pos, after, guard⟩ E (.v (.bool (!a))) := fun ρ w _ _ hρ => by
  have h1 := hρ x (by simp [Op.operands]) _ hx
  exact out_val (w' := w) (by simp [execOp, (show ρ x = _ from h1), Op.unary]) ⟨Grow.refl w, rfl⟩
theorem ok_neg {t : TypeId} {x : Operand} {k : IntKind} {a : Int} (hx : E.at x = some (.v (.int k a))) : OpOk P B ⟨dst, .unOp .neg t x, ty, pos, after, guard⟩ E (.v (.int k (k.wrap (0 - a)))) := fun ρ w _ _ hρ => by
  have h1 := hρ x (by simp [Op.operands]) _ hx
  exact out_val (w' := w) (by simp [execOp, (show ρ x = _ from h1), Op.unary, Op.intArith]) ⟨Grow.refl w, rfl⟩
theorem ok_conv {s t : TypeId} {x : Operand} {k k' : IntKind} {a : Int} (hs : P.underlying s = some (.int k')) (ht : P.underlying t = some (.int k)) (hx : E.at x = some (.v (.int k' a))) : OpOk P B ⟨dst, .convert s t x, ty, pos, after, guard⟩ E (.v (.int k (k.wrap a))) := fun ρ w _ _ hρ => by
  have h1 := hρ x (by simp [Op.operands]) _ hx
  exact out_val (w' := w) (by simp [execOp, (show ρ x = _ from h1), convert, run_underlying hs, run_underlying ht, Conv.intToInt]) ⟨Grow.refl w, rfl⟩
theorem run_bytes_string {s t e : TypeId} (hs : P.underlying s = some (.slice e)) (he : P.underlying e = some (.int .u8)) (ht : P.underlying t = some .string) {w : World} {l : List UInt8} {x : Value} (h : (byt l).Of w x) :
    (convert s t x).run P w = .ok (.string ⟨l.toArray⟩) w := by
  obtain ⟨c, h⟩ := h
  obtain ⟨A, rfl, _, _, hr⟩ := bytes_open (l := l) h
  rw [run_convert_bytes_string w s t e A _ _ hs he ht]
  have hfold : ∀ (l : List UInt8) (r : ByteArray), (l.map fun b => (b.toNat : Int)).foldl (fun r n => r.push (UInt8.ofNat n.toNat)) r = ⟨r.data ++ l.toArray⟩ := by
    intro l
    induction l with
    | nil => intro r; simp
    | cons b l ih =>
      intro r
      simp only [List.map_cons, List.foldl_cons, ih]
      congr 1
      simp [ByteArray.push]
  cases A with
  | none =>
    have : l = [] := by
      cases l with
      | nil => rfl
      | cons b l => obtain ⟨ad, h, _⟩ := hr 0 (byteV b) rfl; cases h
    subst this
    simp [Conv.bytesToString]; rfl
  | some ad =>
    have hb : l.map byteV = (l.map fun b => (b.toNat : Int)).map (Value.int .u8) := by simp [byteV, Function.comp_def]
    have hc := run_loadCells_list (P := P) w ad (l.map byteV) hr.cell
    rw [List.length_map] at hc
    rw [run_bytesToString w ad l.length c (l.map fun b => (b.toNat : Int)) (by rw [hc, hb])]
    rw [hfold l ByteArray.empty]
    congr 3
    simp [ByteArray.empty, ByteArray.emptyWithCapacity]
    rfl
theorem ok_str {s t e : TypeId} {x : Operand} {f : D} {l : List UInt8} (hs : P.underlying s = some (.slice e)) (he : P.underlying e = some (.int .u8)) (ht : P.underlying t = some .string) (hx : E.at x = some f) (hf : Le f (byt l)) :
    OpOk P B ⟨dst, .convert s t x, ty, pos, after, guard⟩ E (str l) := fun ρ w _ _ hρ => by
  have h1 := hf.of (hρ x (by simp [Op.operands]) _ hx)
  exact out_val (w' := w) (by simp [execOp, run_bytes_string hs he ht h1]) ⟨Grow.refl w, rfl⟩
theorem ok_len {t e : TypeId} {x : Operand} {f : D} {ds : List D} (ht : P.underlying t = some (.slice e)) (hx : E.at x = some f) (hf : Le f (lst ds)) :
    OpOk P B ⟨dst, .call { callee := .builtin .len, args := #[x], argTypes := #[t] }, ty, pos, after, guard⟩ E (.v (.int .i64 (ds.length : Int))) := fun ρ w _ _ hρ => by
  obtain ⟨c, A, vs, h1, _⟩ := hf.of (hρ x (by simp [Op.operands, Call.operands]) _ hx)
  exact out_val (w' := w) (by simp [execOp, resolve, invoke, builtin, Builtin.len_, run_underlying ht, h1, goInt]) ⟨Grow.refl w, rfl⟩
theorem ok_cap {t e : TypeId} {x : Operand} {f : D} {ds : List D} {c : Nat} (ht : P.underlying t = some (.slice e)) (hx : E.at x = some f) (hf : Le f (list ds c)) :
    OpOk P B ⟨dst, .call { callee := .builtin .cap, args := #[x], argTypes := #[t] }, ty, pos, after, guard⟩ E (.v (.int .i64 (c : Int))) := fun ρ w _ _ hρ => by
  obtain ⟨A, vs, h1, _⟩ := hf.of (hρ x (by simp [Op.operands, Call.operands]) _ hx)
  exact out_val (w' := w) (by simp [execOp, resolve, invoke, builtin, Builtin.cap_, run_underlying ht, h1, goInt]) ⟨Grow.refl w, rfl⟩
theorem ok_lenB {t e : TypeId} {x : Operand} {f : D} {l : List UInt8} (ht : P.underlying t = some (.slice e)) (hx : E.at x = some f) (hf : Le f (byt l)) :
    OpOk P B ⟨dst, .call { callee := .builtin .len, args := #[x], argTypes := #[t] }, ty, pos, after, guard⟩ E (.v (.int .i64 (l.length : Int))) := by
  have := ok_len (P := P) (B := B) (dst := dst) (ty := ty) (pos := pos) (after := after) (guard := guard) ht hx hf
  simpa using this
theorem ok_lenV {t e : TypeId} {x : Operand} {A : Option Addr} {n c : Nat} (ht : P.underlying t = some (.slice e)) (hx : E.at x = some (.v (.slice A n c))) :
    OpOk P B ⟨dst, .call { callee := .builtin .len, args := #[x], argTypes := #[t] }, ty, pos, after, guard⟩ E (.v (.int .i64 (n : Int))) := fun ρ w _ _ hρ => by
  have h1 : ρ x = .slice A n c := hρ x (by simp [Op.operands, Call.operands]) _ hx
  exact out_val (w' := w) (by simp [execOp, resolve, invoke, builtin, Builtin.len_, run_underlying ht, h1, goInt]) ⟨Grow.refl w, rfl⟩
theorem ok_extract {x : Operand} {i : Nat} {ds : List D} {d : D} (hx : E.at x = some (tup ds)) (hi : ds[i]? = some d) : OpOk P B ⟨dst, .extract x i, ty, pos, after, guard⟩ E d := fun ρ w _ _ hρ => by
  obtain ⟨xs, h1, h2, h3⟩ := hρ x (by simp [Op.operands]) _ hx
  have hlt : i < xs.length := by have := (List.getElem?_eq_some_iff.1 hi).1; omega
  have hu : xs[i]? = some xs[i] := List.getElem?_eq_getElem hlt
  exact out_val (x := xs[i]) (w' := w) (by simp [execOp, h1, Instr.extract, hu]) ⟨Grow.refl w, h3 i d _ hi hu⟩
/-- An element's address, in a slice that reads as a list. -/
theorem ok_index {t e : TypeId} {z : Value} {nb : Nat} {x i : Operand} {f : D} {ds : List D} {k : IntKind} {j : Int} {d : D} (ht : P.underlying t = some (.slice e)) (hs : InfoIs P e z nb) (hx : E.at x = some f) (hf : Le f (lst ds)) (hi : E.at i = some (.v (.int k j)))
    (h0 : 0 ≤ j) (hd : ds[j.toNat]? = some d) : OpOk P B ⟨dst, .indexAddr t x i, ty, pos, after, guard⟩ E (elem d) := fun ρ w _ _ hρ => by
  obtain ⟨c, A, vs, h1, h2, h3, h4, h5, h6⟩ := hf.of (hρ x (by simp [Op.operands]) _ hx)
  have hi' : ρ i = .int k j := hρ i (by simp [Op.operands]) _ hi
  have hlt : j.toNat < ds.length := (List.getElem?_eq_some_iff.1 hd).1
  have hu : vs[j.toNat]? = some vs[j.toNat] := List.getElem?_eq_getElem (by omega)
  obtain ⟨ad, rfl, hb, hc⟩ := h5 _ _ hu
  obtain ⟨info, hinfo, _, hsize, _⟩ := hs.get
  refine out_val (x := .pointer (some (ad.add j.toNat))) (w' := w) ?_ ⟨Grow.refl w, ad.add j.toNat, _, rfl, by rw [block_of_add]; exact hb, hc, h6 _ _ _ hd hu⟩
  have hb1 : 0 ≤ j ∧ j < (ds.length : Int) := by omega
  simp [execOp, h1, hi', Instr.indexAt, asIntOf, run_underlying ht, sizeOf, typeInfo, hinfo, hsize, hb1]
def plainTD : TypeDesc → Bool
  | .struct _ | .array _ _ => false
  | _ => true
theorem run_load_plain {t : TypeId} {td : TypeDesc} (ht : P.underlying t = some td) (hp : plainTD td = true) {w : World} {ad : Addr} {u : Value} (hc : w.cell? ad = some u) : (Instr.loadAt t (.pointer (some ad))).run P w = .ok u w := by
  have : (isAgg t).run P w = .ok false w := by
    unfold isAgg
    simp only [Sem.run_bind, run_underlying ht, Result.andThen_ok]
    cases td <;> simp_all [plainTD]
  simp [Instr.loadAt, Instr.sureAddr, loadVar, this, run_load, hc]
theorem ok_load {t : TypeId} {td : TypeDesc} {x : Operand} {d : D} (ht : P.underlying t = some td) (hp : plainTD td = true) (hx : E.at x = some (elem d)) : OpOk P B ⟨dst, .load t x, ty, pos, after, guard⟩ E d := fun ρ w _ _ hρ => by
  obtain ⟨ad, u, h1, h2, h3, h4⟩ := hρ x (by simp [Op.operands]) _ hx
  exact out_val (x := u) (w' := w) (by simp [execOp, h1, run_load_plain ht hp h3]) ⟨Grow.refl w, h4⟩
/-- An element's address, in a slice whose value is known. -/
theorem ok_indexV {t e : TypeId} {z : Value} {nb : Nat} {x i : Operand} {b o n c : Nat} {k : IntKind} {j : Int} (m : Nat) (ht : P.underlying t = some (.slice e)) (hs : InfoIs P e z nb) (hx : E.at x = some (.v (.slice (some ⟨b, o, none⟩) n c))) (hi : E.at i = some (.v (.int k j)))
    (h0 : j = (m : Int)) (hn : m < n) : OpOk P B ⟨dst, .indexAddr t x i, ty, pos, after, guard⟩ E (.v (.pointer (some ⟨b, o + m, none⟩))) := fun ρ w _ _ hρ => by
  have h1 : ρ x = _ := hρ x (by simp [Op.operands]) _ hx
  have hi' : ρ i = .int k j := hρ i (by simp [Op.operands]) _ hi
  obtain ⟨info, hinfo, _, hsize, _⟩ := hs.get
  refine out_val (w' := w) ?_ ⟨Grow.refl w, rfl⟩
  subst h0
  have hadd : (⟨b, o, none⟩ : Addr).add m = ⟨b, o + m, none⟩ := by unfold Addr.add; split <;> simp_all
  simp [execOp, h1, hi', Instr.indexAt, asIntOf, run_underlying ht, sizeOf, typeInfo, hinfo, hsize, hadd]
  intro hle
  omega
/-- A load out of a block that is known whole. -/
theorem ok_loadV {t : TypeId} {td : TypeDesc} {x : Operand} {b o s : Nat} {e : TypeId} {xs : List Value} {u : Value} (hsl : vbase ≤ s) (ht : P.underlying t = some td) (hp : plainTD td = true) (hx : E.at x = some (.v (.pointer (some ⟨b, o, none⟩)))) (hblk : E.look s = some (blk b e xs)) (hu : xs[o]? = some u) :
    OpOk P B ⟨dst, .load t x, ty, pos, after, guard⟩ E (.v u) := fun ρ w _ hv hρ => by
  have h1 : ρ x = _ := hρ x (by simp [Op.operands]) _ hx
  obtain ⟨_, hh⟩ := hv s _ hsl hblk
  have hc : w.cell? ⟨b, o, none⟩ = some u := by simp [World.cell?, hh, hu]
  exact out_val (x := u) (w' := w) (by simp [execOp, h1, run_load_plain ht hp hc]) ⟨Grow.refl w, rfl⟩
/-- make([]T, n): a row of zero values. -/
theorem ok_make {t e : TypeId} {x y : Operand} {z : Value} {nb : Nat} {k k' : IntKind} {n m : Int} (c : Nat) (ht : P.underlying t = some (.slice e)) (hinfo : InfoIs P e z nb) (hnb : nb ≤ 64) (hz1 : z.cells = #[z])
    (hx : E.at x = some (.v (.int k n))) (hy : E.at y = some (.v (.int k' m))) (hn : n = (c : Int)) (hm : m = (c : Int)) (hc : c ≤ 4398046511104) :
    OpOk P B ⟨dst, .makeSlice t x y, ty, pos, after, guard⟩ E (fresh B e (List.replicate c z) c) := fun ρ w hB _ hρ => by
  obtain ⟨i, hi, hz, hs, hb⟩ := hinfo.get
  have h1 : ρ x = _ := hρ x (by simp [Op.operands]) _ hx
  have h2 : ρ y = _ := hρ y (by simp [Op.operands]) _ hy
  subst hn; subst hm
  have hbc : i.bytes * c ≤ 64 * c := Nat.mul_le_mul_right c (by omega)
  have hr := run_make (P := P) w t e i z ht hi hz k k' (c : Int) (c : Int) (by omega) (by omega) (by rw [← Int.natCast_mul]; omega) (by omega)
  refine out_val (x := .slice (some ⟨w.heap.size, 0, none⟩) c c) (w' := w.alloc (.cells (madeCells z.cells (c * i.size)) e)) ?_ ⟨Grow.alloc w _, w.heap.size, by simp, hB, by simp, ?_⟩
  · simp only [execOp, h1, h2, Sem.run_bind, hr, Result.andThen_ok, Sem.run_pure, Int.toNat_natCast]
  · have : madeCells z.cells (c * i.size) = (List.replicate c z).toArray := by
      rw [hs, hz1, Nat.mul_one]
      apply Array.ext
      · simp [madeCells]
      · intro j h1 h2; simp [madeCells, Nat.mod_one]
    rw [this]
    exact heap_alloc_new w _
/-- A slice literal. -/
def Parts (E : Env) (vs : List D) (ps : List (Nat × Operand)) (k : Nat) : Prop :=
  match vs, ps with
  | [], [] => True
  | d :: vs, (i, x) :: ps => i = k ∧ E.at x = some d ∧ Parts E vs ps (k + 1)
  | _, _ => False
theorem Parts.length {vs : List D} {ps : List (Nat × Operand)} {k : Nat} (h : Parts E vs ps k) : vs.length = ps.length := by
  induction vs generalizing ps k with
  | nil => cases ps <;> simp_all [Parts]
  | cons d vs ih =>
    cases ps with
    | nil => simp [Parts] at h
    | cons p ps => obtain ⟨i, x⟩ := p; simp [ih h.2.2]
theorem Parts.nth {vs : List D} {ps : List (Nat × Operand)} {k : Nat} (h : Parts E vs ps k) : ∀ {j : Nat} {d : D}, vs[j]? = some d → ∃ x, ps[j]? = some (k + j, x) ∧ E.at x = some d := by
  induction vs generalizing ps k with
  | nil => intro j d hj; simp at hj
  | cons d0 vs ih =>
    cases ps with
    | nil => simp [Parts] at h
    | cons p ps =>
      obtain ⟨i, x⟩ := p
      obtain ⟨rfl, h1, h2⟩ := h
      intro j d hj
      cases j with
      | zero => simp at hj; subst hj; exact ⟨x, by simp, h1⟩
      | succ j =>
        obtain ⟨y, h3, h4⟩ := ih h2 (by simpa using hj)
        exact ⟨y, by rw [List.getElem?_cons_succ, h3]; congr 2; omega, h4⟩
theorem fill_dense : ∀ (us : List Value) (pre suf : List Value) (k : Nat), (∀ u ∈ us, u.oneCell' = true) → pre.length = k → us.length ≤ suf.length →
    Instr.fill (fun i => some (i * 1, 1)) (pre ++ suf).toArray ((us.zipIdx k).map fun x => (x.2, x.1)) = some (pre ++ us ++ suf.drop us.length).toArray := by
  intro us
  induction us with
  | nil => intro pre suf k _ _ _; simp [Instr.fill]
  | cons u us ih =>
    intro pre suf k h1 hk hl
    have hu : u.cells = #[u] := by
      have := h1 u List.mem_cons_self
      cases u <;> simp_all [Value.oneCell', Value.cells]
    cases suf with
    | nil => simp at hl
    | cons s suf =>
      have hset : (pre ++ s :: suf).toArray.setIfInBounds k u = (pre ++ [u] ++ suf).toArray := by
        apply Array.ext'
        simp [hk]
      simp only [List.zipIdx_cons, List.map_cons, Instr.fill, hu]
      rw [if_neg (by simp; omega)]
      have := ih (pre ++ [u]) suf (k + 1) (fun v hv => h1 v (List.mem_cons_of_mem _ hv)) (by simp [hk]) (by simpa using hl)
      simp only [Nat.mul_one] at this ⊢
      simp at hset ⊢
      rw [hset]
      simpa using this
theorem ok_build {t e : TypeId} {n : Nat} {ps : Array (Nat × Operand)} {z : Value} {nb : Nat} (ds : List D) (ht : P.underlying t = some (.slice e)) (hinfo : InfoIs P e z nb) (hz1 : z.cells = #[z])
    (hn : 0 < n) (hn' : n ≤ 65536) (hl : ds.length = n) (hp : Parts E ds ps.toList 0) (h1 : ∀ d ∈ ds, ∀ w x, d.Of w x → x.oneCell' = true) :
    OpOk P B ⟨dst, .buildSlice t n ps, ty, pos, after, guard⟩ E (list ds n) := fun ρ w _ _ hρ => by
  obtain ⟨i, hi, hz, hs, _⟩ := hinfo.get
  let us : List Value := ps.toList.map fun p => ρ p.2
  have hul : us.length = n := by simp only [us, List.length_map]; rw [← hp.length, hl]
  have hof : ∀ (j : Nat) (d : D), ds[j]? = some d → ∃ u, us[j]? = some u ∧ d.Of w u := fun j d hd => by
    obtain ⟨x, hx, he⟩ := hp.nth hd
    refine ⟨ρ x, by simp only [us, List.getElem?_map, hx]; rfl, hρ x ?_ d he⟩
    simp only [Op.operands, List.mem_toArray, List.mem_map]
    exact ⟨_, List.mem_of_getElem? hx, rfl⟩
  have hus : ∀ u ∈ us, u.oneCell' = true := fun u hu => by
    obtain ⟨j, hj⟩ := List.mem_iff_getElem?.1 hu
    have hlt : j < ds.length := by have := (List.getElem?_eq_some_iff.1 hj).1; omega
    obtain ⟨u', hu', hd⟩ := hof j ds[j] (List.getElem?_eq_getElem hlt)
    rw [hj] at hu'; injection hu' with hu'; subst hu'
    exact h1 _ (List.getElem_mem hlt) w u hd
  have hparts : (ps.map fun (i, x) => (i, ρ x)).toList = (us.zipIdx 0).map fun x => (x.2, x.1) := by
    apply List.ext_getElem?
    intro j
    rcases Nat.lt_or_ge j ds.length with hj | hj
    · obtain ⟨x, hx, _⟩ := hp.nth (List.getElem?_eq_getElem hj)
      have hx' : ps[j]? = some (0 + j, x) := by simpa using hx
      simp [us, List.getElem?_zipIdx, hx']
    · rw [List.getElem?_eq_none (by simp; have := hp.length; simp at this; omega), List.getElem?_eq_none (by simp; omega)]
  have hz' : (Array.range (n * i.size)).map (z.cells[· % z.cells.size]!) = ([] ++ List.replicate n z).toArray := by
    rw [hs, hz1, Nat.mul_one]
    apply Array.ext
    · simp
    · intro j h1 h2; simp [Nat.mod_one]
  have hfill : Instr.fill (fun j => some (j * i.size, i.size)) ((Array.range (n * i.size)).map (z.cells[· % z.cells.size]!)) (ps.map fun (i, x) => (i, ρ x)).toList = some us.toArray := by
    rw [hz', hparts, hs, fill_dense us [] (List.replicate n z) 0 hus rfl (by simp [hul])]
    simp [hul]
  have hr := run_buildSlice (P := P) w t e n (ps.map fun (i, x) => (i, ρ x)) us.toArray i z ht hi hz (by rw [hs]; omega) (by rw [hs]; omega) hfill
  refine out_val (x := .slice (some ⟨w.heap.size, 0, none⟩) n n) (w' := w.alloc (.cells us.toArray e)) (by simp [execOp, hr]) ⟨Grow.alloc w _, ?_⟩
  have hg := Grow.alloc w (.cells us.toArray e)
  refine ⟨some ⟨w.heap.size, 0, none⟩, us, by rw [hl], by omega, by simp only [maxLen]; omega, by omega, ?_, fun j d u hd hu => ?_⟩
  · have := blk_row (B := (w.alloc (.cells us.toArray e)).heap.size) (by simp) (heap_alloc_new w (.cells us.toArray e)) us.length
    rwa [List.take_length] at this
  · obtain ⟨u', hu', hd'⟩ := hof j d hd
    rw [hu] at hu'; injection hu' with hu'; subst hu'
    exact hd'.grow hg

theorem run_slice_list {t e : TypeId} {z : Value} {nb : Nat} (ht : P.underlying t = some (.slice e)) (hs : InfoIs P e z nb) (w : World) (A : Option Addr) (n c l h : Nat) (lo hi : Option Value) (k k' : IntKind)
    (hlo : lo = some (.int k (l : Int)) ∨ (lo = none ∧ l = 0)) (hhi : hi = some (.int k' (h : Int)) ∨ (hi = none ∧ h = n)) (hlh : l ≤ h) (hhc : h ≤ c) :
    (Instr.sliceAt t (.slice A n c) lo hi none).run P w = .ok (.slice (if c = l then A else A.map (·.add l)) (h - l) (c - l)) w := by
  obtain ⟨info, hinfo, _, hsize, _⟩ := hs.get
  have h1 : (Instr.sliceAt t (.slice A n c) lo hi none).run P w = (Instr.slice t (.slice A n c) lo hi none).run P w := by simp [Instr.sliceAt, run_underlying ht]
  rw [h1]
  rcases hlo with rfl | ⟨rfl, rfl⟩ <;> rcases hhi with rfl | ⟨rfl, rfl⟩ <;>
    simp [Instr.slice, run_underlying ht, Instr.sliceBounds, Instr.sliceBound, asIntOf, sizeOf, typeInfo, hinfo, hsize, hlh, hhc]
/-- x[lo:hi] of a slice that reads as a list, within its length. -/
theorem ok_slice {t e : TypeId} {z : Value} {nb : Nat} {x : Operand} {lo hi : Option Operand} {f : D} {ds : List D} (l h : Nat) (ht : P.underlying t = some (.slice e)) (hs : InfoIs P e z nb) (hx : E.at x = some f) (hf : Le f (lst ds))
    (hlo : (∃ o k, lo = some o ∧ E.at o = some (.v (.int k (l : Int)))) ∨ (lo = none ∧ l = 0)) (hhi : (∃ o k, hi = some o ∧ E.at o = some (.v (.int k (h : Int)))) ∨ (hi = none ∧ h = ds.length)) (hlh : l ≤ h) (hhn : h ≤ ds.length) :
    OpOk P B ⟨dst, .slice t x lo hi none, ty, pos, after, guard⟩ E (lst ((ds.take h).drop l)) := fun ρ w _ _ hρ => by
  obtain ⟨c, A, vs, h1, h2, h3, h4, h5, h6⟩ := hf.of (hρ x (by simp [Op.operands]) _ hx)
  have hlo' : ∃ k, lo.map ρ = some (.int k (l : Int)) ∨ (lo.map ρ = none ∧ l = 0) := by
    rcases hlo with ⟨o, k, rfl, ho⟩ | ⟨rfl, hl⟩
    · have : ρ o = .int k (l : Int) := hρ o (by simp [Op.operands]) _ ho
      exact ⟨k, .inl (by simp [this])⟩
    · exact ⟨.i64, .inr ⟨rfl, hl⟩⟩
  have hhi' : ∃ k, hi.map ρ = some (.int k (h : Int)) ∨ (hi.map ρ = none ∧ h = ds.length) := by
    rcases hhi with ⟨o, k, rfl, ho⟩ | ⟨rfl, hl⟩
    · have : ρ o = .int k (h : Int) := hρ o (by simp [Op.operands]) _ ho
      exact ⟨k, .inl (by simp [this])⟩
    · exact ⟨.i64, .inr ⟨rfl, hl⟩⟩
  obtain ⟨k, hlo'⟩ := hlo'
  obtain ⟨k', hhi'⟩ := hhi'
  have hr := run_slice_list (P := P) ht hs w A ds.length c l h (lo.map ρ) (hi.map ρ) k k' hlo' hhi' hlh (by omega)
  have hlen : ((ds.take h).drop l).length = h - l := by simp; omega
  refine out_val (x := .slice (if c = l then A else A.map (·.add l)) (h - l) (c - l)) (w' := w) (by simp [execOp, h1, hr]) ⟨Grow.refl w, c - l, _, (vs.take h).drop l, by rw [hlen], by rw [hlen]; omega, by omega, by simp; omega, ?_, ?_⟩
  · intro j u hu
    rw [List.getElem?_drop, List.getElem?_take] at hu
    split at hu
    · obtain ⟨ad, rfl, hb, hc⟩ := h5 _ _ hu
      rw [if_neg (by omega)]
      exact ⟨ad.add l, rfl, by rw [block_of_add]; exact hb, by rw [add_of_add]; exact hc⟩
    · cases hu
  · intro j d u hd hu
    rw [List.getElem?_drop, List.getElem?_take] at hd hu
    split at hd
    · rename_i hlt; rw [if_pos hlt] at hu; exact h6 _ _ _ hd hu
    · cases hd
/-- x[lo:] of a slice whose value is known. -/
theorem ok_sliceV {t e : TypeId} {z : Value} {nb : Nat} {x o : Operand} {b n c : Nat} {k : IntKind} (l : Nat) (ht : P.underlying t = some (.slice e)) (hs : InfoIs P e z nb) (hx : E.at x = some (.v (.slice (some ⟨b, 0, none⟩) n c))) (ho : E.at o = some (.v (.int k (l : Int)))) (hln : l ≤ n) (hnc : n ≤ c) :
    OpOk P B ⟨dst, .slice t x (some o) none none, ty, pos, after, guard⟩ E (.v (.slice (some ⟨b, if c = l then 0 else l, none⟩) (n - l) (c - l))) := fun ρ w _ _ hρ => by
  have h1 : ρ x = _ := hρ x (by simp [Op.operands]) _ hx
  have h2 : ρ o = .int k (l : Int) := hρ o (by simp [Op.operands]) _ ho
  have hr := run_slice_list (P := P) ht hs w (some ⟨b, 0, none⟩) n c l n (some (.int k (l : Int))) none k k (.inl rfl) (.inr ⟨rfl, rfl⟩) hln hnc
  refine out_val (w' := w) (by simp [execOp, h1, h2, hr]; rfl) ⟨Grow.refl w, ?_⟩
  show Value.slice _ _ _ = Value.slice _ _ _
  congr 1
  split
  · rfl
  · simp only [Option.some.injEq]
    unfold Addr.add
    split
    · rename_i h; subst h; rfl
    · simp
/-- A slice literal without elements. -/
theorem ok_build0 {t e : TypeId} {z : Value} {nb : Nat} (ht : P.underlying t = some (.slice e)) (hinfo : InfoIs P e z nb) : OpOk P B ⟨dst, .buildSlice t 0 #[], ty, pos, after, guard⟩ E (list [] 0) := fun ρ w _ _ _ => by
  obtain ⟨i, hi, hz, hs, _⟩ := hinfo.get
  refine out_val (x := .slice (some ⟨w.heap.size, 0, none⟩) 0 0) (w' := w.alloc (.cells #[] e)) ?_ ⟨Grow.alloc w _, some ⟨w.heap.size, 0, none⟩, [], rfl, Nat.le_refl _, Nat.zero_le _, rfl, RowIn.nil, fun j d u hd => by simp at hd⟩
  simp [execOp, Instr.buildSlice, run_underlying ht, sizeOf, typeInfo, hi, Instr.fill, newRow]
  rw [show (Array.map (fun _ => (default : Value)) (Array.range 0)) = #[] from Array.eq_empty_of_size_eq_zero (by simp)]
theorem vs_of {us vs : List Value} {B : Nat} {w : World} (hl : us.length = vs.length) (h : ∀ (j : Nat) (d : D) (u : Value), (vs.map D.v)[j]? = some d → us[j]? = some u → d.OfB B w u) : us = vs := by
  apply List.ext_getElem?
  intro j
  rcases Nat.lt_or_ge j vs.length with hj | hj
  · have hu : us[j]? = some us[j] := List.getElem?_eq_getElem (by omega)
    have h2 : us[j] = vs[j] := h j (.v vs[j]) us[j] (by simp [hj]) hu
    rw [hu, h2, List.getElem?_eq_getElem hj]
  · rw [List.getElem?_eq_none (by omega), List.getElem?_eq_none hj]
/-- append of something to a slice without room: always a new array. -/
theorem ok_append_new {t e : TypeId} {z : Value} {nb : Nat} {r x : Operand} {f₀ f : D} {os vs : List Value} (ht : P.underlying t = some (.slice e)) (hinfo : InfoIs P e z nb) (hnb : nb ≤ 64) (hz1 : z.cells.size = 1)
    (hr : E.at r = some f₀) (hf₀ : Le f₀ (list (os.map .v) os.length)) (hx : E.at x = some f) (hf : Le f (lst (vs.map .v))) (hne : vs ≠ []) (h1 : ∀ u ∈ vs, u.oneCell' = true) (hk : os.length + vs.length ≤ 1099511627776) :
    OpOk P B ⟨dst, .call { callee := .builtin .append, args := #[r, x], argTypes := #[t, t] }, ty, pos, after, guard⟩ E (own B e (os.length + vs.length) (os ++ vs)) := fun ρ w hB _ hρ => by
  obtain ⟨i, hi, hz, hs, hby⟩ := hinfo.get
  obtain ⟨A₀, os', hre, _, _, hol, hrow₀, hos⟩ := hf₀.of (hρ r (by simp [Op.operands, Call.operands]) _ hr)
  obtain ⟨c, A, us, hxe, hle, hcm, hul, hrow, hus⟩ := hf.of (hρ x (by simp [Op.operands, Call.operands]) _ hx)
  simp only [List.length_map] at hxe hle hul hre hol
  obtain rfl := vs_of hol hos
  obtain rfl := vs_of hul hus
  obtain ⟨ad, rfl⟩ : ∃ ad, A = some ad := by
    cases us with
    | nil => exact absurd rfl hne
    | cons b l => obtain ⟨ad, h, _⟩ := hrow 0 b rfl; exact ⟨ad, h⟩
  have hpos : 0 < us.length := List.length_pos_iff.2 hne
  have hbb : (os'.length + us.length) * i.bytes ≤ (os'.length + us.length) * 64 := Nat.mul_le_mul_left _ (by omega)
  have hrun : ∃ v' w', (Builtin.append_ #[t, t] ty #[.slice A₀ os'.length os'.length, .slice (some ad) us.length c]).run P w = .ok v' w' ∧ w'.ownsRow B e 1 v' (os'.length + us.length) (os' ++ us) ∧ w.grownBy w' none := by
    cases A₀ with
    | some ad₀ =>
      obtain ⟨v', w', h1, h2, h3⟩ := run_append_arg_grows (P := P) w t ty e i z 1 i.bytes ht hi hz hs rfl hz1 (by omega) ad₀ os'.length os'.length os' (by simp) hrow₀.cell ad us.length c us (by simp) hrow.cell (by omega) (by simp only [maxLen]; omega) (by omega)
      refine ⟨v', w', h1, ⟨h2.1, h2.2.imp id ?_⟩, h3⟩
      rintro ⟨g, cap, cur, h4, h5, h6⟩
      exact ⟨g, cap, cur, h4, by omega, h6⟩
    | none =>
      have : os' = [] := by
        cases os' with
        | nil => rfl
        | cons b l => obtain ⟨ad, h, _⟩ := hrow₀ 0 b rfl; cases h
      subst this
      obtain ⟨v', w', h1, h2, h3, h4, h5⟩ := run_append_own_at (P := P) w B t ty e i z 1 i.bytes ht hi hz hs rfl hz1 (by omega) (.slice none 0 0) 0 [] ⟨rfl, .inl ⟨rfl, rfl⟩⟩ ad us.length c us (by simp) hrow.cell h1 (by simp only [maxLen]; omega) (by simp only [List.length_nil, Nat.zero_add] at hbb ⊢; omega) hB
      exact ⟨v', w', h1, h2, h3⟩
  obtain ⟨v', w', hrun, h3, h4⟩ := hrun
  have hg : Grow w w' := (Below.refl _ w).grown h4 (Nat.le_refl _) (fun k hk => by cases hk)
  refine out_val (x := v') (w' := w') ?_ ⟨hg, h3, fun g hg' => ?_⟩
  · simp [execOp, resolve, invoke, builtin, hre, hxe, hrun]
  · rcases h3.2 with ⟨hv, _⟩ | ⟨g', cap, cur, hv, _, hh, _⟩
    · rw [hv] at hg'; simp [Value.ownBlock] at hg'
    · rw [hv] at hg'; simp [Value.ownBlock] at hg'; subst hg'
      rcases Nat.lt_or_ge g' w'.heap.size with h | h
      · exact h
      · rw [Array.getElem?_eq_none h] at hh; cases hh

/-! ### A function's contract -/
def PostOf (w₀ : World) (d : D) (e : Ending) (w' : World) : Prop := ∃ x, e = .returned x ∧ Grow w₀ w' ∧ d.Of w' x
/-- Called with values of which ds is known, the function returns a value of which d is known; memory at most grows. -/
structure Fn (P : Program) (f : FuncId) (ds : List D) (d : D) : Prop where
  body : ∃ fn, P.funcs[f]? = some fn ∧ (fn.name == "runtime.NumGoroutine") = false ∧ fn.body.isNone = false
  calls : ∀ (vs : List Value) (w : World), vs.length = ds.length → (∀ (j : Nat) (e : D) (u : Value), ds[j]? = some e → vs[j]? = some u → e.Of w u) → Calls P f vs.toArray w (PostOf w d)
theorem Fn.le {f : FuncId} {ds : List D} {d d' : D} (h : Fn P f ds d) (hd : Le d d') : Fn P f ds d' :=
  ⟨h.body, fun vs w h1 h2 => (h.calls vs w h1 h2).mono fun _ _ ⟨x, he, g, hx⟩ => ⟨x, he, g, hd.of hx⟩⟩
def Args (E : Env) (ds : List D) (xs : List Operand) : Prop :=
  match ds, xs with
  | [], [] => True
  | d :: ds, x :: xs => (∃ e, E.at x = some e ∧ Le e d) ∧ Args E ds xs
  | _, _ => False
theorem Args.nil : Args E [] [] := trivial
theorem Args.cons {d e : D} {ds : List D} {x : Operand} {xs : List Operand} (h : E.at x = some e) (hl : Le e d) (hr : Args E ds xs) : Args E (d :: ds) (x :: xs) := ⟨⟨e, h, hl⟩, hr⟩
theorem Args.length {ds : List D} {xs : List Operand} (h : Args E ds xs) : ds.length = xs.length := by
  induction ds generalizing xs with
  | nil => cases xs <;> simp_all [Args]
  | cons d ds ih => cases xs with
    | nil => simp [Args] at h
    | cons x xs => simp [ih h.2]
theorem Args.nth {ds : List D} {xs : List Operand} (h : Args E ds xs) : ∀ {j : Nat} {d : D} {x : Operand}, ds[j]? = some d → xs[j]? = some x → ∃ e, E.at x = some e ∧ Le e d := by
  induction ds generalizing xs with
  | nil => intro j d x hj; simp at hj
  | cons d0 ds ih => cases xs with
    | nil => simp [Args] at h
    | cons x0 xs =>
      intro j d x hj hx
      cases j with
      | zero => simp at hj hx; subst hj; subst hx; exact h.1
      | succ j => exact ih h.2 (by simpa using hj) (by simpa using hx)
theorem ok_call {f : FuncId} {args : Array Operand} {argTypes : Array TypeId} {ds : List D} {d : D} (hf : Fn P f ds d) (ha : Args E ds args.toList) :
    OpOk P B ⟨dst, .call { callee := .value (.func f), args := args, argTypes := argTypes }, ty, pos, after, guard⟩ E d := fun ρ w _ _ hρ => by
  obtain ⟨fn, h1, h2, h3⟩ := hf.body
  have hfun : ρ (.func f) = .func (.func f) #[] #[] := hρ (.func f) (by simp [Op.operands, Call.operands]) _ rfl
  have hrun : (execOp ρ ⟨dst, .call { callee := .value (.func f), args := args, argTypes := argTypes }, ty, pos, after, guard⟩).run P w = .ok (.enter f (args.map ρ)) w := by
    have h2' : ¬ fn.name = "runtime.NumGoroutine" := by simpa using h2
    have h3' : ¬ fn.body = none := by intro h; rw [h] at h3; cases h3
    simp [execOp, resolve, Deferred.ofValue, hfun, invoke, callFunc, h1, h2', h3']
  unfold Out
  rw [hrun]
  have := hf.calls (args.toList.map ρ) w (by rw [List.length_map, ha.length]) fun j e u he hu => by
    rw [List.getElem?_map] at hu
    cases hx : args.toList[j]? with
    | none => rw [hx] at hu; cases hu
    | some x =>
      rw [hx] at hu; injection hu with hu; subst hu
      obtain ⟨e', h4, h5⟩ := ha.nth he hx
      exact h5.of (hρ x (by simp [Op.operands, Call.operands]; exact .inr (by simpa using List.mem_of_getElem? hx)) _ h4)
  have harr : (args.toList.map ρ).toArray = args.map ρ := by apply Array.ext'; simp
  rw [harr] at this
  exact this.mono fun e w' ⟨x, he, g, hx⟩ => ⟨x, he, g, hx⟩
end

/-! ### Operations that change memory -/
section
variable {P : Program} {n B : Nat} {ops : Array Oper} {E : Env} {ty : TypeId} {pos : String} {after : Array Edge}
/-- What is left of an environment when memory from block B on may have changed. -/
def Left (B : Nat) (E' E : Env) : Prop := ∀ p ∈ E', E.look p.1 = some p.2 ∧ Stays B p.2
theorem Left.nil : Left B [] E := fun _ h => by cases h
theorem Left.cons {E' : Env} {t : Nat} {d : D} (h : E.look t = some d) (hs : Stays B d) (hr : Left B E' E) : Left B ((t, d) :: E') E := fun p hp => by
  rcases List.mem_cons.1 hp with rfl | hp
  · exact ⟨h, hs⟩
  · exact hr p hp
/-- A store into a block that is known whole. -/
theorem eff_store {t : TypeId} {z : Value} {nb : Nat} {p x : Operand} {b o s : Nat} {e : TypeId} {xs : List Value} {u : Value} {E' : Env} (hinfo : InfoIs P t z nb) (hp : E.at p = some (.v (.pointer (some ⟨b, o, none⟩)))) (hx : E.at x = some (.v u)) (hu : u.oneCell' = true)
    (hb : B ≤ b) (hblk : E.look s = some (blk b e xs)) (ho : o < xs.length) (hl : Left B E' E) :
    Eff P n B ops ⟨none, .store t p x, ty, pos, after, none⟩ E ((s, blk b e (xs.set o u)) :: E') := by
  obtain ⟨i, hi, _, hs, _⟩ := hinfo.get
  intro κ a w K Q h hK
  have hp' : a.eval p = _ := h.at_ p _ hp
  have hx' : a.eval x = _ := h.at_ x _ hx
  obtain ⟨hlt, hh⟩ := h.of s _ hblk
  have hcell : w.cell? ⟨b, o, none⟩ = some xs[o] := by simp [World.cell?, hh, ho]
  have hfr : w.frozen? ⟨b, o, none⟩ = false := by simp [World.frozen?, hh]
  have hcu : u.cells = #[u] := by cases u <;> simp_all [Value.oneCell', Value.cells]
  have hadd : (⟨b, o, none⟩ : Addr).add 0 = ⟨b, o, none⟩ := rfl
  have hrun : (execOp a.eval ⟨none, .store t p x, ty, pos, after, none⟩).run P w = .ok .skip (w.setCell ⟨b, o, none⟩ u) := by
    simp [execOp, hp', hx', Instr.storeAt, Instr.sureAddr, storeVar, hcu, sizeOf, typeInfo, hi, hs, storeCells, hadd, run_store P w ⟨b, o, none⟩ u .plain hu, hcell, hfr]
  rw [if_pos (by simp [Region.wanted])]
  refine opR (by nofun) ?_
  unfold Oper.wp
  rw [hrun, Oper.upon_skip]
  have hbel : Below B w (w.setCell ⟨b, o, none⟩ u) := (Below.refl B w).setCell hb u
  refine hK _ _ hbel ⟨Nat.le_trans h.base hbel.size, h.defers, h.size, fun t' d hd => ?_⟩
  by_cases hts : s = t'
  · subst hts
    rw [look_here] at hd; injection hd with hd; subst hd
    refine ⟨by simpa [World.setCell] using hlt, ?_⟩
    simp [World.setCell, Array.getElem?_modify, hh]
  · rw [look_past _ _ hts] at hd
    obtain ⟨h1, h2⟩ := hl _ (look_mem hd)
    exact h2 _ _ _ hbel h.base (h.of t' d h1)
/-- append of a slice that reads as a list to a row of the call's own. -/
theorem eff_append {t e : TypeId} {z : Value} {nb : Nat} {r x : Operand} {k dst : Nat} {xs : List Value} {f : D} {vs : List Value} {E' : Env} (ht : P.underlying t = some (.slice e)) (hinfo : InfoIs P e z nb) (hnb : nb ≤ 64) (hz1 : z.cells.size = 1)
    (hr : E.at r = some (own B e k xs)) (hx : E.at x = some f) (hf : Le f (lst (vs.map .v))) (h1 : ∀ u ∈ vs, u.oneCell' = true) (hk : k + vs.length ≤ 1099511627776) (hdst : dst < n) (hl : Left B E' E) :
    Eff P n B ops ⟨some dst, .call { callee := .builtin .append, args := #[r, x], argTypes := #[t, t] }, ty, pos, after, none⟩ E ((dst, own B e (k + vs.length) (xs ++ vs)) :: E') := by
  obtain ⟨i, hi, hz, hs, hby⟩ := hinfo.get
  intro κ a w K Q h hK
  obtain ⟨hown, hob⟩ := h.at_ r _ hr
  obtain ⟨c, A, us, hxe, hle, hcm, hul, hrow, hus⟩ := hf.of (h.at_ x _ hx)
  have huv : us = vs := by
    apply List.ext_getElem?
    intro j
    simp only [List.length_map] at hul
    rcases Nat.lt_or_ge j vs.length with hj | hj
    · have hu : us[j]? = some us[j] := List.getElem?_eq_getElem (by omega)
      have h2 : us[j] = vs[j] := hus j (.v vs[j]) us[j] (by simp [hj]) hu
      rw [hu, h2, List.getElem?_eq_getElem hj]
    · rw [List.getElem?_eq_none (by omega), List.getElem?_eq_none hj]
  subst huv
  simp only [List.length_map] at hxe hle hul
  have hrun : ∃ v' w', (Builtin.append_ #[t, t] ty #[a.eval r, .slice A us.length c]).run P w = .ok v' w' ∧ w'.ownsRow B e 1 v' (k + us.length) (xs ++ us) ∧ w.grownBy w' (a.eval r).ownBlock ∧
      (v'.ownBlock = (a.eval r).ownBlock ∨ v'.ownBlock = some w.heap.size) := by
    have hbb : (k + us.length) * i.bytes ≤ (k + us.length) * 64 := Nat.mul_le_mul_left _ (by omega)
    have hnil : us = [] → ∀ c', (Builtin.append_ #[t, t] ty #[a.eval r, .slice none 0 c']).run P w = .ok (a.eval r) w := by
      intro _ c'
      rcases hown.2 with ⟨hv, hn0⟩ | ⟨g, cap, cur, hv, _, _, hnc, _⟩
      · rw [hv]; simp [Builtin.append_, run_underlying ht, sizeOf, typeInfo, hi, Builtin.lenOf, Builtin.firstCells]
      · rw [hv]; simp [Builtin.append_, run_underlying ht, sizeOf, typeInfo, hi, Builtin.lenOf, Builtin.firstCells, hnc, storeCells]
    cases A with
    | none =>
      have hz : us = [] := by
        cases us with
        | nil => rfl
        | cons b l => obtain ⟨ad, h, _⟩ := hrow 0 b rfl; cases h
      subst hz
      exact ⟨a.eval r, w, hnil rfl c, by simpa using hown, World.grownBy.refl w _, .inl rfl⟩
    | some ad =>
      obtain ⟨v', w', h2, h3, h4, _, h6⟩ := run_append_own_at (P := P) w B t ty e i z 1 i.bytes ht hi hz hs rfl hz1 (by omega) (a.eval r) k xs hown ad us.length c us (by simp) hrow.cell h1 (by simp only [maxLen]; omega) (by omega) h.base
      exact ⟨v', w', h2, h3, h4, h6⟩
  obtain ⟨v', w', hrun, h3, h4, h5⟩ := hrun
  have hexec : (execOp a.eval ⟨some dst, .call { callee := .builtin .append, args := #[r, x], argTypes := #[t, t] }, ty, pos, after, none⟩).run P w = .ok (.value v') w' := by
    simp [execOp, resolve, invoke, builtin, hxe, hrun]
  rw [if_pos (by simp [Region.wanted])]
  refine opR (by nofun) ?_
  unfold Oper.wp
  rw [hexec, Oper.upon_value]
  have hbase : ∀ g, (a.eval r).ownBlock = some g → B ≤ g := fun g hg => by
    rcases hown.2 with ⟨hv, _⟩ | ⟨g', cap, cur, hv, hb, _⟩
    · rw [hv] at hg; simp [Value.ownBlock] at hg
    · rw [hv] at hg; simp [Value.ownBlock] at hg; omega
  have hbel : Below B w w' := (Below.refl B w).grown h4 h.base hbase
  have hlt : ∀ g, v'.ownBlock = some g → g < w'.heap.size := fun g hg => by
    rcases h3.2 with ⟨hv, _⟩ | ⟨g', cap, cur, hv, _, hh, _⟩
    · rw [hv] at hg; simp [Value.ownBlock] at hg
    · rw [hv] at hg; simp [Value.ownBlock] at hg; subst hg
      rcases Nat.lt_or_ge g' w'.heap.size with h | h
      · exact h
      · rw [Array.getElem?_eq_none h] at hh; cases hh
  have hst : St κ n B E' a w' := ⟨Nat.le_trans h.base hbel.size, h.defers, h.size, fun t' d hd => by
    obtain ⟨h7, h8⟩ := hl _ (look_mem hd)
    exact h8 _ _ _ hbel h.base (h.of t' d h7)⟩
  exact hK _ _ hbel (hst.put hdst ⟨h3, hlt⟩)
/-- copy into a row of the call's own that is known whole. -/
theorem eff_copy {t e : TypeId} {z : Value} {nb : Nat} {r x : Operand} {b o dn dc s dst : Nat} {f : D} {l : List UInt8} {e' : TypeId} {xs : List Value} {E' : Env} (ht : P.underlying t = some (.slice e)) (hinfo : InfoIs P e z nb)
    (hr : E.at r = some (.v (.slice (some ⟨b, o, none⟩) dn dc))) (hx : E.at x = some f) (hf : Le f (byt l)) (hn : l.length ≤ dn) (hb : B ≤ b) (hblk : E.look s = some (blk b e' xs)) (hfit : o + l.length ≤ xs.length) (hdst : dst < n) (hl : Left B E' E) :
    Eff P n B ops ⟨some dst, .call { callee := .builtin .copy, args := #[r, x], argTypes := #[t, t] }, ty, pos, after, none⟩ E ((dst, .v (.int .i64 (l.length : Int))) :: (s, blk b e' (xs.take o ++ l.map byteV ++ xs.drop (o + l.length))) :: E') := by
  obtain ⟨i, hi, _, hs, _⟩ := hinfo.get
  intro κ a w K Q h hK
  have hre : a.eval r = _ := h.at_ r _ hr
  obtain ⟨c, hby⟩ := hf.of (h.at_ x _ hx)
  obtain ⟨A, hxe, hle, hcm, hrow⟩ := bytes_open (l := l) hby
  obtain ⟨hlt, hh⟩ := h.of s _ hblk
  have hsz : (P.info? e).map (·.size) = some 1 := by rw [hi]; simp [hs]
  have hmin : Nat.min l.length dn = l.length := Nat.min_eq_left hn
  have hrun : ∃ w', (Builtin.copy_ #[t, t] ty #[a.eval r, .slice A l.length c]).run P w = .ok (goInt l.length) w' ∧ Below B w w' ∧ w'.heap[b]? = some (.cells (xs.take o ++ l.map byteV ++ xs.drop (o + l.length)).toArray e' (0, 0)) ∧ b < w'.heap.size := by
    rw [hre]
    cases A with
    | none =>
      have hz : l = [] := by
        cases l with
        | nil => rfl
        | cons b l => obtain ⟨ad, h, _⟩ := hrow 0 (byteV b) rfl; cases h
      subst hz
      refine ⟨w, by simpa using run_copy_none (P := P) w t t ty e (some ⟨b, o, none⟩) none dn dc 0 c ht hsz (by simp), Below.refl _ _, ?_, hlt⟩
      simp only [List.map_nil, List.append_nil, List.length_nil, Nat.add_zero, List.take_append_drop]; exact hh
    | some ad =>
      have hr := run_copy_row (P := P) w t t ty e b o dn dc ad l.length c xs.toArray e' (l.map byteV) ht hsz hh (by rw [hmin]; simp) hrow.cell (by simp; omega) (fun v hv => by
        simp only [List.mem_map] at hv; obtain ⟨u, _, rfl⟩ := hv; rfl)
      simp only [List.length_map] at hr
      refine ⟨_, hr, ?_, ?_, ?_⟩
      · refine ⟨rfl, rfl, rfl, by simp [World.setRow], fun k hk => ?_⟩
        simp only [World.setRow, Array.getElem?_modify]
        rw [if_neg (by omega)]
      · simp [World.setRow, Array.getElem?_modify, hh]
      · simpa [World.setRow] using hlt
  obtain ⟨w', hrun, hbel, hh', hlt'⟩ := hrun
  have hexec : (execOp a.eval ⟨some dst, .call { callee := .builtin .copy, args := #[r, x], argTypes := #[t, t] }, ty, pos, after, none⟩).run P w = .ok (.value (.int .i64 (l.length : Int))) w' := by
    simp [execOp, resolve, invoke, builtin, hxe, hrun, goInt]
  rw [if_pos (by simp [Region.wanted])]
  refine opR (by nofun) ?_
  unfold Oper.wp
  rw [hexec, Oper.upon_value]
  have hst : St κ n B ((s, blk b e' (xs.take o ++ l.map byteV ++ xs.drop (o + l.length))) :: E') a w' := ⟨Nat.le_trans h.base hbel.size, h.defers, h.size, fun t' d hd => by
    by_cases hts : s = t'
    · subst hts
      rw [look_here] at hd; injection hd with hd; subst hd
      exact ⟨hlt', hh'⟩
    · rw [look_past _ _ hts] at hd
      obtain ⟨h7, h8⟩ := hl _ (look_mem hd)
      exact h8 _ _ _ hbel h.base (h.of t' d h7)⟩
  exact hK _ _ hbel (hst.put hdst rfl)
end

theorem Sub.eq {E' E : Env} {t : Nat} {d : D} (e : D) (h : E.look t = some e) (he : e = d) (hs : Sub E' E) : Sub ((t, d) :: E') E := Sub.cons (he ▸ h) hs

/-! ### Code by facts -/
/-- In a function that was called in the world w₀, whose frame has n slots: the code, begun where the slots are as E says, comes to Q. -/
def A (κ : Cx) (P : Program) (w₀ : World) (n : Nat) (c : Code) (E : Env) (Q : Exit → Act → World → Prop) : Prop :=
  ∀ (a : Act) (w : World), Below w₀.heap.size w₀ w → St κ n w₀.heap.size E a w → c.wpIn (FR κ.rd) 0 P Q a w
/-- What holds at the code's end, whatever it is that stands behind. -/
def End (κ : Cx) (w₀ : World) (n : Nat) (E : Env) (R : Act → World → Prop) : Prop := ∀ (a : Act) (w : World), Below w₀.heap.size w₀ w → St κ n w₀.heap.size E a w → R a w
section
variable {κ : Cx} {P : Program} {w₀ : World} {n : Nat} {E E₁ E₂ : Env} {Q : Exit → Act → World → Prop} {x y c : Code} {K : Act → World → Prop}

theorem A.seq (h : A κ P w₀ n x E (Exit.then (y.wpIn (FR κ.rd) 0 P Q) Q)) : A κ P w₀ n (x.seq y) E Q := fun a w g hs => wpIn_seq (h a w g hs)
theorem A.sub (hs : Sub E₁ E) (h : A κ P w₀ n c E₁ Q) : A κ P w₀ n c E Q := fun a w g hst => h a w g (hst.sub hs)
/-- The region's text from here on, and what is to be shown in the environment at its end. -/
def RunK (P : Program) (B : Nat) (ops : Array Oper) (rest : List Oper) (E : Env) (C : Env → Prop) : Prop := ∃ E₁, Run P B ops rest E E₁ ∧ C E₁
section
variable {B : Nat} {ops : Array Oper} {o : Oper} {rest : List Oper} {C : Env → Prop} {t : Nat} {d : D} {draw : Bool}
theorem RunK.nil (h : C E) : RunK P B ops [] E C := ⟨E, .nil, h⟩
theorem RunK.step (ht : o.dst = some t) (hg : o.guard = none) (h : OpOk P B o E d) (hr : RunK P B ops rest ((t, d) :: E) C) : RunK P B ops (o :: rest) E C := by
  obtain ⟨E₁, h1, h2⟩ := hr; exact ⟨E₁, .step ht hg h h1, h2⟩
theorem RunK.guarded {j : Nat} {want : Bool} {s : Nat} (ht : o.dst = some t) (hg : o.guard = some (j, want)) (hj : ((ops[j]?).bind (·.dst)) = some s) (hE : E.look s = some (.v (.bool want))) (h : OpOk P B o E d) (hr : RunK P B ops rest ((t, d) :: E) C) : RunK P B ops (o :: rest) E C := by
  obtain ⟨E₁, h1, h2⟩ := hr; exact ⟨E₁, .guarded ht hg hj hE h h1, h2⟩
theorem RunK.skipped {j : Nat} {want c : Bool} {s : Nat} (ht : o.dst = some t) (hg : o.guard = some (j, want)) (hj : ((ops[j]?).bind (·.dst)) = some s) (hE : E.look s = some (.v (.bool c))) (hc : (c == want) = false) (hr : RunK P B ops rest ((t, .v undef) :: E) C) : RunK P B ops (o :: rest) E C := by
  obtain ⟨E₁, h1, h2⟩ := hr; exact ⟨E₁, .skipped ht hg hj hE hc h1, h2⟩
theorem RunK.skippedU {j : Nat} {want : Bool} {s : Nat} (ht : o.dst = some t) (hg : o.guard = some (j, want)) (hj : ((ops[j]?).bind (·.dst)) = some s) (hE : E.look s = some (.v undef)) (hr : RunK P B ops rest ((t, .v undef) :: E) C) : RunK P B ops (o :: rest) E C := by
  obtain ⟨E₁, h1, h2⟩ := hr; exact ⟨E₁, .skippedU ht hg hj hE h1, h2⟩
/-- The newest slot's value told otherwise. -/
theorem RunK.as (x : Value) {y : Value} (h : y = x) (hr : RunK P B ops rest ((t, .v x) :: E) C) : RunK P B ops rest ((t, .v y) :: E) C := h ▸ hr
theorem RunTK.last {s : Nat} (h : RunK P B ops (ops.toList.drop s) E C) : RunTK P n B ops draw C s E := by
  obtain ⟨E₁, h1, h2⟩ := h; exact .last' h1 h2
theorem RunTK.eff {s : Nat} (p : Nat) (hsp : s ≤ p) (ho : ops[p]? = some o) (hb : draw = false ∨ barrier ops p = true) (h : RunK P B ops ((ops.toList.drop s).take (p - s)) E (fun E₁ => ∃ E₂, Eff P n B ops o E₁ E₂ ∧ RunTK P n B ops draw C (p + 1) E₂)) : RunTK P n B ops draw C s E := by
  obtain ⟨E₁, h1, E₂, h2, h3⟩ := h; exact .effG hsp ho hb h1 h2.g fun _ _ => h3
/-- An operation that leaves something new: a block's number, say. -/
theorem RunTK.new {s : Nat} (p : Nat) (hsp : s ≤ p) (ho : ops[p]? = some o) (hb : draw = false ∨ barrier ops p = true) (h : RunK P B ops ((ops.toList.drop s).take (p - s)) E (fun E₁ => ∃ (G : Nat → Prop) (E₂ : Nat → Env), EffG P n B ops o E₁ G E₂ ∧ ∀ b, G b → RunTK P n B ops draw C (p + 1) (E₂ b))) : RunTK P n B ops draw C s E := by
  obtain ⟨E₁, h1, G, E₂, h2, h3⟩ := h; exact .effG hsp ho hb h1 h2 h3
end
/-- A region at the end of its code. -/
theorem A.reg {id : Nat} {ops : Array Oper} {draw : Bool} (hm : P.follows .mixedOrders = true) (hf : fits n ops = true) (ht : draw = false ∨ tied ops = true) (hr : RunTK P n w₀.heap.size ops draw (fun E₁ => End κ w₀ n E₁ (Q .normal)) 0 E) : A κ P w₀ n (.region id ops draw) E Q := fun _ _ g hst =>
  wp_regT hm hf ht hst hr fun _ a' w' h2 g' h' => h2 a' w' (g.trans g') h'
theorem A.regs {id : Nat} {ops : Array Oper} {draw : Bool} (hm : P.follows .mixedOrders = true) (hf : fits n ops = true) (ht : draw = false ∨ tied ops = true) (hr : RunTK P n w₀.heap.size ops draw (fun E₁ => A κ P w₀ n y E₁ Q) 0 E) : A κ P w₀ n (.seq (.region id ops draw) y) E Q := A.seq (A.reg hm hf ht hr)
theorem A.cond {o : Operand} {b : Bool} (ho : E.at o = some (.v (.bool b))) (ht : b = true → A κ P w₀ n x E Q) (hf : b = false → A κ P w₀ n y E Q) : A κ P w₀ n (.cond o x y) E Q := fun a w g hs => by
  have h1 : a.eval o = .bool b := hs.at_ o _ ho
  cases b with
  | true => exact wpIn_cond h1 (ht rfl a w g hs)
  | false => exact wpIn_cond h1 (hf rfl a w g hs)
theorem A.yes {o : Operand} (ho : E.at o = some (.v (.bool true))) (h : A κ P w₀ n x E Q) : A κ P w₀ n (.cond o x y) E Q := A.cond ho (fun _ => h) (fun h => by cases h)
theorem A.no {o : Operand} (ho : E.at o = some (.v (.bool false))) (h : A κ P w₀ n y E Q) : A κ P w₀ n (.cond o x y) E Q := A.cond ho (fun h => by cases h) (fun _ => h)
theorem A.skip (h : End κ w₀ n E (Q .normal)) : A κ P w₀ n .skip E Q := fun a w g hs => wpIn_skip (h a w g hs)
theorem A.skips (h : A κ P w₀ n y E Q) : A κ P w₀ n (.seq .skip y) E Q := A.seq (A.skip h)
theorem A.block {id : Nat} (h : A κ P w₀ n c E (Exit.inBlock id Q)) : A κ P w₀ n (.block id c) E Q := fun a w g hs => wpIn_block (h a w g hs)
theorem A.exit {id : Nat} (h : End κ w₀ n E (Q (.exit id))) : A κ P w₀ n (.exit id) E Q := fun a w g hs => wpIn_exit (h a w g hs)
theorem A.ret (h : End κ w₀ n E (Q .ret)) : A κ P w₀ n .ret E Q := fun a w g hs => wpIn_ret (h a w g hs)
theorem A.skip_then (h : A κ P w₀ n y E Q) : A κ P w₀ n .skip E (Exit.then (y.wpIn (FR κ.rd) 0 P Q) Q) := A.skip h
theorem End.exit_then {id : Nat} (h : End κ w₀ n E (Q (.exit id))) : End κ w₀ n E (Exit.then K Q (.exit id)) := h
theorem End.exit_here {id : Nat} (h : End κ w₀ n E (Q .normal)) : End κ w₀ n E (Exit.inBlock id Q (.exit id)) := fun a w g hs => by
  show if id = id then Q .normal a w else Q (.exit id) a w
  rw [if_pos rfl]; exact h a w g hs
theorem End.exit_past {id id' : Nat} (hne : id' ≠ id) (h : End κ w₀ n E (Q (.exit id'))) : End κ w₀ n E (Exit.inBlock id Q (.exit id')) := fun a w g hs => by
  show if id' = id then Q .normal a w else Q (.exit id') a w
  rw [if_neg hne]; exact h a w g hs
theorem End.ret_then (h : End κ w₀ n E (Q .ret)) : End κ w₀ n E (Exit.then K Q .ret) := h
theorem End.ret_block {id : Nat} (h : End κ w₀ n E (Q .ret)) : End κ w₀ n E (Exit.inBlock id Q .ret) := h
theorem End.normal_then (h : End κ w₀ n E K) : End κ w₀ n E (Exit.then K Q .normal) := h
theorem End.normal_block {id : Nat} (h : End κ w₀ n E (Q .normal)) : End κ w₀ n E (Exit.inBlock id Q .normal) := h
theorem End.code (h : A κ P w₀ n y E Q) : End κ w₀ n E (y.wpIn (FR κ.rd) 0 P Q) := h
theorem End.sub {R : Act → World → Prop} (hs : Sub E₁ E) (h : End κ w₀ n E₁ R) : End κ w₀ n E R := fun a w g hst => h a w g (hst.sub hs)
/-- What a round of a loop comes to: a state of the loop that is measured lower. -/
def Again (κ : Cx) (w₀ : World) (n : Nat) {ι : Type} (G : ι → Prop) (I : ι → Env) (μ : ι → Nat) (i : ι) (a : Act) (w : World) : Prop := ∃ j, G j ∧ μ j < μ i ∧ Below w₀.heap.size w₀ w ∧ St κ n w₀.heap.size (I j) a w
theorem End.again {ι : Type} {G : ι → Prop} {I : ι → Env} {μ : ι → Nat} {i : ι} (j : ι) (hG : G j) (hμ : μ j < μ i) (hs : Sub (I j) E) : End κ w₀ n E (Again κ w₀ n G I μ i) :=
  fun _ _ g hst => ⟨j, hG, hμ, g, hst.sub hs⟩

theorem least_of {p : Nat → Prop} : ∀ {m : Nat}, p m → ∃ k, p k ∧ ∀ j, p j → k ≤ j := by
  intro m
  induction m using Nat.strongRecOn with
  | _ m ih =>
    intro hm
    by_cases h : ∃ j, j < m ∧ p j
    · obtain ⟨j, hj, hp⟩ := h; exact ih j hj hp
    · exact ⟨m, hm, fun j hj => by
        rcases Nat.lt_or_ge j m with hlt | hge
        · exact absurd ⟨j, hlt, hj⟩ h
        · exact hge⟩
/-- A loop: the environments I i, one for each state i of the loop with G i, and a measure that every round lowers. -/
theorem A.loop {ι : Type} (G : ι → Prop) (I : ι → Env) (μ : ι → Nat) (i₀ : ι) (hG : G i₀) (h0 : Sub (I i₀) E)
    (round : ∀ i, G i → A κ P w₀ n c (I i) (Exit.then (Again κ w₀ n G I μ i) Q)) : A κ P w₀ n (.loop c) E Q := fun a w g hs => by
  have hex : ∀ p : Act × World, ∃ k : Nat, (∃ j, G j ∧ Below w₀.heap.size w₀ p.2 ∧ St κ n w₀.heap.size (I j) p.1 p.2) → ∃ j, (G j ∧ Below w₀.heap.size w₀ p.2 ∧ St κ n w₀.heap.size (I j) p.1 p.2) ∧ μ j = k ∧ ∀ j', (G j' ∧ Below w₀.heap.size w₀ p.2 ∧ St κ n w₀.heap.size (I j') p.1 p.2) → k ≤ μ j' := by
    intro p
    by_cases h : ∃ j, G j ∧ Below w₀.heap.size w₀ p.2 ∧ St κ n w₀.heap.size (I j) p.1 p.2
    · obtain ⟨j, hj⟩ := h
      obtain ⟨k, ⟨j', hj', hk⟩, hmin⟩ := least_of (p := fun k => ∃ j, (G j ∧ Below w₀.heap.size w₀ p.2 ∧ St κ n w₀.heap.size (I j) p.1 p.2) ∧ μ j = k) ⟨j, hj, rfl⟩
      exact ⟨k, fun _ => ⟨j', hj', hk, fun j'' h'' => hmin _ ⟨j'', h'', rfl⟩⟩⟩
    · exact ⟨0, fun h' => absurd h' h⟩
  obtain ⟨m, hm⟩ := Classical.axiomOfChoice hex
  refine wpIn_loop (fun a w => ∃ j, G j ∧ Below w₀.heap.size w₀ w ∧ St κ n w₀.heap.size (I j) a w) (fun a w => m (a, w)) ⟨i₀, hG, g, hs.sub h0⟩ fun a w hI => ?_
  obtain ⟨j, ⟨hGj, hg, hst⟩, hμ, _⟩ := hm (a, w) hI
  refine wpIn_mono (round j hGj a w hg hst) fun e a' w' hq => ?_
  cases e with
  | normal =>
    obtain ⟨j', hG', hlt, hg', hst'⟩ := hq
    refine ⟨⟨j', hG', hg', hst'⟩, ?_⟩
    obtain ⟨_, _, _, hmin⟩ := hm (a', w') ⟨j', hG', hg', hst'⟩
    have := hmin j' ⟨hG', hg', hst'⟩
    show m (a', w') < m (a, w)
    omega
  | exit id => exact hq
  | goto l => exact hq
  | ret => exact hq
  | panic ch => exact hq
  | outgrown => exact hq

/-- What a function's body must come to. -/
abbrev BP (P : Program) (fn : Func) (R : Ending → World → Prop) : Exit → Act → World → Prop := bodyPostM (FR none) 0 P fn R
/-- Slots at a function's beginning. -/
def Start (B : Nat) (ds : List D) (E : Env) : Prop := ∀ p ∈ E, ∃ d, ds[p.1]? = some d ∧ (p.2 = d ∨ p.2 = old B d)
theorem Start.nil {B : Nat} {ds : List D} : Start B ds [] := fun _ h => by cases h
theorem Start.v {B : Nat} {ds : List D} {t : Nat} {d : D} {E : Env} (h : ds[t]? = some d) (hr : Start B ds E) : Start B ds ((t, d) :: E) := fun p hp => by
  rcases List.mem_cons.1 hp with rfl | hp
  · exact ⟨d, h, .inl rfl⟩
  · exact hr p hp
theorem Start.old {B : Nat} {ds : List D} {t : Nat} {d : D} {E : Env} (h : ds[t]? = some d) (hr : Start B ds E) : Start B ds ((t, Go.Proofs.Ytdnblilocdddpaa.old B d) :: E) := fun p hp => by
  rcases List.mem_cons.1 hp with rfl | hp
  · exact ⟨d, h, .inr rfl⟩
  · exact hr p hp
theorem Fn.of {f : FuncId} {fn : Func} {c : Code} {ds : List D} {d : D} (hf : P.funcs[f]? = some fn) (hb : fn.body = some c) (hname : (fn.name == "runtime.NumGoroutine") = false) (hn : fn.ntmps = n) (hds : ds.length ≤ n) (E : World → Env)
    (hE : ∀ w, Start w.heap.size ds (E w)) (h : ∀ w₀, A Cx.top P w₀ n c (E w₀) (BP P fn (PostOf w₀ d))) : Fn P f ds d := by
  refine ⟨⟨fn, hf, hname, by rw [hb]; rfl⟩, fun vs w hl hv => callsIn_FR.1 (callsIn_of_wp_marks (F := FR none) (n := 0) hf hb trivial (h w _ w (Below.refl _ _) ⟨Nat.le_refl _, rfl, ?_, fun t e he => ?_⟩))⟩
  · simp [hl, hn]; omega
  · obtain ⟨d', hd', hor⟩ := hE w _ (look_mem he)
    have hlt : t < vs.length := by have := (List.getElem?_eq_some_iff.1 hd').1; simp at this; omega
    have hget : (vs.toArray ++ Array.replicate (fn.ntmps - vs.toArray.size) undef).getD t undef = vs[t] := by
      rw [Array.getD_eq_getD_getElem?, Array.getElem?_append_left (by simpa using hlt)]
      simp [hlt]
    show e.Of w ((vs.toArray ++ Array.replicate (fn.ntmps - vs.toArray.size) undef).getD t undef)
    rw [hget]
    have h1 := hv t d' vs[t] hd' (List.getElem?_eq_getElem hlt)
    rcases hor with h2 | h2
    · simp only at h2; rw [h2]; exact h1
    · simp only at h2; rw [h2]; exact ⟨Nat.le_refl _, h1⟩

/-- return, where nothing is deferred. -/
theorem BP.ret {fn : Func} {R : Ending → World → Prop} {a : Act} {w : World} (hd : a.defers = []) (h : ∃ v, (results fn a.tmps).run P w = .ok v w ∧ R (.returned v) w) : BP P fn R .ret a w := by
  show LeavesInM (FR none) 0 P fn a.tmps R a.defers .returning w
  rw [hd]; exact h
/-- return, with one result. -/
theorem End.ret1 {fn : Func} {r : Nat} {d e : D} (hr : fn.results = #[.tmp r]) (he : E.look r = some e) (hl : Le e d) : End Cx.top w₀ n E (BP P fn (PostOf w₀ d) .ret) := fun a w g hs =>
  BP.ret hs.defers ⟨a.tmps.getD r undef, by simp [results, hr], _, rfl, g, hl.of (hs.of r e he)⟩
theorem End.ret2 {fn : Func} {r s : Nat} {d₁ d₂ e₁ e₂ : D} (hr : fn.results = #[.tmp r, .tmp s]) (he₁ : E.look r = some e₁) (hl₁ : Le e₁ d₁) (he₂ : E.look s = some e₂) (hl₂ : Le e₂ d₂) : End Cx.top w₀ n E (BP P fn (PostOf w₀ (tup [d₁, d₂])) .ret) := fun a w g hs =>
  BP.ret hs.defers ⟨.tuple #[a.tmps.getD r undef, a.tmps.getD s undef], by simp [results, hr], _, rfl, g, [a.tmps.getD r undef, a.tmps.getD s undef], rfl, rfl, fun j d u hd hu => by
    match j, hd, hu with
    | 0, hd, hu => simp only [List.getElem?_cons_zero, Option.some.injEq] at hd hu; subst hd; subst hu; exact hl₁.of (hs.of r e₁ he₁)
    | 1, hd, hu => simp only [List.getElem?_cons_succ, List.getElem?_cons_zero, Option.some.injEq] at hd hu; subst hd; subst hu; exact hl₂.of (hs.of s e₂ he₂)
    | j + 2, hd, _ => simp at hd⟩

/-- A slice that the call has just made gets a name for its block; the block's cells stand in the environment under number k. -/
theorem A.open {t k : Nat} {e : TypeId} {xs : List Value} {m : Nat} (ht : E.look t = some (fresh w₀.heap.size e xs m)) (h : ∀ b, w₀.heap.size ≤ b → A κ P w₀ n c ((t, .v (.slice (some ⟨b, 0, none⟩) m xs.length)) :: (k, blk b e xs) :: E) Q) : A κ P w₀ n c E Q := fun a w g hs => by
  obtain ⟨b, h1, h2, h3, h4⟩ := hs.of t _ ht
  refine h b h2 a w g ⟨hs.base, hs.defers, hs.size, fun s d hd => ?_⟩
  by_cases hts : t = s
  · subst hts
    rw [look_here] at hd; injection hd with hd; subst hd; exact h1
  · rw [look_past _ _ hts] at hd
    by_cases hks : k = s
    · subst hks
      rw [look_here] at hd; injection hd with hd; subst hd; exact ⟨h3, h4⟩
    · rw [look_past _ _ hks] at hd
      exact hs.of s d hd
/-- A slice of bytes of the call's own, whose cells are known, reads as their list. -/
theorem End.bytes {R : Act → World → Prop} (t k : Nat) {b : Nat} {e : TypeId} {xs : List Value} (l : List UInt8) {m c : Nat} (ht : E.look t = some (.v (.slice (some ⟨b, 0, none⟩) m c))) (hm : m = l.length) (hk : E.look k = some (blk b e xs)) (hl : xs.take l.length = l.map byteV) (h1 : l.length ≤ c) (h2 : c ≤ maxLen)
    (h : End κ w₀ n ((t, bytes l c) :: E) R) : End κ w₀ n E R := fun a w g hs => by
  subst hm
  refine h a w g ⟨hs.base, hs.defers, hs.size, fun s d hd => ?_⟩
  by_cases hts : t = s
  · subst hts
    rw [look_here] at hd; injection hd with hd; subst hd
    have h3 : a.tmps.getD t undef = .slice (some ⟨b, 0, none⟩) l.length c := hs.of t _ ht
    obtain ⟨h4, h5⟩ := hs.of k _ hk
    rw [h3]
    exact bytes_mk h1 h2 (hl ▸ blk_row h4 h5 l.length)
  · rw [look_past _ _ hts] at hd
    exact hs.of s d hd
theorem own_le {B : Nat} {e : TypeId} {n : Nat} {vs : List Value} (hn : n = vs.length) : Le (own B e n vs) (lst (vs.map .v)) := by
  subst hn
  intro B' w x h
  obtain ⟨⟨_, h1⟩, h2⟩ := h
  have hv : ∀ (j : Nat) (d : D) (u : Value), (vs.map D.v)[j]? = some d → vs[j]? = some u → d.OfB B' w u := fun j d u hd hu => by
    simp only [List.getElem?_map, hu, Option.map_some, Option.some.injEq] at hd; subst hd; rfl
  rcases h1 with ⟨rfl, h0⟩ | ⟨g, cap, cur, rfl, hb, hh, hnc, hcm, hsz, htk⟩
  · have : vs = [] := List.eq_nil_of_length_eq_zero h0
    subst this
    exact ⟨0, none, [], by simp, by simp, Nat.zero_le _, rfl, RowIn.nil, fun j d u hd => by simp at hd⟩
  · refine ⟨cap, some ⟨g, 0, none⟩, vs, by simp, by simpa using hnc, hcm, by simp, ?_, hv⟩
    have := blk_row (xs := cur.toList) (h2 g (by simp [Value.ownBlock])) (by simpa using hh) vs.length
    rw [show cur.toList.take vs.length = vs from by simpa using htk] at this
    exact this
end
end Go.Proofs.Ytdnblilocdddpaa
