/-
  OWN WORDS: shapes as plain mathematics: what is under a level, the height, the first sector of a level; the slices and structs that hold them; operations that layer 12 needs. Nothing of one program stands here.
-/
import Derived.Test.YtdnblilocdddpaaText
import Derived.Test.YtdnblilocdddpaaRangeX
import Derived.Test.YtdnblilocdddpaaNonce
import Derived.Test.YtdnblilocdddpaaShort
namespace Go.Proofs.Ytdnblilocdddpaa
open Go Go.RowKit
variable {κ : Cx}

/-! ### Counts -/
/-- What is under level k: the blocks, or the places of the level below. -/
def un (n : Nat) : Nat → Nat
  | 0 => n
  | k + 1 => (un n k + 3) / 4
theorem un_lt (n : Nat) : ∀ (k j : Nat), j < un n k ↔ j * 4 ^ k < n
  | 0, j => by simp [un]
  | k + 1, j => by
    have h1 : j < (un n k + 3) / 4 ↔ j * 4 < un n k := by omega
    show j < (un n k + 3) / 4 ↔ _
    rw [h1, un_lt n k, Nat.mul_assoc, Nat.pow_succ, Nat.mul_comm 4]
theorem un_pos {n : Nat} (h : 1 ≤ n) (k : Nat) : 1 ≤ un n k := (un_lt n k 0).2 (by omega)
theorem un_le {n : Nat} (h : 1 ≤ n) : ∀ k, un n k ≤ n
  | 0 => Nat.le_refl _
  | k + 1 => by
    have := un_le h k
    have := un_pos h k
    show (un n k + 3) / 4 ≤ n
    omega
theorem un_succ (n k : Nat) : un n (k + 1) = (un n k + 3) / 4 := rfl
/-- The level of the root. -/
def hg (n : Nat) : Nat := if n ≤ 4 then 0 else if n ≤ 16 then 1 else if n ≤ 64 then 2 else if n ≤ 256 then 3 else if n ≤ 1024 then 4 else 5
theorem hg_le (n : Nat) : hg n ≤ 5 := by unfold hg; (repeat' split) <;> omega
theorem hg_up {n : Nat} (h : n ≤ 4096) : n ≤ 4 ^ (hg n + 1) := by
  unfold hg
  split
  · simpa
  split
  · simpa
  split
  · simpa
  split
  · simpa
  split
  · simpa
  · simpa
theorem hg_lo {n : Nat} (h0 : hg n ≠ 0) : 4 ^ hg n < n := by
  unfold hg at *
  split at h0
  · exact absurd rfl h0
  rw [if_neg (by omega)]
  split
  · simp; omega
  split
  · simp; omega
  split
  · simp; omega
  split
  · simp; omega
  · simp; omega
theorem un_root {n : Nat} (h1 : 1 ≤ n) (h2 : n ≤ 4096) : un n (hg n + 1) = 1 := by
  have := un_pos h1 (hg n + 1)
  have h3 := un_lt n (hg n + 1) 1
  have := hg_up h2
  omega
theorem un_big {n k : Nat} (hk : k ≤ hg n) (h0 : k ≠ 0) : 1 < un n k := by
  rw [un_lt, Nat.one_mul]
  exact Nat.lt_of_le_of_lt (Nat.pow_le_pow_right (by decide) hk) (hg_lo (by omega))
/-- Where the loops over the levels stand: at a level, or above the root. -/
theorem un_case {n k : Nat} (h1 : 1 ≤ n) (h2 : n ≤ 4096) (hk : k ≤ hg n + 1) : (1 < un n k ∧ k ≤ hg n) ∨ (¬ 1 < un n k ∧ k = 0 ∧ k ≤ hg n) ∨ (¬ 1 < un n k ∧ k ≠ 0 ∧ k = hg n + 1) := by
  by_cases h : k ≤ hg n
  · by_cases h0 : k = 0
    · by_cases h3 : 1 < un n k
      · exact .inl ⟨h3, h⟩
      · exact .inr (.inl ⟨h3, h0, h⟩)
    · exact .inl ⟨un_big h h0, h⟩
  · obtain rfl : k = hg n + 1 := by omega
    exact .inr (.inr ⟨by rw [un_root h1 h2]; decide, by omega, rfl⟩)
/-- How many places there are below a level. -/
def tot (n : Nat) : Nat → Nat
  | 0 => 0
  | l + 1 => tot n l + un n (l + 1)
theorem tot_le {n : Nat} (h : 1 ≤ n) : ∀ l, tot n l ≤ n * l
  | 0 => Nat.le_refl _
  | l + 1 => by
    have := tot_le h l
    have := un_le h (l + 1)
    show tot n l + un n (l + 1) ≤ n * (l + 1)
    rw [Nat.mul_succ]; omega
theorem tot_small {n l : Nat} (h1 : 1 ≤ n) (h2 : n ≤ 4096) (hl : l ≤ 6) : tot n l ≤ 24576 := Nat.le_trans (tot_le h1 l) (Nat.le_trans (Nat.mul_le_mul h2 hl) (by decide))
theorem tot_succ (n l : Nat) : tot n (l + 1) = tot n l + un n (l + 1) := rfl
theorem tot_mono {n : Nat} {a b : Nat} (h : a ≤ b) : tot n a ≤ tot n b := by
  induction h with
  | refl => exact Nat.le_refl _
  | step _ ih => exact Nat.le_trans ih (Nat.le_add_right _ _)
/-- The first sector of a level's nodes. -/
def bs (n l : Nat) : Nat := 2 * n + 2 * tot n l
theorem bs_succ (n l : Nat) : bs n (l + 1) = bs n l + 2 * un n (l + 1) := by unfold bs; rw [tot_succ]; omega
theorem bs_zero (n : Nat) : bs n 0 = 2 * n := rfl
theorem bs_small {n l : Nat} (h1 : 1 ≤ n) (h2 : n ≤ 4096) (hl : l ≤ 6) : bs n l ≤ 60000 := by have := tot_small h1 h2 hl; unfold bs; omega
theorem bs_mono {n : Nat} {a b : Nat} (h : a ≤ b) : bs n a ≤ bs n b := by have := tot_mono (n := n) h; unfold bs; omega
/-- The level to which a sector of a node belongs. -/
theorem bs_level {n s : Nat} (h0 : bs n 0 ≤ s) : ∀ {m : Nat}, s < bs n m → ∃ l, l < m ∧ bs n l ≤ s ∧ s < bs n (l + 1) ∧ ∀ k, k < l → ¬ s < bs n (k + 1)
  | 0, h => by omega
  | m + 1, h => by
    by_cases hm : s < bs n m
    · obtain ⟨l, h1, h2⟩ := bs_level h0 hm
      exact ⟨l, by omega, h2⟩
    · refine ⟨m, by omega, by omega, h, fun k hk hs => hm ?_⟩
      exact Nat.lt_of_lt_of_le hs (bs_mono (by omega))
/-- How many parts of a place exist. -/
def pts (n l j : Nat) : Nat := min (un n l - 4 * j) 4
theorem pts_pos {n l j : Nat} (h : j < un n (l + 1)) : 1 ≤ pts n l j ∧ pts n l j ≤ 4 ∧ 4 * j < un n l := by
  rw [un_succ] at h
  unfold pts; omega
/-- The first block below a place, and one more than the last one. -/
def frm (l j : Nat) : Nat := j * 4 ^ (l + 1)
def til (n l j : Nat) : Nat := min (j * 4 ^ (l + 1) + 4 ^ (l + 1)) n
theorem frm_lt {n l j : Nat} (h : j < un n (l + 1)) : frm l j < n := (un_lt n (l + 1) j).1 h
theorem pow_small {l : Nat} (h : l ≤ 6) : 4 ^ l ≤ 4096 := Nat.le_trans (Nat.pow_le_pow_right (by decide) h) (by decide)
theorem pow_pos4 (l : Nat) : 1 ≤ 4 ^ l := Nat.pos_of_ne_zero (by simp)

/-! ### A place -/
def IsP (n : Nat) (l j : Int) : Prop := ∃ a b : Nat, l = (a : Int) ∧ j = (b : Int) ∧ a ≤ hg n ∧ b < un n (a + 1)
theorem isP_nat {n a b : Nat} : IsP n (a : Int) (b : Int) ↔ a ≤ hg n ∧ b < un n (a + 1) :=
  ⟨fun ⟨a', b', h1, h2, h3, h4⟩ => by obtain rfl : a = a' := by omega
                                      obtain rfl : b = b' := by omega
                                      exact ⟨h3, h4⟩, fun ⟨h3, h4⟩ => ⟨a, b, rfl, rfl, h3, h4⟩⟩

/-! ### In memory -/
/-- The first k counts, in an array of six. -/
def rowU (n k : Nat) : List Value := (List.range 6).map fun i => nI (if i < k then un n (i + 1) else 0)
theorem rowU_length (n k : Nat) : (rowU n k).length = 6 := by simp [rowU]
theorem rowU_get {n k i : Nat} (h : i < k) (hi : i < 6) : (rowU n k)[i]? = some (nI (un n (i + 1))) := by simp [rowU, hi, h]
theorem rowU_zero (n : Nat) : (List.replicate 6 (.int .i64 0) : List Value) = rowU n 0 := by simp [rowU, List.range, List.range.loop, List.replicate]
theorem rowU_set {n k : Nat} (h : k < 6) : (rowU n k).take (k * 1) ++ [nI (un n (k + 1))] ++ (rowU n k).drop (k * 1 + 1) = rowU n (k + 1) := by
  apply List.ext_getElem?
  intro i
  rw [Nat.mul_one]
  have hl : ((rowU n k).take k).length = k := by rw [List.length_take, rowU_length]; omega
  rcases Nat.lt_trichotomy i k with hik | rfl | hik
  · rw [List.append_assoc, List.getElem?_append_left (by omega), List.getElem?_take, if_pos hik, rowU_get hik (by omega), rowU_get (by omega) (by omega)]
  · rw [List.append_assoc, List.getElem?_append_right (by omega), hl, Nat.sub_self, rowU_get (by omega) (by omega)]; rfl
  · rw [List.getElem?_append_right (by simp only [List.length_append, hl, List.length_singleton]; omega)]
    simp only [List.length_append, hl, List.length_singleton, List.getElem?_drop, show k + 1 + (i - (k + 1)) = i from by omega]
    unfold rowU
    simp only [List.getElem?_map]
    cases hi : (List.range 6)[i]? with
    | none => rfl
    | some x =>
      have hx : i < 6 ∧ x = i := by
        obtain ⟨h1, h2⟩ := List.getElem?_eq_some_iff.1 hi
        simp at h1 h2; exact ⟨h1, h2.symm⟩
      obtain ⟨_, rfl⟩ := hx
      simp only [Option.map_some]
      rw [if_neg (by omega), if_neg (by omega)]
/-- A shape, whose counts stand in block b. -/
def shV (n b : Nat) : List Value := [nI n, .slice (some ⟨b, 0, none⟩) (hg n + 1) 6]
/-- No shape at all. -/
def sh0 : List Value := [.int .i64 0, .slice none 0 0]
def plV (l j : Nat) : List Value := [nI l, nI j]
/-- The place of level hg n - i on the path of a block. -/
def stp (n x i : Nat) : List Value := plV (hg n - i) (x / 4 ^ (hg n - i + 1))
/-- The first k places of a path, in a row with room for all. -/
def pathV (n x k : Nat) : List Value := (List.range k).flatMap (stp n x) ++ List.replicate (2 * (hg n + 1 - k)) (.int .i64 0)
theorem steps_length (n x k : Nat) : ((List.range k).flatMap (stp n x)).length = 2 * k := by
  induction k with
  | zero => rfl
  | succ k ih => rw [List.range_succ, List.flatMap_append, List.length_append, ih]; simp [stp, plV]; omega
theorem pathV_length {n x k : Nat} (h : k ≤ hg n + 1) : (pathV n x k).length = 2 * (hg n + 1) := by
  unfold pathV; rw [List.length_append, steps_length, List.length_replicate]; omega
theorem pathV_zero (n x : Nat) : (List.replicate (2 * (hg n + 1)) (.int .i64 0) : List Value) = pathV n x 0 := rfl
theorem pathV_set {n x k : Nat} (h : k < hg n + 1) : (pathV n x k).take (k * 2) ++ stp n x k ++ (pathV n x k).drop (k * 2 + 2) = pathV n x (k + 1) := by
  have hl := steps_length n x k
  unfold pathV
  rw [List.take_left' (by omega), List.drop_append, List.drop_of_length_le (by omega), List.nil_append, List.drop_replicate, List.range_succ, List.flatMap_append]
  simp only [List.flatMap_cons, List.flatMap_nil, List.append_nil]
  rw [hl, show 2 * (hg n + 1 - k) - (k * 2 + 2 - 2 * k) = 2 * (hg n + 1 - (k + 1)) from by omega]
theorem pathV_full (n x : Nat) : pathV n x (hg n + 1) = (List.range (hg n + 1)).flatMap (stp n x) := by simp [pathV]
theorem pathV_get {n x i : Nat} (h : i < hg n + 1) : ((pathV n x (hg n + 1)).drop (i * 2)).take 2 = stp n x i := by
  rw [pathV_full]
  generalize hg n + 1 = m at h
  induction m with
  | zero => omega
  | succ m ih =>
    have hl := steps_length n x m
    rw [List.range_succ, List.flatMap_append]
    simp only [List.flatMap_cons, List.flatMap_nil, List.append_nil]
    rcases Nat.lt_or_ge i m with hi | hi
    · rw [List.drop_append_of_le_length (by omega), List.take_append_of_le_length (by rw [List.length_drop]; omega)]
      exact ih hi
    · obtain rfl : i = m := by omega
      rw [List.drop_append, List.drop_of_length_le (by omega), List.nil_append, hl, show i * 2 - 2 * i = 0 from by omega, List.drop_zero]
      rfl

/-! ### Operations -/
theorem FnM.key {P : Program} {f : FuncId} {k : Nat} {e d : D} {ds : List D} (k' : Nat) (h : FnM P f [(k, e)] ds d) : FnM P f [(k', e)] ds d :=
  ⟨h.body, fun vs w hM h1 h2 => h.calls vs w (fun p hp => by simp only [List.mem_cons, List.not_mem_nil, or_false] at hp; subst hp; exact hM (k', e) List.mem_cons_self) h1 h2⟩
/-- From a contract that speaks of a block by name, one that takes a new value over such a block. -/
theorem FnM.new {P : Program} {f : FuncId} {k : Nat} {T : TypeId} {d : D} {val : Nat → Value} {xs : List Value} {ds : List D} (h : ∀ b, FnM P f [(k, blk b T xs)] (.v (val b) :: ds) d) : Fn P f (newD 0 T val xs :: ds) d :=
  ⟨(h 0).body, fun vs w hl hv => by
    cases vs with
    | nil => simp at hl
    | cons v vs =>
      obtain ⟨b, h1, _, h3, h4⟩ := hv 0 _ v rfl rfl
      subst h1
      refine (h b).calls (val b :: vs) w (fun p hp => ?_) hl fun j e u he hu => ?_
      · simp only [List.mem_cons, List.not_mem_nil, or_false] at hp; subst hp; exact ⟨h3, h4⟩
      · cases j with
        | zero => simp only [List.getElem?_cons_zero, Option.some.injEq] at he hu; subst he; subst hu; rfl
        | succ j => exact hv (j + 1) e u (by simpa using he) hu⟩
section
variable {P : Program} {B : Nat} {E : Env} {dst : Option Tmp} {ty : TypeId} {pos : String} {after : Array Edge} {guard : Option (Nat × Bool)}
/-- A call of a function that reads one block that is known. -/
theorem ok_callK {f : FuncId} {args : Array Operand} {argTypes : Array TypeId} {ds : List D} {d e : D} {k₀ : Nat} (k : Nat) (hf : FnM P f [(k₀, e)] ds d) (hk : vbase ≤ k) (hE : E.look k = some e) (ha : Args E ds args.toList) :
    OpOk P B ⟨dst, .call { callee := .value (.func f), args := args, argTypes := argTypes }, ty, pos, after, guard⟩ E d :=
  ok_callM (hf.key k) (Sub.cons hE Sub.nil) (fun p hp => by simp only [List.mem_cons, List.not_mem_nil, or_false] at hp; subst hp; exact hk) ha
/-- Two truths compared. -/
theorem ok_neBoolS {t t' : TypeId} {x y : Operand} {a b : Bool} (ht : P.underlying t = some .bool) (hx : E.at x = some (.v (.bool a))) (hy : E.at y = some (.v (.bool b))) : OpOk P B ⟨dst, .binOp .neq t x y t', ty, pos, after, guard⟩ E (.v (.bool (!(a == b)))) := fun ρ w _ _ hρ => by
  have h1 : ρ x = .bool a := hρ x (by simp [Op.operands]) _ hx
  have h2 : ρ y = .bool b := hρ y (by simp [Op.operands]) _ hy
  have h3 := run_equalIn_bool' (P := P) w 9999 t a b ht
  exact out_val (w' := w) (by simp [execOp, h1, h2, eqGuard, binOp, Op.equal, Op.maxDepth, h3]) ⟨Grow.refl w, rfl⟩
/-- The first part of a nil slice. -/
theorem ok_sliceNil {t e : TypeId} {z : Value} {nb : Nat} {x ho : Operand} {k : IntKind} (ht : P.underlying t = some (.slice e)) (hs : InfoIs P e z nb) (hx : E.at x = some (.v (.slice none 0 0))) (hho : E.at ho = some (.v (.int k 0))) :
    OpOk P B ⟨dst, .slice t x none (some ho) none, ty, pos, after, guard⟩ E (.v (.slice none 0 0)) := fun ρ w _ _ hρ => by
  have h1 : ρ x = .slice none 0 0 := hρ x (by simp [Op.operands]) _ hx
  have h2 : ρ ho = .int k 0 := hρ ho (by simp [Op.operands]) _ hho
  obtain ⟨info, hinfo, _, hsize, _⟩ := hs.get
  have hb := sliceBounds_run (P := P) (sl := true) (len := 0) (cap := 0) (l := 0) (h := 0) (m := 0) (L := none) (H := some (.int k 0)) (M := none) w (.inr ⟨rfl, rfl⟩) (.inl ⟨k, rfl⟩) (.inr ⟨rfl, rfl⟩) (Nat.le_refl _) (Nat.le_refl _) (Nat.le_refl _)
  have hr : (Instr.sliceAt t (.slice none 0 0) none (some (.int k 0)) none).run P w = .ok (.slice none 0 0) w := by
    simp only [Instr.sliceAt, Instr.slice, Sem.run_bind, run_underlying ht, Result.andThen_ok, hb, sizeOf, typeInfo]
    simp [hinfo, hsize]
  exact out_val (x := .slice none 0 0) (w' := w) (by simp only [execOp, h1, h2, Option.map_none, Option.map_some, Sem.run_bind, hr, Result.andThen_ok, Sem.run_pure]) ⟨Grow.refl w, rfl⟩
/-- An element's address, of several cells, in a slice whose value is known. -/
theorem ok_indexS {t e : TypeId} {z : Value} {nb sz : Nat} {x i : Operand} {b o n c : Nat} {k : IntKind} {j : Int} (m : Nat) (ht : P.underlying t = some (.slice e)) (hs : InfoP P e z sz nb) (hx : E.at x = some (.v (.slice (some ⟨b, o, none⟩) n c))) (hi : E.at i = some (.v (.int k j)))
    (h0 : j = (m : Int)) (hn : m < n) : OpOk P B ⟨dst, .indexAddr t x i, ty, pos, after, guard⟩ E (.v (.pointer (some ⟨b, o + m * sz, none⟩))) := fun ρ w _ _ hρ => by
  have h1 : ρ x = _ := hρ x (by simp [Op.operands]) _ hx
  have hi' : ρ i = .int k j := hρ i (by simp [Op.operands]) _ hi
  obtain ⟨info, hinfo, _, hsize, _⟩ := hs.get
  subst h0
  refine out_val (w' := w) ?_ ⟨Grow.refl w, rfl⟩
  simp [execOp, h1, hi', Instr.indexAt, asIntOf, run_underlying ht, sizeOf, typeInfo, hinfo, hsize, hn, add_lit0]
/-- A row of no structs of two numbers, with room. -/
theorem ok_makePl {t e : TypeId} {x y : Operand} {nb : Nat} {k k' : IntKind} (c : Nat) (ht : P.underlying t = some (.slice e)) (hinfo : InfoP P e (.agg #[.int .i64 0, .int .i64 0]) 2 nb) (hnb : nb ≤ 64)
    (hx : E.at x = some (.v (.int k 0))) (hy : E.at y = some (.v (.int k' (c : Int)))) (hc : c ≤ 4398046511104) :
    OpOk P B ⟨dst, .makeSlice t x y, ty, pos, after, guard⟩ E (newD B e (fun b => .slice (some ⟨b, 0, none⟩) 0 c) (List.replicate (2 * c) (.int .i64 0))) := by
  have h := ok_make0K (P := P) (B := B) (E := E) (dst := dst) (ty := ty) (pos := pos) (after := after) (guard := guard) c ht hinfo hnb hx hy hc
  have hm : (madeCells (Value.agg #[.int .i64 0, .int .i64 0]).cells (c * 2)).toList = List.replicate (2 * c) (.int .i64 0) := by
    apply List.ext_getElem
    · simp [madeCells]; omega
    · intro i h1 h2
      simp only [List.getElem_replicate]
      simp only [madeCells, Value.cells, Array.toList_map, List.getElem_map]
      have : ∀ m, (#[Value.int .i64 0, Value.int .i64 0] : Array Value)[m % 2]! = .int .i64 0 := fun m => by
        rcases (show m % 2 = 0 ∨ m % 2 = 1 by omega) with h | h <;> rw [h] <;> rfl
      exact this _
  rwa [hm] at h
/-- A slice of one number. -/
theorem ok_build1N {t e : TypeId} {z : Value} {nb : Nat} {x : Operand} {k : IntKind} {a : Int} (ht : P.underlying t = some (.slice e)) (hs : InfoP P e z 1 nb) (hz : z.cells.size = 1) (hx : E.at x = some (.v (.int k a))) :
    OpOk P B ⟨dst, .buildSlice t 1 #[(0, x)], ty, pos, after, guard⟩ E (oneP [.int k a]) := fun ρ w _ _ hρ => by
  obtain ⟨i, hi, hzv, hsize, _⟩ := hs.get
  have h1 : ρ x = .int k a := hρ x (by simp [Op.operands]) _ hx
  have hfill : Instr.fill (fun j => some (j * i.size, i.size)) ((Array.range (1 * i.size)).map (z.cells[· % z.cells.size]!)) [(0, ρ x)] = some #[.int k a] := by
    rw [hsize, h1, hz]
    have h2 : ((Array.range (1 * 1)).map fun y => z.cells[y % 1]!) = #[z.cells[0]!] := by
      rw [show Array.range (1 * 1) = #[0] from by decide]
      simp
    rw [h2]
    simp [Instr.fill, Value.cells]
  have hr := run_buildSlice (P := P) w t e 1 #[(0, ρ x)] #[.int k a] i z ht hi hzv (by rw [hsize]; decide) (by rw [hsize]; decide) (by simpa using hfill)
  refine out_val (x := .slice (some ⟨w.heap.size, 0, none⟩) 1 1) (w' := w.alloc (.cells #[.int k a] e)) (by simp [execOp, hr]) ⟨Grow.alloc w _, _, rfl, by simp, fun j u hu => ?_⟩
  have hh : (w.alloc (.cells #[.int k a] e)).heap[w.heap.size]? = some (.cells #[.int k a] e (0, 0)) := heap_alloc_new w _
  rw [show (⟨w.heap.size, 0, none⟩ : Addr).add j = ⟨w.heap.size, j, none⟩ from by unfold Addr.add; split <;> simp_all]
  simp only [World.cell?, hh]
  simpa using hu
/-- A field of a struct's value. -/
theorem ok_fieldV {t : TypeId} {x : Operand} {i off : Nat} {xs : List Value} {u : Value} (hf : (P.underlying t).bind (fun d => match d with | .struct fs => (fs[i]?).bind fun f => (P.underlying f.type).map fun _ => (f.offset, isAggT P f.type) | _ => none) = some (off, false)) (hx : E.at x = some (.v (aggV xs))) (hu : xs[off]? = some u) :
    OpOk P B ⟨dst, .field t x i, ty, pos, after, guard⟩ E (.v u) := fun ρ w _ _ hρ => by
  have h1 : ρ x = .agg xs.toArray := hρ x (by simp [Op.operands]) _ hx
  cases hut : P.underlying t with
  | none => rw [hut] at hf; cases hf
  | some d =>
    rw [hut] at hf
    cases d with
    | struct fs =>
      simp only [Option.bind_some] at hf
      cases hfi : fs[i]? with
      | none => rw [hfi] at hf; cases hf
      | some f =>
        rw [hfi] at hf
        simp only [Option.bind_some] at hf
        cases huf : P.underlying f.type with
        | none => rw [huf] at hf; cases hf
        | some td =>
          rw [huf] at hf
          simp only [Option.map_some, Option.some.injEq, Prod.mk.injEq] at hf
          obtain ⟨h2, h3⟩ := hf
          have hp : (part f.type xs.toArray f.offset).run P w = .ok u w := by
            simp only [part, Sem.run_bind, run_isAgg huf, Result.andThen_ok, h3]
            rw [h2]
            simp [hu]
          exact out_val (w' := w) (by simp [execOp, h1, Instr.field, run_underlying hut, hfi, asAgg, hp]) ⟨Grow.refl w, rfl⟩
    | _ => simp at hf
/-- Equality of structs of a truth and three numbers. -/
def secB (P : Program) (t tb ti : TypeId) : Bool := match (P.fieldsOf t).toList with
  | [a, b, c, d] => a.name != "_" && a.type == tb && a.offset == 0 && (b.name != "_" && b.type == ti && b.offset == 1) && (c.name != "_" && c.type == ti && c.offset == 2) && (d.name != "_" && d.type == ti && d.offset == 3)
  | _ => false
def secV (d : Bool) (l j s : Int) : List Value := [.bool d, .int .i64 l, .int .i64 j, .int .i64 s]
theorem part_plain {t : TypeId} {td : TypeDesc} (hu : P.underlying t = some td) (hg : isAggT P t = false) {zs : List Value} {o : Nat} {u : Value} (h : zs[o]? = some u) (w : World) : (part t zs.toArray o).run P w = .ok u w := by
  simp only [part, Sem.run_bind, run_isAgg hu, Result.andThen_ok, hg]
  simp [h]
theorem equal_sec {t tb ti : TypeId} (ht : P.underlying t = some (.struct (P.fieldsOf t))) (hp : P.stoodInHeld t = false) (hs : secB P t tb ti = true) (hb : P.underlying tb = some .bool) (hi : P.underlying ti = some (.int .i64)) {d d' : Bool} {l l' j j' s s' : Int} (w : World) :
    (Op.equalIn 10000 t (.agg (secV d l j s).toArray) (.agg (secV d' l' j' s').toArray)).run P w = .ok (decide (d = d' ∧ l = l' ∧ j = j' ∧ s = s')) w := by
  have hgb : isAggT P tb = false := by unfold isAggT; rw [hb]
  have hgi : isAggT P ti = false := by unfold isAggT; rw [hi]
  rw [show 10000 = 9999 + 1 from rfl, run_equalIn_struct w 9999 t _ _ ht hp]
  unfold secB at hs
  split at hs
  · rename_i a b c e hl
    simp only [Bool.and_eq_true, bne_iff_ne, ne_eq, beq_iff_eq] at hs
    obtain ⟨⟨⟨⟨⟨a1, a2⟩, a3⟩, ⟨b1, b2⟩, b3⟩, ⟨c1, c2⟩, c3⟩, ⟨e1, e2⟩, e3⟩ := hs
    rw [hl]
    have pb : ∀ (zs : List Value) (u : Value), zs[0]? = some u → (part tb zs.toArray 0).run P w = .ok u w := fun zs u h => part_plain hb hgb h w
    have pi : ∀ (zs : List Value) (o : Nat) (u : Value), zs[o]? = some u → (part ti zs.toArray o).run P w = .ok u w := fun zs o u h => part_plain hi hgi h w
    have p1 : ∀ d l j s, (part ti (secV d l j s).toArray 1).run P w = .ok (.int .i64 l) w := fun d l j s => pi _ 1 _ rfl
    have p2 : ∀ d l j s, (part ti (secV d l j s).toArray 2).run P w = .ok (.int .i64 j) w := fun d l j s => pi _ 2 _ rfl
    have p3 : ∀ d l j s, (part ti (secV d l j s).toArray 3).run P w = .ok (.int .i64 s) w := fun d l j s => pi _ 3 _ rfl
    have eb := run_equalIn_bool' (P := P) w 9998 tb d d' hb
    have ei : ∀ x y : Int, (Op.equalIn 9999 ti (.int .i64 x) (.int .i64 y)).run P w = .ok (x == y) w := fun x y => run_equalIn_int w 9998 ti .i64 .i64 x y hi
    simp only [Op.eqFields, if_pos (show a.name ≠ "_" from a1), if_pos (show b.name ≠ "_" from b1), if_pos (show c.name ≠ "_" from c1), if_pos (show e.name ≠ "_" from e1), a2, a3, b2, b3, c2, c3, e2, e3, Sem.run_bind,
      pb (secV d l j s) (.bool d) rfl, pb (secV d' l' j' s') (.bool d') rfl, Result.andThen_ok, eb]
    by_cases hd : d = d'
    · subst hd
      by_cases hl' : l = l'
      · subst hl'
        by_cases hj : j = j'
        · subst hj
          by_cases hs' : s = s'
          · subst hs'; simp [p1, p2, p3, ei]
          · simp [p1, p2, p3, ei, hs']
        · simp [p1, p2, ei, hj]
      · simp [p1, ei, hl']
    · simp [hd]
  · cases hs
theorem ok_eqlS {t t' tb ti : TypeId} {x y : Operand} {d d' : Bool} {l l' j j' s s' : Int} (ht : P.underlying t = some (.struct (P.fieldsOf t))) (hp : P.stoodInHeld t = false) (hs : secB P t tb ti = true) (hb : P.underlying tb = some .bool) (hi : P.underlying ti = some (.int .i64)) (hm : P.eqGuardType P.depth t = false)
    (hx : E.at x = some (.v (aggV (secV d l j s)))) (hy : E.at y = some (.v (aggV (secV d' l' j' s')))) : OpOk P B ⟨dst, .binOp .eql t x y t', ty, pos, after, guard⟩ E (.v (.bool (decide (d = d' ∧ l = l' ∧ j = j' ∧ s = s')))) := fun ρ w _ _ hρ => by
  have h1 : ρ x = .agg (secV d l j s).toArray := hρ x (by simp [Op.operands]) _ hx
  have h2 : ρ y = .agg (secV d' l' j' s').toArray := hρ y (by simp [Op.operands]) _ hy
  have := equal_sec (P := P) ht hp hs hb hi (d := d) (d' := d') (l := l) (l' := l') (j := j) (j' := j') (s := s) (s' := s') w
  exact out_val (w' := w) (by simp only [execOp, h1, h2, Sem.run_bind, run_eqGuard_agg _ _ _ _ _ _ _ hm, run_eql_struct, this, Result.andThen_ok, Sem.run_pure]) ⟨Grow.refl w, rfl⟩
theorem ok_neqS {t t' tb ti : TypeId} {x y : Operand} {d d' : Bool} {l l' j j' s s' : Int} (ht : P.underlying t = some (.struct (P.fieldsOf t))) (hp : P.stoodInHeld t = false) (hs : secB P t tb ti = true) (hb : P.underlying tb = some .bool) (hi : P.underlying ti = some (.int .i64)) (hm : P.eqGuardType P.depth t = false)
    (hx : E.at x = some (.v (aggV (secV d l j s)))) (hy : E.at y = some (.v (aggV (secV d' l' j' s')))) : OpOk P B ⟨dst, .binOp .neq t x y t', ty, pos, after, guard⟩ E (.v (.bool (!decide (d = d' ∧ l = l' ∧ j = j' ∧ s = s')))) := fun ρ w _ _ hρ => by
  have h1 : ρ x = .agg (secV d l j s).toArray := hρ x (by simp [Op.operands]) _ hx
  have h2 : ρ y = .agg (secV d' l' j' s').toArray := hρ y (by simp [Op.operands]) _ hy
  have := equal_sec (P := P) ht hp hs hb hi (d := d) (d' := d') (l := l) (l' := l') (j := j) (j' := j') (s := s) (s' := s') w
  exact out_val (w' := w) (by simp only [execOp, h1, h2, Sem.run_bind, run_eqGuard_agg _ _ _ _ _ _ _ hm, run_neq_struct, this, Result.andThen_ok, Sem.run_pure]) ⟨Grow.refl w, rfl⟩
end
/-- return of two values, of which one lies in a new block, from a function in which a range over a function ended. -/
theorem End.newTTC {P : Program} {n : Nat} {w₀ : World} {E : Env} {fn : Func} {D vD r s g kg m : Nat} {e : TypeId} {zs xs : List Value} {u v : Value} {val : Nat → Value} (hD : E.look vD = some (recD D (.deferred (some [])) m)) (hDB : w₀.heap.size ≤ D) (hr : fn.results = #[.tmp r, .tmp s])
    (h1 : E.look r = some (.v u)) (h2 : E.look s = some (.v v)) (h4 : E.look kg = some (blk g e zs)) (hg : w₀.heap.size ≤ g) (hv : val g = .tuple #[u, v]) (hz : zs = xs) : End ⟨none, [{ target := .collected D, args := #[] }]⟩ w₀ n E (BP P fn (PostOf w₀ (newD w₀.heap.size e val xs)) .ret) := fun a w gr hs => by
  subst hz
  obtain ⟨hlt, _, hk⟩ := hs.of vD _ hD
  have h5 : a.tmps.getD r undef = u := hs.of r _ h1
  have h6 : a.tmps.getD s undef = v := hs.of s _ h2
  obtain ⟨hl', hh⟩ := hs.of kg _ h4
  have hne : g ≠ D := fun h => by subst h; rw [hh] at hk; cases hk
  show LeavesInM (FR none) 0 P fn a.tmps _ a.defers .returning w
  rw [show a.defers = [{ target := .collected D, args := #[] }] from hs.defers]
  refine ⟨by simp, .inl ⟨D, _, rfl, run_takeDeferred hk, ?_⟩⟩
  refine ⟨.tuple #[a.tmps.getD r undef, a.tmps.getD s undef], by simp [results, hr], _, rfl, Below.trans gr (below_putObj w _ hDB), g, by rw [h5, h6, hv], hg, by simpa using hl', (World.putObj_heap_other hne).trans hh⟩
theorem tdiv_nat (a b : Nat) : (a : Int).tdiv (b : Int) = ((a / b : Nat) : Int) := (Int.ofNat_tdiv a b).symm
theorem tmod_nat (a b : Nat) : (a : Int).tmod (b : Int) = ((a % b : Nat) : Int) := (Int.ofNat_tmod a b).symm
theorem wrap_eq {a : Int} {m : Nat} (h : a = (m : Int)) (hm : m < 9223372036854775808) : Value.int .i64 (IntKind.i64.wrap a) = nI m := by rw [h, wrapN_i64 hm]
theorem kinP (a b : Int) : Kin (fun _ _ => True) [.i64, .i64] [.int .i64 a, .int .i64 b] := kin_cons (kin_cons kin_nil)
theorem eqP {a b c d : Int} : decide (a = c ∧ b = d) = true ↔ ([.int .i64 a, .int .i64 b] : List Value) = [.int .i64 c, .int .i64 d] := by simp
end Go.Proofs.Ytdnblilocdddpaa
