/-
  OWN TEXTS of this seat, put together, part 5: Flat, More, C07a, C07b, Hold, Nonce, C08a, Acts, Seal, SealE, Rets, C09a.
-/
import Derived.Test.YthadcgkcgpinhaaGreatDoorKB2
import Derived.Test.YthadcgkcgpinhaaGreatDoorKB1
import Derived.Test.YthadcgkcgpinhaaGreatDoorKB4
import Derived.Test.YthadcgkcgpinhaaGreatDoorKB3
import Derived.Lib.SliceRun
namespace Go.Proofs.YthadcgkcgpinhaaGreatDoor
open Go Go.RowKit Go.ChangeShapes Go.WideShapes

def flatFs (F : TypeId → Option (List IntKind)) : List Field → Nat → Option (List IntKind)
  | [], _ => some []
  | f :: r, o => match F f.type with
    | none => none
    | some ks => if f.offset = o ∧ f.name ≠ "_" then (flatFs F r (o + ks.length)).map (ks ++ ·) else none
/-- The kinds of a type's cells, where it is made of integers, arrays and structs alone. -/
def flat (P : Program) : Nat → TypeId → Option (List IntKind)
  | 0, _ => none
  | n + 1, t => if P.cellsOf t = 0 then none else match P.underlying t with
    | some (.int k) => if P.cellsOf t = 1 then some [k] else none
    | some (.array len e) => match flat P n e with
      | none => none
      | some ks => if P.cellsOf t = len * ks.length then some (List.replicate len ks).flatten else none
    | some (.struct fs) => match flatFs (flat P n) fs.toList 0 with
      | none => none
      | some ks => if P.cellsOf t = ks.length ∧ P.stoodInHeld t = false then some ks else none
    | _ => none
def isAggT (P : Program) (t : TypeId) : Bool := match P.underlying t with | some (.struct _) => true | some (.array _ _) => true | _ => false
def packT (P : Program) (t : TypeId) (xs : List Value) : Value := if isAggT P t then .agg xs.toArray else xs.headD undef
/-- Cells of these kinds, of whose numbers Q holds. -/
def Kin (Q : IntKind → Int → Prop) (ks : List IntKind) (xs : List Value) : Prop := xs.length = ks.length ∧ ∀ (i : Nat) (k : IntKind), ks[i]? = some k → ∃ n, xs[i]? = some (.int k n) ∧ Q k n
section
variable {Q : IntKind → Int → Prop}
theorem Kin.nil {xs : List Value} (h : Kin Q [] xs) : xs = [] := List.eq_nil_of_length_eq_zero h.1
theorem Kin.one {k : IntKind} {xs : List Value} (h : Kin Q [k] xs) : ∃ n, xs = [.int k n] ∧ Q k n := by
  obtain ⟨n, h1, h2⟩ := h.2 0 k rfl
  refine ⟨n, ?_, h2⟩
  have hl : xs.length = 1 := h.1
  match xs, hl, h1 with
  | [x], _, h1 => simp at h1; rw [h1]
theorem Kin.split {a b : List IntKind} {xs : List Value} (h : Kin Q (a ++ b) xs) : Kin Q a (xs.take a.length) ∧ Kin Q b (xs.drop a.length) := by
  have hl : xs.length = a.length + b.length := by simpa using h.1
  refine ⟨⟨by simp; omega, fun i k hk => ?_⟩, ⟨by simp; omega, fun i k hk => ?_⟩⟩
  · have hi : i < a.length := (List.getElem?_eq_some_iff.1 hk).1
    obtain ⟨n, h1, h2⟩ := h.2 i k (by rw [List.getElem?_append_left hi]; exact hk)
    exact ⟨n, by rw [List.getElem?_take, if_pos hi]; exact h1, h2⟩
  · obtain ⟨n, h1, h2⟩ := h.2 (a.length + i) k (by rw [List.getElem?_append_right (by omega), Nat.add_sub_cancel_left]; exact hk)
    exact ⟨n, by rw [List.getElem?_drop]; exact h1, h2⟩
theorem Kin.join {a b : List IntKind} {xs ys : List Value} (h : Kin Q a xs) (h' : Kin Q b ys) : Kin Q (a ++ b) (xs ++ ys) := by
  refine ⟨by simp [h.1, h'.1], fun i k hk => ?_⟩
  rcases Nat.lt_or_ge i a.length with hi | hi
  · rw [List.getElem?_append_left hi] at hk
    rw [List.getElem?_append_left (by rw [h.1]; exact hi)]
    exact h.2 i k hk
  · rw [List.getElem?_append_right hi] at hk
    rw [List.getElem?_append_right (by rw [h.1]; exact hi), h.1]
    exact h'.2 _ k hk
theorem Kin.append {a b : List IntKind} {xs : List Value} (h : Kin Q (a ++ b) xs) : ∃ x y, xs = x ++ y ∧ Kin Q a x ∧ Kin Q b y :=
  ⟨_, _, (List.take_append_drop a.length xs).symm, h.split.1, h.split.2⟩
theorem Kin.cons {k : IntKind} {b : List IntKind} {xs : List Value} (h : Kin Q (k :: b) xs) : ∃ n y, xs = .int k n :: y ∧ Q k n ∧ Kin Q b y := by
  obtain ⟨x, y, rfl, h1, h2⟩ := Kin.append (a := [k]) h
  obtain ⟨n, rfl, h3⟩ := h1.one
  exact ⟨n, y, rfl, h3, h2⟩
theorem Kin.mono {R : IntKind → Int → Prop} {ks : List IntKind} {xs : List Value} (h : Kin Q ks xs) (hq : ∀ k n, Q k n → R k n) : Kin R ks xs :=
  ⟨h.1, fun i k hk => by obtain ⟨n, h1, h2⟩ := h.2 i k hk; exact ⟨n, h1, hq _ _ h2⟩⟩
theorem Kin.rep {ks : List IntKind} : ∀ {n : Nat} {xs : List Value}, Kin Q (List.replicate n ks).flatten xs → ∀ i, i < n → Kin Q ks ((xs.drop (i * ks.length)).take ks.length)
  | 0, _, _, i, hi => by omega
  | n + 1, xs, h, 0, _ => by
    rw [List.replicate_succ, List.flatten_cons] at h
    simpa using h.split.1
  | n + 1, xs, h, i + 1, hi => by
    rw [List.replicate_succ, List.flatten_cons] at h
    have := Kin.rep h.split.2 i (by omega)
    rwa [List.drop_drop, show ks.length + i * ks.length = (i + 1) * ks.length from by rw [Nat.succ_mul]; omega] at this
end
theorem rep_length {ks : List IntKind} (n : Nat) : (List.replicate n ks).flatten.length = n * ks.length := by
  induction n with
  | zero => simp
  | succ n ih => rw [List.replicate_succ, List.flatten_cons, List.length_append, ih, Nat.succ_mul]; omega
section
variable {P : Program}
theorem flat_cells : ∀ {n : Nat} {t : TypeId} {ks : List IntKind}, flat P n t = some ks → P.cellsOf t = ks.length ∧ 0 < ks.length := by
  intro n t ks h
  cases n with
  | zero => cases h
  | succ n =>
    unfold flat at h
    split at h
    · cases h
    · rename_i h0
      have hk : P.cellsOf t = ks.length := by
        split at h
        · split at h
          · rename_i h1; injection h with h; subst h; exact h1
          · cases h
        · split at h
          · cases h
          · split at h
            · rename_i h1; injection h with h; subst h; rw [h1, rep_length]
            · cases h
        · split at h
          · cases h
          · split at h
            · rename_i h1; injection h with h; subst h; exact h1.1
            · cases h
        · cases h
      exact ⟨hk, by omega⟩
theorem info_of_cells {t : TypeId} (h : 0 < P.cellsOf t) : ∃ i, P.info? t = some i := by
  unfold Program.cellsOf at h
  cases hi : P.info? t with
  | none => rw [hi] at h; simp at h
  | some i => exact ⟨i, rfl⟩
theorem run_isAgg {t : TypeId} {td : TypeDesc} (h : P.underlying t = some td) (w : World) : (isAgg t).run P w = .ok (isAggT P t) w := by
  unfold isAgg isAggT
  rw [Sem.run_bind, run_underlying h w, h]
  cases td <;> simp
theorem flat_under {n : Nat} {t : TypeId} {ks : List IntKind} (h : flat P n t = some ks) : ∃ td, P.underlying t = some td := by
  cases n with
  | zero => cases h
  | succ n =>
    unfold flat at h
    split at h
    · cases h
    · cases hu : P.underlying t with
      | none => rw [hu] at h; cases h
      | some td => exact ⟨td, rfl⟩
/-- A part of an aggregate. -/
theorem flat_part {n : Nat} {t : TypeId} {ks : List IntKind} (h : flat P n t = some ks) (zs : List Value) (o : Nat) (ho : o + ks.length ≤ zs.length) (w : World) : (part t zs.toArray o).run P w = .ok (packT P t ((zs.drop o).take ks.length)) w := by
  obtain ⟨td, hu⟩ := flat_under h
  obtain ⟨hc, hp⟩ := flat_cells h
  obtain ⟨i, hi⟩ := info_of_cells (P := P) (t := t) (by omega)
  simp only [part, Sem.run_bind, run_isAgg hu, Result.andThen_ok]
  unfold packT
  cases hb : isAggT P t with
  | true =>
    simp only [if_true, Sem.run_bind, run_sizeOf w hi, Result.andThen_ok, hc]
    simp
  | false =>
    have hlt : o < zs.length := by omega
    have : ((zs.drop o).take ks.length).headD undef = zs[o] := by
      rw [List.drop_eq_getElem_cons hlt]
      obtain ⟨m, hm⟩ : ∃ m, ks.length = m + 1 := ⟨ks.length - 1, by omega⟩
      rw [hm]
      rfl
    rw [if_neg (by simp), if_neg (by simp), this]
    simp [hlt]
theorem two_parts {xs ys : List Value} {o a b : Nat} (hx : o + (a + b) ≤ xs.length) (hy : o + (a + b) ≤ ys.length) :
    (xs.drop o).take (a + b) = (ys.drop o).take (a + b) ↔ (xs.drop o).take a = (ys.drop o).take a ∧ (xs.drop (o + a)).take b = (ys.drop (o + a)).take b := by
  rw [List.take_add, List.take_add, List.drop_drop, List.drop_drop]
  constructor
  · intro h
    exact List.append_inj h (by simp; omega)
  · rintro ⟨h1, h2⟩
    rw [h1, h2]
/-- Equality of values of such a type. -/
theorem flat_eq : ∀ (n : Nat) {t : TypeId} {ks : List IntKind}, flat P n t = some ks → ∀ (d : Nat) (w : World) (xs ys : List Value), Kin (fun _ _ => True) ks xs → Kin (fun _ _ => True) ks ys →
    ∃ r : Bool, (Op.equalIn (d + n) t (packT P t xs) (packT P t ys)).run P w = .ok r w ∧ (r = true ↔ xs = ys) := by
  intro n
  induction n with
  | zero => intro t ks h; cases h
  | succ n ih =>
    intro t ks h d w xs ys hx hy
    have hks := flat_cells h
    unfold flat at h
    split at h
    · cases h
    · split at h
      · rename_i k hu
        split at h
        · injection h with h; subst h
          obtain ⟨a, rfl, _⟩ := hx.one
          obtain ⟨b, rfl, _⟩ := hy.one
          have hg : isAggT P t = false := by unfold isAggT; rw [hu]
          refine ⟨a == b, ?_, by simp⟩
          unfold packT
          rw [hg]
          exact run_equalIn_int w (d + n) t k k a b hu
        · cases h
      · rename_i len e hu
        split at h
        · cases h
        · rename_i ks' hf
          split at h
          · injection h with h; subst h
            have hg : isAggT P t = true := by unfold isAggT; rw [hu]
            obtain ⟨hc, hp⟩ := flat_cells hf
            obtain ⟨i, hi⟩ := info_of_cells (P := P) (t := e) (by omega)
            unfold packT
            rw [hg, if_pos rfl, if_pos rfl, ← Nat.add_assoc, run_equalIn_array (w := w) (d + n) xs.toArray ys.toArray hu hi, hc]
            have hxl : xs.length = len * ks'.length := by rw [hx.1, rep_length]
            have hyl : ys.length = len * ks'.length := by rw [hy.1, rep_length]
            have key : ∀ is : List Nat, (∀ i ∈ is, i < len) → ∃ r : Bool, (Op.eqItems (d + n) e ks'.length xs.toArray ys.toArray is).run P w = .ok r w ∧ (r = true ↔ ∀ i ∈ is, (xs.drop (i * ks'.length)).take ks'.length = (ys.drop (i * ks'.length)).take ks'.length) := by
              intro is
              induction is with
              | nil => intro _; exact ⟨true, by simp [Op.eqItems], by simp⟩
              | cons j is ihs =>
                intro hj
                have hjl := hj j List.mem_cons_self
                have hb : j * ks'.length + ks'.length ≤ len * ks'.length := by
                  rw [← Nat.succ_mul]; exact Nat.mul_le_mul_right _ hjl
                obtain ⟨r, hr, hri⟩ := ihs fun i hi => hj i (List.mem_cons_of_mem _ hi)
                obtain ⟨r', hr', hri'⟩ := ih hf d w _ _ (hx.rep j hjl) (hy.rep j hjl)
                simp only [Op.eqItems, Sem.run_bind, flat_part hf xs (j * ks'.length) (by omega) w, flat_part hf ys (j * ks'.length) (by omega) w, Result.andThen_ok, hr']
                cases r' with
                | true => exact ⟨r, by simpa using hr, by simp [hri, hri'.1 rfl]⟩
                | false => exact ⟨false, by simp, by simpa using fun h => absurd (hri'.2 h) (by simp)⟩
            obtain ⟨r, hr, hri⟩ := key (List.range len) fun i hi => List.mem_range.1 hi
            refine ⟨r, hr, hri.trans ⟨fun h => ?_, fun h => by subst h; exact fun _ _ => rfl⟩⟩
            apply List.ext_getElem?
            intro j
            rcases Nat.lt_or_ge j (len * ks'.length) with hj | hj
            · have h1 := h (j / ks'.length) (List.mem_range.2 ((Nat.div_lt_iff_lt_mul hp).2 hj))
              have h2 := congrArg (·[j % ks'.length]?) h1
              simp only [List.getElem?_take, if_pos (Nat.mod_lt _ hp), List.getElem?_drop] at h2
              rwa [Nat.mul_comm, Nat.div_add_mod] at h2
            · rw [List.getElem?_eq_none (by omega), List.getElem?_eq_none (by omega)]
          · cases h
      · rename_i fs hu
        split at h
        · cases h
        · rename_i ks' hf
          split at h
          · rename_i hst
            injection h with h; subst h
            have hg : isAggT P t = true := by unfold isAggT; rw [hu]
            have hfo : P.fieldsOf t = fs := by unfold Program.fieldsOf; rw [hu]
            unfold packT
            rw [hg, if_pos rfl, if_pos rfl, ← Nat.add_assoc, run_equalIn_struct w (d + n) t xs.toArray ys.toArray (by rw [hfo]; exact hu) hst.2, hfo]
            have key : ∀ (l : List Field) (o : Nat) (kz : List IntKind), flatFs (flat P n) l o = some kz → ∀ ka : List IntKind, Kin (fun _ _ => True) (ka ++ kz) xs → Kin (fun _ _ => True) (ka ++ kz) ys → ka.length = o →
                ∃ r : Bool, (Op.eqFields (d + n) xs.toArray ys.toArray l).run P w = .ok r w ∧ (r = true ↔ (xs.drop o).take kz.length = (ys.drop o).take kz.length) := by
              intro l
              induction l with
              | nil =>
                intro o kz hl ka _ _ _
                unfold flatFs at hl
                injection hl with hl; subst hl
                exact ⟨true, by simp [Op.eqFields], by simp⟩
              | cons f l ihl =>
                intro o kz hl ka hxa hya ho
                unfold flatFs at hl
                split at hl
                · cases hl
                · rename_i kf hff
                  split at hl
                  · rename_i hfn
                    obtain ⟨kr, hr, rfl⟩ := Option.map_eq_some_iff.1 hl
                    have lx : xs.length = o + (kf.length + kr.length) := by rw [hxa.1]; simp; omega
                    have ly : ys.length = o + (kf.length + kr.length) := by rw [hya.1]; simp; omega
                    obtain ⟨r, h1, h2⟩ := ihl (o + kf.length) kr hr (ka ++ kf) (by rw [List.append_assoc]; exact hxa) (by rw [List.append_assoc]; exact hya) (by simp; omega)
                    have kx := hxa.split.2.split.1
                    have ky := hya.split.2.split.1
                    rw [ho] at kx ky
                    obtain ⟨r', h3, h4⟩ := ih hff d w _ _ kx ky
                    simp only [Op.eqFields, if_pos hfn.2, Sem.run_bind, hfn.1, flat_part hff xs o (by omega) w, flat_part hff ys o (by omega) w, Result.andThen_ok, h3]
                    rw [List.length_append, two_parts (by omega) (by omega)]
                    cases r' with
                    | true => exact ⟨r, by simpa using h1, by simp [h2, h4.1 rfl]⟩
                    | false => exact ⟨false, by simp, by simpa using fun h => absurd (h4.2 h) (by simp)⟩
                  · cases hl
            obtain ⟨r, h1, h2⟩ := key fs.toList 0 ks' hf [] hx hy rfl
            refine ⟨r, h1, ?_⟩
            rwa [List.drop_zero, List.drop_zero, List.take_of_length_le (Nat.le_of_eq hx.1), List.take_of_length_le (Nat.le_of_eq hy.1)] at h2
          · cases h
      · cases h
variable {B : Nat} {E : Env} {dst : Option Tmp} {ty : TypeId} {pos : String} {after : Array Edge} {guard : Option (Nat × Bool)}
theorem equal_flat {t : TypeId} {ks : List IntKind} (n : Nat) (hf : flat P n t = some ks) (hn : n ≤ 10000) (hg : isAggT P t = true) {xs ys : List Value} (hx : Kin (fun _ _ => True) ks xs) (hy : Kin (fun _ _ => True) ks ys) (b : Bool) (hb : b = true ↔ xs = ys) (w : World) :
    (Op.equalIn 10000 t (.agg xs.toArray) (.agg ys.toArray)).run P w = .ok b w := by
  obtain ⟨r, hr, hri⟩ := flat_eq (P := P) n hf (10000 - n) w xs ys hx hy
  unfold packT at hr
  rw [hg, if_pos rfl, if_pos rfl, Nat.sub_add_cancel hn] at hr
  have : r = b := by
    rw [← hb] at hri
    cases r <;> cases b <;> simp_all
  rw [← this]; exact hr
/-- Two values of such a type that have several cells: whether they are equal. -/
theorem ok_eqlT {t t' : TypeId} {ks : List IntKind} {x y : Operand} {xs ys : List Value} (n : Nat) (b : Bool) (hf : flat P n t = some ks) (hn : n ≤ 10000) (hg : isAggT P t = true) (hm : P.eqGuardType P.depth t = false) (hx : E.at x = some (.v (aggV xs))) (hy : E.at y = some (.v (aggV ys)))
    (hkx : Kin (fun _ _ => True) ks xs) (hky : Kin (fun _ _ => True) ks ys) (hb : b = true ↔ xs = ys) : OpOk P B ⟨dst, .binOp .eql t x y t', ty, pos, after, guard⟩ E (.v (.bool b)) := fun ρ w _ _ hρ => by
  have h1 : ρ x = .agg xs.toArray := hρ x (by simp [Op.operands]) _ hx
  have h2 : ρ y = .agg ys.toArray := hρ y (by simp [Op.operands]) _ hy
  have := equal_flat (P := P) n hf hn hg hkx hky b hb w
  exact out_val (w' := w) (by simp [execOp, h1, h2, Sem.run_bind, run_eqGuard_agg, hm, run_eql_struct, this]) ⟨Grow.refl w, rfl⟩
theorem ok_neqT {t t' : TypeId} {ks : List IntKind} {x y : Operand} {xs ys : List Value} (n : Nat) (b : Bool) (hf : flat P n t = some ks) (hn : n ≤ 10000) (hg : isAggT P t = true) (hm : P.eqGuardType P.depth t = false) (hx : E.at x = some (.v (aggV xs))) (hy : E.at y = some (.v (aggV ys)))
    (hkx : Kin (fun _ _ => True) ks xs) (hky : Kin (fun _ _ => True) ks ys) (hb : b = true ↔ xs = ys) : OpOk P B ⟨dst, .binOp .neq t x y t', ty, pos, after, guard⟩ E (.v (.bool (!b))) := fun ρ w _ _ hρ => by
  have h1 : ρ x = .agg xs.toArray := hρ x (by simp [Op.operands]) _ hx
  have h2 : ρ y = .agg ys.toArray := hρ y (by simp [Op.operands]) _ hy
  have := equal_flat (P := P) n hf hn hg hkx hky b hb w
  exact out_val (w' := w) (by simp [execOp, h1, h2, Sem.run_bind, run_eqGuard_agg, hm, run_neq_struct, this]) ⟨Grow.refl w, rfl⟩
end
theorem kin_nil : Kin (fun _ _ => True) [] [] := ⟨rfl, fun i k h => by simp at h⟩
theorem kin_cons {k : IntKind} {n : Int} {ks : List IntKind} {xs : List Value} (h : Kin (fun _ _ => True) ks xs) : Kin (fun _ _ => True) (k :: ks) (.int k n :: xs) :=
  Kin.join (a := [k]) (xs := [.int k n]) ⟨rfl, fun i k' h' => by
    match i, h' with
    | 0, h' => simp at h'; subst h'; exact ⟨n, rfl, trivial⟩
    | i + 1, h' => simp at h'⟩ h

/-! ### Parameters -/
section
variable {H : Type} {enc : TypeId × Value → H} {P : Program} {w : World} {base : Nat} {spare : Nat → Bool} {held : Bool}
theorem trod_flat : ∀ (n : Nat) {t : TypeId} {ks : List IntKind}, flat P n t = some ks → ∀ {fuel : Nat} {cs : List Value} {x : DataW H × List MemPlace}, DataW.trod enc P w base spare held fuel t cs = some x → Kin (fun k m => (Lit.int k m).wf = true) ks cs := by
  intro n
  induction n with
  | zero => intro t ks h; cases h
  | succ n ih =>
    intro t ks h fuel cs x ht
    have hks := flat_cells h
    unfold flat at h
    split at h
    · cases h
    · split at h
      · rename_i k hu
        split at h
        · injection h with h; subst h
          obtain ⟨a, rfl, _, h3⟩ := DataW.trod_int hu ht
          exact ⟨rfl, fun i k' hk => by
            match i, hk with
            | 0, hk => simp at hk; subst hk; exact ⟨a, rfl, h3⟩
            | i + 1, hk => simp at hk⟩
        · cases h
      · rename_i len e hu
        split at h
        · cases h
        · rename_i ks' hf
          split at h
          · injection h with h; subst h
            obtain ⟨xs, m, _, _, hlen, hxl, hel⟩ := DataW.trod_array hu ht
            obtain ⟨hc, hp⟩ := flat_cells hf
            have hl : cs.length = len * ks'.length := by rw [hlen, hks.1, rep_length]
            refine ⟨by rw [hl, rep_length], fun i k hk => ?_⟩
            have hi : i < len * ks'.length := by rw [← rep_length]; exact (List.getElem?_eq_some_iff.1 hk).1
            have hj : i / ks'.length < len := (Nat.div_lt_iff_lt_mul hp).2 hi
            have h1 := hel (i / ks'.length) hj
            rw [List.getElem?_eq_getElem (by omega), hc] at h1
            have h2 := ih hf h1
            have hr : ∀ (m j : Nat), j < m * ks'.length → (List.replicate m ks').flatten[j]? = ks'[j % ks'.length]? := by
              intro m
              induction m with
              | zero => intro j hj; simp at hj
              | succ m ihm =>
                intro j hj
                rw [List.replicate_succ, List.flatten_cons]
                rcases Nat.lt_or_ge j ks'.length with h | h
                · rw [List.getElem?_append_left h, Nat.mod_eq_of_lt h]
                · rw [List.getElem?_append_right h, ihm _ (by rw [Nat.succ_mul] at hj; omega), Nat.mod_eq_sub_mod h]
            rw [hr len i hi] at hk
            obtain ⟨a, h3, h4⟩ := h2.2 _ k hk
            refine ⟨a, ?_, h4⟩
            rw [List.getElem?_take, if_pos (Nat.mod_lt _ hp), List.getElem?_drop, Nat.mul_comm, Nat.div_add_mod] at h3
            exact h3
          · cases h
      · rename_i fs hu
        split at h
        · cases h
        · rename_i ks' hf
          split at h
          · injection h with h; subst h
            obtain ⟨xs, m, _, _, hlen, hxl, hel⟩ := DataW.trod_struct hu ht
            have key : ∀ (l : List Field) (o j : Nat) (kz : List IntKind), flatFs (flat P n) l o = some kz → fs.toList.drop j = l → o + kz.length = cs.length → Kin (fun k m => (Lit.int k m).wf = true) kz (cs.drop o) := by
              intro l
              induction l with
              | nil =>
                intro o j kz hl _ ho
                unfold flatFs at hl
                injection hl with hl; subst hl
                simp only [List.length_nil, Nat.add_zero] at ho
                exact ⟨by simp [ho], fun i k h => by simp at h⟩
              | cons f l ihl =>
                intro o j kz hl hd ho
                unfold flatFs at hl
                split at hl
                · cases hl
                · rename_i kf hff
                  split at hl
                  · rename_i hfn
                    obtain ⟨kr, hr, rfl⟩ := Option.map_eq_some_iff.1 hl
                    simp only [List.length_append] at ho
                    have hj : j < fs.size := by
                      rcases Nat.lt_or_ge j fs.size with h | h
                      · exact h
                      · rw [List.drop_eq_nil_of_le (by simpa using h)] at hd; cases hd
                    have hfj : fs[j]? = some f := by
                      have := congrArg (·[0]?) hd
                      simp only [List.getElem?_drop, Nat.add_zero, List.getElem?_cons_zero] at this
                      simpa using this
                    have h1 := hel j f hfj
                    rw [List.getElem?_eq_getElem (by omega), (flat_cells hff).1, hfn.1] at h1
                    have h2 := ih hff h1
                    have h3 := ihl (o + kf.length) (j + 1) kr hr (by
                      rw [← List.drop_drop, hd]; rfl) (by omega)
                    have : cs.drop o = (cs.drop o).take kf.length ++ cs.drop (o + kf.length) := by
                      rw [← List.drop_drop, List.take_append_drop]
                    rw [this]
                    exact h2.join h3
                  · cases hl
            have := key fs.toList 0 0 ks' hf rfl (by omega)
            simpa using this
          · cases h
      · cases h
theorem okWide_agg {t : TypeId} {v : Value} {r : Reach} {b0 : Nat} (hg : isAggT P t = true) (hk : Value.okWide P w r b0 t v) : ∃ cs, v = .agg cs := by
  unfold isAggT at hg
  split at hg
  · rename_i fs hu
    obtain ⟨cs, rfl, _⟩ := okWide_struct hu hk
    exact ⟨cs, rfl⟩
  · rename_i hu
    exact okWide_arr' hu hk
  · cases hg
/-- A parameter of several cells. -/
theorem arg_flat {t : TypeId} {ks : List IntKind} {v : Value} {d : DataW H} {ps : List MemPlace} (n : Nat) (hf : flat P n t = some ks) (hg : isAggT P t = true) {r : Reach} {b0 : Nat} (hk : Value.okWide P w r b0 t v)
    (h : DataW.Trod enc P w base spare held t v d ps) : ∃ xs, v = aggV xs ∧ Kin (fun k m => (Lit.int k m).wf = true) ks xs := by
  obtain ⟨cs, rfl⟩ := okWide_agg hg hk
  obtain ⟨fuel, hf'⟩ := h
  exact ⟨cs.toList, by simp [aggV], trod_flat n hf hf'⟩
theorem nat_u32 {n : Int} (h : (Lit.int .u32 n).wf = true) : ∃ a : Nat, n = (a : Int) ∧ a < 4294967296 := ⟨n.toNat, by have := bounds_u32 h; omega, by have := bounds_u32 h; omega⟩
theorem nat_u64 {n : Int} (h : (Lit.int .u64 n).wf = true) : ∃ a : Nat, n = (a : Int) ∧ a < 18446744073709551616 := ⟨n.toNat, by have := bounds_u64 h; omega, by have := bounds_u64 h; omega⟩
/-- Cells that are bytes. -/
theorem Kin.bytes : ∀ {m : Nat} {xs : List Value}, Kin (fun k n => (Lit.int k n).wf = true) (List.replicate m .u8) xs → ∃ l : List UInt8, l.length = m ∧ xs = l.map byteV
  | 0, xs, h => ⟨[], rfl, h.nil⟩
  | m + 1, xs, h => by
    rw [List.replicate_succ] at h
    obtain ⟨n, y, rfl, h1, h2⟩ := h.cons
    obtain ⟨l, h3, rfl⟩ := Kin.bytes h2
    exact ⟨UInt8.ofNat n.toNat :: l, by simp [h3], by rw [List.map_cons, ← wf_u8 h1]⟩
end
end Go.Proofs.YthadcgkcgpinhaaGreatDoor
namespace Go.Proofs.YthadcgkcgpinhaaGreatDoor
open Go Go.RowKit
section
variable {P : Program} {B : Nat} {E : Env} {dst : Option Tmp} {ty : TypeId} {pos : String} {after : Array Edge} {guard : Option (Nat × Bool)}
end
end Go.Proofs.YthadcgkcgpinhaaGreatDoor
namespace Go.Proofs.YthadcgkcgpinhaaGreatDoor
open Go Go.RowKit
set_option linter.unusedVariables false
set_option maxRecDepth 20000

theorem zero30 : ZeroIs Tryz.prog 30 ([.int .u32 0] ++ [.int .u64 0]) := by unfold ZeroIs; kernel_rfl
theorem size30 : SizeIs Tryz.prog 30 2 := by unfold SizeIs; kernel_rfl
theorem field30_0 : FieldIs Tryz.prog 30 0 0 1 := by unfold FieldIs; kernel_rfl
theorem field30_1 : FieldIs Tryz.prog 30 1 1 1 := by unfold FieldIs; kernel_rfl
theorem zero95 : ZeroIs Tryz.prog 95 ([.int .u32 0] ++ [.int .u64 0] ++ [.int .u32 0] ++ [.int .u32 0]) := by unfold ZeroIs; kernel_rfl
theorem size95 : SizeIs Tryz.prog 95 4 := by unfold SizeIs; kernel_rfl
theorem field95_0 : FieldIs Tryz.prog 95 0 0 2 := by unfold FieldIs; kernel_rfl
theorem field95_1 : FieldIs Tryz.prog 95 1 2 1 := by unfold FieldIs; kernel_rfl
theorem field95_2 : FieldIs Tryz.prog 95 2 3 1 := by unfold FieldIs; kernel_rfl

theorem byteD_getD {l : List UInt8} {i : Nat} (h : i < l.length) : (l.map byteD)[i]? = some (byteD (l.getD i 0)) := by
 rw [List.getElem?_map, List.getElem?_eq_getElem h, List.getD_eq_getElem?_getD, List.getElem?_eq_getElem h]; rfl
/-- The block that stands behind n bytes. -/
def bst (k : Sta) (s c o n : Nat) : Sta := if n = 0 then fun _ => 0 else ksB k s c ((o + n - 1) / 16)
theorem bst_succ (k : Sta) (s c o n : Nat) : bst k s c o (n + 1) = ksB k s c ((o + n) / 16) := if_neg (Nat.succ_ne_zero n)
theorem bst_keep {k : Sta} {s c o n : Nat} (h : n ≠ 0) (hz : ¬ (o + n) % 16 = 0) : bst k s c o n = ksB k s c ((o + n) / 16) := by
 unfold bst
 rw [if_neg h, show (o + n - 1) / 16 = (o + n) / 16 from by omega]

set_option maxHeartbeats 1000000 in
theorem ref7Block_fn (k : Nat → Nat) (hk : By k) (s c t : Nat) (hs : s < 4294967296) (hc : c < 18446744073709551616) (ht : t < 4294967296) : Fn Tryz.prog 72 [.v (aggV (rowV 16 (k))), .v (aggV ([nW s, nQ c])), .v (nW t)] (.v (aggV (rowV 16 (ksB k s c t)))) := by
 refine Fn.of Tryz.func72 rfl (by kernel_rfl) Tryz.ntmps72 (by simp) (fun w => [(0, .v (aggV (rowV 16 (k)))), (1, .v (aggV ([nW s, nQ c]))), (2, .v (nW t))]) (fun w => (Start.v rfl (Start.v rfl (Start.v rfl Start.nil)))) fun w₀ => ?_
 refine GS ?_
 refine TN 0 ?_
 refine RN ?_
 refine ⟨_, _, eff_box (n := 33) (d := 3) (k := 1000003) rfl (by decide), fun b3 hb3 => ?_⟩
 have hBb3 := hb3.1
 refine TN 1 ?_
 refine RN ?_
 refine ⟨_, _, eff_box (n := 33) (d := 4) (k := 1000004) rfl (by decide), fun b4 hb4 => ?_⟩
 have hBb4 := hb4.1
 refine TN 2 ?_
 refine RN ?_
 refine ⟨_, _, eff_alloc (n := 33) (d := 6) (k := 1000006) zero22 (by decide), fun b6 hb6 => ?_⟩
 have hBb6 := hb6.1
 have hlt_b3_b6 : b3 < b6 := hb6.2 1000003 _ _ _ rfl
 refine TL ?_
 refine RN ?_
 refine GD ?_
 refine TD 9 ?_
 refine RS (ok_field field30_0 (by decide) rfl) ?_
 refine RS (ok_loadV (s := 1000004) (by decide) Tryz.underlying27 rfl rfl rfl (rfl)) ?_
 refine RS (ok_call ((refPut32_fn ((s : Nat) : Int) (by omega) (by omega)).le (d' := bytes (be 4 s) 4) (Le.refl _)) (A1 rfl)) ?_
 refine RS (ok_field field30_1 (by decide) rfl) ?_
 refine RS (ok_loadV (s := 1000004) (by decide) Tryz.underlying28 rfl rfl rfl (rfl)) ?_
 refine RS (ok_call ((refPut64_fn ((c : Nat) : Int) (by omega) (by omega)).le (d' := bytes (be 8 c) 8) (Le.refl _)) (A1 rfl)) ?_
 refine RS ((ok_appendFull (l := be 4 s) (m := be 8 c) Tryz.underlying49 info5 (by decide) rfl rfl (Le.eq (by rw [be_length])) rfl (le_byt _ _) (by rw [be_length]; decide) (by rw [be_length]; decide) (by rw [be_length, be_length]; decide))) ?_
 refine RM rfl ?_
 refine RS (ok_call ((refPut32_fn ((t : Nat) : Int) (by omega) (by omega)).le (d' := bytes (be 4 t) 4) (Le.refl _)) (A1 rfl)) ?_
 refine RN ?_
 refine ⟨_, eff_appendS (vs := (be 4 t).map byteV) Tryz.underlying49 info5 (by decide) rfl rfl rfl ((le_byt _ _).trans (Le.eq (byt_vals _))) (by simp [byteV, Value.oneCell']) (by simp only [List.length_map, be_length]; decide) (by decide) (fun g hg => (LV 3 rfl (LV 6 rfl (LT 1000003 rfl (LT 1000004 rfl (LT 1000006 rfl LN)))))), ?_⟩
 refine TL ?_
 refine RA rfl ?_
 refine RN ?_
 refine GS ?_
 refine TN 0 ?_
 refine RN ?_
 refine ⟨_, _, eff_alloc (n := 33) (d := 8) (k := 1000008) zero22 (by decide), fun b8 hb8 => ?_⟩
 have hBb8 := hb8.1
 have hlt_b3_b8 : b3 < b8 := hb8.2 1000003 _ _ _ rfl
 have hlt_b6_b8 : b6 < b8 := hb8.2 1000006 _ _ _ rfl
 refine TL ?_
 refine RN ?_
 refine A.seq ?_
 refine GS ?_
 refine TL ?_
 refine RA rfl ?_
 refine RN ?_
 refine A.block ?_
 refine A.loop (ι := Nat) (fun i => i ≤ 16) (fun i => [(3, .v (.pointer (some ⟨b3, 0, none⟩))), (6, .v (.pointer (some ⟨b6, 0, none⟩))), (8, .v (.pointer (some ⟨b8, 0, none⟩))), (7, own w₀.heap.size 5 16 ((ctrL s c t).map byteV)), (9, .v (nI i)), (1000003, blk b3 22 (rowV 16 (k))), (1000006, blk b6 22 (List.replicate 16 (.int .u8 0))), (1000008, blk b8 22 (rowV 16 (cutF (byL (ctrL s c t)) i)))]) (fun i => 16 - i) 0 ?_ ?_ ?_
 ·exact Nat.zero_le _
 ·exact (KC 3 rfl (KC 6 rfl (KC 8 rfl (KE 7 rfl (by simp only [be_length, List.length_map, ctrL, List.map_append, Nat.reduceAdd]) (KC 9 rfl (KC 1000003 rfl (KC 1000006 rfl (KE 1000008 rfl (congrArg _ (cutF_zero 16 _)) KN))))))))
 intro i hi'
 refine A.seq ?_
 refine GS ?_
 refine TL ?_
 refine RM rfl ?_
 refine RB rfl rfl rfl ?_
 refine RN ?_
 refine A.cond rfl (fun hc21 => ?_) (fun hc21 => ?_)
 ·have hi : i < 16 := by simp at hc21; omega
  refine A.skip ?_
  refine EN ?_
  refine A.seq ?_
  refine A.block ?_
  refine GE ?_
  refine TF 6 ?_
  refine RM rfl ?_
  refine RM rfl ?_
  refine RM rfl ?_
  refine RS (ok_index (d := byteD ((ctrL s c t).getD i 0)) Tryz.underlying49 info5 rfl (own_cat rfl (ctrL_length s c t).symm) rfl (by omega) (by rw [Int.toNat_natCast, byteD_getD (by rw [ctrL_length]; exact hi)])) ?_
  refine RS (ok_load Tryz.underlying5 rfl rfl) ?_; refine RZ (nB (byL (ctrL s c t) i)) (by rfl) ?_
  refine RS (ok_index0 _ Tryz.underlying22 info5 rfl rfl (rfl) (by omega)) ?_
  refine RN ?_
  refine ⟨_, eff_storeS (n := 33) (s := 1000008) info5 rfl rfl rfl hBb8 rfl (by simp only [rowV_length]; omega) (LV 3 rfl (LV 6 rfl (LeftS.cons (t := 7) rfl (Surv.own (by decide)) (LV 8 rfl (LV 9 rfl (LB 1000003 rfl (LB 1000006 rfl LN))))))), ?_⟩
  refine TL ?_
  refine RN ?_
  refine End.normal_block ?_
  refine EN ?_
  refine GE ?_
  refine TL ?_
  refine RM rfl ?_
  refine RBS rfl rfl rfl (nI (i + 1)) (by rw [wrap_i64 (by omega) (by omega)]; exact congrArg (Value.int .i64) (by omega)) ?_
  refine RA rfl ?_
  refine RN ?_
  refine End.normal_then ?_
  refine End.again (i + 1) ?_ ?_ ?_
  ·show _ ≤ _; omega
  ·show _ - _ < _ - _; omega
  ·exact (KC 3 rfl (KC 6 rfl (KC 8 rfl (KC 7 rfl (KC 9 rfl (KC 1000003 rfl (KC 1000006 rfl (KE 1000008 rfl (congrArg _ (cutF_set rfl rfl)) KN))))))))
 ·obtain rfl : i = 16 := by simp at hc21; omega
  refine A.exit ?_
  refine End.exit_then ?_
  refine End.exit_then ?_
  refine End.exit_here ?_
  refine EN ?_
  refine GS ?_
  refine TF 3 ?_
  refine RS (ok_loadA (s := 1000003) (by decide) Tryz.underlying22 rfl (size22.of (rowV_length _ _)) rfl rfl) ?_
  refine RS (ok_loadA (s := 1000008) (by decide) Tryz.underlying22 rfl (size22.of (rowV_length _ _)) rfl rfl) ?_
  refine RS (ok_call (refEncrypt_fn k (byL (ctrL s c t)) hk (byL_lt _)) (A2 rfl rfl)) ?_
  refine RN ?_
  refine ⟨_, eff_storeA (n := 33) (s := 1000006) (size22.of (rowV_length _ _)) rfl rfl (rowV_one _ _) hBb6 rfl (by first | (simp only [rowV_length]; done) | simp only [rowV_length, List.length_replicate]) (LV 6 rfl (LB 1000003 rfl (LB 1000008 rfl LN))), ?_⟩
  refine TL ?_
  refine RN ?_
  refine A.ret ?_
  exact End.cell1 (s := 1000006) rfl Tryz.underlying22 rfl (size22.of (rowV_length _ _)) rfl rfl (Le.refl _)
set_option maxHeartbeats 2000000 in
theorem ref7Xor_fnB (k : Nat → Nat) (hk : By k) (s c o : Nat) (l : List UInt8) (hs : s < 4294967296) (hc : c < 18446744073709551616) (ho : o + l.length ≤ 1048576) : FnB Tryz.prog 46 [.v (aggV (rowV 16 (k))), .v (aggV ([nW s, nQ c])), .v (nI o), byt l] (fun B => own B 5 l.length ((xorK k s c o l).map byteV)) := by
 refine FnB.of Tryz.func46 rfl (by kernel_rfl) Tryz.ntmps46 (by simp) (fun w => [(0, .v (aggV (rowV 16 (k)))), (1, .v (aggV ([nW s, nQ c]))), (2, .v (nI o)), (3, old w.heap.size (byt l))]) (fun w => (Start.v rfl (Start.v rfl (Start.v rfl (Start.old rfl Start.nil))))) fun w₀ => ?_
 refine GS ?_
 refine TN 0 ?_
 refine RN ?_
 refine ⟨_, _, eff_box (n := 48) (d := 4) (k := 1000004) rfl (by decide), fun b4 hb4 => ?_⟩
 have hBb4 := hb4.1
 refine TN 1 ?_
 refine RN ?_
 refine ⟨_, _, eff_box (n := 48) (d := 5) (k := 1000005) rfl (by decide), fun b5 hb5 => ?_⟩
 have hBb5 := hb5.1
 refine TL ?_
 refine RA rfl ?_
 refine RN ?_
 refine GS ?_
 refine TL ?_
 refine RA rfl ?_
 refine RN ?_
 refine GS ?_
 refine TN 0 ?_
 refine RN ?_
 refine ⟨_, _, eff_alloc (n := 48) (d := 10) (k := 1000010) zero22 (by decide), fun b10 hb10 => ?_⟩
 have hBb10 := hb10.1
 have hlt_b4_b10 : b4 < b10 := hb10.2 1000004 _ _ _ rfl
 refine TL ?_
 refine RN ?_
 refine A.seq ?_
 refine GS ?_
 refine TL ?_
 refine RA rfl ?_
 refine RN ?_
 refine A.block ?_
 refine A.subL (SubL.cons (t := 2) rfl (Le.refl _) (SubL.cons (t := 3) rfl (Le.refl _) (SubL.cons (t := 4) rfl (Le.refl _) (SubL.cons (t := 5) rfl (Le.refl _) (SubL.cons (t := 10) rfl (Le.refl _) (SubL.cons (t := 1000004) rfl (Le.refl _) (SubL.cons (t := 1000005) rfl (Le.refl _) (SubL.cons (t := 9) rfl (own_nil (B := w₀.heap.size) (e := 5)) (SubL.cons (t := 11) rfl (Le.refl _) (SubL.cons (t := 1000010) rfl (Le.refl _) SubL.nil)))))))))) ?_
 refine A.loop (ι := Nat) (fun i => i ≤ l.length) (fun i => [(2, .v (nI o)), (3, old w₀.heap.size (byt l)), (4, .v (.pointer (some ⟨b4, 0, none⟩))), (5, .v (.pointer (some ⟨b5, 0, none⟩))), (10, .v (.pointer (some ⟨b10, 0, none⟩))), (1000004, blk b4 22 (rowV 16 (k))), (1000005, blk b5 30 ([nW s, nQ c])), (9, own w₀.heap.size 5 i (((xorK k s c o l).take i).map byteV)), (11, .v (nI i)), (1000010, blk b10 22 (rowV 16 (bst k s c o i)))]) (fun i => l.length - i) 0 ?_ ?_ ?_
 ·exact Nat.zero_le _
 ·exact (KC 2 rfl (KC 3 rfl (KC 4 rfl (KC 5 rfl (KC 10 rfl (KC 1000004 rfl (KC 1000005 rfl (KC 9 rfl (KC 11 rfl (KE 1000010 rfl (congrArg _ (rowV_zero 16)) KN))))))))))
 intro i hi'
 refine A.seq ?_
 refine GS ?_
 refine TL ?_
 refine RM rfl ?_
 refine RM rfl ?_
 refine RS (ok_lenB Tryz.underlying49 rfl LA) ?_
 refine RB rfl rfl rfl ?_
 refine RN ?_
 refine A.cond rfl (fun hc16 => ?_) (fun hc16 => ?_)
 ·have hlt : i < l.length := by simpa using hc16
  refine A.skip ?_
  refine EN ?_
  refine A.seq ?_
  refine A.block ?_
  refine GS ?_
  refine TL ?_
  refine RM rfl ?_
  refine RM rfl ?_
  refine RBS rfl rfl rfl (nI (o + i)) (by rw [wrap_i64 (by omega) (by omega)]; exact congrArg (Value.int .i64) (by omega)) ?_
  refine RA rfl ?_
  refine RN ?_
  refine A.seq ?_
  rcases Bool.eq_false_or_eq_true (decide (i = 0)) with hsp | hsp
  ·refine GS ?_
   refine TL ?_
   refine RM rfl ?_
   refine RBS rfl rfl rfl (.bool true) (by simpa using hsp) ?_
   refine RM rfl ?_
   refine RK ?_
   refine RK ?_
   refine RK ?_
   refine RP rfl rfl ?_
   refine RN ?_
   refine A.yes rfl ?_
   refine GE ?_
   refine TF 6 ?_
   refine RS (ok_loadA (s := 1000004) (by decide) Tryz.underlying22 rfl (size22.of (rowV_length _ _)) rfl rfl) ?_
   refine RS (ok_loadA (s := 1000005) (by decide) Tryz.underlying30 rfl (size30.of (rfl)) rfl rfl) ?_
   refine RM rfl ?_
   refine RS (ok_div rfl rfl (by decide)) ?_; refine RZ (nI ((o + i) / 16)) (by rw [tdiv_lit _ (by decide), show Int.toNat 16 = 16 from rfl, wrapN_i64 (by omega)]) ?_
   refine RS (ok_conv Tryz.underlying3 Tryz.underlying27 rfl) ?_; refine RZ (nW ((o + i) / 16)) (by rw [wrapN_u32 (by omega)]) ?_
   refine RS (ok_call (ref7Block_fn k hk s c ((o + i) / 16) hs hc (by omega)) (A3 rfl rfl rfl)) ?_
   refine RN ?_
   refine ⟨_, eff_storeA (n := 48) (s := 1000010) (size22.of (rowV_length _ _)) rfl rfl (rowV_one _ _) hBb10 rfl (by first | (simp only [rowV_length]; done) | simp only [rowV_length, List.length_replicate]) (LV 2 rfl (LO 3 rfl (LV 4 rfl (LV 5 rfl (LeftS.cons (t := 9) rfl (Surv.own (by decide)) (LV 10 rfl (LV 11 rfl (LV 12 rfl (LB 1000004 rfl (LT 1000005 rfl LN)))))))))), ?_⟩
   refine TL ?_
   refine RN ?_
   refine EN ?_
   refine A.reg (by kernel_rfl) (by kernel_rfl) (.inr (by kernel_rfl)) ?_
   refine TD 11 ?_
   refine RM rfl ?_
   refine RM rfl ?_
   refine RM rfl ?_
   refine RS (ok_index (d := byteD (l.getD i 0)) Tryz.underlying49 info5 rfl LA rfl (by omega) (by rw [Int.toNat_natCast, byteD_getD hlt])) ?_
   refine RS (ok_load Tryz.underlying5 rfl rfl) ?_; refine RZ (nB (byL l i)) (by rfl) ?_
   refine RM rfl ?_
   refine RS (ok_rem rfl rfl (by decide)) ?_; refine RZ (nI ((o + i) % 16)) (by rw [tmod_lit _ (by decide)]; rfl) ?_
   refine RS (ok_index0 ((o + i) % 16) Tryz.underlying22 info5 rfl rfl (rfl) (by omega)) ?_
   refine RS (ok_loadV (s := 1000010) (by decide) Tryz.underlying5 rfl rfl rfl (rowV_get (by omega))) ?_; refine RZ (nB (ksAt k s c (o + i))) (v8 (by first | rfl | exact congrFun (bst_keep (by simpa using hsp) hz) _)) ?_
   refine RBS rfl rfl rfl (byteV (UInt8.ofNat (xorG k s c o (byL l) i))) (by rw [show IntKind.u8.bits = 8 from rfl, xor_u8N (byL_lt _ _) (ksAt_lt hk _ _ _), ofNat_byte (xorG_lt hk _ _ _ (byL_lt l) _)]; rfl) ?_
   refine RS (ok_build [byteD (UInt8.ofNat (xorG k s c o (byL l) i))] Tryz.underlying49 info5 rfl (by decide) (by decide) rfl ⟨rfl, rfl, trivial⟩ (fun d hd w x h => by simp only [List.mem_cons, List.not_mem_nil, or_false] at hd; subst hd; exact v_one rfl h)) ?_
   refine RN ?_
   refine ⟨_, eff_appendS (vs := [byteV (UInt8.ofNat (xorG k s c o (byL l) i))]) Tryz.underlying49 info5 (by decide) rfl rfl rfl (le_lst _ _) (by simp [byteV, Value.oneCell']) (by simp; omega) (by decide) (fun g hg => (LV 2 rfl (LO 3 rfl (LV 4 rfl (LV 5 rfl (LV 10 rfl (LV 11 rfl (LT 1000004 rfl (LT 1000005 rfl (LT 1000010 rfl LN)))))))))), ?_⟩
   refine TL ?_
   refine RA rfl ?_
   refine RN ?_
   refine End.sub (KC 2 rfl (KC 3 rfl (KC 4 rfl (KC 5 rfl (KC 9 rfl (KC 10 rfl (KC 11 rfl (KC 1000004 rfl (KC 1000005 rfl (KC 1000010 rfl KN)))))))))) ?_
   refine End.normal_block ?_
   refine EN ?_
   refine GE ?_
   refine TL ?_
   refine RM rfl ?_
   refine RBS rfl rfl rfl (nI (i + 1)) (by rw [wrap_i64 (by omega) (by omega)]; exact congrArg (Value.int .i64) (by omega)) ?_
   refine RA rfl ?_
   refine RN ?_
   refine End.normal_then ?_
   refine End.again (i + 1) ?_ ?_ ?_
   ·show _ ≤ _; omega
   ·show _ - _ < _ - _; omega
   ·exact (KC 2 rfl (KC 3 rfl (KC 4 rfl (KC 5 rfl (KC 10 rfl (KC 1000004 rfl (KC 1000005 rfl (KE 9 rfl (by rw [List.take_add_one, xorK_get hlt, List.map_append]; rfl) (KC 11 rfl (KE 1000010 rfl (by first | (rw [bst_succ]; done) | rw [bst_succ, bst_keep (by simpa using hsp) hz]) KN))))))))))
  ·refine GS ?_
   refine TL ?_
   refine RM rfl ?_
   refine RBS rfl rfl rfl (.bool false) (by simpa using hsp) ?_
   refine RM rfl ?_
   refine RQ (ok_move rfl) ?_
   refine RQ (ok_rem rfl rfl (by decide)) ?_; refine RZ (nI ((o + i) % 16)) (by rw [tmod_lit _ (by decide)]; rfl) ?_
   refine RQ (ok_bin rfl rfl rfl) ?_
   refine RP rfl rfl ?_
   refine RN ?_
   refine A.cond rfl (fun hc28 => ?_) (fun hc28 => ?_)
   ·have hz : (o + i) % 16 = 0 := by simp at hc28; omega
    refine GE ?_
    refine TF 6 ?_
    refine RS (ok_loadA (s := 1000004) (by decide) Tryz.underlying22 rfl (size22.of (rowV_length _ _)) rfl rfl) ?_
    refine RS (ok_loadA (s := 1000005) (by decide) Tryz.underlying30 rfl (size30.of (rfl)) rfl rfl) ?_
    refine RM rfl ?_
    refine RS (ok_div rfl rfl (by decide)) ?_; refine RZ (nI ((o + i) / 16)) (by rw [tdiv_lit _ (by decide), show Int.toNat 16 = 16 from rfl, wrapN_i64 (by omega)]) ?_
    refine RS (ok_conv Tryz.underlying3 Tryz.underlying27 rfl) ?_; refine RZ (nW ((o + i) / 16)) (by rw [wrapN_u32 (by omega)]) ?_
    refine RS (ok_call (ref7Block_fn k hk s c ((o + i) / 16) hs hc (by omega)) (A3 rfl rfl rfl)) ?_
    refine RN ?_
    refine ⟨_, eff_storeA (n := 48) (s := 1000010) (size22.of (rowV_length _ _)) rfl rfl (rowV_one _ _) hBb10 rfl (by first | (simp only [rowV_length]; done) | simp only [rowV_length, List.length_replicate]) (LV 2 rfl (LO 3 rfl (LV 4 rfl (LV 5 rfl (LeftS.cons (t := 9) rfl (Surv.own (by decide)) (LV 10 rfl (LV 11 rfl (LV 12 rfl (LB 1000004 rfl (LT 1000005 rfl LN)))))))))), ?_⟩
    refine TL ?_
    refine RN ?_
    refine EN ?_
    refine A.reg (by kernel_rfl) (by kernel_rfl) (.inr (by kernel_rfl)) ?_
    refine TD 11 ?_
    refine RM rfl ?_
    refine RM rfl ?_
    refine RM rfl ?_
    refine RS (ok_index (d := byteD (l.getD i 0)) Tryz.underlying49 info5 rfl LA rfl (by omega) (by rw [Int.toNat_natCast, byteD_getD hlt])) ?_
    refine RS (ok_load Tryz.underlying5 rfl rfl) ?_; refine RZ (nB (byL l i)) (by rfl) ?_
    refine RM rfl ?_
    refine RS (ok_rem rfl rfl (by decide)) ?_; refine RZ (nI ((o + i) % 16)) (by rw [tmod_lit _ (by decide)]; rfl) ?_
    refine RS (ok_index0 ((o + i) % 16) Tryz.underlying22 info5 rfl rfl (rfl) (by omega)) ?_
    refine RS (ok_loadV (s := 1000010) (by decide) Tryz.underlying5 rfl rfl rfl (rowV_get (by omega))) ?_; refine RZ (nB (ksAt k s c (o + i))) (v8 (by first | rfl | exact congrFun (bst_keep (by simpa using hsp) hz) _)) ?_
    refine RBS rfl rfl rfl (byteV (UInt8.ofNat (xorG k s c o (byL l) i))) (by rw [show IntKind.u8.bits = 8 from rfl, xor_u8N (byL_lt _ _) (ksAt_lt hk _ _ _), ofNat_byte (xorG_lt hk _ _ _ (byL_lt l) _)]; rfl) ?_
    refine RS (ok_build [byteD (UInt8.ofNat (xorG k s c o (byL l) i))] Tryz.underlying49 info5 rfl (by decide) (by decide) rfl ⟨rfl, rfl, trivial⟩ (fun d hd w x h => by simp only [List.mem_cons, List.not_mem_nil, or_false] at hd; subst hd; exact v_one rfl h)) ?_
    refine RN ?_
    refine ⟨_, eff_appendS (vs := [byteV (UInt8.ofNat (xorG k s c o (byL l) i))]) Tryz.underlying49 info5 (by decide) rfl rfl rfl (le_lst _ _) (by simp [byteV, Value.oneCell']) (by simp; omega) (by decide) (fun g hg => (LV 2 rfl (LO 3 rfl (LV 4 rfl (LV 5 rfl (LV 10 rfl (LV 11 rfl (LT 1000004 rfl (LT 1000005 rfl (LT 1000010 rfl LN)))))))))), ?_⟩
    refine TL ?_
    refine RA rfl ?_
    refine RN ?_
    refine End.sub (KC 2 rfl (KC 3 rfl (KC 4 rfl (KC 5 rfl (KC 9 rfl (KC 10 rfl (KC 11 rfl (KC 1000004 rfl (KC 1000005 rfl (KC 1000010 rfl KN)))))))))) ?_
    refine End.normal_block ?_
    refine EN ?_
    refine GE ?_
    refine TL ?_
    refine RM rfl ?_
    refine RBS rfl rfl rfl (nI (i + 1)) (by rw [wrap_i64 (by omega) (by omega)]; exact congrArg (Value.int .i64) (by omega)) ?_
    refine RA rfl ?_
    refine RN ?_
    refine End.normal_then ?_
    refine End.again (i + 1) ?_ ?_ ?_
    ·show _ ≤ _; omega
    ·show _ - _ < _ - _; omega
    ·exact (KC 2 rfl (KC 3 rfl (KC 4 rfl (KC 5 rfl (KC 10 rfl (KC 1000004 rfl (KC 1000005 rfl (KE 9 rfl (by rw [List.take_add_one, xorK_get hlt, List.map_append]; rfl) (KC 11 rfl (KE 1000010 rfl (by first | (rw [bst_succ]; done) | rw [bst_succ, bst_keep (by simpa using hsp) hz]) KN))))))))))
   ·have hz : ¬ (o + i) % 16 = 0 := by simp at hc28; omega
    refine A.skip ?_
    refine EN ?_
    refine A.reg (by kernel_rfl) (by kernel_rfl) (.inr (by kernel_rfl)) ?_
    refine TD 11 ?_
    refine RM rfl ?_
    refine RM rfl ?_
    refine RM rfl ?_
    refine RS (ok_index (d := byteD (l.getD i 0)) Tryz.underlying49 info5 rfl LA rfl (by omega) (by rw [Int.toNat_natCast, byteD_getD hlt])) ?_
    refine RS (ok_load Tryz.underlying5 rfl rfl) ?_; refine RZ (nB (byL l i)) (by rfl) ?_
    refine RM rfl ?_
    refine RS (ok_rem rfl rfl (by decide)) ?_; refine RZ (nI ((o + i) % 16)) (by rw [tmod_lit _ (by decide)]; rfl) ?_
    refine RS (ok_index0 ((o + i) % 16) Tryz.underlying22 info5 rfl rfl (rfl) (by omega)) ?_
    refine RS (ok_loadV (s := 1000010) (by decide) Tryz.underlying5 rfl rfl rfl (rowV_get (by omega))) ?_; refine RZ (nB (ksAt k s c (o + i))) (v8 (by first | rfl | exact congrFun (bst_keep (by simpa using hsp) hz) _)) ?_
    refine RBS rfl rfl rfl (byteV (UInt8.ofNat (xorG k s c o (byL l) i))) (by rw [show IntKind.u8.bits = 8 from rfl, xor_u8N (byL_lt _ _) (ksAt_lt hk _ _ _), ofNat_byte (xorG_lt hk _ _ _ (byL_lt l) _)]; rfl) ?_
    refine RS (ok_build [byteD (UInt8.ofNat (xorG k s c o (byL l) i))] Tryz.underlying49 info5 rfl (by decide) (by decide) rfl ⟨rfl, rfl, trivial⟩ (fun d hd w x h => by simp only [List.mem_cons, List.not_mem_nil, or_false] at hd; subst hd; exact v_one rfl h)) ?_
    refine RN ?_
    refine ⟨_, eff_appendS (vs := [byteV (UInt8.ofNat (xorG k s c o (byL l) i))]) Tryz.underlying49 info5 (by decide) rfl rfl rfl (le_lst _ _) (by simp [byteV, Value.oneCell']) (by simp; omega) (by decide) (fun g hg => (LV 2 rfl (LO 3 rfl (LV 4 rfl (LV 5 rfl (LV 10 rfl (LV 11 rfl (LT 1000004 rfl (LT 1000005 rfl (LT 1000010 rfl LN)))))))))), ?_⟩
    refine TL ?_
    refine RA rfl ?_
    refine RN ?_
    refine End.sub (KC 2 rfl (KC 3 rfl (KC 4 rfl (KC 5 rfl (KC 9 rfl (KC 10 rfl (KC 11 rfl (KC 1000004 rfl (KC 1000005 rfl (KC 1000010 rfl KN)))))))))) ?_
    refine End.normal_block ?_
    refine EN ?_
    refine GE ?_
    refine TL ?_
    refine RM rfl ?_
    refine RBS rfl rfl rfl (nI (i + 1)) (by rw [wrap_i64 (by omega) (by omega)]; exact congrArg (Value.int .i64) (by omega)) ?_
    refine RA rfl ?_
    refine RN ?_
    refine End.normal_then ?_
    refine End.again (i + 1) ?_ ?_ ?_
    ·show _ ≤ _; omega
    ·show _ - _ < _ - _; omega
    ·exact (KC 2 rfl (KC 3 rfl (KC 4 rfl (KC 5 rfl (KC 10 rfl (KC 1000004 rfl (KC 1000005 rfl (KE 9 rfl (by rw [List.take_add_one, xorK_get hlt, List.map_append]; rfl) (KC 11 rfl (KE 1000010 rfl (by first | (rw [bst_succ]; done) | rw [bst_succ, bst_keep (by simpa using hsp) hz]) KN))))))))))
 ·have hi2 : i = l.length := by simp at hc16; omega
  refine A.exit ?_
  refine End.exit_then ?_
  refine End.exit_then ?_
  refine End.exit_here ?_
  refine EN ?_
  refine GS ?_
  refine TL ?_
  refine RM rfl ?_
  refine RA rfl ?_
  refine RN ?_
  refine A.ret ?_
  refine End.ret1 rfl rfl (Le.eq ?_)
  rw [hi2, List.take_of_length_le (by rw [xorK_length]; omega)]
end Go.Proofs.YthadcgkcgpinhaaGreatDoor
namespace Go.Proofs.YthadcgkcgpinhaaGreatDoor
open Go Go.RowKit
set_option linter.unusedVariables false
set_option maxRecDepth 20000
theorem build95 (s c f l : Nat) : Tryz.prog.built 95 (([aggV [nW s, nQ c], nW f, nW l].zipIdx 0).map fun x => (x.2, x.1)) = some ([nW s, nQ c, nW f, nW l] : List Value).toArray := by kernel_rfl

theorem counterBlock_fn (s c t : Nat) (hs : s < 4294967296) (hc : c < 18446744073709551616) (ht : t < 4294967296) : Fn Tryz.prog 45 [.v (aggV ([nW s, nQ c])), .v (nW t)] (.v (aggV (rowV 16 (byL (ctrL s c t))))) := by
 refine Fn.of Tryz.func45 rfl (by kernel_rfl) Tryz.ntmps45 (by simp) (fun w => [(0, .v (aggV ([nW s, nQ c]))), (1, .v (nW t))]) (fun w => (Start.v rfl (Start.v rfl Start.nil))) fun w₀ => ?_
 refine GS ?_
 refine TN 0 ?_
 refine RN ?_
 refine ⟨_, _, eff_box (n := 17) (d := 2) (k := 1000002) rfl (by decide), fun b2 hb2 => ?_⟩
 have hBb2 := hb2.1
 refine TN 1 ?_
 refine RN ?_
 refine ⟨_, _, eff_alloc (n := 17) (d := 4) (k := 1000004) zero22 (by decide), fun b4 hb4 => ?_⟩
 have hBb4 := hb4.1
 refine TL ?_
 refine RN ?_
 refine GD ?_
 refine TD 12 ?_
 refine RS (ok_field field30_0 (by decide) rfl) ?_
 refine RS (ok_loadV (s := 1000002) (by decide) Tryz.underlying27 rfl rfl rfl (rfl)) ?_
 refine RS (ok_call ((Put32_fn ((s : Nat) : Int) (by omega) (by omega)).le (d' := bytes (be 4 s) 4) (Le.refl _)) (A1 rfl)) ?_
 refine RS (ok_field field30_1 (by decide) rfl) ?_
 refine RS (ok_loadV (s := 1000002) (by decide) Tryz.underlying28 rfl rfl rfl (rfl)) ?_
 refine RS (ok_call ((Put64_fn ((c : Nat) : Int) (by omega) (by omega)).le (d' := bytes (be 8 c) 8) (Le.refl _)) (A1 rfl)) ?_
 refine RM rfl ?_
 refine RS (ok_call ((Put32_fn ((t : Nat) : Int) (by omega) (by omega)).le (d' := bytes (be 4 t) 4) (Le.refl _)) (A1 rfl)) ?_
 refine RS (ok_build [bytes (be 4 s) 4, bytes (be 8 c) 8, bytes (be 4 t) 4] Tryz.underlying102 info49 rfl (by decide) (by decide) rfl ⟨rfl, rfl, rfl, rfl, rfl, rfl, trivial⟩ (fun d hd w x h => by simp only [List.mem_cons, List.not_mem_nil, or_false] at hd; rcases hd with rfl | rfl | rfl <;> exact list_one h)) ?_
 refine RS ((ok_callB (Join_fnB [be 4 s, be 8 c, be 4 t] (by simp) (by simp [be_length])) (fun _ _ => fresh_mono _ _) (Args.cons rfl (list_lst3 (le_byt _ 4) (le_byt _ 8) (le_byt _ 4)) Args.nil)).le (d' := fresh w₀.heap.size 5 ((ctrL s c t).map byteV) 16) (Le.eq (by rw [ctr_flat, ctrL_length]))) ?_
 refine RS (ok_arrayF Tryz.underlying22 rfl (by decide)) ?_
 refine RS (ok_loadF Tryz.underlying22 rfl (size22.of (by rw [List.length_map, ctrL_length])) rfl) ?_; refine RZ (aggV (rowV 16 (byL (ctrL s c t)))) (congrArg aggV (rowV_byL (ctrL_length s c t))) ?_
 refine RN ?_
 refine ⟨_, eff_storeA (n := 17) (s := 1000004) (size22.of (rowV_length _ _)) rfl rfl (rowV_one _ _) hBb4 rfl (by first | (simp only [rowV_length]; done) | simp only [rowV_length, List.length_replicate]) (LV 4 rfl (LT 1000002 rfl LN)), ?_⟩
 refine TL ?_
 refine RN ?_
 refine A.ret ?_
 exact End.cell1 (s := 1000004) rfl Tryz.underlying22 rfl (size22.of (rowV_length _ _)) rfl rfl (Le.refl _)
theorem Block_fn7 (k : Nat → Nat) (hk : By k) (s c t : Nat) (hs : s < 4294967296) (hc : c < 18446744073709551616) (ht : t < 4294967296) : Fn Tryz.prog 26 [.v (aggV (rowV 16 (k))), .v (aggV ([nW s, nQ c])), .v (nW t)] (.v (aggV (rowV 16 (ksB k s c t)))) := by
 refine Fn.of Tryz.func26 rfl (by kernel_rfl) Tryz.ntmps26 (by simp) (fun w => [(0, .v (aggV (rowV 16 (k)))), (1, .v (aggV ([nW s, nQ c]))), (2, .v (nW t))]) (fun w => (Start.v rfl (Start.v rfl (Start.v rfl Start.nil)))) fun w₀ => ?_
 refine GS ?_
 refine TN 0 ?_
 refine RN ?_
 refine ⟨_, _, eff_box (n := 13) (d := 3) (k := 1000003) rfl (by decide), fun b3 hb3 => ?_⟩
 have hBb3 := hb3.1
 refine TN 1 ?_
 refine RN ?_
 refine ⟨_, _, eff_box (n := 13) (d := 4) (k := 1000004) rfl (by decide), fun b4 hb4 => ?_⟩
 have hBb4 := hb4.1
 refine TN 2 ?_
 refine RN ?_
 refine ⟨_, _, eff_alloc (n := 13) (d := 6) (k := 1000006) zero22 (by decide), fun b6 hb6 => ?_⟩
 have hBb6 := hb6.1
 have hlt_b3_b6 : b3 < b6 := hb6.2 1000003 _ _ _ rfl
 refine TL ?_
 refine RN ?_
 refine GD ?_
 refine TD 6 ?_
 refine RS (ok_loadA (s := 1000003) (by decide) Tryz.underlying22 rfl (size22.of (rowV_length _ _)) rfl rfl) ?_
 refine RS (ok_call (Expand_fn k hk) (A1 rfl)) ?_
 refine RS (ok_loadA (s := 1000004) (by decide) Tryz.underlying30 rfl (size30.of (rfl)) rfl rfl) ?_
 refine RM rfl ?_
 refine RS (ok_call (counterBlock_fn s c t hs hc ht) (A2 rfl rfl)) ?_
 refine RS (ok_call (Encrypt_fn (expand k) (byL (ctrL s c t)) (expand_lt hk) (byL_lt _)) (A2 rfl rfl)) ?_
 refine RN ?_
 refine ⟨_, eff_storeA (n := 13) (s := 1000006) (size22.of (rowV_length _ _)) rfl rfl (rowV_one _ _) hBb6 rfl (by first | (simp only [rowV_length]; done) | simp only [rowV_length, List.length_replicate]) (LV 6 rfl (LB 1000003 rfl (LT 1000004 rfl LN))), ?_⟩
 refine TL ?_
 refine RN ?_
 refine A.ret ?_
 exact End.cell1 (s := 1000006) rfl Tryz.underlying22 rfl (size22.of (rowV_length _ _)) rfl rfl (Le.refl _)
theorem counterOf_fn (x : Nat) (hx : x ≤ 1048576) : Fn Tryz.prog 76 [.v (nI x)] (.v (nW (x / 16))) := by
 refine Fn.of Tryz.func76 rfl (by kernel_rfl) Tryz.ntmps76 (by simp) (fun w => [(0, .v (nI x))]) (fun w => (Start.v rfl Start.nil)) fun w₀ => ?_
 refine GS ?_
 refine TL ?_
 refine RA rfl ?_
 refine RN ?_
 refine GS ?_
 refine TL ?_
 refine RM rfl ?_
 refine RS (ok_div rfl rfl (by decide)) ?_; refine RZ (nI (x / 16)) (by rw [tdiv_lit _ (by decide), show Int.toNat 16 = 16 from rfl, wrapN_i64 (by omega)]) ?_
 refine RS (ok_conv Tryz.underlying3 Tryz.underlying27 rfl) ?_; refine RZ (nW (x / 16)) (by rw [wrapN_u32 (by omega)]) ?_
 refine RA rfl ?_
 refine RN ?_
 refine A.ret ?_
 exact End.ret1 rfl rfl (by first | exact Le.refl _ | exact Le.old _ _)
theorem Used_empty (s c : Nat) (o n : Int) (h : 0 ≤ o) (h1 : o ≤ 1048576) (h2 : n = 0) : Fn Tryz.prog 53 [.v (aggV ([nW s, nQ c])), .v (.int .i64 o), .v (.int .i64 n)] (tup [.v (aggV ([.int .u32 0, .int .u64 0, .int .u32 0, .int .u32 0])), .v (.int .i64 16)]) := by
 refine Fn.of Tryz.func53 rfl (by kernel_rfl) Tryz.ntmps53 (by simp) (fun w => [(0, .v (aggV ([nW s, nQ c]))), (1, .v (.int .i64 o)), (2, .v (.int .i64 n))]) (fun w => (Start.v rfl (Start.v rfl (Start.v rfl Start.nil)))) fun w₀ => ?_
 refine GS ?_
 refine TN 0 ?_
 refine RN ?_
 refine ⟨_, _, eff_box (n := 35) (d := 3) (k := 1000003) rfl (by decide), fun b3 hb3 => ?_⟩
 have hBb3 := hb3.1
 refine TN 1 ?_
 refine RN ?_
 refine ⟨_, _, eff_alloc (n := 35) (d := 6) (k := 1000006) zero95 (by decide), fun b6 hb6 => ?_⟩
 have hBb6 := hb6.1
 refine TL ?_
 refine RA rfl ?_
 refine RN ?_
 refine A.seq ?_
 refine A.block ?_
 refine GS ?_
 refine TL ?_
 refine RM rfl ?_
 refine RBS rfl rfl rfl (.bool false) (by simp; omega) ?_
 refine RM rfl ?_
 refine RQ (ok_move rfl) ?_
 refine RQ (ok_bin rfl rfl rfl) ?_; refine RZ (.bool false) (by simp; omega) ?_
 refine RP rfl rfl ?_
 refine RA rfl ?_
 refine RN ?_
 refine A.no rfl ?_
 refine GS ?_
 refine TL ?_
 refine RM rfl ?_
 refine RM rfl ?_
 refine RBS rfl rfl rfl (.int .i64 (1048576 - o)) (by rw [wrap_i64 (by omega) (by omega)]) ?_
 refine RBS rfl rfl rfl (.bool false) (by simp; omega) ?_
 refine RA rfl ?_
 refine RN ?_
 refine A.no rfl ?_
 refine GS ?_
 refine TL ?_
 refine RM rfl ?_
 refine RBS rfl rfl rfl (.bool true) (by simp; omega) ?_
 refine RA rfl ?_
 refine RN ?_
 refine A.yes rfl ?_
 refine GS ?_
 refine TF 1 ?_
 refine RS (ok_lit [] ([.int .u32 0] ++ [.int .u64 0] ++ [.int .u32 0] ++ [.int .u32 0]) (fun _ _ => rfl) (by kernel_rfl)) ?_
 refine RN ?_
 refine ⟨_, eff_storeA (n := 35) (s := 1000006) (size95.of (rfl)) rfl rfl (rfl) hBb6 rfl (rfl) (LV 6 rfl (LT 1000003 rfl LN)), ?_⟩
 refine TL ?_
 refine RA rfl ?_
 refine RN ?_
 refine A.ret ?_
 refine End.ret_block ?_
 refine End.ret_then ?_
 exact End.cellT (s := 1000006) rfl Tryz.underlying95 rfl (size95.of (rfl)) rfl rfl (Le.v rfl) rfl (Le.refl _)
theorem Used_fn (s c o n : Nat) (h0 : 0 < n) (h : o + n ≤ 1048576) : Fn Tryz.prog 53 [.v (aggV ([nW s, nQ c])), .v (nI o), .v (nI n)] (tup [.v (aggV ([nW s, nQ c, nW (o / 16), nW ((o + n - 1) / 16)])), .v (.int .i64 0)]) := by
 refine Fn.of Tryz.func53 rfl (by kernel_rfl) Tryz.ntmps53 (by simp) (fun w => [(0, .v (aggV ([nW s, nQ c]))), (1, .v (nI o)), (2, .v (nI n))]) (fun w => (Start.v rfl (Start.v rfl (Start.v rfl Start.nil)))) fun w₀ => ?_
 refine GS ?_
 refine TN 0 ?_
 refine RN ?_
 refine ⟨_, _, eff_box (n := 35) (d := 3) (k := 1000003) rfl (by decide), fun b3 hb3 => ?_⟩
 have hBb3 := hb3.1
 refine TN 1 ?_
 refine RN ?_
 refine ⟨_, _, eff_alloc (n := 35) (d := 6) (k := 1000006) zero95 (by decide), fun b6 hb6 => ?_⟩
 have hBb6 := hb6.1
 refine TL ?_
 refine RA rfl ?_
 refine RN ?_
 refine A.seq ?_
 refine A.block ?_
 refine GS ?_
 refine TL ?_
 refine RM rfl ?_
 refine RBS rfl rfl rfl (.bool false) (by simp) ?_
 refine RM rfl ?_
 refine RQ (ok_move rfl) ?_
 refine RQ (ok_bin rfl rfl rfl) ?_; refine RZ (.bool false) (by simp) ?_
 refine RP rfl rfl ?_
 refine RA rfl ?_
 refine RN ?_
 refine A.no rfl ?_
 refine GS ?_
 refine TL ?_
 refine RM rfl ?_
 refine RM rfl ?_
 refine RBS rfl rfl rfl (.int .i64 (1048576 - (o : Int))) (by rw [wrap_i64 (by omega) (by omega)]) ?_
 refine RBS rfl rfl rfl (.bool false) (by simp; omega) ?_
 refine RA rfl ?_
 refine RN ?_
 refine A.no rfl ?_
 refine GS ?_
 refine TL ?_
 refine RM rfl ?_
 refine RBS rfl rfl rfl (.bool false) (by simp; omega) ?_
 refine RA rfl ?_
 refine RN ?_
 refine A.no rfl ?_
 refine A.skip ?_
 refine End.normal_block ?_
 refine EN ?_
 refine GD ?_
 refine TD 9 ?_
 refine RS (ok_loadA (s := 1000003) (by decide) Tryz.underlying30 rfl (size30.of (rfl)) rfl rfl) ?_
 refine RM rfl ?_
 refine RS (ok_call (counterOf_fn o (by omega)) (A1 rfl)) ?_
 refine RM rfl ?_
 refine RM rfl ?_
 refine RBS rfl rfl rfl (nI (o + n)) (by rw [wrap_i64 (by omega) (by omega)]; exact congrArg (Value.int .i64) (by omega)) ?_
 refine RBS rfl rfl rfl (nI (o + n - 1)) (by rw [wrap_i64 (by omega) (by omega)]; exact congrArg (Value.int .i64) (by omega)) ?_
 refine RS (ok_call (counterOf_fn (o + n - 1) (by omega)) (A1 rfl)) ?_
 refine RS (ok_litU [aggV [nW s, nQ c], nW (o / 16), nW ((o + n - 1) / 16)] _ ⟨rfl, rfl, rfl, rfl, rfl, rfl, trivial⟩ (build95 s c (o / 16) ((o + n - 1) / 16))) ?_
 refine RN ?_
 refine ⟨_, eff_storeA (n := 35) (s := 1000006) (size95.of (rfl)) rfl rfl (rfl) hBb6 rfl (rfl) (LV 6 rfl (LT 1000003 rfl LN)), ?_⟩
 refine TL ?_
 refine RA rfl ?_
 refine RN ?_
 refine A.sub (KC 6 rfl (KC 7 rfl (KC 1000003 rfl (KC 1000006 rfl KN)))) ?_
 refine A.ret ?_
 exact End.cellT (s := 1000006) rfl Tryz.underlying95 rfl (size95.of (rfl)) rfl rfl (Le.refl _) rfl (Le.refl _)
set_option maxHeartbeats 1000000 in
theorem combine_fnWR (g h o p n : Nat) (F G S : Nat → Nat) (hF : ∀ i, F i < 256) (hS : ∀ i, S i < 256) (ho : o ≤ n) (hn : n ≤ 1048576) (hp : p ≤ 16) (hG : ∀ j, j < (min (n - o) (16 - p)) → F (o + j) ^^^ S (p + j) = G (o + j)) : FnWR Tryz.prog 55 [(1000070, blk h 22 (rowV 16 S))] 5 g (rowV n (mid F G o)) (rowV n (mid F G (o + (min (n - o) (16 - p))))) ([.slice (some ⟨g, o, none⟩) (n - o) (n - o), .slice (some ⟨h, p, none⟩) (16 - p) (16 - p)].map D.v) (.slice (some ⟨g, if n - o = (min (n - o) (16 - p)) then o else o + (min (n - o) (16 - p)), none⟩) (n - o - (min (n - o) (16 - p))) (n - o - (min (n - o) (16 - p)))) := by
 refine FnWR.of (n := 30) (kb := 1000080) (kw := 1000081) Tryz.func55 rfl (by kernel_rfl) Tryz.ntmps55 (by simp) (by decide) (fun p hp => by simp only [List.mem_cons, List.not_mem_nil, or_false] at hp; rcases hp with rfl; exact vle rfl) (by decide) (by decide) [(0, .v (.slice (some ⟨g, o, none⟩) (n - o) (n - o))), (1, .v (.slice (some ⟨h, p, none⟩) (16 - p) (16 - p)))]
  (fun p hp => by simp only [List.mem_cons, List.not_mem_nil, or_false] at hp; rcases hp with rfl | rfl <;> exact ⟨_, rfl, rfl⟩) fun w₀ w₁ hw => ?_
 have hBg : w₀.heap.size ≤ g := Nat.le_of_eq hw
 refine GS ?_
 refine TL ?_
 refine RA rfl ?_
 refine RN ?_
 refine GS ?_
 refine TL ?_
 refine RM rfl ?_
 refine RS (ok_lenV Tryz.underlying49 rfl) ?_
 refine RM rfl ?_
 refine RS (ok_lenV Tryz.underlying49 rfl) ?_
 refine RS (ok_min rfl rfl) ?_; refine RZ (nI ((min (n - o) (16 - p)))) (congrArg (Value.int .i64) (by omega)) ?_
 refine RA rfl ?_
 refine RN ?_
 refine A.seq ?_
 refine GS ?_
 refine TL ?_
 refine RM rfl ?_
 refine RM rfl ?_
 refine RN ?_
 refine A.block ?_
 refine A.loop (ι := Nat) (fun i => i ≤ (min (n - o) (16 - p))) (fun i => [(0, .v (.slice (some ⟨g, o, none⟩) (n - o) (n - o))), (1, .v (.slice (some ⟨h, p, none⟩) (16 - p) (16 - p))), (5, .v (nI ((min (n - o) (16 - p))))), (12, .v (nI ((min (n - o) (16 - p))))), (13, .v (nI i)), (1000080, blk g 5 (rowV n (mid F G (o + i)))), (1000070, blk h 22 (rowV 16 S)), (1000081, wroteD 5 g w₁)]) (fun i => (min (n - o) (16 - p)) - i) 0 ?_ ?_ ?_
 ·exact Nat.zero_le _
 ·exact (KC 0 rfl (KC 1 rfl (KC 5 rfl (KC 12 rfl (KC 13 rfl (KC 1000080 rfl (KC 1000070 rfl (KC 1000081 rfl KN))))))))
 intro i hi'
 refine GS ?_
 refine TL ?_
 refine RB rfl rfl rfl ?_
 refine RN ?_
 refine A.seq ?_
 refine A.cond rfl (fun hc14 => ?_) (fun hc14 => ?_)
 ·have hi : i < (min (n - o) (16 - p)) := by simp at hc14; omega
  refine A.skip ?_
  refine EN ?_
  refine A.seq ?_
  refine A.block ?_
  refine GS ?_
  refine TL ?_
  refine RM rfl ?_
  refine RA rfl ?_
  refine RN ?_
  refine A.reg (by kernel_rfl) (by kernel_rfl) (.inr (by kernel_rfl)) ?_
  refine TD 10 ?_
  refine RM rfl ?_
  refine RM rfl ?_
  refine RS (ok_indexV i Tryz.underlying49 info5 rfl rfl rfl (by omega)) ?_
  refine RS (ok_loadV (s := 1000080) (by decide) Tryz.underlying5 rfl rfl rfl (rowV_get (by omega))) ?_; refine RZ (nB (F (o + i))) (v8 (mid_at F G _)) ?_
  refine RM rfl ?_
  refine RM rfl ?_
  refine RS (ok_indexV i Tryz.underlying49 info5 rfl rfl rfl (by omega)) ?_
  refine RS (ok_loadV (s := 1000070) (by decide) Tryz.underlying5 rfl rfl rfl (rowV_get (by omega))) ?_; refine RZ (nB (S (p + i))) (v8 (by rfl)) ?_
  refine RBS rfl rfl rfl (nB (G (o + i))) (by rw [show IntKind.u8.bits = 8 from rfl, xor_u8N (hF _) (hS _), hG i hi]) ?_
  refine RS (ok_indexV i Tryz.underlying49 info5 rfl rfl rfl (by omega)) ?_
  refine RN ?_
  refine ⟨_, eff_storeS (n := 30) (s := 1000080) info5 rfl rfl rfl hBg rfl (by simp only [rowV_length]; omega) (LV 0 rfl (LV 1 rfl (LV 5 rfl (LV 12 rfl (LV 13 rfl (LT 1000070 rfl (LeftS.cons (t := 1000081) rfl (Surv.wrote) LN))))))), ?_⟩
  refine TL ?_
  refine RN ?_
  refine End.normal_block ?_
  refine EN ?_
  refine GE ?_
  refine TL ?_
  refine RBS rfl rfl rfl (nI (i + 1)) (by rw [wrap_i64 (by omega) (by omega)]; exact congrArg (Value.int .i64) (by omega)) ?_
  refine RM rfl ?_
  refine RN ?_
  refine End.normal_then ?_
  refine End.again (i + 1) ?_ ?_ ?_
  ·show _ ≤ _; omega
  ·show _ - _ < _ - _; omega
  ·exact (KC 0 rfl (KC 1 rfl (KC 5 rfl (KC 12 rfl (KC 13 rfl (KE 1000080 rfl (congrArg _ (mid_set rfl rfl)) (KC 1000070 rfl (KC 1000081 rfl KN))))))))
 ·have hi2 : i = (min (n - o) (16 - p)) := by simp at hc14; omega
  refine A.exit ?_
  refine End.exit_then ?_
  refine End.exit_then ?_
  refine End.exit_here ?_
  refine EN ?_
  refine GS ?_
  refine TL ?_
  refine RM rfl ?_
  refine RM rfl ?_
  refine RS (ok_sliceE (l := (min (n - o) (16 - p))) (h := n - o) (m := n - o) Tryz.underlying49 info5 rfl (.inl ⟨_, _, rfl, rfl⟩) (.inr ⟨rfl, rfl, rfl⟩) (.inr ⟨rfl, rfl⟩) (by omega) (Nat.le_refl _) (Nat.le_refl _)) ?_
  refine RA rfl ?_
  refine RN ?_
  refine A.ret ?_
  exact End.wroteR (kb := 1000080) (kw := 1000081) (.inl rfl) rfl rfl rfl (by rw [hi2]) rfl
theorem blocks_fnB (k : Nat → Nat) (s c f l : Nat) : FnB Tryz.prog 54 [.v (aggV (rowV 16 (k))), .v (aggV ([nW s, nQ c, nW f, nW l]))] (fun B => closR B 77 22 (rowV 16 k) 95 [nW s, nQ c, nW f, nW l]) := by
 refine FnB.of Tryz.func54 rfl (by kernel_rfl) Tryz.ntmps54 (by simp) (fun w => [(0, .v (aggV (rowV 16 (k)))), (1, .v (aggV ([nW s, nQ c, nW f, nW l])))]) (fun w => (Start.v rfl (Start.v rfl Start.nil))) fun w₀ => ?_
 refine GS ?_
 refine TN 0 ?_
 refine RN ?_
 refine ⟨_, _, eff_box (n := 6) (d := 2) (k := 1000002) rfl (by decide), fun b2 hb2 => ?_⟩
 have hBb2 := hb2.1
 refine TN 1 ?_
 refine RN ?_
 refine ⟨_, _, eff_box (n := 6) (d := 3) (k := 1000003) rfl (by decide), fun b3 hb3 => ?_⟩
 have hBb3 := hb3.1
 have hlt_b2_b3 : b2 < b3 := hb3.2 1000002 _ _ _ rfl
 refine TL ?_
 refine RA rfl ?_
 refine RN ?_
 refine GS ?_
 refine TL ?_
 refine RS (ok_makeFuncN [ptr b2, ptr b3] ⟨rfl, rfl, trivial⟩) ?_
 refine RA rfl ?_
 refine RN ?_
 refine A.ret ?_
 exact End.closR (.inl rfl) rfl hBb2 hBb3 (by omega) rfl (k₁ := 1000002) (k₂ := 1000003) rfl rfl
set_option maxHeartbeats 1000000 in
theorem blocks1_seq {w₀ : World} {N y p q : Nat} {J : Nat → World → Prop} {k : Nat → Nat} (hk : By k) {s c f t : Nat} (hs : s < 4294967296) (hc : c < 18446744073709551616) (hN : f + N = t + 1) (ht : t < 4294967296)
  (hq : SeqsX Tryz.prog w₀ N y (fun i => .v (aggV (rowV 16 (ksB k s c (f + i))))) (fun _ => [(1000091, blk p 22 (rowV 16 k)), (1000092, blk q 95 [nW s, nQ c, nW f, nW t])]) J (fun z : Nat × List Value => [(1000004, blk z.1 81 z.2)])) {w : World} (h0 : J 0 w) :
  Calls Tryz.prog 77 (.func (.yield y) #[] #[] :: [ptr p, ptr q] : List Value).toArray w fun e W => (∃ v, e = .returned v) ∧ J N W := by
 obtain ⟨hb, hz, hV⟩ := hq.holds 0 w h0
 refine Calls.within (n := 28) (E := [(0, .v (.func (.yield y) #[] #[])), (1, .v (ptr p)), (2, .v (ptr q)), (1000090, jD (J 0)), (1000091, blk p 22 (rowV 16 k)), (1000092, blk q 95 [nW s, nQ c, nW f, nW t])]) Tryz.func77 rfl Tryz.ntmps77 (by simp) (by decide) hb hz ?_ ?_
 ·intro x hx
  simp only [List.mem_cons, List.not_mem_nil, or_false] at hx
  rcases hx with rfl | rfl | rfl | rfl | rfl | rfl
  ·exact .inr ⟨_, rfl, rfl⟩
  ·exact .inr ⟨_, rfl, rfl⟩
  ·exact .inr ⟨_, rfl, rfl⟩
  ·exact .inl ⟨vle rfl, jD_mk h0⟩
  ·exact .inl ⟨vle rfl, hV _ (by simp)⟩
  ·exact .inl ⟨vle rfl, hV _ (by simp)⟩
 refine A.regsH _ (fun B => (OldH.same (t := 0) rfl (OldH.same (t := 1) rfl (OldH.same (t := 2) rfl (OldH.p (t := 1000090) rfl (OldH.same (t := 1000091) rfl (OldH.same (t := 1000092) rfl OldH.nil))))))) (by kernel_rfl) (by kernel_rfl) (.inl rfl) (fun B hB => ?_)
 refine TN 2 ?_
 refine RS (ok_loadA (s := 1000091) (by decide) Tryz.underlying22 rfl (size22.of (rowV_length _ _)) rfl rfl) ?_
 refine RS (ok_call (Expand_fn k hk) (A1 rfl)) ?_
 refine RN ?_
 refine ⟨_, _, eff_alloc (n := 28) (d := 4) (k := 1000004) zero81 (by decide), fun b4 hb4 => ?_⟩
 have hBb4 := hb4.1
 refine TF 3 ?_
 refine RN ?_
 refine ⟨_, eff_storeA (n := 28) (s := 1000004) (size81.of (rowV_length _ _)) rfl rfl (rowV_one _ _) hBb4 rfl (by first | (simp only [rowV_length]; done) | simp only [rowV_length, List.length_replicate]) (LV 0 rfl (LV 2 rfl (LV 4 rfl (LO 1000090 rfl (LT 1000091 rfl (LT 1000092 rfl LN)))))), ?_⟩
 refine TL ?_
 refine RN ?_
 refine A.sub (KC 0 rfl (KC 2 rfl (KC 4 rfl (KC 1000004 rfl (KC 1000090 rfl (KC 1000091 rfl (KC 1000092 rfl KN))))))) ?_
 refine A.subL (SubL.cons (t := 0) rfl (Le.refl _) (SubL.cons (t := 2) rfl (Le.refl _) (SubL.cons (t := 4) rfl (Le.refl _) (SubL.cons (t := 1000004) rfl (Le.refl _) (SubL.cons (t := 1000090) rfl (Le.old _ _) (SubL.cons (t := 1000091) rfl (Le.refl _) (SubL.cons (t := 1000092) rfl (Le.refl _) SubL.nil))))))) ?_
 refine GS ?_
 refine TL ?_
 refine RS (ok_field field95_1 (by decide) rfl) ?_
 refine RS (ok_loadV (s := 1000092) (by decide) Tryz.underlying27 rfl rfl rfl (rfl)) ?_
 refine RS (ok_conv Tryz.underlying27 Tryz.underlying28 rfl) ?_; refine RZ (nQ f) (by rw [wrapN_u64 (by omega)]) ?_
 refine RA rfl ?_
 refine RN ?_
 refine A.block ?_
 refine A.loop (ι := Nat) (fun i => i ≤ N) (fun i => [(0, .v (.func (.yield y) #[] #[])), (2, .v (ptr q)), (4, .v (.pointer (some ⟨b4, 0, none⟩))), (5, .v (nQ (f + i))), (1000090, jD (J i)), (1000091, blk p 22 (rowV 16 k)), (1000092, blk q 95 [nW s, nQ c, nW f, nW t]), (1000004, blk b4 81 (rowV 176 (expand k)))]) (fun i => N - i) 0 ?_ ?_ ?_
 ·exact Nat.zero_le _
 ·exact (KC 0 rfl (KC 2 rfl (KC 4 rfl (KE 5 rfl (by rfl) (KC 1000090 rfl (KC 1000091 rfl (KC 1000092 rfl (KC 1000004 rfl KN))))))))
 intro i hi'
 refine A.seq ?_
 refine GS ?_
 refine TL ?_
 refine RM rfl ?_
 refine RS (ok_field field95_2 (by decide) rfl) ?_
 refine RS (ok_loadV (s := 1000092) (by decide) Tryz.underlying27 rfl rfl rfl (rfl)) ?_
 refine RS (ok_conv Tryz.underlying27 Tryz.underlying28 rfl) ?_; refine RZ (nQ t) (by rw [wrapN_u64 (by omega)]) ?_
 refine RB rfl rfl rfl ?_
 refine RN ?_
 refine A.cond rfl (fun hc15 => ?_) (fun hc15 => ?_)
 ·have hlt : i < N := by simp at hc15; omega
  refine A.skip ?_
  refine EN ?_
  refine A.seq ?_
  refine A.block ?_
  refine GD ?_
  refine TD 8 ?_
  refine RM rfl ?_
  refine RS (ok_loadA (s := 1000004) (by decide) Tryz.underlying81 rfl (size81.of (rowV_length _ _)) rfl rfl) ?_
  refine RS (ok_field field95_0 (by decide) rfl) ?_
  refine RS (ok_loadP (s := 1000092) (by decide) Tryz.underlying30 rfl size30 rfl rfl (by simp) (rfl)) ?_
  refine RM rfl ?_
  refine RS (ok_conv Tryz.underlying28 Tryz.underlying27 rfl) ?_; refine RZ (nW (f + i)) (by rw [wrapN_u32 (by omega)]) ?_
  refine RS (ok_call (counterBlock_fn s c (f + i) hs hc (by omega)) (A2 rfl rfl)) ?_
  refine RS (ok_call (Encrypt_fn (expand k) (byL (ctrL s c (f + i))) (expand_lt hk) (byL_lt _)) (A2 rfl rfl)) ?_; refine RZ (aggV (rowV 16 (ksB k s c (f + i)))) (rfl) ?_
  refine RN ?_
  refine ⟨_, eff_yieldX (vJ := 1000090) hq (b4, (rowV 176 (expand k))) i hlt rfl rfl rfl (Le.refl _) (by decide) (fun p hp => by simp only [List.mem_cons, List.not_mem_nil, or_false] at hp; rcases hp with rfl | rfl <;> exact vle rfl) (fun p hp => by simp only [List.mem_cons, List.not_mem_nil, or_false] at hp; rcases hp with rfl; exact vle rfl) (fun p hp => by simp only [List.mem_cons, List.not_mem_nil, or_false] at hp; rcases hp with rfl; rfl) (by decide) (Left.cons (t := 0) rfl (Stays.v _ _) (Left.cons (t := 2) rfl (Stays.v _ _) (Left.cons (t := 4) rfl (Stays.v _ _) (Left.cons (t := 5) rfl (Stays.v _ _) Left.nil)))), ?_⟩
  refine TL ?_
  refine RS (ok_not rfl) ?_; refine RZ (.bool false) (rfl) ?_
  refine RN ?_
  refine A.no rfl ?_
  refine A.skip ?_
  refine End.normal_block ?_
  refine EN ?_
  refine GE ?_
  refine TL ?_
  refine RM rfl ?_
  refine RBS rfl rfl rfl (nQ (f + (i + 1))) (by rw [wrap_u64 (by omega) (by omega)]; exact congrArg (Value.int .u64) (by omega)) ?_
  refine RA rfl ?_
  refine RN ?_
  refine End.normal_then ?_
  refine End.again (i + 1) ?_ ?_ ?_
  ·show _ ≤ _; omega
  ·show _ - _ < _ - _; omega
  ·exact (KC 0 rfl (KC 2 rfl (KC 4 rfl (KC 5 rfl (KC 1000090 rfl (KC 1000091 rfl (KC 1000092 rfl (KC 1000004 rfl KN))))))))
 ·obtain rfl : i = N := by simp at hc15; omega
  refine A.exit ?_
  refine End.exit_then ?_
  refine End.exit_then ?_
  refine End.exit_here ?_
  exact End.seqX (vJ := 1000090) hq rfl rfl
set_option maxHeartbeats 1000000 in
theorem Xor7_empty (k : Nat → Nat) (s c : Nat) (o : Int) (l : List UInt8) (h : 0 ≤ o) (h1 : o ≤ 1048576) (h2 : (l.length : Int) = 0) : Fn Tryz.prog 37 [.v (aggV (rowV 16 (k))), .v (aggV ([nW s, nQ c])), .v (.int .i64 o), byt l] (tup [.v (.slice none 0 0), .v (.int .i64 0)]) := by
 refine Fn.of Tryz.func37 rfl (by kernel_rfl) Tryz.ntmps37 (by simp) (fun w => [(0, .v (aggV (rowV 16 (k)))), (1, .v (aggV ([nW s, nQ c]))), (2, .v (.int .i64 o)), (3, old w.heap.size (byt l))]) (fun w => (Start.v rfl (Start.v rfl (Start.v rfl (Start.old rfl Start.nil))))) fun w₀ => ?_
 refine GS ?_
 refine TN 0 ?_
 refine RN ?_
 refine ⟨_, _, eff_box (n := 48) (d := 4) (k := 1000004) rfl (by decide), fun b4 hb4 => ?_⟩
 have hBb4 := hb4.1
 refine TN 1 ?_
 refine RN ?_
 refine ⟨_, _, eff_box (n := 48) (d := 5) (k := 1000005) rfl (by decide), fun b5 hb5 => ?_⟩
 have hBb5 := hb5.1
 refine TL ?_
 refine RA rfl ?_
 refine RA rfl ?_
 refine RN ?_
 refine GS ?_
 refine TN 8 ?_
 refine RS (ok_loadA (s := 1000005) (by decide) Tryz.underlying30 rfl (size30.of (rfl)) rfl rfl) ?_
 refine RM rfl ?_
 refine RM rfl ?_
 refine RS (ok_lenB Tryz.underlying49 rfl LA) ?_
 refine RS (ok_call (Used_empty s c o (l.length : Int) h h1 h2) (A3 rfl rfl rfl)) ?_
 refine RM rfl ?_
 refine RS (ok_extract rfl rfl) ?_
 refine RS (ok_extract rfl rfl) ?_
 refine RN ?_
 refine ⟨_, _, eff_alloc (n := 48) (d := 10) (k := 1000010) zero95 (by decide), fun b10 hb10 => ?_⟩
 have hBb10 := hb10.1
 refine TF 9 ?_
 refine RN ?_
 refine ⟨_, eff_storeA (n := 48) (s := 1000010) (size95.of (rfl)) rfl rfl (rfl) hBb10 rfl (rfl) (LV 2 rfl (LO 3 rfl (LV 4 rfl (LV 10 rfl (LV 23 rfl (LT 1000004 rfl (LT 1000005 rfl LN))))))), ?_⟩
 refine TL ?_
 refine RA rfl ?_
 refine RN ?_
 refine A.seq ?_
 refine GS ?_
 refine TL ?_
 refine RM rfl ?_
 refine RN ?_
 refine A.block ?_
 refine GS ?_
 refine TL ?_
 refine RBS rfl rfl rfl (.bool false) (by rfl) ?_
 refine RA rfl ?_
 refine RN ?_
 refine A.no rfl ?_
 refine GS ?_
 refine TL ?_
 refine RBS rfl rfl rfl (.bool true) (by rfl) ?_
 refine RA rfl ?_
 refine RN ?_
 refine A.yes rfl ?_
 refine GS ?_
 refine TL ?_
 refine RA rfl ?_
 refine RA rfl ?_
 refine RN ?_
 refine A.ret ?_
 refine End.ret_block ?_
 refine End.ret_then ?_
 exact End.ret2 rfl rfl (by first | exact Le.refl _ | exact Le.old _ _) rfl (by first | exact Le.refl _ | exact Le.old _ _)
set_option maxHeartbeats 4000000 in
theorem Xor7_pos (k : Nat → Nat) (hk : By k) (s c o : Nat) (l : List UInt8) (hs : s < 4294967296) (hc : c < 18446744073709551616) (hm : 0 < l.length) (ho : o + l.length ≤ 1048576) : Fn Tryz.prog 37 [.v (aggV (rowV 16 (k))), .v (aggV ([nW s, nQ c])), .v (nI o), byt l] (tup [bytes (xorK k s c o l) l.length, .v (.int .i64 0)]) := by
 have ha : o % 16 < 16 := Nat.mod_lt _ (by decide)
 refine Fn.of Tryz.func37 rfl (by kernel_rfl) Tryz.ntmps37 (by simp) (fun w => [(0, .v (aggV (rowV 16 (k)))), (1, .v (aggV ([nW s, nQ c]))), (2, .v (nI o)), (3, old w.heap.size (byt l))]) (fun w => (Start.v rfl (Start.v rfl (Start.v rfl (Start.old rfl Start.nil))))) fun w₀ => ?_
 refine GS ?_
 refine TN 0 ?_
 refine RN ?_
 refine ⟨_, _, eff_box (n := 48) (d := 4) (k := 1000004) rfl (by decide), fun b4 hb4 => ?_⟩
 have hBb4 := hb4.1
 refine TN 1 ?_
 refine RN ?_
 refine ⟨_, _, eff_box (n := 48) (d := 5) (k := 1000005) rfl (by decide), fun b5 hb5 => ?_⟩
 have hBb5 := hb5.1
 refine TL ?_
 refine RA rfl ?_
 refine RA rfl ?_
 refine RN ?_
 refine GS ?_
 refine TN 8 ?_
 refine RS (ok_loadA (s := 1000005) (by decide) Tryz.underlying30 rfl (size30.of (rfl)) rfl rfl) ?_
 refine RM rfl ?_
 refine RM rfl ?_
 refine RS (ok_lenB Tryz.underlying49 rfl LA) ?_
 refine RS (ok_call (Used_fn s c o l.length hm ho) (A3 rfl rfl rfl)) ?_
 refine RM rfl ?_
 refine RS (ok_extract rfl rfl) ?_
 refine RS (ok_extract rfl rfl) ?_
 refine RN ?_
 refine ⟨_, _, eff_alloc (n := 48) (d := 10) (k := 1000010) zero95 (by decide), fun b10 hb10 => ?_⟩
 have hBb10 := hb10.1
 refine TF 9 ?_
 refine RN ?_
 refine ⟨_, eff_storeA (n := 48) (s := 1000010) (size95.of (rfl)) rfl rfl (rfl) hBb10 rfl (rfl) (LV 2 rfl (LO 3 rfl (LV 4 rfl (LV 10 rfl (LV 23 rfl (LT 1000004 rfl (LT 1000005 rfl LN))))))), ?_⟩
 refine TL ?_
 refine RA rfl ?_
 refine RN ?_
 refine A.seq ?_
 refine GS ?_
 refine TL ?_
 refine RM rfl ?_
 refine RN ?_
 refine A.block ?_
 refine GS ?_
 refine TL ?_
 refine RBS rfl rfl rfl (.bool true) (by rfl) ?_
 refine RA rfl ?_
 refine RN ?_
 refine A.yes rfl ?_
 refine A.skip ?_
 refine End.normal_block ?_
 refine EN ?_
 refine GS ?_
 refine TL ?_
 refine RM rfl ?_
 refine RS (ok_lenB Tryz.underlying49 rfl LA) ?_
 refine RS (ok_make l.length Tryz.underlying49 info5 (by decide) rfl rfl rfl rfl rfl (by omega)) ?_
 refine RA rfl ?_
 refine RN ?_
 refine A.open (t := 12) (k := 1000012) rfl fun b12 hb12 => ?_
 have hBb12 := hb12
 refine GS ?_
 refine TF 2 ?_
 refine RM rfl ?_
 refine RM rfl ?_
 refine RN ?_
 refine ⟨_, eff_copyS (n := 48) (s := 1000012) (l := l) Tryz.underlying49 info5 rfl rfl LA hBb12 rfl (by simp) (by decide) (LV 2 rfl (LV 4 rfl (LV 10 rfl (LV 12 rfl (LT 1000004 rfl (LT 1000005 rfl (LT 1000010 rfl LN))))))), ?_⟩
 refine TL ?_
 refine RN ?_
 refine A.sub (KC 2 rfl (KC 4 rfl (KC 10 rfl (KC 12 rfl (KC 1000004 rfl (KC 1000005 rfl (KC 1000010 rfl (KE 1000012 rfl (show blk b12 5 _ = blk b12 5 (rowV l.length (mid (byL l) (xorG k s c o (byL l)) 0)) from congrArg _ (copy_row l _ (by simp) _)) KN)))))))) ?_
 refine GS ?_
 refine TN 3 ?_
 refine RM rfl ?_
 refine RM rfl ?_
 refine RS (ok_rem rfl rfl (by decide)) ?_; refine RZ (nI (o % 16)) (by rw [tmod_lit _ (by decide)]; rfl) ?_
 refine RN ?_
 refine ⟨_, _, eff_alloc (n := 48) (d := 13) (k := 1000013) zero49 (by decide), fun b13 hb13 => ?_⟩
 have hBb13 := hb13.1
 refine TN 4 ?_
 refine RN ?_
 refine ⟨_, _, eff_alloc (n := 48) (d := 14) (k := 1000014) zero3 (by decide), fun b14 hb14 => ?_⟩
 have hBb14 := hb14.1
 refine TF 5 ?_
 refine RN ?_
 refine ⟨_, eff_storeS (n := 48) (s := 1000013) info49 rfl rfl rfl hBb13 rfl (by simp) (LV 4 rfl (LV 10 rfl (LV 12 rfl (LV 13 rfl (LV 14 rfl (LV 38 rfl (LT 1000004 rfl (LT 1000005 rfl (LT 1000010 rfl (LT 1000012 rfl (LT 1000014 rfl LN))))))))))), ?_⟩
 refine TF 6 ?_
 refine RN ?_
 refine ⟨_, eff_storeS (n := 48) (s := 1000014) info3 rfl rfl rfl hBb14 rfl (by simp) (LV 4 rfl (LV 10 rfl (LV 12 rfl (LV 13 rfl (LV 14 rfl (LT 1000004 rfl (LT 1000005 rfl (LT 1000010 rfl (LT 1000012 rfl (LT 1000013 rfl LN)))))))))), ?_⟩
 refine TL ?_
 refine RN ?_
 refine A.seq ?_
 refine GS ?_
 refine TL ?_
 refine RS (ok_loadA (s := 1000004) (by decide) Tryz.underlying22 rfl (size22.of (rowV_length _ _)) rfl rfl) ?_
 refine RS (ok_loadA (s := 1000010) (by decide) Tryz.underlying95 rfl (size95.of (rfl)) rfl rfl) ?_
 refine RS (ok_callB (blocks_fnB k s c (o / 16) ((o + l.length - 1) / 16)) (fun _ _ => closR_mono _ _) (A2 rfl rfl)) ?_
 refine RN ?_
 refine A.openClosR (t := 41) (k₁ := 1000091) (k₂ := 1000092) rfl fun p q hBp hBq hpq => ?_
 refine A.block ?_
 refine A.rangeX (gf := 77) (N := ((o % 16 + l.length - 1) / 16 + 1)) (vL := 1000098) (vD := 1000099) (tp := 42) (lb := [ptr p, ptr q]) (S := [(12, .v (.slice (some ⟨b12, 0, none⟩) l.length l.length)), (13, .v (ptr b13)), (14, .v (ptr b14))]) (XE := fun z : Nat × List Value => [(1000004, blk z.1 81 z.2)])
  (V := fun i => [(1000012, blk b12 5 (rowV l.length (mid (byL l) (xorG k s c o (byL l)) (dnS (o % 16) l.length (i))))), (1000013, blk b13 49 [.slice (some ⟨b12, rpS (o % 16) l.length (i), none⟩) (l.length - dnS (o % 16) l.length (i)) (l.length - dnS (o % 16) l.length (i))]), (1000014, blk b14 3 [nI (skS (o % 16) (i))]), (1000091, blk p 22 (rowV 16 k)), (1000092, blk q 95 [nW s, nQ c, nW (o / 16), nW ((o + l.length - 1) / 16)])])
  (Eb := fun i z => (15, freshV w₀.heap.size [] 22 (rowV 16 (ksB k s c (o / 16 + i)))) :: (42, .v (aggV (rowV 16 (ksB k s c (o / 16 + i))))) :: ([(1000012, blk b12 5 (rowV l.length (mid (byL l) (xorG k s c o (byL l)) (dnS (o % 16) l.length (i))))), (1000013, blk b13 49 [.slice (some ⟨b12, rpS (o % 16) l.length (i), none⟩) (l.length - dnS (o % 16) l.length (i)) (l.length - dnS (o % 16) l.length (i))]), (1000014, blk b14 3 [nI (skS (o % 16) (i))]), (1000091, blk p 22 (rowV 16 k)), (1000092, blk q 95 [nW s, nQ c, nW (o / 16), nW ((o + l.length - 1) / 16)])] ++ [(12, .v (.slice (some ⟨b12, 0, none⟩) l.length l.length)), (13, .v (ptr b13)), (14, .v (ptr b14))] ++ [(1000004, blk z.1 81 z.2)]))
  (arg := fun i => .v (aggV (rowV 16 (ksB k s c (o / 16 + i))))) rfl ⟨_, Tryz.func77, by kernel_rfl, rfl⟩ (by decide) (by decide) (KE 1000012 rfl (by rw [dnS_zero]) (KE 1000013 rfl (by rw [rpS_zero hm, dnS_zero, List.length_replicate, Nat.sub_zero]; rfl) (KE 1000014 rfl (by rw [skS_zero]; rfl) (KC 1000091 rfl (KC 1000092 rfl (KE 12 rfl (by rw [List.length_replicate]) (KC 13 rfl (KC 14 rfl KN))))))))
  (fun x hx => by simp only [List.mem_cons, List.not_mem_nil, or_false] at hx; rcases hx with rfl | rfl | rfl <;> exact ⟨vlt rfl, .inl ⟨_, rfl⟩⟩)
  (fun i x hx => by simp only [List.mem_cons, List.not_mem_nil, or_false] at hx; rcases hx with rfl | rfl | rfl | rfl | rfl <;> exact vle rfl)
  (fun z x hx => by simp only [List.mem_cons, List.not_mem_nil, or_false] at hx; rcases hx with rfl; exact vle rfl)
  (fun z l _ x hx => by simp only [List.mem_cons, List.not_mem_nil, or_false] at hx; rcases hx with rfl; exact Firm.blk)
  (fun i l' hl x hx => by simp only [List.mem_cons, List.not_mem_nil, or_false] at hx; rcases hx with rfl | rfl | rfl | rfl | rfl <;> first | exact Firm.blk | exact Firm.v _ _ | exact Firm.freshV)
  (fun i z l' hl x hx => by simp only [List.mem_cons, List.mem_append, List.not_mem_nil, or_false] at hx; rcases hx with rfl | rfl | ((rfl | rfl | rfl | rfl | rfl) | rfl | rfl | rfl) | rfl <;> first | exact Firm.blk | exact Firm.v _ _ | exact Firm.freshV)
  (fun J l' w hq h0 => blocks1_seq (f := o / 16) (t := (o + l.length - 1) / 16) hk hs hc (by omega) (by omega) (hq.sub fun i x hx => by simp only [List.mem_cons, List.not_mem_nil, or_false] at hx ⊢; rcases hx with rfl | rfl <;> simp) h0)
  (fun i l' a w z _ hb h => assign_box zero22 (size22.of (rowV_length _ _)) (rowV_one _ _) (by rw [rowV_length, List.length_replicate]) (by decide) (by decide) hb h) ?_ ?_
 ·intro i l' D rr mm z hi'
  have hdl := dnS_lt hm hi'
  have hsk := skS_lt ha i
  refine A.openFresh (t := 15) (k := 1000015) rfl fun b15 hBb15 => ?_
  refine A.block ?_
  refine GD ?_
  refine TD 3 ?_
  refine RS (ok_loadV (s := 1000013) (by decide) Tryz.underlying49 rfl rfl rfl (rfl)) ?_; refine RZ (.slice (some ⟨b12, dnS (o % 16) l.length (i), none⟩) (l.length - dnS (o % 16) l.length (i)) (l.length - dnS (o % 16) l.length (i))) (by rw [rpS_lt hm hi']) ?_
  refine RS (ok_loadV (s := 1000014) (by decide) Tryz.underlying3 rfl rfl rfl (rfl)) ?_
  refine RS (ok_sliceX (l := skS (o % 16) i) (h := 16) (m := 16) Tryz.underlying22 info5 rfl (.inl ⟨_, _, rfl, rfl⟩) (.inr ⟨rfl, rfl, rfl⟩) (.inr ⟨rfl, rfl⟩) (by omega) (by decide) (by decide) (.inl hsk)) ?_; refine RZ (.slice (some ⟨b15, skS (o % 16) i, none⟩) (16 - skS (o % 16) i) (16 - skS (o % 16) i)) (by rw [Nat.zero_add]) ?_
  refine RN ?_
  refine ⟨_, eff_callWR (n := 48) (s := 1000012) (combine_fnWR b12 b15 (dnS (o % 16) l.length (i)) (skS (o % 16) i) l.length (byL l) (xorG k s c o (byL l)) (ksB k s c (o / 16 + i)) (byL_lt l) (ksB_by hk _ _ _) (by omega) (by omega) (by omega) (fun j hj => xorG_block hm hi' hj)) (fun p hp => by simp only [List.mem_cons, List.not_mem_nil, or_false] at hp; rcases hp with rfl; exact ⟨1000015, by decide, rfl⟩) (A2 rfl rfl) hBb12 rfl (by decide) (by decide) (LV 13 rfl (LV 14 rfl (LT 1000004 rfl (LT 1000013 rfl (LT 1000014 rfl (LT 1000015 rfl (LT 1000091 rfl (LT 1000092 rfl (LeftS.cons (t := 1000098) rfl (Surv.rec rfl) (LeftS.cons (t := 1000099) rfl (Surv.rec rfl) LN)))))))))), ?_⟩
  refine TD 4 ?_
  refine RN ?_
  refine ⟨_, eff_storeS (n := 48) (s := 1000013) info49 rfl rfl rfl hBb13 rfl (by simp) (LV 14 rfl (LT 1000004 rfl (LT 1000012 rfl (LT 1000014 rfl (LT 1000015 rfl (LT 1000091 rfl (LT 1000092 rfl (LeftS.cons (t := 1000098) rfl (Surv.rec rfl) (LeftS.cons (t := 1000099) rfl (Surv.rec rfl) LN))))))))), ?_⟩
  refine TL ?_
  refine RN ?_
  refine A.sub (KC 14 rfl (KC 1000004 rfl (KE 1000012 rfl (show _ = blk b12 5 (rowV l.length (mid (byL l) (xorG k s c o (byL l)) (dnS (o % 16) l.length (i + 1)))) from by rw [dnS_next ha hm hi']) (KE 1000013 rfl (show _ = blk b13 49 [.slice (some ⟨b12, rpS (o % 16) l.length (i + 1), none⟩) (l.length - dnS (o % 16) l.length (i + 1)) (l.length - dnS (o % 16) l.length (i + 1))] from congrArg _ (by rw [rpS_next ha hm hi', Nat.sub_sub, dnS_next ha hm hi']; rfl)) (KC 1000014 rfl (KC 1000015 rfl (KC 1000091 rfl (KC 1000092 rfl (KC 1000098 rfl (KC 1000099 rfl KN)))))))))) ?_
  refine GE ?_
  refine TF 0 ?_
  refine RN ?_
  refine ⟨_, eff_storeS (n := 48) (s := 1000014) info3 rfl rfl rfl hBb14 rfl (by simp) (LT 1000004 rfl (LT 1000012 rfl (LT 1000013 rfl (LT 1000015 rfl (LT 1000091 rfl (LT 1000092 rfl (LeftS.cons (t := 1000098) rfl (Surv.rec rfl) (LeftS.cons (t := 1000099) rfl (Surv.rec rfl) LN)))))))), ?_⟩
  refine TL ?_
  refine RN ?_
  refine End.sub (KC 1000004 rfl (KC 1000012 rfl (KC 1000013 rfl (KE 1000014 rfl (show _ = blk b14 3 [nI (skS (o % 16) (i + 1))] from by rw [skS_succ]; rfl) (KC 1000015 rfl (KC 1000091 rfl (KC 1000092 rfl (KC 1000098 rfl (KC 1000099 rfl KN))))))))) ?_
  refine End.normal_block ?_
  exact End.round (KC 1000098 rfl (KC 1000099 rfl (KC 1000012 rfl (KC 1000013 rfl (KC 1000014 rfl (KC 1000091 rfl (KC 1000092 rfl (KC 1000004 rfl KN)))))))) (fun x hx => by simp only [List.mem_cons, List.mem_append, List.not_mem_nil, or_false] at hx; rcases hx with rfl | rfl | (rfl | rfl | rfl | rfl | rfl) | rfl <;> exact vle rfl) (by decide)
 ·intro D hD
  refine End.normal_block ?_
  refine EN ?_
  refine GS ?_
  refine TL ?_
  refine RM rfl ?_
  refine RA rfl ?_
  refine RA rfl ?_
  refine RN ?_
  refine A.ret ?_
  refine End.bytes 8 1000012 (xorK k s c o l) rfl (xorK_length k s c o l).symm rfl (by rw [dnS_end ha hm, mid_full, xorK_length, List.take_of_length_le (Nat.le_of_eq (rowV_length _ _)), xorK_row hk s c o l rfl]) (Nat.le_of_eq (xorK_length k s c o l)) (by simp only [maxLen]; omega) ?_
  exact End.ret2C (D := D) (vD := 1000099) rfl hD rfl rfl Firm.bytes (Le.refl _) rfl (Firm.v _ _) (Le.refl _)
theorem Xor7_fn (k : Nat → Nat) (hk : By k) (s c o : Nat) (l : List UInt8) (hs : s < 4294967296) (hc : c < 18446744073709551616) (ho : o + l.length ≤ 1048576) : Fn Tryz.prog 37 [.v (aggV (rowV 16 (k))), .v (aggV ([nW s, nQ c])), .v (nI o), byt l] (tup [bytes (xorK k s c o l) l.length, .v (.int .i64 0)]) := by
 by_cases hm : 0 < l.length
 ·exact Xor7_pos k hk s c o l hs hc hm ho
 ·obtain rfl : l = [] := List.eq_nil_of_length_eq_zero (by omega)
  exact (Xor7_empty k s c (o : Int) [] (by omega) (by omega) rfl).le (tup_le2 bytes_nil_le (Le.refl _))
end Go.Proofs.YthadcgkcgpinhaaGreatDoor
namespace Go.Proofs.YthadcgkcgpinhaaGreatDoor
open Go Go.RowKit
variable {κ : Cx}

/-! ### Slices of values that are known -/
/-! ### Structs whose first field is told by a fact -/
section
variable {P : Program} {w₀ : World} {n : Nat} {c : Code} {E : Env} {Q : Exit → Act → World → Prop}
end
section
variable {P : Program} {B : Nat} {E : Env} {o : Oper}
theorem OpOk.valO {v : Value} {f : D} {k B' : Nat} (h : OpOk P B o E (.v v)) (hk : vbase ≤ k) (hl : E.look k = some (old B' (valM v f))) : OpOk P B o E (old B' f) := fun ρ w hB hv hρ => by
  refine (h ρ w hB hv hρ).mono fun x w' hx => ⟨hx.1, ?_⟩
  have h2 : (old B' (valM v f)).Of w' undef := D.Of.grow (hv k _ hk hl) hx.1
  rw [show x = v from hx.2]
  exact h2
variable {dst : Option Tmp} {ty : TypeId} {pos : String} {after : Array Edge} {guard : Option (Nat × Bool)}
theorem ok_extractV {x : Operand} {i : Nat} {xs : List Value} {u : Value} (hx : E.at x = some (.v (.tuple xs.toArray))) (hi : xs[i]? = some u) : OpOk P B ⟨dst, .extract x i, ty, pos, after, guard⟩ E (.v u) := fun ρ w _ _ hρ => by
  have h1 : ρ x = .tuple xs.toArray := hρ x (by simp [Op.operands]) _ hx
  exact out_val (x := u) (w' := w) (by simp [execOp, h1, Instr.extract, hi]) ⟨Grow.refl w, rfl⟩
end

/-! ### New blocks, named where they are made -/
def newD (base : Nat) (e : TypeId) (val : Nat → Value) (xs : List Value) : D :=
  .p (fun B w x => ∃ b, x = val b ∧ base ≤ b ∧ b < B ∧ w.heap[b]? = some (.cells xs.toArray e (0, 0)))
    (fun _ _ _ _ g ⟨b, h1, h2, h3, h4⟩ => ⟨b, h1, h2, h3, (g.block b h3).trans h4⟩) (fun _ _ _ _ g ⟨b, h1, h2, h3, h4⟩ => ⟨b, h1, h2, by omega, h4⟩)
theorem newD_mono {e : TypeId} {val : Nat → Value} {xs : List Value} (B B' : Nat) (h : B ≤ B') : Le (newD B' e val xs) (newD B e val xs) := fun _ _ _ ⟨b, h1, h2, h3, h4⟩ => ⟨b, h1, by omega, h3, h4⟩
theorem fresh_newD {B : Nat} {e : TypeId} {xs : List Value} {n : Nat} : Le (fresh B e xs n) (newD B e (fun b => .slice (some ⟨b, 0, none⟩) n xs.length) xs) := fun _ _ _ ⟨b, h1, h2, h3, h4⟩ => ⟨b, h1, h2, h3, h4⟩
theorem eff_name {P : Program} {n B : Nat} {ops : Array Oper} {E : Env} {o : Oper} {d k : Nat} {e : TypeId} {val : Nat → Value} {xs : List Value} (ht : o.dst = some d) (hg : o.guard = none) (hok : ∀ B', OpOk P B' o E (newD B' e val xs)) (hdn : d < n) (hnv : n ≤ vbase) :
    EffG P n B ops o E (NewB B E) (fun b => (d, .v (val b)) :: (k, blk b e xs) :: E) := by
  intro κ a w K Q h hK
  rw [if_pos (by simp [Region.wanted, hg])]
  refine wp_of_out ht ((hok w.heap.size a.eval w (Nat.le_refl _) (h.virt hnv) fun x _ u hu => h.at_ x _ hu).mono ?_)
  rintro x w' ⟨hgr, b, rfl, hb, hlt, hh⟩
  refine hK b _ _ ⟨Nat.le_trans h.base hb, fun s b' e ys hs => Nat.lt_of_lt_of_le (h.of s _ hs).1 hb⟩ (Below.mono hgr h.base) (St.put ?_ hdn rfl)
  exact (h.grow hgr).push (t := k) (d := blk b e xs) ⟨hlt, hh⟩
/-! ### Ends -/
section
variable {P : Program} {n : Nat} {w₀ : World} {E : Env}
theorem load_cell {w : World} {b : Nat} {e T : TypeId} {td : TypeDesc} {xs : List Value} (ht : P.underlying T = some td) (hp : (match td with | .struct _ | .array _ _ => true | _ => false) = true) (hsz : SizeIs P T xs.length) (hh : w.heap[b]? = some (.cells xs.toArray e (0, 0))) :
    (loadVar T ⟨b, 0, none⟩).run P w = .ok (aggV xs) w := by
  have := run_loadVar_row (P := P) w b e T xs.toArray (0, 0) td hh ht hp (by simpa [SizeIs] using hsz)
  simpa [aggV] using this
theorem End.newT {fn : Func} {r s b g kg r' : Nat} {T e' e : TypeId} {td : TypeDesc} {ys zs xs : List Value} {v' : Value} {val : Nat → Value} (hr : fn.results = #[.cell r T, .tmp r']) (ht : P.underlying T = some td) (hp : (match td with | .struct _ | .array _ _ => true | _ => false) = true) (hsz : SizeIs P T ys.length)
    (h1 : E.look r = some (.v (.pointer (some ⟨b, 0, none⟩)))) (h2 : E.look s = some (blk b e' ys)) (h5 : E.look r' = some (.v v')) (h4 : E.look kg = some (blk g e zs)) (hg : w₀.heap.size ≤ g) (hv : val g = .tuple #[aggV ys, v']) (hz : zs = xs) :
    End Cx.top w₀ n E (BP P fn (PostOf w₀ (newD w₀.heap.size e val xs)) .ret) := fun a w gr hs => by
  subst hz
  have h3 : a.tmps[r]?.getD undef = .pointer (some ⟨b, 0, none⟩) := by rw [← Array.getD_eq_getD_getElem?]; exact hs.of r _ h1
  have h6 : a.tmps[r']?.getD undef = v' := by rw [← Array.getD_eq_getD_getElem?]; exact hs.of r' _ h5
  obtain ⟨_, hh⟩ := hs.of s _ h2
  obtain ⟨hl', hh'⟩ := hs.of kg _ h4
  exact BP.ret hs.defers ⟨.tuple #[aggV ys, v'], by simp [results, hr, h3, h6, asAddr, load_cell ht hp hsz hh], _, rfl, gr, g, hv.symm, hg, hl', hh'⟩
/-- The same of three values that are all known. -/
theorem End.cell3 {fn : Func} {r s b r₂ s₂ b₂ r' : Nat} {T e' T₂ e₂ : TypeId} {td td₂ : TypeDesc} {us ys : List Value} {v' : Value} (hr : fn.results = #[.cell r T, .cell r₂ T₂, .tmp r'])
    (ht : P.underlying T = some td) (hp : (match td with | .struct _ | .array _ _ => true | _ => false) = true) (hsz : SizeIs P T us.length) (ht₂ : P.underlying T₂ = some td₂) (hp₂ : (match td₂ with | .struct _ | .array _ _ => true | _ => false) = true) (hsz₂ : SizeIs P T₂ ys.length)
    (h1 : E.look r = some (.v (.pointer (some ⟨b, 0, none⟩)))) (h2 : E.look s = some (blk b e' us)) (h1₂ : E.look r₂ = some (.v (.pointer (some ⟨b₂, 0, none⟩)))) (h2₂ : E.look s₂ = some (blk b₂ e₂ ys)) (h5 : E.look r' = some (.v v')) :
    End Cx.top w₀ n E (BP P fn (PostOf w₀ (.v (.tuple #[aggV us, aggV ys, v']))) .ret) := fun a w gr hs => by
  have h3 : a.tmps[r]?.getD undef = .pointer (some ⟨b, 0, none⟩) := by rw [← Array.getD_eq_getD_getElem?]; exact hs.of r _ h1
  have h3₂ : a.tmps[r₂]?.getD undef = .pointer (some ⟨b₂, 0, none⟩) := by rw [← Array.getD_eq_getD_getElem?]; exact hs.of r₂ _ h1₂
  have h6 : a.tmps[r']?.getD undef = v' := by rw [← Array.getD_eq_getD_getElem?]; exact hs.of r' _ h5
  obtain ⟨_, hh⟩ := hs.of s _ h2
  obtain ⟨_, hh₂⟩ := hs.of s₂ _ h2₂
  exact BP.ret hs.defers ⟨.tuple #[aggV us, aggV ys, v'], by simp [results, hr, h3, h3₂, h6, asAddr, load_cell ht hp hsz hh, load_cell ht₂ hp₂ hsz₂ hh₂], _, rfl, gr, rfl⟩
theorem End.cellV {fn : Func} {r s b r' : Nat} {T e' : TypeId} {td : TypeDesc} {ys : List Value} {v' : Value} (hr : fn.results = #[.cell r T, .tmp r']) (ht : P.underlying T = some td) (hp : (match td with | .struct _ | .array _ _ => true | _ => false) = true) (hsz : SizeIs P T ys.length)
    (h1 : E.look r = some (.v (.pointer (some ⟨b, 0, none⟩)))) (h2 : E.look s = some (blk b e' ys)) (h5 : E.look r' = some (.v v')) : End Cx.top w₀ n E (BP P fn (PostOf w₀ (.v (.tuple #[aggV ys, v']))) .ret) := fun a w gr hs => by
  have h3 : a.tmps[r]?.getD undef = .pointer (some ⟨b, 0, none⟩) := by rw [← Array.getD_eq_getD_getElem?]; exact hs.of r _ h1
  have h6 : a.tmps[r']?.getD undef = v' := by rw [← Array.getD_eq_getD_getElem?]; exact hs.of r' _ h5
  obtain ⟨_, hh⟩ := hs.of s _ h2
  exact BP.ret hs.defers ⟨.tuple #[aggV ys, v'], by simp [results, hr, h3, h6, asAddr, load_cell ht hp hsz hh], _, rfl, gr, rfl⟩
/-- Two values, both known. -/
theorem End.ret2V {fn : Func} {r s : Nat} {u v : Value} (hr : fn.results = #[.tmp r, .tmp s]) (h1 : E.look r = some (.v u)) (h2 : E.look s = some (.v v)) : End Cx.top w₀ n E (BP P fn (PostOf w₀ (.v (.tuple #[u, v]))) .ret) := fun a w gr hs => by
  have h3 : a.tmps[r]?.getD undef = u := by rw [← Array.getD_eq_getD_getElem?]; exact hs.of r _ h1
  have h4 : a.tmps[s]?.getD undef = v := by rw [← Array.getD_eq_getD_getElem?]; exact hs.of s _ h2
  exact BP.ret hs.defers ⟨.tuple #[u, v], by simp [results, hr, h3, h4], _, rfl, gr, rfl⟩
end

/-! ### copy, clear -/
section
variable {P : Program} {n B : Nat} {ops : Array Oper} {E : Env} {ty : TypeId} {pos : String} {after : Array Edge}
end
end Go.Proofs.YthadcgkcgpinhaaGreatDoor
namespace Go.Proofs.YthadcgkcgpinhaaGreatDoor
open Go Go.RowKit
variable {κ : Cx}
/-- The greatest of them. -/
def mx (cs : List Nat) : Nat := cs.foldl max 0
def nonceL (s c : Nat) : List UInt8 := be 4 s ++ be 8 c
theorem nonceL_length (s c : Nat) : (nonceL s c).length = 12 := by simp [nonceL, be_length]
section
variable {P : Program} {B : Nat} {E : Env} {dst : Option Tmp} {ty : TypeId} {pos : String} {after : Array Edge} {guard : Option (Nat × Bool)}
/-- A literal of some fields. -/
def LitS (E : Env) : List (Nat × Value) → List (Nat × Operand) → Prop
  | [], [] => True
  | (i, u) :: us, (j, x) :: ps => i = j ∧ E.at x = some (.v u) ∧ LitS E us ps
  | _, _ => False
theorem LitS.map {ρ : Operand → Value} : ∀ {us : List (Nat × Value)} {ps : List (Nat × Operand)}, LitS E us ps → (∀ x, x ∈ ps.map (·.2) → ∀ v, E.at x = some (.v v) → ρ x = v) → ps.map (fun p => (p.1, ρ p.2)) = us
  | [], [], _, _ => rfl
  | [], _ :: _, h, _ => h.elim
  | _ :: _, [], h, _ => h.elim
  | (i, u) :: us, (j, x) :: ps, ⟨h1, h2, h3⟩, hρ => by
    subst h1
    simp only [List.map_cons, hρ x (by simp) u h2]
    rw [LitS.map h3 fun y hy v hv => hρ y (by simp only [List.map_cons, List.mem_cons]; exact .inr hy) v hv]
theorem ok_litS {t : TypeId} {ps : Array (Nat × Operand)} (us : List (Nat × Value)) (ys : List Value) (hl : LitS E us ps.toList) (hb : P.built t us = some ys.toArray) : OpOk P B ⟨dst, .build t ps, ty, pos, after, guard⟩ E (.v (aggV ys)) :=
  ok_lit us ys (fun _ hρ => hl.map hρ) hb
end
section
variable {P : Program} {n B : Nat} {ops : Array Oper} {E : Env} {ty : TypeId} {pos : String} {after : Array Edge}
end
end Go.Proofs.YthadcgkcgpinhaaGreatDoor
namespace Go.Proofs.YthadcgkcgpinhaaGreatDoor
open Go Go.RowKit
set_option linter.unusedVariables false
set_option maxRecDepth 20000




theorem buildN (s c : Nat) : Tryz.prog.built 30 [(0, .int .u32 (s : Int)), (1, .int .u64 (c : Int))] = some ([nW s, nQ c] : List Value).toArray := by kernel_rfl
theorem ref8Put_fn (s c : Nat) (hs : s < 4294967296) (hc : c < 18446744073709551616) : Fn Tryz.prog 31 [.v (aggV ([nW s, nQ c]))] (byt (nonceL s c)) := by
 refine Fn.of Tryz.func31 rfl (by kernel_rfl) Tryz.ntmps31 (by simp) (fun w => [(0, .v (aggV ([nW s, nQ c])))]) (fun w => (Start.v rfl Start.nil)) fun w₀ => ?_
 refine GS ?_
 refine TN 0 ?_
 refine RN ?_
 refine ⟨_, _, eff_box (n := 10) (d := 1) (k := 1000001) rfl (by decide), fun b1 hb1 => ?_⟩
 have hBb1 := hb1.1
 refine TL ?_
 refine RA rfl ?_
 refine RN ?_
 refine GD ?_
 refine TL ?_
 refine RS (ok_field field30_0 (by decide) rfl) ?_
 refine RS (ok_loadV (s := 1000001) (by decide) Tryz.underlying27 rfl rfl rfl (rfl)) ?_
 refine RS (ok_call ((refPut32_fn ((s : Nat) : Int) (by omega) (by omega)).le (d' := bytes (be 4 s) 4) (Le.refl _)) (A1 rfl)) ?_
 refine RS (ok_field field30_1 (by decide) rfl) ?_
 refine RS (ok_loadV (s := 1000001) (by decide) Tryz.underlying28 rfl rfl rfl (rfl)) ?_
 refine RS (ok_call ((refPut64_fn ((c : Nat) : Int) (by omega) (by omega)).le (d' := bytes (be 8 c) 8) (Le.refl _)) (A1 rfl)) ?_
 refine RS (ok_appendFull (l := be 4 s) (m := be 8 c) Tryz.underlying49 info5 (by decide) rfl rfl (Le.eq (by rw [be_length])) rfl (le_byt _ _) (by rw [be_length]; decide) (by rw [be_length]; decide) (by rw [be_length, be_length]; decide)) ?_
 refine RA rfl ?_
 refine RN ?_
 refine A.ret ?_
 exact End.ret1 rfl rfl (own_byt (B := w₀.heap.size) (e := 5) (n := (be 4 s).length + (be 8 c).length) (l := nonceL s c) (by rw [nonceL_length, be_length, be_length]))
theorem Put_fn (s c : Nat) (hs : s < 4294967296) (hc : c < 18446744073709551616) : Fn Tryz.prog 62 [.v (aggV ([nW s, nQ c]))] (bytes (nonceL s c) 12) := by
 refine Fn.of Tryz.func62 rfl (by kernel_rfl) Tryz.ntmps62 (by simp) (fun w => [(0, .v (aggV ([nW s, nQ c])))]) (fun w => (Start.v rfl Start.nil)) fun w₀ => ?_
 refine GS ?_
 refine TN 0 ?_
 refine RN ?_
 refine ⟨_, _, eff_box (n := 11) (d := 1) (k := 1000001) rfl (by decide), fun b1 hb1 => ?_⟩
 have hBb1 := hb1.1
 refine TL ?_
 refine RA rfl ?_
 refine RN ?_
 refine GD ?_
 refine TL ?_
 refine RS (ok_field field30_0 (by decide) rfl) ?_
 refine RS (ok_loadV (s := 1000001) (by decide) Tryz.underlying27 rfl rfl rfl (rfl)) ?_
 refine RS (ok_call ((Put32_fn ((s : Nat) : Int) (by omega) (by omega)).le (d' := bytes (be 4 s) 4) (Le.refl _)) (A1 rfl)) ?_
 refine RS (ok_field field30_1 (by decide) rfl) ?_
 refine RS (ok_loadV (s := 1000001) (by decide) Tryz.underlying28 rfl rfl rfl (rfl)) ?_
 refine RS (ok_call ((Put64_fn ((c : Nat) : Int) (by omega) (by omega)).le (d' := bytes (be 8 c) 8) (Le.refl _)) (A1 rfl)) ?_
 refine RS (ok_build [bytes (be 4 s) 4, bytes (be 8 c) 8] Tryz.underlying102 info49 rfl (by decide) (by decide) rfl ⟨rfl, rfl, rfl, rfl, trivial⟩ (fun d hd w x h => by simp only [List.mem_cons, List.not_mem_nil, or_false] at hd; rcases hd with rfl | rfl <;> exact list_one h)) ?_
 refine RS ((ok_call (Join_fn [be 4 s, be 8 c] (by simp) (by simp [be_length])) (Args.cons rfl (list_lst2 (le_byt _ 4) (le_byt _ 8)) Args.nil)).le (d' := bytes (nonceL s c) 12) (Le.eq (by simp [be_length]; rfl))) ?_
 refine RA rfl ?_
 refine RN ?_
 refine A.ret ?_
 exact End.ret1 rfl rfl (by first | exact Le.refl _ | exact Le.old _ _)
end Go.Proofs.YthadcgkcgpinhaaGreatDoor
namespace Go.Proofs.YthadcgkcgpinhaaGreatDoor
open Go Go.RowKit
variable {κ : Cx}

theorem vL {k : Nat} (h : Nat.ble vbase k = true) : vbase ≤ k := Nat.le_of_ble_eq_true h
/-! ### Several blocks are written -/
/-- At most the blocks that gs names (each with its cells' type) have changed of what was there. -/
structure WroteL (gs : List (TypeId × Nat)) (w w' : World) : Prop where
  os : w'.os = w.os
  tape : w'.tape = w.tape
  output : w'.output = w.output
  size : w.heap.size ≤ w'.heap.size
  lt : ∀ p ∈ gs, p.2 < w.heap.size
  cel : ∀ p ∈ gs, ∀ o, w.heap[p.2]? = some o → ∃ cs fr, o = .cells cs p.1 fr
  other : ∀ k, k < w.heap.size → (∀ p ∈ gs, k ≠ p.2) → w'.heap[k]? = w.heap[k]?
theorem WroteL.refl {gs : List (TypeId × Nat)} {w : World} (h : ∀ p ∈ gs, p.2 < w.heap.size) (hc : ∀ p ∈ gs, ∀ o, w.heap[p.2]? = some o → ∃ cs fr, o = .cells cs p.1 fr) : WroteL gs w w :=
  ⟨rfl, rfl, rfl, Nat.le_refl _, h, hc, fun _ _ _ => rfl⟩
/-- A fact that survives a write of each of them survives that of all. -/
theorem WroteL.keep {B : Nat} {d : D} : ∀ {gs : List (TypeId × Nat)}, (∀ p ∈ gs, B ≤ p.2) → (∀ p ∈ gs, Surv B p.1 p.2 d) → ∀ {w w' : World} {x : Value}, WroteL gs w w' → d.Of w x → d.Of w' x
  | [], _, _, w, w', x, h, hx => D.Of.grow hx ⟨h.os, h.tape, h.output, h.size, fun k hk => h.other k hk (fun _ hp => by cases hp)⟩
  | p :: gs, hB, hs, w, w', x, h, hx => by
    have hlt := h.lt p List.mem_cons_self
    have hlt' : p.2 < w'.heap.size := Nat.lt_of_lt_of_le hlt h.size
    obtain ⟨wm, e1, e2, e3, e4, hat⟩ : ∃ wm : World, wm.os = w'.os ∧ wm.tape = w'.tape ∧ wm.output = w'.output ∧ wm.heap.size = w'.heap.size ∧ ∀ k, wm.heap[k]? = if k = p.2 then w.heap[k]? else w'.heap[k]? :=
      ⟨{ w' with heap := w'.heap.setIfInBounds p.2 w.heap[p.2] }, rfl, rfl, rfl, by simp, fun k => by
        show (w'.heap.setIfInBounds p.2 w.heap[p.2])[k]? = _
        split
        · rename_i hk; subst hk; simp [hlt', hlt]
        · rename_i hk; exact Array.getElem?_setIfInBounds_ne (fun e => hk e.symm)⟩
    have h1 : WroteL gs w wm := ⟨e1.trans h.os, e2.trans h.tape, e3.trans h.output, by rw [e4]; exact h.size, fun q hq => h.lt q (List.mem_cons_of_mem _ hq), fun q hq => h.cel q (List.mem_cons_of_mem _ hq), fun k hk hne => by
      rw [hat]
      split
      · rfl
      · rename_i hkp
        exact h.other k hk fun q hq => by
          rcases List.mem_cons.1 hq with rfl | hq
          · exact hkp
          · exact hne q hq⟩
    have h2 := WroteL.keep (fun q hq => hB q (List.mem_cons_of_mem _ hq)) (fun q hq => hs q (List.mem_cons_of_mem _ hq)) h1 hx
    refine hs p List.mem_cons_self wm w' x ⟨hB p List.mem_cons_self, e1.symm, e2.symm, e3.symm, Nat.le_of_eq e4, fun o ho => ?_, fun k hk hne => ?_⟩ h2
    · rw [hat, if_pos rfl] at ho
      exact h.cel p List.mem_cons_self o ho
    · rw [hat, if_neg hne]
theorem WroteL.below {gs : List (TypeId × Nat)} {B : Nat} {w w' : World} (h : WroteL gs w w') (hB : ∀ p ∈ gs, B ≤ p.2) (hw : B ≤ w.heap.size) : Below B w w' :=
  ⟨h.os, h.tape, h.output, h.size, fun k hk => h.other k (by omega) fun p hp => by have := hB p hp; omega⟩
theorem WroteL.trans {gs : List (TypeId × Nat)} {a b c : World} (h : WroteL gs a b) (k : WroteL gs b c) : WroteL gs a c :=
  ⟨k.os.trans h.os, k.tape.trans h.tape, k.output.trans h.output, Nat.le_trans h.size k.size, h.lt, h.cel, fun j hj hne => (k.other j (Nat.lt_of_lt_of_le hj h.size) hne).trans (h.other j hj hne)⟩
/-- Since the world w₁ nothing that was there has changed but the blocks that gs names. -/
def wroteL (gs : List (TypeId × Nat)) (w₁ : World) : D :=
  .p (fun B w _ => w₁.heap.size ≤ B ∧ WroteL gs w₁ w) (fun _ _ _ _ h ⟨h1, h2⟩ => ⟨h1, ⟨h.os.trans h2.os, h.tape.trans h2.tape, h.output.trans h2.output, Nat.le_trans h2.size h.size, h2.lt, h2.cel, fun k hk hne => (h.block k (Nat.lt_of_lt_of_le hk h1)).trans (h2.other k hk hne)⟩⟩)
    (fun _ _ _ _ h ⟨h1, h2⟩ => ⟨Nat.le_trans h1 h, h2⟩)
theorem Surv.wroteL {B T g : Nat} {gs : List (TypeId × Nat)} {w₁ : World} (hg : ∃ p ∈ gs, p.2 = g) : Surv B T g (wroteL gs w₁) := fun _ _ _ k ⟨h1, h2⟩ => by
  obtain ⟨p, hp, rfl⟩ := hg
  exact ⟨Nat.le_trans h1 k.size, ⟨k.os.trans h2.os, k.tape.trans h2.tape, k.output.trans h2.output, Nat.le_trans h2.size k.size, h2.lt, h2.cel, fun j hj hne => (k.other j (Nat.lt_of_lt_of_le hj h1) (hne p hp)).trans (h2.other j hj hne)⟩⟩
/-- What is left of the environment behind it. -/
def LeftL (B : Nat) (gs : List (TypeId × Nat)) (E' E : Env) : Prop := ∀ q ∈ E', E.look q.1 = some q.2 ∧ ∀ p ∈ gs, Surv B p.1 p.2 q.2
theorem LeftL.one {B T g : Nat} {E' E : Env} (h : LeftS B T g E' E) : LeftL B [(T, g)] E' E := fun q hq => ⟨(h q hq).1, fun p hp => by
  rcases List.mem_cons.1 hp with rfl | hp
  · exact (h q hq).2
  · cases hp⟩
theorem LeftL.cons {B T g : Nat} {gs : List (TypeId × Nat)} {E' E : Env} (h : LeftS B T g E' E) (hr : LeftL B gs E' E) : LeftL B ((T, g) :: gs) E' E := fun q hq => ⟨(h q hq).1, fun p hp => by
  rcases List.mem_cons.1 hp with rfl | hp
  · exact (h q hq).2
  · exact (hr q hq).2 p hp⟩
theorem LeftL.st {n B : Nat} {gs : List (TypeId × Nat)} {E E' : Env} {a : Act} {w w' : World} (hl : LeftL B gs E' E) (hB : ∀ p ∈ gs, B ≤ p.2) (h : St κ n B E a w) (k : WroteL gs w w') : St κ n B E' a w' :=
  ⟨Nat.le_trans h.base k.size, h.defers, h.size, fun t d hd => by
    obtain ⟨h1, h2⟩ := hl _ (look_mem hd)
    exact k.keep hB h2 (h.of t d h1)⟩

theorem look_append {E₁ E₂ : Env} {t : Nat} {d : D} (h : (E₁ ++ E₂).look t = some d) : E₁.look t = some d ∨ E₂.look t = some d := by
  induction E₁ with
  | nil => exact .inr h
  | cons p r ih =>
    obtain ⟨s, e⟩ := p
    by_cases hs : s = t
    · subst hs
      rw [List.cons_append, look_here] at h
      exact .inl (by rw [look_here]; exact h)
    · rw [List.cons_append, look_past _ _ hs] at h
      rw [look_past _ _ hs]
      exact ih h

/-- They are there, with cells of the types named. -/
def selfL (gs : List (TypeId × Nat)) : D :=
  .p (fun B w _ => ∀ p ∈ gs, p.2 < B ∧ ∃ cs fr, w.heap[p.2]? = some (.cells cs p.1 fr)) (fun _ _ _ _ g h p hp => ⟨(h p hp).1, by rw [g.block _ (h p hp).1]; exact (h p hp).2⟩) (fun _ _ _ _ g h p hp => ⟨Nat.lt_of_lt_of_le (h p hp).1 g, (h p hp).2⟩)
theorem selfL_self {gs : List (TypeId × Nat)} {w : World} {x : Value} (h : (selfL gs).Of w x) : WroteL gs w w :=
  WroteL.refl (fun p hp => (h p hp).1) fun p hp o ho => by
    obtain ⟨_, cs, fr, h1⟩ := h p hp
    rw [h1] at ho; injection ho with ho; exact ⟨cs, fr, ho.symm⟩

/-! ### Functions that do so -/
/-- A contract at base B: called with the values us where the memory's facts M hold, it returns u i, leaves the facts M' i, and changes of what was there at most what gs names; of i it is told G (over how much there was). -/
structure FnL (P : Program) (f : FuncId) (B : Nat) (gs : List (TypeId × Nat)) (us : List Value) (M : Env) (G : Nat → Nat → Prop) (u : Nat → Value) (M' : Nat → Env) : Prop where
  body : ∃ fn, P.funcs[f]? = some fn ∧ (fn.name == "runtime.NumGoroutine") = false ∧ fn.body.isNone = false
  calls : ∀ w : World, B ≤ w.heap.size → (∀ p ∈ M, p.2.Of w undef) → WroteL gs w w →
    Calls P f us.toArray w fun e w' => ∃ i, G w.heap.size i ∧ e = .returned (u i) ∧ WroteL gs w w' ∧ ∀ p ∈ M' i, p.2.Of w' undef
/-- Facts in one. -/
def packM (M : Env) : D := .p (fun B w _ => ∀ p ∈ M, p.2.OfB B w undef) (fun _ _ _ _ g h p hp => (h p hp).keep g) (fun _ _ _ _ g h p hp => (h p hp).up g)
theorem FnL.packed {P : Program} {f : FuncId} {B : Nat} {gs : List (TypeId × Nat)} {us : List Value} {M : Env} {G : Nat → Nat → Prop} {u : Nat → Value} {M' : Nat → Env} (h : FnL P f B gs us M G u M') (k k' : Nat) : FnL P f B gs us [(k, packM M)] G u (fun i => [(k', packM (M' i))]) :=
  ⟨h.body, fun w hB hM hw => (h.calls w hB (hM _ List.mem_cons_self) hw).mono fun e w' ⟨i, h1, h2, h3, h4⟩ => ⟨i, h1, h2, h3, fun p hp => by
    rcases List.mem_cons.1 hp with rfl | hp
    · exact h4
    · cases hp⟩⟩
theorem FnL.unpacked {P : Program} {f : FuncId} {B : Nat} {gs : List (TypeId × Nat)} {us : List Value} {M : Env} {G : Nat → Nat → Prop} {u : Nat → Value} {M' : Nat → Env} {k k' : Nat} (h : FnL P f B gs us [(k, packM M)] G u (fun i => [(k', packM (M' i))])) : FnL P f B gs us M G u M' :=
  ⟨h.body, fun w hB hM hw => (h.calls w hB (fun p hp => by
    rcases List.mem_cons.1 hp with rfl | hp
    · exact hM
    · cases hp) hw).mono fun e w' ⟨i, h1, h2, h3, h4⟩ => ⟨i, h1, h2, h3, h4 _ List.mem_cons_self⟩⟩
def PL (gs : List (TypeId × Nat)) (w₁ : World) (G : Nat → Nat → Prop) (u : Nat → Value) (M' : Nat → Env) : Ending → World → Prop :=
  fun e w' => ∃ i, G w₁.heap.size i ∧ e = .returned (u i) ∧ WroteL gs w₁ w' ∧ ∀ p ∈ M' i, p.2.Of w' undef
theorem FnL.of {P : Program} {n : Nat} {f : FuncId} {fn : Func} {c : Code} {B : Nat} {gs : List (TypeId × Nat)} {us : List Value} {M : Env} {G : Nat → Nat → Prop} {u : Nat → Value} {M' : Nat → Env} {kw ks : Nat}
    (hf : P.funcs[f]? = some fn) (hb : fn.body = some c) (hname : (fn.name == "runtime.NumGoroutine") = false) (hn : fn.ntmps = n) (hds : us.length ≤ n) (hnv : n ≤ vbase) (hMb : ∀ p ∈ M, vbase ≤ p.1) (hkw : vbase ≤ kw) (hks : vbase ≤ ks) (args : Env) (hargs : ∀ p ∈ args, ∃ v, p.2 = .v v ∧ us[p.1]? = some v)
    (h : ∀ w₀ w₁ : World, w₀.heap.size = B → B ≤ w₁.heap.size → A Cx.top P w₀ n c (args ++ ((kw, wroteL gs w₁) :: (ks, selfL gs) :: M)) (BP P fn (PL gs w₁ G u M'))) : FnL P f B gs us M G u M' := by
  refine ⟨⟨fn, hf, hname, by rw [hb]; rfl⟩, fun w hB hM hgs => ?_⟩
  have hsz := cutW_size (w := w) (g := B) hB
  refine callsIn_FR.1 (callsIn_of_wp_marks (F := FR none) (n := 0) hf hb trivial (h (cutW w B) w hsz hB _ w (cutW_below hB) ⟨by rw [hsz]; exact hB, rfl, ?_, fun t e he => ?_⟩))
  · simp [hn]; omega
  · show e.Of w ((us.toArray ++ Array.replicate (fn.ntmps - us.toArray.size) undef).getD t undef)
    have hund : vbase ≤ t → (us.toArray ++ Array.replicate (fn.ntmps - us.toArray.size) undef).getD t undef = undef := fun ht => by
      rw [Array.getD_eq_getD_getElem?, Array.getElem?_eq_none (by simp [hn]; omega)]; rfl
    rcases List.mem_append.1 (look_mem he) with hm | hm
    · obtain ⟨v, h1, h2⟩ := hargs _ hm
      simp only at h1 h2
      have hj : t < us.length := (List.getElem?_eq_some_iff.1 h2).1
      rw [Array.getD_eq_getD_getElem?, Array.getElem?_append_left (by simpa using hj)]
      subst h1
      simp [h2]; rfl
    · rcases List.mem_cons.1 hm with h1 | hm
      · injection h1 with h1 h2; subst h1; subst h2
        exact ⟨Nat.le_refl _, hgs⟩
      · rcases List.mem_cons.1 hm with h1 | hm
        · injection h1 with h1 h2; subst h1; subst h2
          exact fun p hp => ⟨hgs.lt p hp, by
            have h3 := Array.getElem?_eq_getElem (hgs.lt p hp)
            obtain ⟨cs, fr, h4⟩ := hgs.cel p hp _ h3
            exact ⟨cs, fr, by rw [h3, h4]⟩⟩
        · have h1 := hMb _ hm
          rw [hund h1]
          exact hM _ hm
section
variable {P : Program} {n B : Nat} {ops : Array Oper} {E : Env} {ty : TypeId} {pos : String} {after : Array Edge}
/-- The number of a new block in such a function. -/
def NewL (B : Nat) (E : Env) (b : Nat) : Prop := B ≤ b ∧ (∀ s b' e xs, E.look s = some (blk b' e xs) → b' < b) ∧ ∀ s gs w₁, E.look s = some (wroteL gs w₁) → w₁.heap.size ≤ b
theorem eff_nameL {o : Oper} {d k : Nat} {e : TypeId} {val : Nat → Value} {xs : List Value} (ht : o.dst = some d) (hg : o.guard = none) (hok : ∀ B', OpOk P B' o E (newD B' e val xs)) (hdn : d < n) (hnv : n ≤ vbase) :
    EffG P n B ops o E (NewL B E) (fun b => (d, .v (val b)) :: (k, blk b e xs) :: E) := by
  intro κ a w K Q h hK
  rw [if_pos (by simp [Region.wanted, hg])]
  refine wp_of_out ht ((hok w.heap.size a.eval w (Nat.le_refl _) (h.virt hnv) fun x _ u hu => h.at_ x _ hu).mono ?_)
  rintro x w' ⟨hgr, b, rfl, hb, hlt, hh⟩
  refine hK b _ _ ⟨Nat.le_trans h.base hb, fun s b' e ys hs => Nat.lt_of_lt_of_le (h.of s _ hs).1 hb, fun s gs w₁ hs => Nat.le_trans (h.of s _ hs).2.size hb⟩ (Below.mono hgr h.base) (St.put ?_ hdn rfl)
  exact (h.grow hgr).push (t := k) (d := blk b e xs) ⟨hlt, hh⟩
theorem eff_nameFL {o : Oper} {d k m : Nat} {e : TypeId} {xs : List Value} {c : Nat} (hc : xs.length = c) (ht : o.dst = some d) (hg : o.guard = none) (hok : ∀ B', OpOk P B' o E (fresh B' e xs m)) (hdn : d < n) (hnv : n ≤ vbase) :
    EffG P n B ops o E (NewL B E) (fun b => (d, .v (.slice (some ⟨b, 0, none⟩) m c)) :: (k, blk b e xs) :: E) := hc ▸ eff_nameL ht hg (fun B' => (hok B').le fresh_newD) hdn hnv
theorem subL_M {M : Env} (h : Sub M E) (hb : ∀ p ∈ M, vbase ≤ p.1) : ∀ p ∈ M, ∃ k, vbase ≤ k ∧ E.look k = some p.2 := fun p hp => ⟨p.1, hb p hp, h p hp⟩
theorem vbL_nil : ∀ p ∈ ([] : Env), vbase ≤ p.1 := fun _ h => by cases h
theorem vbL_cons {M : Env} {t : Nat} {d : D} (h : vbase ≤ t) (hr : ∀ p ∈ M, vbase ≤ p.1) : ∀ p ∈ (t, d) :: M, vbase ≤ p.1 := fun p hp => by
  rcases List.mem_cons.1 hp with rfl | hp
  · exact h
  · exact hr p hp
/-- The blocks are known by name. -/
def GsL (B : Nat) (gs : List (TypeId × Nat)) (E : Env) : Prop := ∀ p ∈ gs, B ≤ p.2 ∧ ∃ k xs, E.look k = some (blk p.2 p.1 xs)
theorem gsL_nil : GsL B [] E := fun _ h => by cases h
theorem gsL_cons {gs : List (TypeId × Nat)} {T : TypeId} {g k : Nat} {xs : List Value} (hB : B ≤ g) (hk : E.look k = some (blk g T xs)) (hr : GsL B gs E) : GsL B ((T, g) :: gs) E := fun p hp => by
  rcases List.mem_cons.1 hp with rfl | hp
  · exact ⟨hB, k, xs, hk⟩
  · exact hr p hp
theorem GsL.self {gs : List (TypeId × Nat)} (h : GsL B gs E) {a : Act} {w : World} (hs : St κ n B E a w) : WroteL gs w w :=
  WroteL.refl (fun p hp => by obtain ⟨_, k, xs, h4⟩ := h p hp; exact (hs.of k _ h4).1) fun p hp o ho => by
    obtain ⟨_, k, xs, h4⟩ := h p hp
    have h5 := (hs.of k _ h4).2
    rw [h5] at ho; injection ho with ho; exact ⟨_, _, ho.symm⟩
/-- A call of a function value that holds what us lists; it is called with vs. -/
theorem eff_callL {f : FuncId} {gs : List (TypeId × Nat)} {us vs : List Value} {M : Env} {G : Nat → Nat → Prop} {u : Nat → Value} {M' : Nat → Env} {dst : Nat} {x : Operand} {args : Array Operand} {argTypes : Array TypeId} {E' : Env}
    (hf : FnL P f B gs (vs ++ us) M G u M') (hx : E.at x = some (.v (.func (.func f) #[] us.toArray))) (ha : Args E (vs.map D.v) args.toList) (hM : ∀ p ∈ M, ∃ k, vbase ≤ k ∧ E.look k = some p.2) (hMb : ∀ i, ∀ p ∈ M' i, vbase ≤ p.1)
    (hgB : ∀ p ∈ gs, B ≤ p.2) (hgs : ∀ (κ : Cx) (a : Act) (w : World), St κ n B E a w → WroteL gs w w) (hn : n ≤ vbase) (hdst : dst < n) (hl : LeftL B gs E' E) :
    EffG P n B ops ⟨some dst, .call { callee := .value x, args := args, argTypes := argTypes }, ty, pos, after, none⟩ E (fun i => ∃ m, B ≤ m ∧ (∀ s b' e xs, E.look s = some (blk b' e xs) → b' < m) ∧ (∀ s gs w₁, E.look s = some (wroteL gs w₁) → w₁.heap.size ≤ m) ∧ G m i) (fun i => (dst, .v (u i)) :: (M' i ++ E')) := by
  intro κ a w K Q h hK
  obtain ⟨fn, h1, h2, h3⟩ := hf.body
  have hfun : a.eval x = .func (.func f) #[] us.toArray := h.at_ x _ hx
  have hrun : (execOp a.eval ⟨some dst, .call { callee := .value x, args := args, argTypes := argTypes }, ty, pos, after, none⟩).run P w = .ok (.enter f (args.map a.eval ++ us.toArray)) w := by
    have h2' : ¬ fn.name = "runtime.NumGoroutine" := by simpa using h2
    have h3' : ¬ fn.body = none := by intro h; rw [h] at h3; cases h3
    simp [execOp, resolve, Deferred.ofValue, hfun, invoke, callFunc, h1, h2', h3']
  have hund : ∀ k, vbase ≤ k → a.tmps.getD k undef = undef := fun k hk => by
    rw [Array.getD_eq_getD_getElem?, Array.getElem?_eq_none (by rw [h.size]; omega)]; rfl
  have hargs : args.toList.map a.eval = vs := by
    apply List.ext_getElem?
    intro j
    have hlen : args.toList.length = vs.length := by have := ha.length; simpa using this.symm
    rcases Nat.lt_or_ge j vs.length with hj | hj
    · have hxj : args.toList[j]? = some (args.toList[j]'(by omega)) := List.getElem?_eq_getElem (by omega)
      have he : (vs.map D.v)[j]? = some (.v vs[j]) := by simp [hj]
      obtain ⟨e', h4, h5⟩ := ha.nth he hxj
      have h6 : a.eval (args.toList[j]'(by omega)) = vs[j] := h5.of (h.at_ _ _ h4)
      rw [List.getElem?_map, hxj, Option.map_some, h6, List.getElem?_eq_getElem hj]
    · rw [List.getElem?_eq_none (by rw [List.length_map]; omega), List.getElem?_eq_none hj]
  have hcall := hf.calls w h.base (fun p hp => by
    obtain ⟨k, h4, h5⟩ := hM p hp
    have h6 := h.of k _ h5
    rwa [hund k h4] at h6) (hgs κ a w h)
  have harr : (vs ++ us).toArray = args.map a.eval ++ us.toArray := by
    apply Array.ext'
    rw [← hargs]; simp
  rw [harr] at hcall
  rw [if_pos (by simp [Region.wanted])]
  refine opR (by nofun) ?_
  unfold Oper.wp
  rw [hrun, Oper.upon_enter]
  refine Calls.mono hcall ?_
  rintro e w' ⟨i, hG, rfl, hw, hM'⟩
  have hst := hl.st hgB h hw
  refine hK i _ _ ⟨w.heap.size, h.base, fun s b' e ys hs => (h.of s _ hs).1, fun s gs w₁ hs => (h.of s _ hs).2.size, hG⟩ (hw.below hgB h.base) (St.put ⟨hst.base, hst.defers, hst.size, fun t d hd => ?_⟩ hdst rfl)
  rcases look_append hd with h4 | h4
  · have h5 := hM' _ (look_mem h4)
    have h6 : vbase ≤ t := hMb i _ (look_mem h4)
    rw [hund t h6]; exact h5
  · exact hst.of t d h4
/-- The same where nothing new is told: an effect. -/
theorem eff_callL1 {f : FuncId} {gs : List (TypeId × Nat)} {us vs : List Value} {M : Env} {G : Nat → Nat → Prop} {u : Value} {M' : Env} {dst : Nat} {x : Operand} {args : Array Operand} {argTypes : Array TypeId} {E' : Env}
    (hf : FnL P f B gs (vs ++ us) M G (fun _ => u) (fun _ => M')) (hx : E.at x = some (.v (.func (.func f) #[] us.toArray))) (ha : Args E (vs.map D.v) args.toList) (hM : ∀ p ∈ M, ∃ k, vbase ≤ k ∧ E.look k = some p.2) (hMb : ∀ p ∈ M', vbase ≤ p.1)
    (hgs : GsL B gs E) (hn : n ≤ vbase) (hdst : dst < n) (hl : LeftL B gs E' E) :
    Eff P n B ops ⟨some dst, .call { callee := .value x, args := args, argTypes := argTypes }, ty, pos, after, none⟩ E ((dst, .v u) :: (M' ++ E')) := fun κ a w K Q h hK =>
  eff_callL hf hx ha hM (fun _ => hMb) (fun p hp => (hgs p hp).1) (fun _ _ _ h => hgs.self h) hn hdst hl κ a w K Q h fun _ a' w' _ hw hst => hK a' w' hw hst
/-- The same where a new block is told. -/
theorem eff_callLN {f : FuncId} {gs : List (TypeId × Nat)} {us vs : List Value} {M : Env} {u : Nat → Value} {M' : Nat → Env} {dst : Nat} {x : Operand} {args : Array Operand} {argTypes : Array TypeId} {E' : Env}
    (hf : FnL P f B gs (vs ++ us) M (fun m b => m ≤ b) u M') (hx : E.at x = some (.v (.func (.func f) #[] us.toArray))) (ha : Args E (vs.map D.v) args.toList) (hM : ∀ p ∈ M, ∃ k, vbase ≤ k ∧ E.look k = some p.2) (hMb : ∀ i, ∀ p ∈ M' i, vbase ≤ p.1)
    (hgs : GsL B gs E) (hn : n ≤ vbase) (hdst : dst < n) (hl : LeftL B gs E' E) :
    EffG P n B ops ⟨some dst, .call { callee := .value x, args := args, argTypes := argTypes }, ty, pos, after, none⟩ E (NewL B E) (fun b => (dst, .v (u b)) :: (M' b ++ E')) := fun κ a w K Q h hK =>
  eff_callL hf hx ha hM hMb (fun p hp => (hgs p hp).1) (fun _ _ _ h => hgs.self h) hn hdst hl κ a w K Q h fun b a' w' ⟨_, h1, h2, h3, h4⟩ hw hst => hK b a' w' ⟨Nat.le_trans h1 h4, fun s b' e ys hs => Nat.lt_of_lt_of_le (h2 s b' e ys hs) h4, fun s gs w₁ hs => Nat.le_trans (h3 s gs w₁ hs) h4⟩ hw hst
theorem leftG_nil {gs : List (TypeId × Nat)} : LeftL B gs [] E := fun _ h => by cases h
theorem leftG_v {gs : List (TypeId × Nat)} {t : Nat} {x : Value} {E' : Env} (h : E.look t = some (.v x)) (hr : LeftL B gs E' E) : LeftL B gs ((t, .v x) :: E') E := fun q hq => by
  rcases List.mem_cons.1 hq with rfl | hq
  · exact ⟨h, fun _ _ => Surv.v _⟩
  · exact hr q hq
theorem leftG_w {gs : List (TypeId × Nat)} {t : Nat} {w₁ : World} {E' : Env} (h : E.look t = some (wroteL gs w₁)) (hr : LeftL B gs E' E) : LeftL B gs ((t, wroteL gs w₁) :: E') E := fun q hq => by
  rcases List.mem_cons.1 hq with rfl | hq
  · exact ⟨h, fun p hp => Surv.wroteL ⟨p, hp, rfl⟩⟩
  · exact hr q hq
theorem lookL_nil : ∀ p ∈ ([] : Env), ∃ k, vbase ≤ k ∧ E.look k = some p.2 := fun _ h => by cases h
theorem lookL_cons {M : Env} {t k : Nat} {d : D} (hk : vbase ≤ k) (h : E.look k = some d) (hr : ∀ p ∈ M, ∃ k, vbase ≤ k ∧ E.look k = some p.2) : ∀ p ∈ (t, d) :: M, ∃ k, vbase ≤ k ∧ E.look k = some p.2 := fun p hp => by
  rcases List.mem_cons.1 hp with rfl | hp
  · exact ⟨k, hk, h⟩
  · exact hr p hp
/-- The end of such a function. -/
theorem End.wroteL {w₀ w₁ : World} {fn : Func} {gs : List (TypeId × Nat)} {G : Nat → Nat → Prop} {u : Nat → Value} {M' : Nat → Env} {kw : Nat} {x : Exit} (hex : x = .ret ∨ x = .normal) (hw : E.look kw = some (Go.Proofs.YthadcgkcgpinhaaGreatDoor.wroteL gs w₁)) (i : Nat) (hG : G w₁.heap.size i) (hn : n ≤ vbase)
    (hr : ∀ (a : Act) (w : World), St Cx.top n w₀.heap.size E a w → (results fn a.tmps).run P w = .ok (u i) w) (hM : ∀ p ∈ M' i, ∃ k, vbase ≤ k ∧ E.look k = some p.2) : End Cx.top w₀ n E (BP P fn (PL gs w₁ G u M') x) := fun a w _ hs => by
  have key : LeavesInM (FR none) 0 P fn a.tmps (PL gs w₁ G u M') a.defers .returning w := by
    rw [show a.defers = [] from hs.defers]
    refine ⟨u i, hr a w hs, i, hG, rfl, (hs.of kw _ hw).2, fun p hp => ?_⟩
    obtain ⟨k, h2, h3⟩ := hM p hp
    have h4 := hs.of k _ h3
    rwa [show a.tmps.getD k undef = undef from by
      rw [Array.getD_eq_getD_getElem?, Array.getElem?_eq_none (by rw [hs.size]; omega)]; rfl] at h4
  rcases hex with rfl | rfl
  · exact key
  · exact key
/-- It returns nothing. -/
theorem End.wroteL0 {w₀ w₁ : World} {fn : Func} {gs : List (TypeId × Nat)} {G : Nat → Nat → Prop} {M' : Nat → Env} {kw : Nat} {x : Exit} (hex : x = .ret ∨ x = .normal) (hr : fn.results = #[]) (hw : E.look kw = some (Go.Proofs.YthadcgkcgpinhaaGreatDoor.wroteL gs w₁)) (i : Nat) (hG : G w₁.heap.size i) (hn : n ≤ vbase)
    (hM : ∀ p ∈ M' i, ∃ k, vbase ≤ k ∧ E.look k = some p.2) : End Cx.top w₀ n E (BP P fn (PL gs w₁ G (fun _ => .tuple #[]) M') x) :=
  End.wroteL hex hw i hG hn (fun a w _ => by simp [results, hr]) hM
/-- It returns one value. -/
theorem End.wroteL1 {w₀ w₁ : World} {fn : Func} {gs : List (TypeId × Nat)} {G : Nat → Nat → Prop} {u : Nat → Value} {M' : Nat → Env} {kw r : Nat} {x : Exit} (hex : x = .ret ∨ x = .normal) (hr : fn.results = #[.tmp r]) (hw : E.look kw = some (Go.Proofs.YthadcgkcgpinhaaGreatDoor.wroteL gs w₁)) (i : Nat) (he : E.look r = some (.v (u i))) (hG : G w₁.heap.size i) (hn : n ≤ vbase)
    (hM : ∀ p ∈ M' i, ∃ k, vbase ≤ k ∧ E.look k = some p.2) : End Cx.top w₀ n E (BP P fn (PL gs w₁ G u M') x) :=
  End.wroteL hex hw i hG hn (fun a w hs => by
    have h1 : a.tmps.getD r undef = u i := hs.of r _ he
    simp [results, hr, ← h1]) hM
end

/-! ### More ends -/
section
variable {P : Program} {n : Nat} {w₀ : World} {E : Env}
/-- A slice of bytes that came in gets a name. -/
theorem A.nameS {c : Code} {Q : Exit → Act → World → Prop} {t k B' : Nat} {l : List UInt8} (ht : E.look t = some (old B' (byt l))) (h : ∀ (A₀ : Option Addr) (m : Nat), A κ P w₀ n c ((t, .v (.slice A₀ l.length m)) :: (k, old B' (valM (.slice A₀ l.length m) (byt l))) :: E) Q) : A κ P w₀ n c E Q := fun a w g hs => by
  obtain ⟨hB, m, hb⟩ := hs.of t _ ht
  obtain ⟨A₀, h1, _⟩ := bytes_open (l := l) hb
  exact h A₀ m a w g ((hs.push (t := k) (d := old B' (valM (.slice A₀ l.length m) (byt l))) ⟨hB, by rw [← h1]; exact ⟨m, hb⟩⟩).push (d := .v _) h1)
/-- A slice over a new block, and another value. -/
theorem End.newTT {fn : Func} {r s g kg : Nat} {e : TypeId} {zs xs : List Value} {u v : Value} {val : Nat → Value} (hr : fn.results = #[.tmp r, .tmp s]) (h1 : E.look r = some (.v u)) (h2 : E.look s = some (.v v)) (h4 : E.look kg = some (blk g e zs)) (hg : w₀.heap.size ≤ g) (hv : val g = .tuple #[u, v]) (hz : zs = xs) :
    End Cx.top w₀ n E (BP P fn (PostOf w₀ (newD w₀.heap.size e val xs)) .ret) := fun a w gr hs => by
  subst hz
  have h3 : a.tmps[r]?.getD undef = u := by rw [← Array.getD_eq_getD_getElem?]; exact hs.of r _ h1
  have h6 : a.tmps[s]?.getD undef = v := by rw [← Array.getD_eq_getD_getElem?]; exact hs.of s _ h2
  obtain ⟨hl', hh'⟩ := hs.of kg _ h4
  exact BP.ret hs.defers ⟨.tuple #[u, v], by simp [results, hr, h3, h6], _, rfl, gr, g, hv.symm, hg, hl', hh'⟩
/-- A number's variable, two variables of several cells, and another value. -/
theorem End.cell4 {fn : Func} {r₀ s₀ b₀ r s b r₂ s₂ b₂ r' : Nat} {T₀ e₀ T e' T₂ e₂ : TypeId} {td₀ td td₂ : TypeDesc} {us ys : List Value} {v₀ v' : Value} (hr : fn.results = #[.cell r₀ T₀, .cell r T, .cell r₂ T₂, .tmp r'])
    (ht₀ : P.underlying T₀ = some td₀) (hp₀ : (match td₀ with | .struct _ | .array _ _ => true | _ => false) = false)
    (ht : P.underlying T = some td) (hp : (match td with | .struct _ | .array _ _ => true | _ => false) = true) (hsz : SizeIs P T us.length) (ht₂ : P.underlying T₂ = some td₂) (hp₂ : (match td₂ with | .struct _ | .array _ _ => true | _ => false) = true) (hsz₂ : SizeIs P T₂ ys.length)
    (h1₀ : E.look r₀ = some (.v (.pointer (some ⟨b₀, 0, none⟩)))) (h2₀ : E.look s₀ = some (blk b₀ e₀ [v₀]))
    (h1 : E.look r = some (.v (.pointer (some ⟨b, 0, none⟩)))) (h2 : E.look s = some (blk b e' us)) (h1₂ : E.look r₂ = some (.v (.pointer (some ⟨b₂, 0, none⟩)))) (h2₂ : E.look s₂ = some (blk b₂ e₂ ys)) (h5 : E.look r' = some (.v v')) :
    End Cx.top w₀ n E (BP P fn (PostOf w₀ (.v (.tuple #[v₀, aggV us, aggV ys, v']))) .ret) := fun a w gr hs => by
  have h3₀ : a.tmps[r₀]?.getD undef = .pointer (some ⟨b₀, 0, none⟩) := by rw [← Array.getD_eq_getD_getElem?]; exact hs.of r₀ _ h1₀
  have h3 : a.tmps[r]?.getD undef = .pointer (some ⟨b, 0, none⟩) := by rw [← Array.getD_eq_getD_getElem?]; exact hs.of r _ h1
  have h3₂ : a.tmps[r₂]?.getD undef = .pointer (some ⟨b₂, 0, none⟩) := by rw [← Array.getD_eq_getD_getElem?]; exact hs.of r₂ _ h1₂
  have h6 : a.tmps[r']?.getD undef = v' := by rw [← Array.getD_eq_getD_getElem?]; exact hs.of r' _ h5
  obtain ⟨_, hh₀⟩ := hs.of s₀ _ h2₀
  obtain ⟨_, hh⟩ := hs.of s _ h2
  obtain ⟨_, hh₂⟩ := hs.of s₂ _ h2₂
  have hl₀ : (loadVar T₀ ⟨b₀, 0, none⟩).run P w = .ok v₀ w := by
    have hagg : (isAgg T₀).run P w = .ok false w := by
      unfold isAgg
      rw [Sem.run_bind, run_underlying ht₀ w]
      cases td₀ <;> simp_all
    have hc : w.cell? ⟨b₀, 0, none⟩ = some v₀ := by simp [World.cell?, hh₀]
    simp [loadVar, Sem.run_bind, hagg, hc]
  exact BP.ret hs.defers ⟨.tuple #[v₀, aggV us, aggV ys, v'], by simp [results, hr, h3₀, h3, h3₂, h6, asAddr, hl₀, load_cell ht hp hsz hh, load_cell ht₂ hp₂ hsz₂ hh₂], _, rfl, gr, rfl⟩
end

theorem slice_bytes {b o n c : Nat} {e : TypeId} {xs : List Value} (l : List UInt8) (hn : n = l.length) (hc : n ≤ c) (hm : c ≤ maxLen) (hl : (xs.drop o).take n = l.map byteV) (B : Nat) (w : World) (hb : b < B) (hh : w.heap[b]? = some (.cells xs.toArray e (0, 0))) : (bytes l c).OfB B w (.slice (some ⟨b, o, none⟩) n c) := by
  subst hn
  refine bytes_mk hc hm fun j u hu => ?_
  rw [← hl, List.getElem?_take] at hu
  split at hu
  · rw [List.getElem?_drop] at hu
    refine ⟨_, rfl, hb, ?_⟩
    rw [add_lit0]
    simp [World.cell?, hh, hu]
  · cases hu
/-! ### Slices of bytes as arrays -/
/-- The address of bytes. -/
def arrP (l : List UInt8) : D := .p (fun B w x => ∃ ad, x = .pointer (some ad) ∧ RowIn B w (some ad) (l.map byteV)) (fun _ _ _ _ g ⟨ad, h1, h2⟩ => ⟨ad, h1, h2.keep g⟩) (fun _ _ _ _ g ⟨ad, h1, h2⟩ => ⟨ad, h1, fun j u hu => by
  obtain ⟨a, h3, h4, h5⟩ := h2 j u hu
  exact ⟨a, h3, Nat.lt_of_lt_of_le h4 g, h5⟩⟩)
section
variable {P : Program} {B : Nat} {E : Env} {dst : Option Tmp} {ty : TypeId} {pos : String} {after : Array Edge} {guard : Option (Nat × Bool)}
theorem ok_arrayB {t e : TypeId} {x : Operand} {f : D} (l : List UInt8) (ht : P.underlying t = some (.array l.length e)) (hx : E.at x = some f) (hf : Le f (byt l)) (hl : 0 < l.length) :
    OpOk P B ⟨dst, .sliceToArrayPointer t x, ty, pos, after, guard⟩ E (arrP l) := fun ρ w _ _ hρ => by
  obtain ⟨c, hb⟩ := hf.of (hρ x (by simp [Op.operands]) _ hx)
  obtain ⟨A, hxe, hle, hcm, hrow⟩ := bytes_open (l := l) hb
  cases A with
  | none =>
    cases l with
    | nil => cases hl
    | cons b l => obtain ⟨ad, h, _⟩ := hrow 0 (byteV b) rfl; cases h
  | some ad => exact out_val (x := .pointer (some ad)) (w' := w) (by simp [execOp, hxe, Instr.arrayAt, run_underlying ht]) ⟨Grow.refl w, ad, rfl, hrow⟩
theorem ok_loadB {T : TypeId} {td : TypeDesc} {x : Operand} {l : List UInt8} (ht : P.underlying T = some td) (hp : td.isRow = true) (hsz : SizeIs P T l.length) (hx : E.at x = some (arrP l)) : OpOk P B ⟨dst, .load T x, ty, pos, after, guard⟩ E (.v (aggV (l.map byteV))) := fun ρ w _ _ hρ => by
  obtain ⟨ad, h1, hrow⟩ := hρ x (by simp [Op.operands]) _ hx
  have hl : (loadCells ad (l.map byteV).length).run P w = .ok (l.map byteV).toArray w := run_loadCells_list (P := P) w ad (l.map byteV) fun j v hv => by
    obtain ⟨a, h2, _, h3⟩ := hrow j v hv
    injection h2 with h2; subst h2; exact h3
  have hr : (loadVar T ad).run P w = .ok (.agg (l.map byteV).toArray) w := by
    unfold SizeIs at hsz
    cases hq : P.info? T with
    | none => simp [hq] at hsz
    | some i =>
      have hs : i.size = l.length := by simpa [hq] using hsz
      have hagg : (isAgg T).run P w = .ok true w := by
        unfold isAgg
        rw [Sem.run_bind, run_underlying ht w]
        cases td <;> simp_all
      rw [List.length_map] at hl
      simp [loadVar, Sem.run_bind, hagg, sizeOf, typeInfo, hq, hs, hl]
  exact out_val (w' := w) (by simp [execOp, h1, Instr.loadAt, Instr.sureAddr, hr, aggV]) ⟨Grow.refl w, rfl⟩
end
end Go.Proofs.YthadcgkcgpinhaaGreatDoor
namespace Go.Proofs.YthadcgkcgpinhaaGreatDoor
open Go Go.RowKit
set_option linter.unusedVariables false
/-- The message: index, nonce, ciphertext. -/
def msgL (i s c : Nat) (d : List UInt8) : List UInt8 := be 4 i ++ (nonceL s c ++ d)
theorem msgL_length {i s c : Nat} {d : List UInt8} (hd : d.length = 32) : (msgL i s c d).length = 48 := by simp [msgL, be_length, nonceL_length, hd]
theorem msgL_take (i s c : Nat) (d : List UInt8) : (msgL i s c d).take 4 = be 4 i := List.take_left' (be_length _ _)
theorem msgL_mid (i s c : Nat) (d : List UInt8) : ((msgL i s c d).drop 4).take 12 = nonceL s c := by
  rw [msgL, List.drop_left' (be_length _ _), List.take_left' (nonceL_length _ _)]
theorem msgL_drop (i s c : Nat) (d : List UInt8) : (msgL i s c d).drop 16 = d := by
  rw [msgL, ← List.append_assoc, List.drop_left' (by simp [be_length, nonceL_length])]
theorem nonceL_inj {s c s' c' : Nat} (hs : s < 4294967296) (hs' : s' < 4294967296) (hc : c < 18446744073709551616) (hc' : c' < 18446744073709551616) (h : nonceL s c = nonceL s' c') : s = s' ∧ c = c' := by
  have h1 := congrArg (List.take 4) h
  have h2 := congrArg (List.drop 4) h
  rw [nonceL, nonceL, List.take_left' (be_length _ _), List.take_left' (be_length _ _)] at h1
  rw [nonceL, nonceL, List.drop_left' (be_length _ _), List.drop_left' (be_length _ _)] at h2
  exact ⟨be_inj (by omega) (by omega) h1, be_inj (by omega) (by omega) h2⟩
theorem msgL_inj {i s c i' s' c' : Nat} {d d' : List UInt8} (hi : i < 4294967296) (hi' : i' < 4294967296) (hs : s < 4294967296) (hs' : s' < 4294967296) (hc : c < 18446744073709551616) (hc' : c' < 18446744073709551616) (h : msgL i s c d = msgL i' s' c' d') : i = i' ∧ s = s' ∧ c = c' ∧ d = d' := by
  have h1 := congrArg (List.take 4) h
  have h2 := congrArg (fun l => (List.drop 4 l).take 12) h
  have h3 := congrArg (List.drop 16) h
  simp only [msgL_take, msgL_mid, msgL_drop] at h1 h2 h3
  obtain ⟨h4, h5⟩ := nonceL_inj hs hs' hc hc' h2
  exact ⟨be_inj (by omega) (by omega) h1, h4, h5, h3⟩
theorem msg_flat (i s c : Nat) (d : List UInt8) : [be 4 i, nonceL s c, d].flatten = msgL i s c d := by simp [msgL]
/-- Keys: an array of 16 bytes, one of 32 behind it. -/
theorem KM_len (f : Nat → Nat) {mk : List UInt8} (h : mk.length = 32) : (rowV 16 f ++ mk.map byteV).length = 48 := by simp [rowV_length, h]
theorem KM_mac (f : Nat → Nat) {mk : List UInt8} (h : mk.length = 32) : ((rowV 16 f ++ mk.map byteV).drop 16).take 32 = mk.map byteV := by
  rw [List.drop_left' (rowV_length _ _), List.take_of_length_le (by simp [h])]
theorem KM_one (f : Nat → Nat) (mk : List UInt8) : (rowV 16 f ++ mk.map byteV).all (·.oneCell') = true := by
  rw [List.all_append, rowV_one]; simp [byteV, Value.oneCell']
/-- Keys, an index, a nonce. -/
theorem SC_len (f : Nat → Nat) {mk : List UInt8} (h : mk.length = 32) (a b c : Value) : (rowV 16 f ++ mk.map byteV ++ [a, b, c]).length = 51 := by simp [rowV_length, h]
theorem SC_keys (f : Nat → Nat) {mk : List UInt8} (h : mk.length = 32) (r : List Value) : ((rowV 16 f ++ mk.map byteV ++ r).drop 0).take 48 = rowV 16 f ++ mk.map byteV := by rw [List.drop_zero]; exact List.take_left' (KM_len f h)
theorem SC_enc (f : Nat → Nat) (mk : List UInt8) (r : List Value) : ((rowV 16 f ++ mk.map byteV ++ r).drop 0).take 16 = rowV 16 f := by rw [List.append_assoc]; exact K_key f _
theorem SC_mac (f : Nat → Nat) {mk : List UInt8} (h : mk.length = 32) (r : List Value) : ((rowV 16 f ++ mk.map byteV ++ r).drop 16).take 32 = mk.map byteV := by
  rw [List.append_assoc, List.drop_left' (rowV_length _ _), List.take_left' (by simp [h])]
theorem SC_ix (f : Nat → Nat) {mk : List UInt8} (h : mk.length = 32) (a b c : Value) : (rowV 16 f ++ mk.map byteV ++ [a, b, c])[48]? = some a := by
  rw [List.getElem?_append_right (by rw [KM_len f h]; exact Nat.le_refl _), KM_len f h]; rfl
theorem SC_at (f : Nat → Nat) {mk : List UInt8} (h : mk.length = 32) (r : List Value) (k : Nat) : (rowV 16 f ++ mk.map byteV ++ r)[48 + k]? = r[k]? := by
  rw [List.getElem?_append_right (by rw [KM_len f h]; omega), KM_len f h, Nat.add_sub_cancel_left]
theorem SC_non (f : Nat → Nat) {mk : List UInt8} (h : mk.length = 32) (a b c : Value) : ((rowV 16 f ++ mk.map byteV ++ [a, b, c]).drop 49).take 2 = [b, c] := by
  rw [List.drop_append, KM_len f h, List.drop_eq_nil_of_le (by rw [KM_len f h]; decide)]; rfl
theorem SC_one (f : Nat → Nat) (mk : List UInt8) {a b c : Value} (ha : a.oneCell' = true) (hb : b.oneCell' = true) (hc : c.oneCell' = true) : (rowV 16 f ++ mk.map byteV ++ [a, b, c]).all (·.oneCell') = true := by
  rw [List.all_append, KM_one]; simp [ha, hb, hc]
theorem SC_set (f : Nat → Nat) {mk : List UInt8} (h : mk.length = 32) (a b c v : Value) (k : Nat) : (rowV 16 f ++ mk.map byteV ++ [a, b, c]).set (48 + k) v = rowV 16 f ++ mk.map byteV ++ [a, b, c].set k v := by
  rw [List.set_append_right _ _ (by rw [KM_len f h]; omega), KM_len f h, Nat.add_sub_cancel_left]
/-! ### Bytes 00 against a key stream -/
theorem byL_zeros (n i : Nat) : byL (List.replicate n 0) i = 0 := by
  unfold byL
  rw [List.getD_eq_getElem?_getD, List.getElem?_replicate]
  split <;> rfl
/-- The bytes of a block of the key stream. -/
def ksL (k : Sta) (s c t : Nat) : List UInt8 := rowL (ksB k s c t) 0 16
theorem ksL_length (k : Sta) (s c t : Nat) : (ksL k s c t).length = 16 := rowL_length _ _ _
theorem ksL_row {k : Sta} (hk : By k) (s c t : Nat) : rowV 16 (ksB k s c t) = (ksL k s c t).map byteV := by
  rw [ksL, ← rowL_row (n := 16) (ksB_by hk s c t) (by omega), List.drop_zero, List.take_of_length_le (Nat.le_of_eq (rowV_length _ _))]
theorem xorK_zeros (k : Sta) (s c : Nat) : xorK k s c 0 (List.replicate 32 0) = ksL k s c 0 ++ ksL k s c 1 := by
  apply List.ext_getElem?
  intro i
  rcases Nat.lt_or_ge i 32 with h | h
  · rw [xorK_get (by simpa using h)]
    show some (UInt8.ofNat (byL (List.replicate 32 0) i ^^^ ksAt k s c (0 + i))) = _
    rw [byL_zeros, Nat.zero_xor, Nat.zero_add, ksAt]
    rcases Nat.lt_or_ge i 16 with h2 | h2
    · rw [List.getElem?_append_left (by rw [ksL_length]; exact h2), ksL, rowL, List.getElem?_map, List.getElem?_range h2, Option.map_some, Nat.div_eq_of_lt h2, Nat.mod_eq_of_lt h2, Nat.zero_add]
    · rw [List.getElem?_append_right (by rw [ksL_length]; exact h2), ksL_length, ksL, rowL, List.getElem?_map, List.getElem?_range (by omega), Option.map_some, show i / 16 = 1 from by omega, show i % 16 = i - 16 from by omega, Nat.zero_add]
  · rw [List.getElem?_eq_none (by rw [xorK_length]; simpa using h), List.getElem?_eq_none (by rw [List.length_append, ksL_length, ksL_length]; exact h)]
theorem rowL_lst {f : Sta} {l : List Nat} (h : Eq16 f (lst16 l)) : rowL f 0 16 = rowL (lst16 l) 0 16 :=
  List.map_congr_left fun i hi => by rw [Nat.zero_add, h i (List.mem_range.1 hi)]
end Go.Proofs.YthadcgkcgpinhaaGreatDoor
namespace Go.Proofs.YthadcgkcgpinhaaGreatDoor
open Go Go.RowKit
theorem kinB {n : Nat} {l : List UInt8} (h : l.length = n) : Kin (fun _ _ => True) (List.replicate n .u8) (l.map byteV) := by
  refine ⟨by simp [h], fun i k hk => ?_⟩
  rw [List.getElem?_replicate] at hk
  split at hk
  · rename_i hi
    injection hk with hk; subst hk
    exact ⟨_, by rw [List.getElem?_map, List.getElem?_eq_getElem (by omega)]; rfl, trivial⟩
  · cases hk
theorem kinZ (n : Nat) : Kin (fun _ _ => True) (List.replicate n .u8) (List.replicate n (.int .u8 0)) := by
  have := kinB (n := n) (l := List.replicate n 0) (by simp)
  rwa [List.map_replicate] at this
theorem kinV (n : Nat) (f : Nat → Nat) : Kin (fun _ _ => True) (List.replicate n .u8) (rowV n f) := by
  refine ⟨by simp [rowV_length], fun i k hk => ?_⟩
  rw [List.getElem?_replicate] at hk
  split at hk
  · rename_i hi
    injection hk with hk; subst hk
    exact ⟨_, rowV_get hi, trivial⟩
  · cases hk
/-- Keys, an index, a nonce. -/
theorem kinS (f : Nat → Nat) {mk : List UInt8} (h : mk.length = 32) (a b c : Int) : Kin (fun _ _ => True) (List.replicate 16 .u8 ++ (List.replicate 32 .u8 ++ [.i64, .u32, .u64])) (rowV 16 f ++ mk.map byteV ++ [.int .i64 a, .int .u32 b, .int .u64 c]) := by
  rw [List.append_assoc]
  exact Kin.join (kinV 16 f) (Kin.join (kinB h) (kin_cons (kin_cons (kin_cons kin_nil))))
theorem SC_inj {xs : List Value} {a b c a' b' c' : Int} (h : xs ++ [.int .i64 a, .int .u32 b, .int .u64 c] = xs ++ [.int .i64 a', .int .u32 b', .int .u64 c']) : a = a' ∧ b = b' ∧ c = c' := by
  have h1 := List.append_cancel_left h
  simpa using h1
theorem decB (a b : List UInt8) : decide (a = b) = true ↔ a.map byteV = b.map byteV := by
  rw [decide_eq_true_iff]
  exact ⟨fun h => by rw [h], fun h => bytes_inj h⟩
end Go.Proofs.YthadcgkcgpinhaaGreatDoor
namespace Go.Proofs.YthadcgkcgpinhaaGreatDoor
open Go Go.RowKit
/-- The operation yields v (or stores what is there) and changes nothing. -/
def NopOk (P : Program) (B : Nat) (o : Oper) (E : Env) (v : Value) : Prop := (∀ c, o.op ≠ .defer c) ∧
  ∀ (ρ : Operand → Value) (w : World), B ≤ w.heap.size → (∀ t e, vbase ≤ t → E.look t = some e → e.Of w undef) → (∀ x, x ∈ o.op.operands → ∀ e, E.at x = some e → e.Of w (ρ x)) → ((execOp ρ o).run P w = .ok (.value v) w ∧ o.dst ≠ none) ∨ ((execOp ρ o).run P w = .ok .skip w ∧ o.dst = none)
/-- An environment out of what was known and of what operations have yielded that stand before operation o. -/
inductive FromN (ops : Array Oper) (vals : List Value) (E0 : Env) (o : Oper) : Env → Prop
  | nil : FromN ops vals E0 o []
  | all : FromN ops vals E0 o E0
  | base {t : Nat} {d : D} {E : Env} (h : E0.look t = some d) (hr : FromN ops vals E0 o E) : FromN ops vals E0 o ((t, d) :: E)
  | op {t : Nat} {v : Value} {E : Env} (j : Nat) (he : (o.after.any fun e => Region.binds .any e && e.on == j) = true) (hd : (ops[j]?).bind (·.dst) = some t) (hv : vals[j]? = some v) (hr : FromN ops vals E0 o E) : FromN ops vals E0 o ((t, .v v) :: E)
/-- The same at the region's end. -/
inductive FromE (ops : Array Oper) (vals : List Value) (E0 : Env) : Env → Prop
  | nil : FromE ops vals E0 []
  | all : FromE ops vals E0 E0
  | base {t : Nat} {d : D} {E : Env} (h : E0.look t = some d) (hr : FromE ops vals E0 E) : FromE ops vals E0 ((t, d) :: E)
  | op {t : Nat} {v : Value} {E : Env} (j : Nat) (hd : (ops[j]?).bind (·.dst) = some t) (hv : vals[j]? = some v) (hr : FromE ops vals E0 E) : FromE ops vals E0 ((t, .v v) :: E)
inductive Nops (P : Program) (B : Nat) (ops : Array Oper) (vals : List Value) (E0 : Env) : Nat → List Oper → Prop
  | nil {i : Nat} : Nops P B ops vals E0 i []
  | cons {i : Nat} {o : Oper} {rest : List Oper} {v : Value} (E : Env) (hv : vals[i]? = some v) (hd : o.dst = none ∨ ∃ t, o.dst = some t ∧ (E0.look t = none ∨ E0.look t = some (.v v))) (hf : FromN ops vals E0 o E) (hok : NopOk P B o E v) (hr : Nops P B ops vals E0 (i + 1) rest) : Nops P B ops vals E0 i (o :: rest)
def downsN (ops : Array Oper) : Bool := (List.range ops.size).all fun i => match ops[i]? with
  | none => false
  | some o => o.guard.isNone && o.after.all (fun e => !Region.binds .any e || decide (e.on < i)) && (List.range ops.size).all fun j => match ops[j]? with
    | none => false
    | some q => j == i || o.dst == none || o.dst != q.dst
section
variable {P : Program} {n B : Nat} {ops : Array Oper} {κ : Cx} {Q : Exit → Act → World → Prop} {vals : List Value} {E0 : Env}
theorem Nops.nth {k : Nat} {l : List Oper} (h : Nops P B ops vals E0 k l) : ∀ {i : Nat} {o : Oper}, l[i]? = some o → ∃ E v, vals[k + i]? = some v ∧ (o.dst = none ∨ ∃ t, o.dst = some t ∧ (E0.look t = none ∨ E0.look t = some (.v v))) ∧ FromN ops vals E0 o E ∧ NopOk P B o E v := by
  induction h with
  | nil => intro i o hi; simp at hi
  | @cons k o0 rest v E hv hd hf hok _ ih =>
    intro i o hi
    cases i with
    | zero => simp at hi; subst hi; exact ⟨E, v, hv, hd, hf, hok⟩
    | succ i =>
      obtain ⟨E, v, h1, h2⟩ := ih (i := i) (by simpa using hi)
      exact ⟨E, v, by rw [show k + (i + 1) = k + 1 + i from by omega]; exact h1, h2⟩
structure InvN (κ : Cx) (n B : Nat) (ops : Array Oper) (vals : List Value) (E0 : Env) (listed : Array Bool) (a : Act) (w : World) : Prop where
  st : St κ n B E0 a w
  lsize : listed.size = ops.size
  got : ∀ (i : Nat) (o : Oper) (t : Nat) (v : Value), ops[i]? = some o → listed.getD i false = true → o.dst = some t → vals[i]? = some v → a.tmps.getD t undef = v
theorem downs_get (h : downsN ops = true) {i : Nat} {o : Oper} (hi : ops[i]? = some o) : o.guard = none ∧ (∀ e ∈ o.after, Region.binds .any e = true → e.on < i) ∧ ∀ j q, ops[j]? = some q → j ≠ i → o.dst ≠ none → o.dst ≠ q.dst := by
  have hlt : i < ops.size := (Array.getElem?_eq_some_iff.1 hi).1
  have h1 := List.all_eq_true.1 h i (List.mem_range.2 hlt)
  simp only [hi, Bool.and_eq_true] at h1
  refine ⟨by simpa using h1.1.1, fun e he hb => ?_, fun j q hj hne hnn => ?_⟩
  · have h2 := Array.all_eq_true_iff_forall_mem.1 h1.1.2 e he
    simpa [hb] using h2
  · have h3 := List.all_eq_true.1 h1.2 j (List.mem_range.2 (Array.getElem?_eq_some_iff.1 hj).1)
    simp only [hj, Bool.or_eq_true, beq_iff_eq, bne_iff_ne, ne_eq] at h3
    rcases h3 with (h3 | h3) | h3
    · exact absurd h3 hne
    · exact absurd h3 hnn
    · exact h3
theorem wp_nops (hn0 : n ≤ vbase) (hfit : fits n ops = true) (hd : downsN ops = true) (hn : Nops P B ops vals E0 0 ops.toList) :
    ∀ (fuel : Nat) (listed : Array Bool) (a : Act) (w : World), unlisted ops listed ≤ fuel → InvN κ n B ops vals E0 listed a w → (∀ l a' , InvN κ n B ops vals E0 l a' w → (∀ i, i < ops.size → l.getD i false = true) → Q .normal a' w) → wpAnyIn (FR κ.rd) 0 P .any ops Q fuel listed a w := by
  have hmin : ∀ (listed : Array Bool), listed.size = ops.size → Region.ready .any ops listed = [] → ∀ i, i < ops.size → listed.getD i false = true := by
    intro listed hl hr i
    induction i using Nat.strongRecOn with
    | _ i ih =>
      intro hi
      rcases hb : listed.getD i false with _ | _
      · exfalso
        have hdi := (downs_get hd (Array.getElem?_eq_getElem hi)).2.1
        have : i ∈ Region.ready .any ops listed := by
          rw [mem_ready]
          refine ⟨?_, ops[i], Array.getElem?_eq_getElem hi, fun e he hbd => ih e.on (hdi e he hbd) (Nat.lt_trans (hdi e he hbd) hi)⟩
          have : i < listed.size := by rw [hl]; exact hi
          simp [this] at hb ⊢
          exact hb
        rw [hr] at this
        cases this
      · rfl
  intro fuel
  induction fuel with
  | zero =>
    intro listed a w hc I hQ'
    have hr : Region.ready .any ops listed = [] := by
      rcases hr : Region.ready .any ops listed with _ | ⟨i, l⟩
      · rfl
      · exfalso
        have hi : i ∈ Region.ready .any ops listed := by rw [hr]; exact List.mem_cons_self
        obtain ⟨hu, o, ho, _⟩ := mem_ready.1 hi
        have hpos : 0 < unlisted ops listed := List.countP_pos_iff.2 ⟨i, List.mem_range.2 (Array.getElem?_eq_some_iff.1 ho).1, by simp only [hu]; rfl⟩
        omega
    exact ⟨hr, hQ' listed a I (hmin listed I.lsize hr)⟩
  | succ fuel ih =>
    intro listed a w hc I hQ'
    refine ⟨fun hr => hQ' listed a I (hmin listed I.lsize hr), fun i hi => ?_⟩
    obtain ⟨hu, o, ho, hall⟩ := mem_ready.1 hi
    have hlt : i < ops.size := (Array.getElem?_eq_some_iff.1 ho).1
    obtain ⟨E, v, hv, hdo, hfr, hnd, hok⟩ := hn.nth (i := i) (o := o) (by simpa using ho)
    rw [Nat.zero_add] at hv
    obtain ⟨hg, _, hdis⟩ := downs_get hd ho
    have hst : ∀ {E : Env}, FromN ops vals E0 o E → ∀ t d, E.look t = some d → d.Of w (a.tmps.getD t undef) := fun {E} h => by
      induction h with
      | nil => intro t d hl; cases hl
      | all => exact I.st.of
      | @base s e E h _ ih =>
        intro t d hl
        by_cases hts : s = t
        · subst hts; rw [look_here] at hl; injection hl with hl; subst hl; exact I.st.of _ _ h
        · rw [look_past _ _ hts] at hl; exact ih t d hl
      | @op s v E j he hdj hvj _ ih =>
        intro t d hl
        by_cases hts : s = t
        · subst hts; rw [look_here] at hl; injection hl with hl; subst hl
          obtain ⟨e, he1, he2⟩ := Array.any_eq_true'.1 he
          simp only [Bool.and_eq_true, beq_iff_eq] at he2
          have hl := hall e he1 he2.1
          rw [he2.2] at hl
          cases hq : ops[j]? with
          | none => rw [hq] at hdj; cases hdj
          | some q =>
            rw [hq] at hdj
            exact I.got j q _ _ hq hl hdj hvj
        · rw [look_past _ _ hts] at hl; exact ih t d hl
    have hE : St κ n B E a w := ⟨I.st.base, I.st.defers, I.st.size, hst hfr⟩
    have hres := hok a.eval w I.st.base (hE.virt hn0) fun x _ e he => hE.at_ x _ he
    refine wpOpR_step ho fun K hK => ?_
    rw [if_pos (by simp [Region.wanted, hg])]
    refine opR hnd ?_
    unfold Oper.wp
    have hcl : unlisted ops (listed.setIfInBounds i true) ≤ fuel := by
      have : unlisted ops (listed.setIfInBounds i true) < unlisted ops listed := by
        refine countP_lt (x := i) (fun y hy => ?_) (List.mem_range.2 hlt) (by simp only [hu]; rfl) ?_
        · by_cases hyi : i = y
          · subst hyi
            have : i < listed.size := by rw [I.lsize]; exact hlt
            simp [this] at hy
          · rw [getD_set_ne true hyi] at hy; exact hy
        · have : i < listed.size := by rw [I.lsize]; exact hlt
          simp [this]
      omega
    have hset : ∀ j, (listed.setIfInBounds i true).getD j false = true → j = i ∨ listed.getD j false = true := fun j hj => by
      by_cases hji : i = j
      · exact .inl hji.symm
      · rw [getD_set_ne false hji] at hj; exact .inr hj
    rcases hres with ⟨hrun, hdn⟩ | ⟨hrun, hdn⟩
    · rw [hrun, Oper.upon_value]
      obtain ⟨t, ht, hE0⟩ := hdo.resolve_left hdn
      have htn : t < n := (fits_mem hfit (o := o) (by simpa using Array.mem_of_getElem? ho)).2 t ht
      rw [ht]
      refine hK _ _ (ih _ _ _ hcl ⟨⟨I.st.base, I.st.defers, by simp [Act.put, I.st.size], fun s d hs => ?_⟩, by simp [I.lsize], fun j q s u hj hl hds hvs => ?_⟩ hQ')
      · by_cases hts : t = s
        · subst hts
          rw [getD_put_here _ _ (by rw [I.st.size]; exact htn)]
          rcases hE0 with h | h
          · rw [h] at hs; cases hs
          · rw [h] at hs; injection hs with hs; subst hs; rfl
        · rw [getD_put_past _ _ hts]; exact I.st.of s d hs
      · rcases hset j hl with rfl | hl
        · rw [ho] at hj; injection hj with hj; subst hj
          rw [ht] at hds; injection hds with hds; subst hds
          rw [hv] at hvs; injection hvs with hvs; subst hvs
          rw [getD_put_here _ _ (by rw [I.st.size]; exact htn)]
        · by_cases hji : j = i
          · subst hji
            rw [ho] at hj; injection hj with hj; subst hj
            rw [ht] at hds; injection hds with hds; subst hds
            rw [hv] at hvs; injection hvs with hvs; subst hvs
            rw [getD_put_here _ _ (by rw [I.st.size]; exact htn)]
          · have hne : t ≠ s := fun he => hdis j q hj hji hdn (by rw [ht, hds, he])
            rw [getD_put_past _ _ hne]
            exact I.got j q s u hj hl hds hvs
    · rw [hrun, Oper.upon_skip]
      have hput : a.put o.dst undef = a := by rw [hdn]; rfl
      rw [hput]
      refine hK _ _ (ih _ _ _ hcl ⟨I.st, by simp [I.lsize], fun j q s u hj hl hds hvs => ?_⟩ hQ')
      rcases hset j hl with rfl | hl
      · rw [ho] at hj; injection hj with hj; subst hj
        rw [hdn] at hds; cases hds
      · exact I.got j q s u hj hl hds hvs
theorem A.regsN {w₀ : World} {y : Code} {E1 : Env} {id : Nat} (vals : List Value) (hm : P.follows .mixedOrders = true) (hfit : fits n ops = true) (hd : downsN ops = true) (hn : Nops P w₀.heap.size ops vals E0 0 ops.toList) (hf : FromE ops vals E0 E1) (h : A κ P w₀ n y E1 Q) : A κ P w₀ n (.seq (.region id ops true) y) E0 Q := A.seq fun a w hg hst => by
  have hdr : Below w₀.heap.size w w.drew := (Below.refl _ w).drew
  have hfin : ∀ l a', InvN κ n w₀.heap.size ops vals E0 l a' w.drew → (∀ i, i < ops.size → l.getD i false = true) → Exit.then (y.wpIn (FR κ.rd) 0 P Q) Q .normal a' w.drew := fun l a' I hall => by
    refine h a' w.drew (hg.trans hdr) ⟨I.st.base, I.st.defers, I.st.size, fun t d hl => ?_⟩
    have key : ∀ t d, E1.look t = some d → d.Of w.drew (a'.tmps.getD t undef) := by
      clear hl h
      induction hf with
      | nil => intro t d hl; cases hl
      | all => exact I.st.of
      | @base s e E h _ ih =>
        intro t d hl
        by_cases hts : s = t
        · subst hts; rw [look_here] at hl; injection hl with hl; subst hl; exact I.st.of _ _ h
        · rw [look_past _ _ hts] at hl; exact ih t d hl
      | @op s v E j hdj hvj _ ih =>
        intro t d hl
        by_cases hts : s = t
        · subst hts; rw [look_here] at hl; injection hl with hl; subst hl
          cases hq : ops[j]? with
          | none => rw [hq] at hdj; cases hdj
          | some q =>
            rw [hq] at hdj
            exact I.got j q _ _ hq (hall j (Array.getElem?_eq_some_iff.1 hq).1) hdj hvj
        · rw [look_past _ _ hts] at hl; exact ih t d hl
    exact key t d hl
  refine wpIn_region_any hm (wp_nops (Q := Exit.then (y.wpIn (FR κ.rd) 0 P Q) Q) (fits_base hfit) hfit hd hn _ _ _ _ ?_ ⟨hst.grow (Grow.refl w).drew, by simp, fun i o t v hi hl => ?_⟩ hfin)
  · refine Nat.le_trans List.countP_le_length ?_
    simp
  · simp [(Array.getElem?_eq_some_iff.1 hi).1] at hl
end
/-! ### Such operations -/
section
variable {P : Program} {B : Nat} {E : Env} {d : Tmp} {ty : TypeId} {pos : String} {after : Array Edge} {guard : Option (Nat × Bool)}
theorem nop_move {x : Operand} {v : Value} (hx : E.at x = some (.v v)) : NopOk P B ⟨some d, .move x, ty, pos, after, guard⟩ E v :=
  ⟨by nofun, fun ρ w _ _ hρ => .inl ⟨by simp [execOp, show ρ x = v from hρ x (by simp [Op.operands]) _ hx], by simp⟩⟩
theorem nop_assign {x : Operand} {v : Value} (hx : E.at x = some (.v v)) : NopOk P B ⟨some d, .assign x, ty, pos, after, guard⟩ E v :=
  ⟨by nofun, fun ρ w _ _ hρ => .inl ⟨by simp [execOp, show ρ x = v from hρ x (by simp [Op.operands]) _ hx], by simp⟩⟩
theorem nop_loadA {T : TypeId} {td : TypeDesc} {x : Operand} {b s : Nat} {e : TypeId} {xs : List Value} (hsl : vbase ≤ s) (ht : P.underlying T = some td) (hp : (match td with | .struct _ | .array _ _ => true | _ => false) = true) (hsz : SizeIs P T xs.length)
    (hx : E.at x = some (.v (.pointer (some ⟨b, 0, none⟩)))) (hblk : E.look s = some (blk b e xs)) : NopOk P B ⟨some d, .load T x, ty, pos, after, guard⟩ E (aggV xs) :=
  ⟨by nofun, fun ρ w _ hv hρ => .inl ⟨by
    have h1 : ρ x = _ := hρ x (by simp [Op.operands]) _ hx
    obtain ⟨_, hh⟩ := hv s _ hsl hblk
    simp [execOp, h1, Instr.loadAt, Instr.sureAddr, load_cell ht hp hsz hh], by simp⟩⟩
theorem nop_loadV {T : TypeId} {td : TypeDesc} {x : Operand} {b s : Nat} {e : TypeId} {v : Value} (hsl : vbase ≤ s) (ht : P.underlying T = some td) (hp : (match td with | .struct _ | .array _ _ => true | _ => false) = false)
    (hx : E.at x = some (.v (.pointer (some ⟨b, 0, none⟩)))) (hblk : E.look s = some (blk b e [v])) : NopOk P B ⟨some d, .load T x, ty, pos, after, guard⟩ E v :=
  ⟨by nofun, fun ρ w _ hv hρ => .inl ⟨by
    have h1 : ρ x = _ := hρ x (by simp [Op.operands]) _ hx
    obtain ⟨_, hh⟩ := hv s _ hsl hblk
    have hl₀ : (loadVar T ⟨b, 0, none⟩).run P w = .ok v w := by
      have hagg : (isAgg T).run P w = .ok false w := by
        unfold isAgg
        rw [Sem.run_bind, run_underlying ht w]
        cases td <;> simp_all
      have hc : w.cell? ⟨b, 0, none⟩ = some v := by simp [World.cell?, hh]
      simp [loadVar, Sem.run_bind, hagg, hc]
    simp [execOp, h1, Instr.loadAt, Instr.sureAddr, hl₀], by simp⟩⟩
theorem setRow_same {w : World} {b : Nat} {e : TypeId} {cs : Array Value} {fr : Nat × Nat} (h : w.heap[b]? = some (.cells cs e fr)) : w.setRow b cs = w := by
  have hh : (w.setRow b cs).heap = w.heap := by
    apply Array.ext_getElem?
    intro k
    by_cases hk : b = k
    · subst hk
      simp [World.setRow, Array.getElem?_modify, h]
    · simp [World.setRow, Array.getElem?_modify, hk]
  calc w.setRow b cs = { w with heap := (w.setRow b cs).heap } := rfl
    _ = w := by rw [hh]
theorem nop_storeA {T : TypeId} {p x : Operand} {b s : Nat} {e : TypeId} {ys : List Value} (hsl : vbase ≤ s) (hsz : SizeIs P T ys.length) (hp : E.at p = some (.v (.pointer (some ⟨b, 0, none⟩)))) (hx : E.at x = some (.v (aggV ys))) (h1 : ys.all (·.oneCell') = true)
    (hblk : E.look s = some (blk b e ys)) : NopOk P B ⟨none, .store T p x, ty, pos, after, guard⟩ E (.tuple #[]) :=
  ⟨by nofun, fun ρ w _ hv hρ => .inr ⟨by
    have hp' : ρ p = _ := hρ p (by simp [Op.operands]) _ hp
    have hx' : ρ x = _ := hρ x (by simp [Op.operands]) _ hx
    obtain ⟨_, hh⟩ := hv s _ hsl hblk
    have := run_storeVar_row (P := P) w b e T ys.toArray ys.toArray hh (by simpa [SizeIs] using hsz) (by simp) (by simpa using h1)
    rw [setRow_same hh] at this
    simp [execOp, hp', hx', Instr.storeAt, Instr.sureAddr, aggV, this], rfl⟩⟩
theorem nop_storeV {T : TypeId} {z : Value} {nb : Nat} {p x : Operand} {b s : Nat} {e : TypeId} {v : Value} (hsl : vbase ≤ s) (hs : InfoIs P T z nb) (hp : E.at p = some (.v (.pointer (some ⟨b, 0, none⟩)))) (hx : E.at x = some (.v v)) (h1 : v.oneCell' = true)
    (hblk : E.look s = some (blk b e [v])) : NopOk P B ⟨none, .store T p x, ty, pos, after, guard⟩ E (.tuple #[]) :=
  ⟨by nofun, fun ρ w _ hv hρ => .inr ⟨by
    have hp' : ρ p = _ := hρ p (by simp [Op.operands]) _ hp
    have hx' : ρ x = _ := hρ x (by simp [Op.operands]) _ hx
    obtain ⟨_, hh⟩ := hv s _ hsl hblk
    obtain ⟨i, hi, _, hsz, _⟩ := hs.get
    have hcu : v.cells = #[v] := by cases v <;> simp_all [Value.oneCell', Value.cells]
    have hcell : w.cell? ⟨b, 0, none⟩ = some v := by simp [World.cell?, hh]
    have hfr : w.frozen? ⟨b, 0, none⟩ = false := by simp [World.frozen?, hh]
    have hadd : (⟨b, 0, none⟩ : Addr).add 0 = ⟨b, 0, none⟩ := rfl
    have hset := setCell_eq_setRow w b 0 [v].toArray e (0, 0) v hh
    have hsame : w.setCell ⟨b, 0, none⟩ v = w := by rw [hset]; exact setRow_same (by simpa using hh)
    simp [execOp, hp', hx', Instr.storeAt, Instr.sureAddr, storeVar, hcu, sizeOf, typeInfo, hi, hsz, storeCells, hadd, run_store P w ⟨b, 0, none⟩ v .plain h1, hcell, hfr, hsame], rfl⟩⟩
end
end Go.Proofs.YthadcgkcgpinhaaGreatDoor
namespace Go.Proofs.YthadcgkcgpinhaaGreatDoor
open Go Go.RowKit
set_option linter.unusedVariables false
set_option maxRecDepth 20000
theorem flat33 : flat Tryz.prog 3 33 = some (List.replicate 32 .u8) := by kernel_rfl
theorem flat34 : flat Tryz.prog 3 34 = some (List.replicate 32 .u8) := by kernel_rfl

theorem zero33 : ZeroIs Tryz.prog 33 (List.replicate 32 (.int .u8 0)) := by unfold ZeroIs; kernel_rfl
theorem size33 : SizeIs Tryz.prog 33 32 := by unfold SizeIs; kernel_rfl
theorem checkIndex_neg (i : Int) (h : i < 0) : Fn Tryz.prog 18 [.v (.int .i64 i)] (.v (.int .i64 1)) := by
 refine Fn.of Tryz.func18 rfl (by kernel_rfl) Tryz.ntmps18 (by simp) (fun w => [(0, .v (.int .i64 i))]) (fun w => (Start.v rfl Start.nil)) fun w₀ => ?_
 refine GS ?_
 refine TL ?_
 refine RA rfl ?_
 refine RN ?_
 refine A.seq ?_
 refine GS ?_
 refine TL ?_
 refine RM rfl ?_
 refine RBS rfl rfl rfl (.bool true) (by simp [h]) ?_
 refine RM rfl ?_
 refine RK ?_
 refine RK ?_
 refine RP rfl rfl ?_
 refine RN ?_
 refine A.yes rfl ?_
 refine GS ?_
 refine TL ?_
 refine RA rfl ?_
 refine RN ?_
 refine A.ret ?_
 refine End.ret_then ?_
 exact End.ret1 rfl rfl (by first | exact Le.refl _ | exact Le.old _ _)
theorem checkIndex_big (i : Int) (h0 : 0 ≤ i) (h : 4096 ≤ i) : Fn Tryz.prog 18 [.v (.int .i64 i)] (.v (.int .i64 1)) := by
 refine Fn.of Tryz.func18 rfl (by kernel_rfl) Tryz.ntmps18 (by simp) (fun w => [(0, .v (.int .i64 i))]) (fun w => (Start.v rfl Start.nil)) fun w₀ => ?_
 refine GS ?_
 refine TL ?_
 refine RA rfl ?_
 refine RN ?_
 refine A.seq ?_
 refine GS ?_
 refine TL ?_
 refine RM rfl ?_
 refine RBS rfl rfl rfl (.bool false) (by simp; omega) ?_
 refine RM rfl ?_
 refine RQ (ok_move rfl) ?_
 refine RQ (ok_bin rfl rfl rfl) ?_; refine RZ (.bool true) (by simp; omega) ?_
 refine RP rfl rfl ?_
 refine RN ?_
 refine A.yes rfl ?_
 refine GS ?_
 refine TL ?_
 refine RA rfl ?_
 refine RN ?_
 refine A.ret ?_
 refine End.ret_then ?_
 exact End.ret1 rfl rfl (by first | exact Le.refl _ | exact Le.old _ _)
theorem checkIndex_ok (i : Int) (h0 : 0 ≤ i) (h : i < 4096) : Fn Tryz.prog 18 [.v (.int .i64 i)] (.v (.int .i64 0)) := by
 refine Fn.of Tryz.func18 rfl (by kernel_rfl) Tryz.ntmps18 (by simp) (fun w => [(0, .v (.int .i64 i))]) (fun w => (Start.v rfl Start.nil)) fun w₀ => ?_
 refine GS ?_
 refine TL ?_
 refine RA rfl ?_
 refine RN ?_
 refine A.seq ?_
 refine GS ?_
 refine TL ?_
 refine RM rfl ?_
 refine RBS rfl rfl rfl (.bool false) (by simp; omega) ?_
 refine RM rfl ?_
 refine RQ (ok_move rfl) ?_
 refine RQ (ok_bin rfl rfl rfl) ?_; refine RZ (.bool false) (by simp; omega) ?_
 refine RP rfl rfl ?_
 refine RN ?_
 refine A.no rfl ?_
 refine A.skip ?_
 refine EN ?_
 refine GS ?_
 refine TL ?_
 refine RA rfl ?_
 refine RN ?_
 refine A.ret ?_
 exact End.ret1 rfl rfl (by first | exact Le.refl _ | exact Le.old _ _)
theorem checkIndex_no (i : Int) (h : i < 0 ∨ 4096 ≤ i) : Fn Tryz.prog 18 [.v (.int .i64 i)] (.v (.int .i64 1)) := by
 by_cases h0 : i < 0
 ·exact checkIndex_neg i h0
 ·exact checkIndex_big i (by omega) (by omega)
theorem checkMessage_short (l : List UInt8) (h : l.length < 48) : Fn Tryz.prog 33 [byt l] (.v (.int .i64 6)) := by
 refine Fn.of Tryz.func33 rfl (by kernel_rfl) Tryz.ntmps33 (by simp) (fun w => [(0, old w.heap.size (byt l))]) (fun w => (Start.old rfl Start.nil)) fun w₀ => ?_
 refine GS ?_
 refine TL ?_
 refine RA rfl ?_
 refine RN ?_
 refine A.seq ?_
 refine A.block ?_
 refine GS ?_
 refine TL ?_
 refine RM rfl ?_
 refine RS (ok_lenB Tryz.underlying49 rfl LA) ?_
 refine RBS rfl rfl rfl (.bool true) (by simp; omega) ?_
 refine RA rfl ?_
 refine RN ?_
 refine A.yes rfl ?_
 refine GS ?_
 refine TL ?_
 refine RA rfl ?_
 refine RN ?_
 refine A.ret ?_
 refine End.ret_block ?_
 refine End.ret_then ?_
 exact End.ret1 rfl rfl (by first | exact Le.refl _ | exact Le.old _ _)
theorem messageOf_fn (i : Nat) (s c : Nat) (hs : s < 4294967296) (hc : c < 18446744073709551616) (d : List UInt8) (hd : d.length = 32) (hi : i < 4096) : Fn Tryz.prog 39 [.v (nI i), .v (aggV ([nW s, nQ c])), .v (aggV (d.map byteV))] (bytes (msgL i s c d) 48) := by
 refine Fn.of Tryz.func39 rfl (by kernel_rfl) Tryz.ntmps39 (by simp) (fun w => [(0, .v (nI i)), (1, .v (aggV ([nW s, nQ c]))), (2, .v (aggV (d.map byteV)))]) (fun w => (Start.v rfl (Start.v rfl (Start.v rfl Start.nil)))) fun w₀ => ?_
 refine GS ?_
 refine TN 0 ?_
 refine RN ?_
 refine ⟨_, _, eff_box (n := 15) (d := 4) (k := 1000004) rfl (by decide), fun b4 hb4 => ?_⟩
 have hBb4 := hb4.1
 refine TN 1 ?_
 refine RN ?_
 refine ⟨_, _, eff_box (n := 15) (d := 5) (k := 1000005) rfl (by decide), fun b5 hb5 => ?_⟩
 have hBb5 := hb5.1
 refine TL ?_
 refine RA rfl ?_
 refine RN ?_
 refine GD ?_
 refine TL ?_
 refine RM rfl ?_
 refine RS (ok_conv Tryz.underlying3 Tryz.underlying27 rfl) ?_; refine RZ (nW i) (by rw [wrapN_u32 (by omega)]) ?_
 refine RS (ok_call ((Put32_fn ((i : Nat) : Int) (by omega) (by omega)).le (d' := bytes (be 4 i) 4) (Le.refl _)) (A1 rfl)) ?_
 refine RS (ok_loadA (s := 1000004) (by decide) Tryz.underlying30 rfl (size30.of (rfl)) rfl rfl) ?_
 refine RS (ok_call (Put_fn s c hs hc) (A1 rfl)) ?_
 refine RS ((ok_sliceA (s := 1000005) 0 32 (by decide) Tryz.underlying33 info5 rfl rfl (.inr ⟨rfl, rfl⟩) (.inr ⟨rfl, rfl⟩) (by omega) (by omega) (by rw [List.length_map, hd]) (by decide)).le (d' := byt d) (byt_all hd)) ?_
 refine RS (ok_build [bytes (be 4 i) 4, bytes (nonceL s c) 12, byt d] Tryz.underlying102 info49 rfl (by decide) (by decide) rfl ⟨rfl, rfl, rfl, rfl, rfl, rfl, trivial⟩ (fun d' hd' w x h => by simp only [List.mem_cons, List.not_mem_nil, or_false] at hd'; rcases hd' with rfl | rfl | rfl <;> first | exact list_one h | exact lst_one h)) ?_
 refine RS ((ok_call (Join_fn [be 4 i, nonceL s c, d] (by simp) (by simp [be_length, nonceL_length, hd])) (Args.cons rfl (list_lst3 (le_byt _ 4) (le_byt _ 12) (Le.refl _)) Args.nil)).le (d' := bytes (msgL i s c d) 48) (Le.eq (by rw [msg_flat, msgL_length hd]))) ?_
 refine RA rfl ?_
 refine RN ?_
 refine A.ret ?_
 exact End.ret1 rfl rfl (by first | exact Le.refl _ | exact Le.old _ _)
theorem messageOf_fnB (i : Nat) (s c : Nat) (hs : s < 4294967296) (hc : c < 18446744073709551616) (d : List UInt8) (hd : d.length = 32) (hi : i < 4096) : FnB Tryz.prog 39 [.v (nI i), .v (aggV ([nW s, nQ c])), .v (aggV (d.map byteV))] (fun B => fresh B 5 ((msgL i s c d).map byteV) 48) := by
 refine FnB.of Tryz.func39 rfl (by kernel_rfl) Tryz.ntmps39 (by simp) (fun w => [(0, .v (nI i)), (1, .v (aggV ([nW s, nQ c]))), (2, .v (aggV (d.map byteV)))]) (fun w => (Start.v rfl (Start.v rfl (Start.v rfl Start.nil)))) fun w₀ => ?_
 refine GS ?_
 refine TN 0 ?_
 refine RN ?_
 refine ⟨_, _, eff_box (n := 15) (d := 4) (k := 1000004) rfl (by decide), fun b4 hb4 => ?_⟩
 have hBb4 := hb4.1
 refine TN 1 ?_
 refine RN ?_
 refine ⟨_, _, eff_box (n := 15) (d := 5) (k := 1000005) rfl (by decide), fun b5 hb5 => ?_⟩
 have hBb5 := hb5.1
 refine TL ?_
 refine RA rfl ?_
 refine RN ?_
 refine GD ?_
 refine TL ?_
 refine RM rfl ?_
 refine RS (ok_conv Tryz.underlying3 Tryz.underlying27 rfl) ?_; refine RZ (nW i) (by rw [wrapN_u32 (by omega)]) ?_
 refine RS (ok_call ((Put32_fn ((i : Nat) : Int) (by omega) (by omega)).le (d' := bytes (be 4 i) 4) (Le.refl _)) (A1 rfl)) ?_
 refine RS (ok_loadA (s := 1000004) (by decide) Tryz.underlying30 rfl (size30.of (rfl)) rfl rfl) ?_
 refine RS (ok_call (Put_fn s c hs hc) (A1 rfl)) ?_
 refine RS ((ok_sliceA (s := 1000005) 0 32 (by decide) Tryz.underlying33 info5 rfl rfl (.inr ⟨rfl, rfl⟩) (.inr ⟨rfl, rfl⟩) (by omega) (by omega) (by rw [List.length_map, hd]) (by decide)).le (d' := byt d) (byt_all hd)) ?_
 refine RS (ok_build [bytes (be 4 i) 4, bytes (nonceL s c) 12, byt d] Tryz.underlying102 info49 rfl (by decide) (by decide) rfl ⟨rfl, rfl, rfl, rfl, rfl, rfl, trivial⟩ (fun d' hd' w x h => by simp only [List.mem_cons, List.not_mem_nil, or_false] at hd'; rcases hd' with rfl | rfl | rfl <;> first | exact list_one h | exact lst_one h)) ?_
 refine RS ((ok_callB (Join_fnB [be 4 i, nonceL s c, d] (by simp) (by simp [be_length, nonceL_length, hd])) (fun _ _ => fresh_mono _ _) (Args.cons rfl (list_lst3 (le_byt _ 4) (le_byt _ 12) (Le.refl _)) Args.nil)).le (d' := fresh w₀.heap.size 5 ((msgL i s c d).map byteV) 48) (Le.eq (by rw [msg_flat, msgL_length hd]))) ?_
 refine RA rfl ?_
 refine RN ?_
 refine A.ret ?_
 exact End.ret1 rfl rfl (by first | exact Le.refl _ | exact Le.old _ _)
set_option maxHeartbeats 1000000 in
theorem tagOf_fn (f : Nat → Nat) (mk : List UInt8) (hf : By f) (hmk : mk.length = 32) (i : Nat) (s c : Nat) (hs : s < 4294967296) (hc : c < 18446744073709551616) (d : List UInt8) (hd : d.length = 32) (hi : i < 4096) : FnM Tryz.prog 21 tabs [.v (aggV ((rowV 16 f ++ mk.map byteV))), .v (nI i), .v (aggV ([nW s, nQ c])), .v (aggV (d.map byteV))] (.v (aggV ((hmac mk (msgL i s c d)).map byteV))) := by
 refine FnM.of Tryz.func21 rfl (by kernel_rfl) Tryz.ntmps21 (by simp) (by decide) (fun w => [(0, .v (aggV ((rowV 16 f ++ mk.map byteV)))), (1, .v (nI i)), (2, .v (aggV ([nW s, nQ c]))), (3, .v (aggV (d.map byteV))), (1900000, tab 0 (H8.list.map u32V)), (1900001, tab 1 (K64.map u32V))]) (fun w => (StartM.v rfl (StartM.v rfl (StartM.v rfl (StartM.v rfl (StartM.m (by simp [tabs]) (by decide) (StartM.m (by simp [tabs]) (by decide) StartM.nil))))))) fun w₀ hM => ?_
 have htab := tabs_hi hM
 refine GS ?_
 refine TN 0 ?_
 refine RN ?_
 refine ⟨_, _, eff_box (n := 17) (d := 4) (k := 1000004) rfl (by decide), fun b4 hb4 => ?_⟩
 have hBb4 := hb4.1
 refine TN 1 ?_
 refine RN ?_
 refine ⟨_, _, eff_box (n := 17) (d := 6) (k := 1000006) rfl (by decide), fun b6 hb6 => ?_⟩
 have hBb6 := hb6.1
 refine TN 2 ?_
 refine RN ?_
 refine ⟨_, _, eff_box (n := 17) (d := 7) (k := 1000007) rfl (by decide), fun b7 hb7 => ?_⟩
 have hBb7 := hb7.1
 refine TN 3 ?_
 refine RN ?_
 refine ⟨_, _, eff_alloc (n := 17) (d := 8) (k := 1000008) zero34 (by decide), fun b8 hb8 => ?_⟩
 have hBb8 := hb8.1
 refine TL ?_
 refine RN ?_
 refine GD ?_
 refine TD 8 ?_
 refine RS (ok_field field26_1 (by decide) rfl) ?_
 refine RS (OpOk.fact (ok_sliceX (l := 0) (h := 32) (m := 32) Tryz.underlying24 info5 rfl (.inr ⟨rfl, rfl⟩) (.inr ⟨rfl, rfl, rfl⟩) (.inr ⟨rfl, rfl⟩) (by decide) (by decide) (by decide) (.inl (by decide))) (d := byt mk) (s := 1000004) (by decide) rfl (slice_byt mk hmk.symm (by decide) (by simp only [maxLen]; omega) (KM_mac f hmk))) ?_
 refine RM rfl ?_
 refine RS (ok_loadA (s := 1000006) (by decide) Tryz.underlying30 rfl (size30.of (rfl)) rfl rfl) ?_
 refine RS (ok_loadA (s := 1000007) (by decide) Tryz.underlying33 rfl (size33.of (by rw [List.length_map, hd])) rfl rfl) ?_
 refine RS (ok_call (messageOf_fn i s c hs hc d hd hi) (A3 rfl rfl rfl)) ?_
 refine RS (ok_build [bytes (msgL i s c d) 48] Tryz.underlying102 info49 rfl (by decide) (by decide) rfl ⟨rfl, rfl, trivial⟩ (fun d' hd' w x h => by simp only [List.mem_cons, List.not_mem_nil, or_false] at hd'; subst hd'; exact list_one h)) ?_
 refine RS (ok_callM (macOf_fn mk [(msgL i s c d)] (msgL i s c d) (by simp) (by omega) (by simp) (by rw [msgL_length hd]; decide)) (Sub.cons rfl (Sub.cons rfl KN)) tabs_v (Args.cons rfl (Le.refl _) (Args.cons rfl (list_lst1 (le_byt _ 48)) Args.nil))) ?_
 refine RN ?_
 refine ⟨_, eff_storeA (n := 17) (s := 1000008) (size34.of (by rw [List.length_map, hmac_length])) rfl rfl (all_bytes _) hBb8 rfl (by simp [hmac_length]) (LV 8 rfl (LT 1000004 rfl (LT 1000006 rfl (LT 1000007 rfl (LeftS.cons (t := 1900000) rfl (Surv.tab (by omega)) (LeftS.cons (t := 1900001) rfl (Surv.tab (by omega)) LN)))))), ?_⟩
 refine TL ?_
 refine RN ?_
 refine A.ret ?_
 exact End.cell1 (s := 1000008) rfl Tryz.underlying34 rfl (size34.of (by rw [List.length_map, hmac_length])) rfl rfl (Le.refl _)
set_option maxHeartbeats 1000000 in
theorem combined_fn (f : Nat → Nat) (mk : List UInt8) (hf : By f) (hmk : mk.length = 32) (s c : Nat) (hs : s < 4294967296) (hc : c < 18446744073709551616) (d : List UInt8) (hd : d.length = 32)  : Fn Tryz.prog 20 [.v (aggV ((rowV 16 f ++ mk.map byteV))), .v (aggV ([nW s, nQ c])), .v (aggV (d.map byteV))] (.v (aggV ((xorK f s c 0 d).map byteV))) := by
 refine Fn.of Tryz.func20 rfl (by kernel_rfl) Tryz.ntmps20 (by simp) (fun w => [(0, .v (aggV ((rowV 16 f ++ mk.map byteV)))), (1, .v (aggV ([nW s, nQ c]))), (2, .v (aggV (d.map byteV)))]) (fun w => (Start.v rfl (Start.v rfl (Start.v rfl Start.nil)))) fun w₀ => ?_
 refine GS ?_
 refine TN 0 ?_
 refine RN ?_
 refine ⟨_, _, eff_box (n := 20) (d := 3) (k := 1000003) rfl (by decide), fun b3 hb3 => ?_⟩
 have hBb3 := hb3.1
 refine TN 1 ?_
 refine RN ?_
 refine ⟨_, _, eff_box (n := 20) (d := 4) (k := 1000004) rfl (by decide), fun b4 hb4 => ?_⟩
 have hBb4 := hb4.1
 refine TN 2 ?_
 refine RN ?_
 refine ⟨_, _, eff_box (n := 20) (d := 5) (k := 1000005) rfl (by decide), fun b5 hb5 => ?_⟩
 have hBb5 := hb5.1
 refine TN 3 ?_
 refine RN ?_
 refine ⟨_, _, eff_alloc (n := 20) (d := 6) (k := 1000006) zero33 (by decide), fun b6 hb6 => ?_⟩
 have hBb6 := hb6.1
 have hlt_b5_b6 : b5 < b6 := hb6.2 1000005 _ _ _ rfl
 refine TL ?_
 refine RN ?_
 refine GD ?_
 refine TL ?_
 refine RS (ok_field field26_0 (by decide) rfl) ?_
 refine RS (ok_loadP (s := 1000003) (by decide) Tryz.underlying22 rfl size22 rfl rfl (by simp [rowV_length, hmk]) (K_key f _)) ?_
 refine RS (ok_loadA (s := 1000004) (by decide) Tryz.underlying30 rfl (size30.of (rfl)) rfl rfl) ?_
 refine RS ((ok_sliceA (s := 1000005) 0 32 (by decide) Tryz.underlying33 info5 rfl rfl (.inr ⟨rfl, rfl⟩) (.inr ⟨rfl, rfl⟩) (by omega) (by omega) (by rw [List.length_map, hd]) (by decide)).le (d' := byt d) (byt_all hd)) ?_
 refine RS (ok_call (Xor7_fn f hf s c 0 d hs hc (by omega)) (Args.cons rfl (Le.refl _) (A3 rfl rfl rfl))) ?_
 refine RM rfl ?_
 refine RS (ok_extract rfl rfl) ?_
 refine RS (ok_extract rfl rfl) ?_
 refine RA rfl ?_
 refine RA rfl ?_
 refine RN ?_
 refine GS ?_
 refine TF 3 ?_
 refine RM rfl ?_
 refine RS (ok_arrayB (xorK f s c 0 d) (by rw [xorK_length, hd]; exact Tryz.underlying33) rfl (le_byt _ _) (by rw [xorK_length, hd]; decide)) ?_
 refine RS (ok_loadB Tryz.underlying33 rfl (size33.of (by rw [xorK_length, hd])) rfl) ?_
 refine RN ?_
 refine ⟨_, eff_storeA (n := 20) (s := 1000006) (size33.of (by rw [List.length_map, xorK_length, hd])) rfl rfl (all_bytes _) hBb6 rfl (by simp [xorK_length, hd]) (LV 6 rfl (LT 1000003 rfl (LT 1000004 rfl (LB 1000005 rfl LN)))), ?_⟩
 refine TL ?_
 refine RN ?_
 refine A.ret ?_
 exact End.cell1 (s := 1000006) rfl Tryz.underlying33 rfl (size33.of (by rw [List.length_map, xorK_length, hd])) rfl rfl (Le.refl _)
theorem checkTag_int (f : Nat → Nat) (mk : List UInt8) (hf : By f) (hmk : mk.length = 32) (i : Nat) (s c : Nat) (hs : s < 4294967296) (hc : c < 18446744073709551616) (d : List UInt8) (hd : d.length = 32) (hi : i < 4096)(tg : List UInt8) (htg : tg.length = 32) (h : tg ≠ (hmac mk (msgL i s c d))) : FnM Tryz.prog 22 tabs [.v (aggV ((rowV 16 f ++ mk.map byteV))), .v (nI i), .v (aggV ([nW s, nQ c])), .v (aggV (d.map byteV)), .v (aggV (tg.map byteV))] (.v (.int .i64 9)) := by
 refine FnM.of Tryz.func22 rfl (by kernel_rfl) Tryz.ntmps22 (by simp) (by decide) (fun w => [(0, .v (aggV ((rowV 16 f ++ mk.map byteV)))), (1, .v (nI i)), (2, .v (aggV ([nW s, nQ c]))), (3, .v (aggV (d.map byteV))), (4, .v (aggV (tg.map byteV))), (1900000, tab 0 (H8.list.map u32V)), (1900001, tab 1 (K64.map u32V))]) (fun w => (StartM.v rfl (StartM.v rfl (StartM.v rfl (StartM.v rfl (StartM.v rfl (StartM.m (by simp [tabs]) (by decide) (StartM.m (by simp [tabs]) (by decide) StartM.nil)))))))) fun w₀ hM => ?_
 have htab := tabs_hi hM
 refine GS ?_
 refine TN 0 ?_
 refine RN ?_
 refine ⟨_, _, eff_box (n := 24) (d := 5) (k := 1000005) rfl (by decide), fun b5 hb5 => ?_⟩
 have hBb5 := hb5.1
 refine TN 1 ?_
 refine RN ?_
 refine ⟨_, _, eff_box (n := 24) (d := 7) (k := 1000007) rfl (by decide), fun b7 hb7 => ?_⟩
 have hBb7 := hb7.1
 refine TN 2 ?_
 refine RN ?_
 refine ⟨_, _, eff_box (n := 24) (d := 8) (k := 1000008) rfl (by decide), fun b8 hb8 => ?_⟩
 have hBb8 := hb8.1
 refine TN 3 ?_
 refine RN ?_
 refine ⟨_, _, eff_box (n := 24) (d := 9) (k := 1000009) rfl (by decide), fun b9 hb9 => ?_⟩
 have hBb9 := hb9.1
 refine TL ?_
 refine RA rfl ?_
 refine RN ?_
 refine A.seq ?_
 refine GS ?_
 refine TL ?_
 refine RM rfl ?_
 refine RS (ok_call (checkIndex_ok (i : Int) (by omega) (by omega)) (A1 rfl)) ?_
 refine RA rfl ?_
 refine RN ?_
 refine GS ?_
 refine TL ?_
 refine RM rfl ?_
 refine RBS rfl rfl rfl (.bool false) (by rfl) ?_
 refine RN ?_
 refine A.no rfl ?_
 refine A.skip ?_
 refine EN ?_
 refine A.seq ?_
 refine GD ?_
 refine TL ?_
 refine RS (ok_loadA (s := 1000009) (by decide) Tryz.underlying34 rfl (size34.of (by rw [List.length_map, htg])) rfl rfl) ?_
 refine RS (ok_loadA (s := 1000005) (by decide) Tryz.underlying26 rfl (size26.of (KM_len f hmk)) rfl rfl) ?_
 refine RM rfl ?_
 refine RS (ok_loadA (s := 1000007) (by decide) Tryz.underlying30 rfl (size30.of (rfl)) rfl rfl) ?_
 refine RS (ok_loadA (s := 1000008) (by decide) Tryz.underlying33 rfl (size33.of (by rw [List.length_map, hd])) rfl rfl) ?_
 refine RS (ok_callM (tagOf_fn f mk hf hmk i s c hs hc d hd hi) (Sub.cons rfl (Sub.cons rfl KN)) tabs_v (Args.cons rfl (Le.refl _) (A3 rfl rfl rfl))) ?_
 refine RS (ok_neqT (n := 3) (decide (tg = (hmac mk (msgL i s c d)))) flat34 (by decide) (by kernel_rfl) (by kernel_rfl) rfl rfl (kinB htg) (kinB (hmac_length _ _)) (decB _ _)) ?_; refine RZ (.bool true) (by simp [h]) ?_
 refine RN ?_
 refine A.yes rfl ?_
 refine GS ?_
 refine TL ?_
 refine RA rfl ?_
 refine RN ?_
 refine A.ret ?_
 refine End.ret_then ?_
 exact End.ret1 rfl rfl (by first | exact Le.refl _ | exact Le.old _ _)
theorem checkTag_ok (f : Nat → Nat) (mk : List UInt8) (hf : By f) (hmk : mk.length = 32) (i : Nat) (s c : Nat) (hs : s < 4294967296) (hc : c < 18446744073709551616) (d : List UInt8) (hd : d.length = 32) (hi : i < 4096)(tg : List UInt8) (htg : tg.length = 32) (h : tg = (hmac mk (msgL i s c d))) : FnM Tryz.prog 22 tabs [.v (aggV ((rowV 16 f ++ mk.map byteV))), .v (nI i), .v (aggV ([nW s, nQ c])), .v (aggV (d.map byteV)), .v (aggV (tg.map byteV))] (.v (.int .i64 0)) := by
 refine FnM.of Tryz.func22 rfl (by kernel_rfl) Tryz.ntmps22 (by simp) (by decide) (fun w => [(0, .v (aggV ((rowV 16 f ++ mk.map byteV)))), (1, .v (nI i)), (2, .v (aggV ([nW s, nQ c]))), (3, .v (aggV (d.map byteV))), (4, .v (aggV (tg.map byteV))), (1900000, tab 0 (H8.list.map u32V)), (1900001, tab 1 (K64.map u32V))]) (fun w => (StartM.v rfl (StartM.v rfl (StartM.v rfl (StartM.v rfl (StartM.v rfl (StartM.m (by simp [tabs]) (by decide) (StartM.m (by simp [tabs]) (by decide) StartM.nil)))))))) fun w₀ hM => ?_
 have htab := tabs_hi hM
 refine GS ?_
 refine TN 0 ?_
 refine RN ?_
 refine ⟨_, _, eff_box (n := 24) (d := 5) (k := 1000005) rfl (by decide), fun b5 hb5 => ?_⟩
 have hBb5 := hb5.1
 refine TN 1 ?_
 refine RN ?_
 refine ⟨_, _, eff_box (n := 24) (d := 7) (k := 1000007) rfl (by decide), fun b7 hb7 => ?_⟩
 have hBb7 := hb7.1
 refine TN 2 ?_
 refine RN ?_
 refine ⟨_, _, eff_box (n := 24) (d := 8) (k := 1000008) rfl (by decide), fun b8 hb8 => ?_⟩
 have hBb8 := hb8.1
 refine TN 3 ?_
 refine RN ?_
 refine ⟨_, _, eff_box (n := 24) (d := 9) (k := 1000009) rfl (by decide), fun b9 hb9 => ?_⟩
 have hBb9 := hb9.1
 refine TL ?_
 refine RA rfl ?_
 refine RN ?_
 refine A.seq ?_
 refine GS ?_
 refine TL ?_
 refine RM rfl ?_
 refine RS (ok_call (checkIndex_ok (i : Int) (by omega) (by omega)) (A1 rfl)) ?_
 refine RA rfl ?_
 refine RN ?_
 refine GS ?_
 refine TL ?_
 refine RM rfl ?_
 refine RBS rfl rfl rfl (.bool false) (by rfl) ?_
 refine RN ?_
 refine A.no rfl ?_
 refine A.skip ?_
 refine EN ?_
 refine A.seq ?_
 refine GD ?_
 refine TL ?_
 refine RS (ok_loadA (s := 1000009) (by decide) Tryz.underlying34 rfl (size34.of (by rw [List.length_map, htg])) rfl rfl) ?_
 refine RS (ok_loadA (s := 1000005) (by decide) Tryz.underlying26 rfl (size26.of (KM_len f hmk)) rfl rfl) ?_
 refine RM rfl ?_
 refine RS (ok_loadA (s := 1000007) (by decide) Tryz.underlying30 rfl (size30.of (rfl)) rfl rfl) ?_
 refine RS (ok_loadA (s := 1000008) (by decide) Tryz.underlying33 rfl (size33.of (by rw [List.length_map, hd])) rfl rfl) ?_
 refine RS (ok_callM (tagOf_fn f mk hf hmk i s c hs hc d hd hi) (Sub.cons rfl (Sub.cons rfl KN)) tabs_v (Args.cons rfl (Le.refl _) (A3 rfl rfl rfl))) ?_
 refine RS (ok_neqT (n := 3) (decide (tg = (hmac mk (msgL i s c d)))) flat34 (by decide) (by kernel_rfl) (by kernel_rfl) rfl rfl (kinB htg) (kinB (hmac_length _ _)) (decB _ _)) ?_; refine RZ (.bool false) (by simp [h]) ?_
 refine RN ?_
 refine A.no rfl ?_
 refine A.skip ?_
 refine EN ?_
 refine GS ?_
 refine TL ?_
 refine RA rfl ?_
 refine RN ?_
 refine A.ret ?_
 exact End.ret1 rfl rfl (by first | exact Le.refl _ | exact Le.old _ _)
theorem behind_no (e : Int) (h : e ≠ 0) (v : Value) : Fn Tryz.prog 17 [.v (.int .i64 e), .v v] (.v (.int .i64 e)) := by
 refine Fn.of Tryz.func17 rfl (by kernel_rfl) Tryz.ntmps17 (by simp) (fun w => [(0, .v (.int .i64 e)), (1, .v v)]) (fun w => (Start.v rfl (Start.v rfl Start.nil))) fun w₀ => ?_
 refine GS ?_
 refine TL ?_
 refine RA rfl ?_
 refine RN ?_
 refine A.seq ?_
 refine GS ?_
 refine TL ?_
 refine RM rfl ?_
 refine RBS rfl rfl rfl (.bool false) (by simp [h]) ?_
 refine RN ?_
 refine A.no rfl ?_
 refine A.skip ?_
 refine EN ?_
 refine GS ?_
 refine TL ?_
 refine RM rfl ?_
 refine RA rfl ?_
 refine RN ?_
 refine A.ret ?_
 exact End.ret1 rfl rfl (by first | exact Le.refl _ | exact Le.old _ _)
theorem behind_fnL {B fa : Nat} {gs : List (TypeId × Nat)} {us : List Value} {M : Env} {G : Nat → Nat → Prop} {M' : Nat → Env} (hG : ∀ m m' i, m ≤ m' → G m' i → G m i) (hgB : ∀ p ∈ gs, B ≤ p.2) (ha : FnL Tryz.prog fa B gs us M G (fun _ => .tuple #[]) M') : FnL Tryz.prog 17 B gs [.int .i64 0, .func (.func fa) #[] us.toArray] M G (fun _ => .int .i64 0) M' := by
 refine FnL.unpacked (k := 1000090) (k' := 1000091) ?_
 have ha' := ha.packed 1000090 1000091
 refine FnL.of (n := 10) (kw := 1000099) (ks := 1000098) Tryz.func17 rfl (by kernel_rfl) Tryz.ntmps17 (by simp) (by decide) (vbL_cons (vL rfl) vbL_nil) (vL rfl) (vL rfl) [(0, .v (.int .i64 0)), (1, .v (.func (.func fa) #[] us.toArray))]
  (fun p hp => by simp only [List.mem_cons, List.not_mem_nil, or_false] at hp; rcases hp with rfl | rfl <;> exact ⟨_, rfl, rfl⟩) fun w₀ w₁ hw hw₁ => ?_
 subst hw
 refine GS ?_
 refine TL ?_
 refine RA rfl ?_
 refine RN ?_
 refine A.seq ?_
 refine GS ?_
 refine TL ?_
 refine RM rfl ?_
 refine RBS rfl rfl rfl (.bool true) (by rfl) ?_
 refine RN ?_
 refine A.yes rfl ?_
 refine GE ?_
 refine TN 1 ?_
 refine RM rfl ?_
 refine RN ?_
 refine ⟨_, _, eff_callL (n := 10) (vs := []) (us := us) ha' rfl Args.nil (subL_M (KC 1000090 rfl KN) (vbL_cons (vL rfl) vbL_nil)) (fun _ => vbL_cons (vL rfl) vbL_nil) hgB (fun κ a w h => selfL_self (h.of 1000098 _ rfl)) (by decide) (by decide) (leftG_v (t := 0) rfl (leftG_w (t := 1000099) rfl leftG_nil)), fun i hi => ?_⟩
 obtain ⟨m, _, _, hm, hGi⟩ := hi
 have hGw := hG _ _ _ (hm 1000099 _ _ rfl) hGi
 refine TL ?_
 refine RN ?_
 refine EN ?_
 refine GS ?_
 refine TL ?_
 refine RM rfl ?_
 refine RA rfl ?_
 refine RN ?_
 refine A.ret ?_
 exact End.wroteL1 (.inl rfl) rfl (kw := 1000099) rfl i rfl hGw (by decide) (lookL_cons (k := 1000091) (vL rfl) rfl lookL_nil)
set_option maxHeartbeats 1000000 in
theorem Message1_fnL (B : Nat) (p0 p1 p2 p3 : Nat) (i : Nat) (s c : Nat) (hs : s < 4294967296) (hc : c < 18446744073709551616) (d : List UInt8) (hd : d.length = 32) (hi : i < 4096) (hB3 : B ≤ p3) : FnL Tryz.prog 42 B [(49, p3)] [ptr p0, ptr p1, ptr p2, ptr p3] [(1000003, blk p0 3 [nI i]), (1000004, blk p1 30 [nW s, nQ c]), (1000005, blk p2 33 (d.map byteV)), (1000008, blk p3 49 [.slice none 0 0])] (fun m b => m ≤ b) (fun _ => .tuple #[]) (fun b => [(1000008, blk p3 49 [.slice (some ⟨b, 0, none⟩) 48 48]), (1000013, blk b 5 ((msgL i s c d).map byteV))]) := by
 refine FnL.of (n := 8) (kw := 1000099) (ks := 1000098) Tryz.func42 rfl (by kernel_rfl) Tryz.ntmps42 (by simp) (by decide) (vbL_cons (vL rfl) (vbL_cons (vL rfl) (vbL_cons (vL rfl) (vbL_cons (vL rfl) vbL_nil)))) (vL rfl) (vL rfl) [(0, .v (ptr p0)), (1, .v (ptr p1)), (2, .v (ptr p2)), (3, .v (ptr p3))]
  (fun p hp => by simp only [List.mem_cons, List.not_mem_nil, or_false] at hp; rcases hp with rfl | rfl | rfl | rfl <;> exact ⟨_, rfl, rfl⟩) fun w₀ w₁ hw hw₁ => ?_
 have hBp3 : w₀.heap.size ≤ p3 := by omega
 refine GE ?_
 refine TN 3 ?_
 refine RS (ok_loadV (s := 1000003) (by decide) Tryz.underlying3 rfl rfl rfl (rfl)) ?_
 refine RS (ok_loadA (s := 1000004) (by decide) Tryz.underlying30 rfl (size30.of (rfl)) rfl rfl) ?_
 refine RS (ok_loadA (s := 1000005) (by decide) Tryz.underlying33 rfl (size33.of (by rw [List.length_map, hd])) rfl rfl) ?_
 refine RN ?_
 refine ⟨_, _, eff_nameFL (c := 48) (by rw [List.length_map, msgL_length hd]) (n := 8) (d := 7) (k := 1000007) rfl rfl (fun B' => ok_callB (messageOf_fnB i s c hs hc d hd hi) (fun _ _ => fresh_mono _ _) (A3 rfl rfl rfl)) (by decide) (by decide), fun b7 hb7 => ?_⟩
 have hBb7 := hb7.1
 have hlt_p0_b7 : p0 < b7 := hb7.2.1 1000003 _ _ _ rfl
 have hlt_p1_b7 : p1 < b7 := hb7.2.1 1000004 _ _ _ rfl
 have hlt_p2_b7 : p2 < b7 := hb7.2.1 1000005 _ _ _ rfl
 have hlt_p3_b7 : p3 < b7 := hb7.2.1 1000008 _ _ _ rfl
 have hw_b7 := hb7.2.2 1000099 _ _ rfl
 refine TF 4 ?_
 refine RN ?_
 refine ⟨_, eff_storeS (n := 8) (s := 1000008) info49 rfl rfl rfl hBp3 rfl (by simp) (LT 1000003 rfl (LT 1000004 rfl (LT 1000005 rfl (LT 1000007 rfl (LeftS.cons (t := 1000099) rfl (Surv.wroteL (by simp)) LN))))), ?_⟩
 refine TL ?_
 refine RN ?_
 exact End.wroteL0 (.inr rfl) rfl (kw := 1000099) rfl b7 hw_b7 (by decide) (lookL_cons (k := 1000008) (vL rfl) rfl (lookL_cons (k := 1000007) (vL rfl) rfl lookL_nil))
set_option maxHeartbeats 1000000 in
theorem Message_ok (i : Nat) (s c : Nat) (hs : s < 4294967296) (hc : c < 18446744073709551616) (d : List UInt8) (hd : d.length = 32) (hi : i < 4096) : FnB Tryz.prog 25 [.v (nI i), .v (aggV ([nW s, nQ c])), .v (aggV (d.map byteV))] (fun B => newD B 5 (fun b => .tuple #[.slice (some ⟨b, 0, none⟩) 48 48, .int .i64 0]) ((msgL i s c d).map byteV)) := by
 refine FnB.of Tryz.func25 rfl (by kernel_rfl) Tryz.ntmps25 (by simp) (fun w => [(0, .v (nI i)), (1, .v (aggV ([nW s, nQ c]))), (2, .v (aggV (d.map byteV)))]) (fun w => (Start.v rfl (Start.v rfl (Start.v rfl Start.nil)))) fun w₀ => ?_
 refine GS ?_
 refine TN 0 ?_
 refine RN ?_
 refine ⟨_, _, eff_box1 (n := 16) (d := 3) (k := 1000003) rfl rfl (by decide), fun b3 hb3 => ?_⟩
 have hBb3 := hb3.1
 refine TN 1 ?_
 refine RN ?_
 refine ⟨_, _, eff_box (n := 16) (d := 4) (k := 1000004) rfl (by decide), fun b4 hb4 => ?_⟩
 have hBb4 := hb4.1
 refine TN 2 ?_
 refine RN ?_
 refine ⟨_, _, eff_box (n := 16) (d := 5) (k := 1000005) rfl (by decide), fun b5 hb5 => ?_⟩
 have hBb5 := hb5.1
 refine TL ?_
 refine RA rfl ?_
 refine RA rfl ?_
 refine RN ?_
 refine GS ?_
 refine TN 0 ?_
 refine RN ?_
 refine ⟨_, _, eff_alloc (n := 16) (d := 8) (k := 1000008) zero49 (by decide), fun b8 hb8 => ?_⟩
 have hBb8 := hb8.1
 refine TL ?_
 refine RN ?_
 refine GS ?_
 refine TN 3 ?_
 refine RS (ok_loadV (s := 1000003) (by decide) Tryz.underlying3 rfl rfl rfl (rfl)) ?_
 refine RS (ok_call (checkIndex_ok (i : Int) (by omega) (by omega)) (A1 rfl)) ?_
 refine RS (ok_makeFuncN [ptr b3, ptr b4, ptr b5, ptr b8] ⟨rfl, rfl, rfl, rfl, trivial⟩) ?_
 refine RN ?_
 refine ⟨_, _, eff_callLN (n := 16) (vs := [.int .i64 0, .func (.func 42) #[] #[ptr b3, ptr b4, ptr b5, ptr b8]]) (us := []) (behind_fnL (fun _ _ _ h1 h2 => Nat.le_trans h1 h2) (fun p hp => by simp only [List.mem_cons, List.not_mem_nil, or_false] at hp; rcases hp with rfl <;> assumption) (Message1_fnL w₀.heap.size b3 b4 b5 b8 i s c hs hc d hd hi hBb8)) rfl (A2 rfl rfl) (subL_M (KC 1000003 rfl (KC 1000004 rfl (KC 1000005 rfl (KC 1000008 rfl KN)))) (vbL_cons (vL rfl) (vbL_cons (vL rfl) (vbL_cons (vL rfl) (vbL_cons (vL rfl) vbL_nil))))) (fun _ => (vbL_cons (vL rfl) (vbL_cons (vL rfl) vbL_nil))) (gsL_cons (k := 1000008) hBb8 rfl gsL_nil) (by decide) (by decide) (LeftL.one (LV 8 rfl (LT 1000003 rfl (LT 1000004 rfl (LT 1000005 rfl LN))))), fun b13 hb13 => ?_⟩
 have hBb13 := hb13.1
 have hlt_b3_b13 : b3 < b13 := hb13.2.1 1000003 _ _ _ rfl
 have hlt_b4_b13 : b4 < b13 := hb13.2.1 1000004 _ _ _ rfl
 have hlt_b5_b13 : b5 < b13 := hb13.2.1 1000005 _ _ _ rfl
 have hlt_b8_b13 : b8 < b13 := hb13.2.1 1000008 _ _ _ rfl
 refine TL ?_
 refine RA rfl ?_
 refine RN ?_
 refine GS ?_
 refine TL ?_
 refine RS (ok_loadV (s := 1000008) (by decide) Tryz.underlying49 rfl rfl rfl (rfl)) ?_
 refine RM rfl ?_
 refine RA rfl ?_
 refine RA rfl ?_
 refine RN ?_
 refine A.ret ?_
 exact End.newTT (kg := 1000013) rfl rfl rfl rfl hBb13 rfl rfl
theorem Message_bad (i : Int) (h : i < 0 ∨ 4096 ≤ i) (s c : Nat) (hs : s < 4294967296) (hc : c < 18446744073709551616) (d : List UInt8) (hd : d.length = 32)  : Fn Tryz.prog 25 [.v (.int .i64 i), .v (aggV ([nW s, nQ c])), .v (aggV (d.map byteV))] (.v (.tuple #[.slice none 0 0, .int .i64 1])) := by
 refine Fn.of Tryz.func25 rfl (by kernel_rfl) Tryz.ntmps25 (by simp) (fun w => [(0, .v (.int .i64 i)), (1, .v (aggV ([nW s, nQ c]))), (2, .v (aggV (d.map byteV)))]) (fun w => (Start.v rfl (Start.v rfl (Start.v rfl Start.nil)))) fun w₀ => ?_
 refine GS ?_
 refine TN 0 ?_
 refine RN ?_
 refine ⟨_, _, eff_box1 (n := 16) (d := 3) (k := 1000003) rfl rfl (by decide), fun b3 hb3 => ?_⟩
 have hBb3 := hb3.1
 refine TN 1 ?_
 refine RN ?_
 refine ⟨_, _, eff_box (n := 16) (d := 4) (k := 1000004) rfl (by decide), fun b4 hb4 => ?_⟩
 have hBb4 := hb4.1
 refine TN 2 ?_
 refine RN ?_
 refine ⟨_, _, eff_box (n := 16) (d := 5) (k := 1000005) rfl (by decide), fun b5 hb5 => ?_⟩
 have hBb5 := hb5.1
 refine TL ?_
 refine RA rfl ?_
 refine RA rfl ?_
 refine RN ?_
 refine GS ?_
 refine TN 0 ?_
 refine RN ?_
 refine ⟨_, _, eff_alloc (n := 16) (d := 8) (k := 1000008) zero49 (by decide), fun b8 hb8 => ?_⟩
 have hBb8 := hb8.1
 refine TL ?_
 refine RN ?_
 refine GS ?_
 refine TL ?_
 refine RS (ok_loadV (s := 1000003) (by decide) Tryz.underlying3 rfl rfl rfl (rfl)) ?_
 refine RS (ok_call (checkIndex_no i h) (A1 rfl)) ?_
 refine RS (ok_makeFuncN [ptr b3, ptr b4, ptr b5, ptr b8] ⟨rfl, rfl, rfl, rfl, trivial⟩) ?_
 refine RS (ok_call (behind_no 1 (by decide) _) (A2 rfl rfl)) ?_
 refine RA rfl ?_
 refine RN ?_
 refine GS ?_
 refine TL ?_
 refine RS (ok_loadV (s := 1000008) (by decide) Tryz.underlying49 rfl rfl rfl (rfl)) ?_
 refine RM rfl ?_
 refine RA rfl ?_
 refine RA rfl ?_
 refine RN ?_
 refine A.ret ?_
 exact End.ret2V rfl rfl rfl
set_option maxHeartbeats 1000000 in
theorem Parse_err (l : List UInt8) (e : Int) (he : e ≠ 0) (hc : Fn Tryz.prog 33 [byt l] (.v (.int .i64 e))) : Fn Tryz.prog 16 [byt l] (.v (.tuple #[.int .i64 0, aggV [.int .u32 0, .int .u64 0], aggV (List.replicate 32 (.int .u8 0)), .int .i64 e])) := by
 refine Fn.of Tryz.func16 rfl (by kernel_rfl) Tryz.ntmps16 (by simp) (fun w => [(0, old w.heap.size (byt l))]) (fun w => (Start.old rfl Start.nil)) fun w₀ => ?_
 refine A.nameS (t := 0) (k := 1000200) rfl fun A₀ m₀ => ?_
 refine GS ?_
 refine TN 0 ?_
 refine RN ?_
 refine ⟨_, _, eff_box1 (n := 14) (d := 1) (k := 1000001) rfl rfl (by decide), fun b1 hb1 => ?_⟩
 have hBb1 := hb1.1
 refine TN 1 ?_
 refine RN ?_
 refine ⟨_, _, eff_alloc (n := 14) (d := 2) (k := 1000002) zero3 (by decide), fun b2 hb2 => ?_⟩
 have hBb2 := hb2.1
 refine TN 2 ?_
 refine RN ?_
 refine ⟨_, _, eff_alloc (n := 14) (d := 3) (k := 1000003) zero30 (by decide), fun b3 hb3 => ?_⟩
 have hBb3 := hb3.1
 refine TN 3 ?_
 refine RN ?_
 refine ⟨_, _, eff_alloc (n := 14) (d := 4) (k := 1000004) zero33 (by decide), fun b4 hb4 => ?_⟩
 have hBb4 := hb4.1
 refine TL ?_
 refine RA rfl ?_
 refine RN ?_
 refine GS ?_
 refine TL ?_
 refine RS (OpOk.valO (ok_loadV (s := 1000001) (by decide) Tryz.underlying49 rfl rfl rfl (rfl)) (k := 1000200) (by decide) rfl) ?_
 refine RS (ok_call hc (Args.cons rfl (Le.old _ _) Args.nil)) ?_
 refine RS (ok_makeFuncN [ptr b1, ptr b2, ptr b3, ptr b4] ⟨rfl, rfl, rfl, rfl, trivial⟩) ?_
 refine RS (ok_call (behind_no e he _) (A2 rfl rfl)) ?_
 refine RA rfl ?_
 refine RN ?_
 refine A.regsN (E1 := ((10, .v _) :: (11, .v _) :: (12, .v _) :: (13, .v _) :: (5, .v _) :: _)) [_, _, _, _, _, _, _, _] (by kernel_rfl) (by kernel_rfl) (by kernel_rfl) (Nops.cons (_) rfl (.inr ⟨_, rfl, .inl rfl⟩) FromN.all (nop_loadV (s := 1000002) (vL rfl) Tryz.underlying3 rfl rfl rfl) (Nops.cons (_) rfl (.inr ⟨_, rfl, .inl rfl⟩) FromN.all (nop_loadA (s := 1000003) (vL rfl) Tryz.underlying30 rfl (size30.of (rfl)) rfl rfl) (Nops.cons (_) rfl (.inr ⟨_, rfl, .inl rfl⟩) FromN.all (nop_loadA (s := 1000004) (vL rfl) Tryz.underlying33 rfl (size33.of (rfl)) rfl rfl) (Nops.cons (_) rfl (.inr ⟨_, rfl, .inl rfl⟩) FromN.all (nop_move rfl) (Nops.cons ((10, .v _) :: _) rfl (.inl rfl) (FromN.op 0 (by kernel_rfl) rfl rfl FromN.all) (nop_storeV (s := 1000002) (vL rfl) info3 rfl rfl rfl rfl) (Nops.cons ((11, .v _) :: _) rfl (.inl rfl) (FromN.op 1 (by kernel_rfl) rfl rfl FromN.all) (nop_storeA (s := 1000003) (vL rfl) (size30.of (rfl)) rfl rfl (rfl) rfl) (Nops.cons ((12, .v _) :: _) rfl (.inl rfl) (FromN.op 2 (by kernel_rfl) rfl rfl FromN.all) (nop_storeA (s := 1000004) (vL rfl) (size33.of (rfl)) rfl rfl (rfl) rfl) (Nops.cons ((13, .v _) :: _) rfl (.inr ⟨_, rfl, .inr rfl⟩) (FromN.op 3 (by kernel_rfl) rfl rfl FromN.all) (nop_assign rfl) Nops.nil)))))))) (FromE.op 0 rfl rfl (FromE.op 1 rfl rfl (FromE.op 2 rfl rfl (FromE.op 3 rfl rfl (FromE.op 7 rfl rfl FromE.all))))) ?_
 refine A.ret ?_
 exact End.cell4 (s₀ := 1000002) (s := 1000003) (s₂ := 1000004) rfl Tryz.underlying3 rfl Tryz.underlying30 rfl (size30.of rfl) Tryz.underlying33 rfl (size33.of (rfl)) rfl rfl rfl rfl rfl rfl rfl
set_option maxHeartbeats 1000000 in
theorem Seal1_fnL (B : Nat) (p0 p1 p2 p3 p4 p5 : Nat) (htab : 1 < B) (f : Nat → Nat) (mk : List UInt8) (hf : By f) (hmk : mk.length = 32) (i : Nat) (s c : Nat) (hs : s < 4294967296) (hc : c < 18446744073709551616) (d : List UInt8) (hd : d.length = 32) (hi : i < 4096) (hB3 : B ≤ p3) (hB5 : B ≤ p5) (hne : p2 < p3) : FnL Tryz.prog 19 B [(33, p3), (34, p5)] [ptr p0, ptr p1, ptr p2, ptr p3, ptr p4, ptr p5] [(1000004, blk p0 26 (rowV 16 f ++ mk.map byteV)), (1000006, blk p1 30 [nW s, nQ c]), (1000007, blk p2 33 (d.map byteV)), (1000008, blk p3 33 (List.replicate 32 (.int .u8 0))), (1000005, blk p4 3 [nI i]), (1000009, blk p5 34 (List.replicate 32 (.int .u8 0))), (1900000, tab 0 (H8.list.map u32V)), (1900001, tab 1 (K64.map u32V))] (fun _ _ => True) (fun _ => .tuple #[]) (fun b => [(1000008, blk p3 33 ((xorK f s c 0 d).map byteV)), (1000009, blk p5 34 ((hmac mk (msgL i s c (xorK f s c 0 d))).map byteV))]) := by
 refine FnL.of (n := 15) (kw := 1000099) (ks := 1000098) Tryz.func19 rfl (by kernel_rfl) Tryz.ntmps19 (by simp) (by decide) (vbL_cons (vL rfl) (vbL_cons (vL rfl) (vbL_cons (vL rfl) (vbL_cons (vL rfl) (vbL_cons (vL rfl) (vbL_cons (vL rfl) (vbL_cons (vL rfl) (vbL_cons (vL rfl) vbL_nil)))))))) (vL rfl) (vL rfl) [(0, .v (ptr p0)), (1, .v (ptr p1)), (2, .v (ptr p2)), (3, .v (ptr p3)), (4, .v (ptr p4)), (5, .v (ptr p5))]
  (fun p hp => by simp only [List.mem_cons, List.not_mem_nil, or_false] at hp; rcases hp with rfl | rfl | rfl | rfl | rfl | rfl <;> exact ⟨_, rfl, rfl⟩) fun w₀ w₁ hw hw₁ => ?_
 have hBp3 : w₀.heap.size ≤ p3 := by omega
 have hBp5 : w₀.heap.size ≤ p5 := by omega
 refine GS ?_
 refine TF 4 ?_
 refine RS (ok_loadA (s := 1000004) (by decide) Tryz.underlying26 rfl (size26.of (KM_len f hmk)) rfl rfl) ?_
 refine RS (ok_loadA (s := 1000006) (by decide) Tryz.underlying30 rfl (size30.of (rfl)) rfl rfl) ?_
 refine RS (ok_loadA (s := 1000007) (by decide) Tryz.underlying33 rfl (size33.of (by rw [List.length_map, hd])) rfl rfl) ?_
 refine RS (ok_call (combined_fn f mk hf hmk s c hs hc d hd) (A3 rfl rfl rfl)) ?_
 refine RN ?_
 refine ⟨_, eff_storeA (n := 15) (s := 1000008) (size33.of (by rw [List.length_map, xorK_length, hd])) rfl rfl (all_bytes _) hBp3 rfl (by simp [xorK_length, hd]) (LV 0 rfl (LV 1 rfl (LV 3 rfl (LV 4 rfl (LV 5 rfl (LT 1000004 rfl (LT 1000005 rfl (LT 1000006 rfl (LB 1000007 rfl (LT 1000009 rfl (LeftS.cons (t := 1000099) rfl (Surv.wroteL (by simp)) (LeftS.cons (t := 1900000) rfl (Surv.tab (by omega)) (LeftS.cons (t := 1900001) rfl (Surv.tab (by omega)) LN))))))))))))), ?_⟩
 refine TL ?_
 refine RN ?_
 refine GE ?_
 refine TF 5 ?_
 refine RS (ok_loadA (s := 1000004) (by decide) Tryz.underlying26 rfl (size26.of (KM_len f hmk)) rfl rfl) ?_
 refine RS (ok_loadV (s := 1000005) (by decide) Tryz.underlying3 rfl rfl rfl (rfl)) ?_
 refine RS (ok_loadA (s := 1000006) (by decide) Tryz.underlying30 rfl (size30.of (rfl)) rfl rfl) ?_
 refine RS (ok_loadA (s := 1000008) (by decide) Tryz.underlying33 rfl (size33.of (by rw [List.length_map, xorK_length, hd])) rfl rfl) ?_
 refine RS (ok_callM (tagOf_fn f mk hf hmk i s c hs hc (xorK f s c 0 d) (by rw [xorK_length, hd]) hi) (Sub.cons rfl (Sub.cons rfl KN)) tabs_v (Args.cons rfl (Le.refl _) (A3 rfl rfl rfl))) ?_
 refine RN ?_
 refine ⟨_, eff_storeA (n := 15) (s := 1000009) (size34.of (by rw [List.length_map, hmac_length])) rfl rfl (all_bytes _) hBp5 rfl (by simp [hmac_length]) (LT 1000004 rfl (LT 1000005 rfl (LT 1000006 rfl (LT 1000007 rfl (LT 1000008 rfl (LeftS.cons (t := 1000099) rfl (Surv.wroteL (by simp)) (LeftS.cons (t := 1900000) rfl (Surv.tab (by omega)) (LeftS.cons (t := 1900001) rfl (Surv.tab (by omega)) LN)))))))), ?_⟩
 refine TL ?_
 refine RN ?_
 exact End.wroteL0 (.inr rfl) rfl (kw := 1000099) rfl 0 trivial (by decide) (lookL_cons (k := 1000008) (vL rfl) rfl (lookL_cons (k := 1000009) (vL rfl) rfl lookL_nil))
set_option maxHeartbeats 2000000 in
theorem Seal_ok (f : Nat → Nat) (mk : List UInt8) (hf : By f) (hmk : mk.length = 32) (i : Nat) (s c : Nat) (hs : s < 4294967296) (hc : c < 18446744073709551616) (d : List UInt8) (hd : d.length = 32) (hi : i < 4096) : FnM Tryz.prog 7 tabs [.v (aggV ((rowV 16 f ++ mk.map byteV))), .v (nI i), .v (aggV ([nW s, nQ c])), .v (aggV (d.map byteV))] (.v (.tuple #[aggV ((xorK f s c 0 d).map byteV), aggV ((hmac mk (msgL i s c (xorK f s c 0 d))).map byteV), .int .i64 0])) := by
 refine FnM.of Tryz.func7 rfl (by kernel_rfl) Tryz.ntmps7 (by simp) (by decide) (fun w => [(0, .v (aggV ((rowV 16 f ++ mk.map byteV)))), (1, .v (nI i)), (2, .v (aggV ([nW s, nQ c]))), (3, .v (aggV (d.map byteV))), (1900000, tab 0 (H8.list.map u32V)), (1900001, tab 1 (K64.map u32V))]) (fun w => (StartM.v rfl (StartM.v rfl (StartM.v rfl (StartM.v rfl (StartM.m (by simp [tabs]) (by decide) (StartM.m (by simp [tabs]) (by decide) StartM.nil))))))) fun w₀ hM => ?_
 have htab := tabs_hi hM
 refine GS ?_
 refine TN 0 ?_
 refine RN ?_
 refine ⟨_, _, eff_box (n := 18) (d := 4) (k := 1000004) rfl (by decide), fun b4 hb4 => ?_⟩
 have hBb4 := hb4.1
 refine TN 1 ?_
 refine RN ?_
 refine ⟨_, _, eff_box1 (n := 18) (d := 5) (k := 1000005) rfl rfl (by decide), fun b5 hb5 => ?_⟩
 have hBb5 := hb5.1
 refine TN 2 ?_
 refine RN ?_
 refine ⟨_, _, eff_box (n := 18) (d := 6) (k := 1000006) rfl (by decide), fun b6 hb6 => ?_⟩
 have hBb6 := hb6.1
 refine TN 3 ?_
 refine RN ?_
 refine ⟨_, _, eff_box (n := 18) (d := 7) (k := 1000007) rfl (by decide), fun b7 hb7 => ?_⟩
 have hBb7 := hb7.1
 refine TN 4 ?_
 refine RN ?_
 refine ⟨_, _, eff_alloc (n := 18) (d := 8) (k := 1000008) zero33 (by decide), fun b8 hb8 => ?_⟩
 have hBb8 := hb8.1
 have hlt_b7_b8 : b7 < b8 := hb8.2 1000007 _ _ _ rfl
 refine TN 5 ?_
 refine RN ?_
 refine ⟨_, _, eff_alloc (n := 18) (d := 9) (k := 1000009) zero34 (by decide), fun b9 hb9 => ?_⟩
 have hBb9 := hb9.1
 refine TL ?_
 refine RA rfl ?_
 refine RN ?_
 refine GS ?_
 refine TF 3 ?_
 refine RS (ok_loadV (s := 1000005) (by decide) Tryz.underlying3 rfl rfl rfl (rfl)) ?_
 refine RS (ok_call (checkIndex_ok (i : Int) (by omega) (by omega)) (A1 rfl)) ?_
 refine RS (ok_makeFuncN [ptr b4, ptr b6, ptr b7, ptr b8, ptr b5, ptr b9] ⟨rfl, rfl, rfl, rfl, rfl, rfl, trivial⟩) ?_
 refine RN ?_
 refine ⟨_, eff_callL1 (n := 18) (vs := [.int .i64 0, .func (.func 19) #[] #[ptr b4, ptr b6, ptr b7, ptr b8, ptr b5, ptr b9]]) (us := []) (behind_fnL (fun _ _ _ _ _ => trivial) (fun p hp => by simp only [List.mem_cons, List.not_mem_nil, or_false] at hp; rcases hp with rfl | rfl <;> assumption) (Seal1_fnL w₀.heap.size b4 b6 b7 b8 b5 b9 htab f mk hf hmk i s c hs hc d hd hi hBb8 hBb9 (by omega))) rfl (A2 rfl rfl) (subL_M (KC 1000004 rfl (KC 1000006 rfl (KC 1000007 rfl (KC 1000008 rfl (KC 1000005 rfl (KC 1000009 rfl (KC 1900000 rfl (KC 1900001 rfl KN)))))))) (vbL_cons (vL rfl) (vbL_cons (vL rfl) (vbL_cons (vL rfl) (vbL_cons (vL rfl) (vbL_cons (vL rfl) (vbL_cons (vL rfl) (vbL_cons (vL rfl) (vbL_cons (vL rfl) vbL_nil))))))))) (vbL_cons (vL rfl) (vbL_cons (vL rfl) vbL_nil)) (gsL_cons (k := 1000008) hBb8 rfl (gsL_cons (k := 1000009) hBb9 rfl gsL_nil)) (by decide) (by decide) (LeftL.cons (LV 8 rfl (LV 9 rfl (LT 1000004 rfl (LT 1000005 rfl (LT 1000006 rfl (LB 1000007 rfl (LeftS.cons (t := 1900000) rfl (Surv.tab (by omega)) (LeftS.cons (t := 1900001) rfl (Surv.tab (by omega)) LN)))))))) (LeftL.one (LV 8 rfl (LV 9 rfl (LT 1000004 rfl (LT 1000005 rfl (LT 1000006 rfl (LT 1000007 rfl (LeftS.cons (t := 1900000) rfl (Surv.tab (by omega)) (LeftS.cons (t := 1900001) rfl (Surv.tab (by omega)) LN)))))))))), ?_⟩
 refine TL ?_
 refine RA rfl ?_
 refine RN ?_
 refine A.regsN (E1 := ((15, .v _) :: (16, .v _) :: (17, .v _) :: (10, .v _) :: _)) [_, _, _, _, _, _] (by kernel_rfl) (by kernel_rfl) (by kernel_rfl) (Nops.cons (_) rfl (.inr ⟨_, rfl, .inl rfl⟩) FromN.all (nop_loadA (s := 1000008) (vL rfl) Tryz.underlying33 rfl (size33.of (by rw [List.length_map, xorK_length, hd])) rfl rfl) (Nops.cons (_) rfl (.inr ⟨_, rfl, .inl rfl⟩) FromN.all (nop_loadA (s := 1000009) (vL rfl) Tryz.underlying34 rfl (size34.of (by rw [List.length_map, hmac_length])) rfl rfl) (Nops.cons (_) rfl (.inr ⟨_, rfl, .inl rfl⟩) FromN.all (nop_move rfl) (Nops.cons ((15, .v _) :: _) rfl (.inl rfl) (FromN.op 0 (by kernel_rfl) rfl rfl FromN.all) (nop_storeA (s := 1000008) (vL rfl) (size33.of (by rw [List.length_map, xorK_length, hd])) rfl rfl (all_bytes _) rfl) (Nops.cons ((16, .v _) :: _) rfl (.inl rfl) (FromN.op 1 (by kernel_rfl) rfl rfl FromN.all) (nop_storeA (s := 1000009) (vL rfl) (size34.of (by rw [List.length_map, hmac_length])) rfl rfl (all_bytes _) rfl) (Nops.cons ((17, .v _) :: _) rfl (.inr ⟨_, rfl, .inr rfl⟩) (FromN.op 2 (by kernel_rfl) rfl rfl FromN.all) (nop_assign rfl) Nops.nil)))))) (FromE.op 0 rfl rfl (FromE.op 1 rfl rfl (FromE.op 2 rfl rfl (FromE.op 5 rfl rfl FromE.all)))) ?_
 refine A.ret ?_
 exact End.cell3 (s := 1000008) (s₂ := 1000009) rfl Tryz.underlying33 rfl (size33.of (by rw [List.length_map, xorK_length, hd])) Tryz.underlying34 rfl (size34.of (by rw [List.length_map, hmac_length])) rfl rfl rfl rfl rfl
set_option maxHeartbeats 1000000 in
theorem Seal_bad (f : Nat → Nat) (mk : List UInt8) (hf : By f) (hmk : mk.length = 32) (i : Int) (h : i < 0 ∨ 4096 ≤ i) (s c : Nat) (hs : s < 4294967296) (hc : c < 18446744073709551616) (d : List UInt8) (hd : d.length = 32)  : FnM Tryz.prog 7 tabs [.v (aggV ((rowV 16 f ++ mk.map byteV))), .v (.int .i64 i), .v (aggV ([nW s, nQ c])), .v (aggV (d.map byteV))] (.v (.tuple #[aggV (List.replicate 32 (.int .u8 0)), aggV (List.replicate 32 (.int .u8 0)), .int .i64 1])) := by
 refine FnM.of Tryz.func7 rfl (by kernel_rfl) Tryz.ntmps7 (by simp) (by decide) (fun w => [(0, .v (aggV ((rowV 16 f ++ mk.map byteV)))), (1, .v (.int .i64 i)), (2, .v (aggV ([nW s, nQ c]))), (3, .v (aggV (d.map byteV))), (1900000, tab 0 (H8.list.map u32V)), (1900001, tab 1 (K64.map u32V))]) (fun w => (StartM.v rfl (StartM.v rfl (StartM.v rfl (StartM.v rfl (StartM.m (by simp [tabs]) (by decide) (StartM.m (by simp [tabs]) (by decide) StartM.nil))))))) fun w₀ hM => ?_
 have htab := tabs_hi hM
 refine GS ?_
 refine TN 0 ?_
 refine RN ?_
 refine ⟨_, _, eff_box (n := 18) (d := 4) (k := 1000004) rfl (by decide), fun b4 hb4 => ?_⟩
 have hBb4 := hb4.1
 refine TN 1 ?_
 refine RN ?_
 refine ⟨_, _, eff_box1 (n := 18) (d := 5) (k := 1000005) rfl rfl (by decide), fun b5 hb5 => ?_⟩
 have hBb5 := hb5.1
 refine TN 2 ?_
 refine RN ?_
 refine ⟨_, _, eff_box (n := 18) (d := 6) (k := 1000006) rfl (by decide), fun b6 hb6 => ?_⟩
 have hBb6 := hb6.1
 refine TN 3 ?_
 refine RN ?_
 refine ⟨_, _, eff_box (n := 18) (d := 7) (k := 1000007) rfl (by decide), fun b7 hb7 => ?_⟩
 have hBb7 := hb7.1
 refine TN 4 ?_
 refine RN ?_
 refine ⟨_, _, eff_alloc (n := 18) (d := 8) (k := 1000008) zero33 (by decide), fun b8 hb8 => ?_⟩
 have hBb8 := hb8.1
 have hlt_b7_b8 : b7 < b8 := hb8.2 1000007 _ _ _ rfl
 refine TN 5 ?_
 refine RN ?_
 refine ⟨_, _, eff_alloc (n := 18) (d := 9) (k := 1000009) zero34 (by decide), fun b9 hb9 => ?_⟩
 have hBb9 := hb9.1
 refine TL ?_
 refine RA rfl ?_
 refine RN ?_
 refine GS ?_
 refine TL ?_
 refine RS (ok_loadV (s := 1000005) (by decide) Tryz.underlying3 rfl rfl rfl (rfl)) ?_
 refine RS (ok_call (checkIndex_no i h) (A1 rfl)) ?_
 refine RS (ok_makeFuncN [ptr b4, ptr b6, ptr b7, ptr b8, ptr b5, ptr b9] ⟨rfl, rfl, rfl, rfl, rfl, rfl, trivial⟩) ?_
 refine RS (ok_call (behind_no 1 (by decide) _) (A2 rfl rfl)) ?_
 refine RA rfl ?_
 refine RN ?_
 refine A.regsN (E1 := ((15, .v _) :: (16, .v _) :: (17, .v _) :: (10, .v _) :: _)) [_, _, _, _, _, _] (by kernel_rfl) (by kernel_rfl) (by kernel_rfl) (Nops.cons (_) rfl (.inr ⟨_, rfl, .inl rfl⟩) FromN.all (nop_loadA (s := 1000008) (vL rfl) Tryz.underlying33 rfl (size33.of (rfl)) rfl rfl) (Nops.cons (_) rfl (.inr ⟨_, rfl, .inl rfl⟩) FromN.all (nop_loadA (s := 1000009) (vL rfl) Tryz.underlying34 rfl (size34.of (rfl)) rfl rfl) (Nops.cons (_) rfl (.inr ⟨_, rfl, .inl rfl⟩) FromN.all (nop_move rfl) (Nops.cons ((15, .v _) :: _) rfl (.inl rfl) (FromN.op 0 (by kernel_rfl) rfl rfl FromN.all) (nop_storeA (s := 1000008) (vL rfl) (size33.of (rfl)) rfl rfl (rfl) rfl) (Nops.cons ((16, .v _) :: _) rfl (.inl rfl) (FromN.op 1 (by kernel_rfl) rfl rfl FromN.all) (nop_storeA (s := 1000009) (vL rfl) (size34.of (rfl)) rfl rfl (rfl) rfl) (Nops.cons ((17, .v _) :: _) rfl (.inr ⟨_, rfl, .inr rfl⟩) (FromN.op 2 (by kernel_rfl) rfl rfl FromN.all) (nop_assign rfl) Nops.nil)))))) (FromE.op 0 rfl rfl (FromE.op 1 rfl rfl (FromE.op 2 rfl rfl (FromE.op 5 rfl rfl FromE.all)))) ?_
 refine A.ret ?_
 exact End.cell3 (s := 1000008) (s₂ := 1000009) rfl Tryz.underlying33 rfl (size33.of (rfl)) Tryz.underlying34 rfl (size34.of (rfl)) rfl rfl rfl rfl rfl
set_option maxHeartbeats 1000000 in
theorem Open1_fnL (B : Nat) (p0 p1 p2 p3 : Nat) (f : Nat → Nat) (mk : List UInt8) (hf : By f) (hmk : mk.length = 32) (s c : Nat) (hs : s < 4294967296) (hc : c < 18446744073709551616) (d : List UInt8) (hd : d.length = 32)  (hB3 : B ≤ p3) (hne : p2 < p3) : FnL Tryz.prog 23 B [(33, p3)] [ptr p0, ptr p1, ptr p2, ptr p3] [(1000005, blk p0 26 (rowV 16 f ++ mk.map byteV)), (1000007, blk p1 30 [nW s, nQ c]), (1000008, blk p2 33 (d.map byteV)), (1000012, blk p3 33 (List.replicate 32 (.int .u8 0)))] (fun _ _ => True) (fun _ => .tuple #[]) (fun b => [(1000012, blk p3 33 ((xorK f s c 0 d).map byteV))]) := by
 refine FnL.of (n := 8) (kw := 1000099) (ks := 1000098) Tryz.func23 rfl (by kernel_rfl) Tryz.ntmps23 (by simp) (by decide) (vbL_cons (vL rfl) (vbL_cons (vL rfl) (vbL_cons (vL rfl) (vbL_cons (vL rfl) vbL_nil)))) (vL rfl) (vL rfl) [(0, .v (ptr p0)), (1, .v (ptr p1)), (2, .v (ptr p2)), (3, .v (ptr p3))]
  (fun p hp => by simp only [List.mem_cons, List.not_mem_nil, or_false] at hp; rcases hp with rfl | rfl | rfl | rfl <;> exact ⟨_, rfl, rfl⟩) fun w₀ w₁ hw hw₁ => ?_
 have hBp3 : w₀.heap.size ≤ p3 := by omega
 refine GE ?_
 refine TF 4 ?_
 refine RS (ok_loadA (s := 1000005) (by decide) Tryz.underlying26 rfl (size26.of (KM_len f hmk)) rfl rfl) ?_
 refine RS (ok_loadA (s := 1000007) (by decide) Tryz.underlying30 rfl (size30.of (rfl)) rfl rfl) ?_
 refine RS (ok_loadA (s := 1000008) (by decide) Tryz.underlying33 rfl (size33.of (by rw [List.length_map, hd])) rfl rfl) ?_
 refine RS (ok_call (combined_fn f mk hf hmk s c hs hc d hd) (A3 rfl rfl rfl)) ?_
 refine RN ?_
 refine ⟨_, eff_storeA (n := 8) (s := 1000012) (size33.of (by rw [List.length_map, xorK_length, hd])) rfl rfl (all_bytes _) hBp3 rfl (by simp [xorK_length, hd]) (LT 1000005 rfl (LT 1000007 rfl (LB 1000008 rfl (LeftS.cons (t := 1000099) rfl (Surv.wroteL (by simp)) LN)))), ?_⟩
 refine TL ?_
 refine RN ?_
 exact End.wroteL0 (.inr rfl) rfl (kw := 1000099) rfl 0 trivial (by decide) (lookL_cons (k := 1000012) (vL rfl) rfl lookL_nil)
set_option maxHeartbeats 1000000 in
theorem Open_int (f : Nat → Nat) (mk : List UInt8) (hf : By f) (hmk : mk.length = 32) (i : Nat) (s c : Nat) (hs : s < 4294967296) (hc : c < 18446744073709551616) (d : List UInt8) (hd : d.length = 32) (hi : i < 4096)(tg : List UInt8) (htg : tg.length = 32) (h : tg ≠ (hmac mk (msgL i s c d))) : FnM Tryz.prog 9 tabs [.v (aggV ((rowV 16 f ++ mk.map byteV))), .v (nI i), .v (aggV ([nW s, nQ c])), .v (aggV (d.map byteV)), .v (aggV (tg.map byteV))] (.v (.tuple #[aggV (List.replicate 32 (.int .u8 0)), .int .i64 9])) := by
 refine FnM.of Tryz.func9 rfl (by kernel_rfl) Tryz.ntmps9 (by simp) (by decide) (fun w => [(0, .v (aggV ((rowV 16 f ++ mk.map byteV)))), (1, .v (nI i)), (2, .v (aggV ([nW s, nQ c]))), (3, .v (aggV (d.map byteV))), (4, .v (aggV (tg.map byteV))), (1900000, tab 0 (H8.list.map u32V)), (1900001, tab 1 (K64.map u32V))]) (fun w => (StartM.v rfl (StartM.v rfl (StartM.v rfl (StartM.v rfl (StartM.v rfl (StartM.m (by simp [tabs]) (by decide) (StartM.m (by simp [tabs]) (by decide) StartM.nil)))))))) fun w₀ hM => ?_
 have htab := tabs_hi hM
 refine GS ?_
 refine TN 0 ?_
 refine RN ?_
 refine ⟨_, _, eff_box (n := 24) (d := 5) (k := 1000005) rfl (by decide), fun b5 hb5 => ?_⟩
 have hBb5 := hb5.1
 refine TN 1 ?_
 refine RN ?_
 refine ⟨_, _, eff_box (n := 24) (d := 7) (k := 1000007) rfl (by decide), fun b7 hb7 => ?_⟩
 have hBb7 := hb7.1
 refine TN 2 ?_
 refine RN ?_
 refine ⟨_, _, eff_box (n := 24) (d := 8) (k := 1000008) rfl (by decide), fun b8 hb8 => ?_⟩
 have hBb8 := hb8.1
 refine TN 3 ?_
 refine RN ?_
 refine ⟨_, _, eff_box (n := 24) (d := 9) (k := 1000009) rfl (by decide), fun b9 hb9 => ?_⟩
 have hBb9 := hb9.1
 refine TN 4 ?_
 refine RN ?_
 refine ⟨_, _, eff_alloc (n := 24) (d := 10) (k := 1000010) zero33 (by decide), fun b10 hb10 => ?_⟩
 have hBb10 := hb10.1
 have hlt_b8_b10 : b8 < b10 := hb10.2 1000008 _ _ _ rfl
 refine TL ?_
 refine RA rfl ?_
 refine RN ?_
 refine GS ?_
 refine TN 0 ?_
 refine RN ?_
 refine ⟨_, _, eff_alloc (n := 24) (d := 12) (k := 1000012) zero33 (by decide), fun b12 hb12 => ?_⟩
 have hBb12 := hb12.1
 have hlt_b8_b12 : b8 < b12 := hb12.2 1000008 _ _ _ rfl
 have hlt_b10_b12 : b10 < b12 := hb12.2 1000010 _ _ _ rfl
 refine TL ?_
 refine RN ?_
 refine GS ?_
 refine TL ?_
 refine RS (ok_loadA (s := 1000005) (by decide) Tryz.underlying26 rfl (size26.of (KM_len f hmk)) rfl rfl) ?_
 refine RM rfl ?_
 refine RS (ok_loadA (s := 1000007) (by decide) Tryz.underlying30 rfl (size30.of (rfl)) rfl rfl) ?_
 refine RS (ok_loadA (s := 1000008) (by decide) Tryz.underlying33 rfl (size33.of (by rw [List.length_map, hd])) rfl rfl) ?_
 refine RS (ok_loadA (s := 1000009) (by decide) Tryz.underlying34 rfl (size34.of (by rw [List.length_map, htg])) rfl rfl) ?_
 refine RS (ok_callM (checkTag_int f mk hf hmk i s c hs hc d hd hi tg htg h) (Sub.cons rfl (Sub.cons rfl KN)) tabs_v (Args.cons rfl (Le.refl _) (Args.cons rfl (Le.refl _) (A3 rfl rfl rfl)))) ?_
 refine RS (ok_makeFuncN [ptr b5, ptr b7, ptr b8, ptr b12] ⟨rfl, rfl, rfl, rfl, trivial⟩) ?_
 refine RS (ok_call (behind_no 9 (by decide) _) (A2 rfl rfl)) ?_
 refine RA rfl ?_
 refine RN ?_
 refine GS ?_
 refine TF 2 ?_
 refine RS (ok_loadA (s := 1000012) (by decide) Tryz.underlying33 rfl (size33.of (rfl)) rfl rfl) ?_
 refine RM rfl ?_
 refine RN ?_
 refine ⟨_, eff_storeA (n := 24) (s := 1000010) (size33.of (rfl)) rfl rfl (rfl) hBb10 rfl (rfl) (LV 10 rfl (LV 23 rfl (LT 1000005 rfl (LT 1000007 rfl (LB 1000008 rfl (LT 1000009 rfl (LB 1000012 rfl (LeftS.cons (t := 1900000) rfl (Surv.tab (by omega)) (LeftS.cons (t := 1900001) rfl (Surv.tab (by omega)) LN))))))))), ?_⟩
 refine TL ?_
 refine RA rfl ?_
 refine RN ?_
 refine A.ret ?_
 exact End.cellV (s := 1000010) rfl Tryz.underlying33 rfl (size33.of (rfl)) rfl rfl rfl
set_option maxHeartbeats 1000000 in
theorem Open_ok (f : Nat → Nat) (mk : List UInt8) (hf : By f) (hmk : mk.length = 32) (i : Nat) (s c : Nat) (hs : s < 4294967296) (hc : c < 18446744073709551616) (d : List UInt8) (hd : d.length = 32) (hi : i < 4096)(tg : List UInt8) (htg : tg.length = 32) (h : tg = (hmac mk (msgL i s c d))) : FnM Tryz.prog 9 tabs [.v (aggV ((rowV 16 f ++ mk.map byteV))), .v (nI i), .v (aggV ([nW s, nQ c])), .v (aggV (d.map byteV)), .v (aggV (tg.map byteV))] (.v (.tuple #[aggV ((xorK f s c 0 d).map byteV), .int .i64 0])) := by
 refine FnM.of Tryz.func9 rfl (by kernel_rfl) Tryz.ntmps9 (by simp) (by decide) (fun w => [(0, .v (aggV ((rowV 16 f ++ mk.map byteV)))), (1, .v (nI i)), (2, .v (aggV ([nW s, nQ c]))), (3, .v (aggV (d.map byteV))), (4, .v (aggV (tg.map byteV))), (1900000, tab 0 (H8.list.map u32V)), (1900001, tab 1 (K64.map u32V))]) (fun w => (StartM.v rfl (StartM.v rfl (StartM.v rfl (StartM.v rfl (StartM.v rfl (StartM.m (by simp [tabs]) (by decide) (StartM.m (by simp [tabs]) (by decide) StartM.nil)))))))) fun w₀ hM => ?_
 have htab := tabs_hi hM
 refine GS ?_
 refine TN 0 ?_
 refine RN ?_
 refine ⟨_, _, eff_box (n := 24) (d := 5) (k := 1000005) rfl (by decide), fun b5 hb5 => ?_⟩
 have hBb5 := hb5.1
 refine TN 1 ?_
 refine RN ?_
 refine ⟨_, _, eff_box (n := 24) (d := 7) (k := 1000007) rfl (by decide), fun b7 hb7 => ?_⟩
 have hBb7 := hb7.1
 refine TN 2 ?_
 refine RN ?_
 refine ⟨_, _, eff_box (n := 24) (d := 8) (k := 1000008) rfl (by decide), fun b8 hb8 => ?_⟩
 have hBb8 := hb8.1
 refine TN 3 ?_
 refine RN ?_
 refine ⟨_, _, eff_box (n := 24) (d := 9) (k := 1000009) rfl (by decide), fun b9 hb9 => ?_⟩
 have hBb9 := hb9.1
 refine TN 4 ?_
 refine RN ?_
 refine ⟨_, _, eff_alloc (n := 24) (d := 10) (k := 1000010) zero33 (by decide), fun b10 hb10 => ?_⟩
 have hBb10 := hb10.1
 have hlt_b8_b10 : b8 < b10 := hb10.2 1000008 _ _ _ rfl
 refine TL ?_
 refine RA rfl ?_
 refine RN ?_
 refine GS ?_
 refine TN 0 ?_
 refine RN ?_
 refine ⟨_, _, eff_alloc (n := 24) (d := 12) (k := 1000012) zero33 (by decide), fun b12 hb12 => ?_⟩
 have hBb12 := hb12.1
 have hlt_b8_b12 : b8 < b12 := hb12.2 1000008 _ _ _ rfl
 have hlt_b10_b12 : b10 < b12 := hb12.2 1000010 _ _ _ rfl
 refine TL ?_
 refine RN ?_
 refine GS ?_
 refine TF 7 ?_
 refine RS (ok_loadA (s := 1000005) (by decide) Tryz.underlying26 rfl (size26.of (KM_len f hmk)) rfl rfl) ?_
 refine RM rfl ?_
 refine RS (ok_loadA (s := 1000007) (by decide) Tryz.underlying30 rfl (size30.of (rfl)) rfl rfl) ?_
 refine RS (ok_loadA (s := 1000008) (by decide) Tryz.underlying33 rfl (size33.of (by rw [List.length_map, hd])) rfl rfl) ?_
 refine RS (ok_loadA (s := 1000009) (by decide) Tryz.underlying34 rfl (size34.of (by rw [List.length_map, htg])) rfl rfl) ?_
 refine RS (ok_callM (checkTag_ok f mk hf hmk i s c hs hc d hd hi tg htg h) (Sub.cons rfl (Sub.cons rfl KN)) tabs_v (Args.cons rfl (Le.refl _) (Args.cons rfl (Le.refl _) (A3 rfl rfl rfl)))) ?_
 refine RS (ok_makeFuncN [ptr b5, ptr b7, ptr b8, ptr b12] ⟨rfl, rfl, rfl, rfl, trivial⟩) ?_
 refine RN ?_
 refine ⟨_, eff_callL1 (n := 24) (vs := [.int .i64 0, .func (.func 23) #[] #[ptr b5, ptr b7, ptr b8, ptr b12]]) (us := []) (behind_fnL (fun _ _ _ _ _ => trivial) (fun p hp => by simp only [List.mem_cons, List.not_mem_nil, or_false] at hp; rcases hp with rfl <;> assumption) (Open1_fnL w₀.heap.size b5 b7 b8 b12 f mk hf hmk s c hs hc d hd hBb12 (by omega))) rfl (A2 rfl rfl) (subL_M (KC 1000005 rfl (KC 1000007 rfl (KC 1000008 rfl (KC 1000012 rfl KN)))) (vbL_cons (vL rfl) (vbL_cons (vL rfl) (vbL_cons (vL rfl) (vbL_cons (vL rfl) vbL_nil))))) (vbL_cons (vL rfl) vbL_nil) (gsL_cons (k := 1000012) hBb12 rfl gsL_nil) (by decide) (by decide) (LeftL.one (LV 10 rfl (LV 12 rfl (LT 1000005 rfl (LT 1000007 rfl (LB 1000008 rfl (LT 1000009 rfl (LB 1000010 rfl (LeftS.cons (t := 1900000) rfl (Surv.tab (by omega)) (LeftS.cons (t := 1900001) rfl (Surv.tab (by omega)) LN)))))))))), ?_⟩
 refine TL ?_
 refine RA rfl ?_
 refine RN ?_
 refine GS ?_
 refine TF 2 ?_
 refine RS (ok_loadA (s := 1000012) (by decide) Tryz.underlying33 rfl (size33.of (by rw [List.length_map, xorK_length, hd])) rfl rfl) ?_
 refine RM rfl ?_
 refine RN ?_
 refine ⟨_, eff_storeA (n := 24) (s := 1000010) (size33.of (by rw [List.length_map, xorK_length, hd])) rfl rfl (all_bytes _) hBb10 rfl (by simp [xorK_length, hd]) (LV 10 rfl (LV 23 rfl (LT 1000005 rfl (LT 1000007 rfl (LB 1000008 rfl (LT 1000009 rfl (LB 1000012 rfl (LeftS.cons (t := 1900000) rfl (Surv.tab (by omega)) (LeftS.cons (t := 1900001) rfl (Surv.tab (by omega)) LN))))))))), ?_⟩
 refine TL ?_
 refine RA rfl ?_
 refine RN ?_
 refine A.ret ?_
 exact End.cellV (s := 1000010) rfl Tryz.underlying33 rfl (size33.of (by rw [List.length_map, xorK_length, hd])) rfl rfl rfl
end Go.Proofs.YthadcgkcgpinhaaGreatDoor
