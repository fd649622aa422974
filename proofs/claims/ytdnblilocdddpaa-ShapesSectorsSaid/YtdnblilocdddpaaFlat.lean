/-
  OWN WORDS: types made of integers, arrays and structs alone: the kinds of their cells, their equality, parameters of such types. Nothing of one program stands here.
-/
import Derived.Test.YtdnblilocdddpaaLaw2
import Derived.Test.YtdnblilocdddpaaEq
namespace Go.Proofs.Ytdnblilocdddpaa
open Go Go.RowKit Go.ChangeShapes Go.WideShapes

def flatFs (F : TypeId → Option (List IntKind)) : List Field → Nat → Option (List IntKind)
  | [], _ => some []
  | f :: r, o => match F f.type with
    | none => none
    | some ks => if f.offset = o ∧ f.name ≠ "_" then (flatFs F r (o + ks.length)).map (ks ++ ·) else none
/-- The kinds of a type's cells, where it is made of integers, arrays and structs alone. -/
def flat (P : Program) : Nat → TypeId → Option (List IntKind)
  | 0, _ => none
  | n + 1, t => if P.cellsOf t = 0 then none else match P.underlying t with
    | some (.int k) => if P.cellsOf t = 1 then some [k] else none
    | some (.array len e) => match flat P n e with
      | none => none
      | some ks => if P.cellsOf t = len * ks.length then some (List.replicate len ks).flatten else none
    | some (.struct fs) => match flatFs (flat P n) fs.toList 0 with
      | none => none
      | some ks => if P.cellsOf t = ks.length ∧ P.stoodInHeld t = false then some ks else none
    | _ => none
def isAggT (P : Program) (t : TypeId) : Bool := match P.underlying t with | some (.struct _) => true | some (.array _ _) => true | _ => false
def packT (P : Program) (t : TypeId) (xs : List Value) : Value := if isAggT P t then .agg xs.toArray else xs.headD undef
/-- Cells of these kinds, of whose numbers Q holds. -/
def Kin (Q : IntKind → Int → Prop) (ks : List IntKind) (xs : List Value) : Prop := xs.length = ks.length ∧ ∀ (i : Nat) (k : IntKind), ks[i]? = some k → ∃ n, xs[i]? = some (.int k n) ∧ Q k n
section
variable {Q : IntKind → Int → Prop}
theorem Kin.nil {xs : List Value} (h : Kin Q [] xs) : xs = [] := List.eq_nil_of_length_eq_zero h.1
theorem Kin.one {k : IntKind} {xs : List Value} (h : Kin Q [k] xs) : ∃ n, xs = [.int k n] ∧ Q k n := by
  obtain ⟨n, h1, h2⟩ := h.2 0 k rfl
  refine ⟨n, ?_, h2⟩
  have hl : xs.length = 1 := h.1
  match xs, hl, h1 with
  | [x], _, h1 => simp at h1; rw [h1]
theorem Kin.split {a b : List IntKind} {xs : List Value} (h : Kin Q (a ++ b) xs) : Kin Q a (xs.take a.length) ∧ Kin Q b (xs.drop a.length) := by
  have hl : xs.length = a.length + b.length := by simpa using h.1
  refine ⟨⟨by simp; omega, fun i k hk => ?_⟩, ⟨by simp; omega, fun i k hk => ?_⟩⟩
  · have hi : i < a.length := (List.getElem?_eq_some_iff.1 hk).1
    obtain ⟨n, h1, h2⟩ := h.2 i k (by rw [List.getElem?_append_left hi]; exact hk)
    exact ⟨n, by rw [List.getElem?_take, if_pos hi]; exact h1, h2⟩
  · obtain ⟨n, h1, h2⟩ := h.2 (a.length + i) k (by rw [List.getElem?_append_right (by omega), Nat.add_sub_cancel_left]; exact hk)
    exact ⟨n, by rw [List.getElem?_drop]; exact h1, h2⟩
theorem Kin.join {a b : List IntKind} {xs ys : List Value} (h : Kin Q a xs) (h' : Kin Q b ys) : Kin Q (a ++ b) (xs ++ ys) := by
  refine ⟨by simp [h.1, h'.1], fun i k hk => ?_⟩
  rcases Nat.lt_or_ge i a.length with hi | hi
  · rw [List.getElem?_append_left hi] at hk
    rw [List.getElem?_append_left (by rw [h.1]; exact hi)]
    exact h.2 i k hk
  · rw [List.getElem?_append_right hi] at hk
    rw [List.getElem?_append_right (by rw [h.1]; exact hi), h.1]
    exact h'.2 _ k hk
theorem Kin.append {a b : List IntKind} {xs : List Value} (h : Kin Q (a ++ b) xs) : ∃ x y, xs = x ++ y ∧ Kin Q a x ∧ Kin Q b y :=
  ⟨_, _, (List.take_append_drop a.length xs).symm, h.split.1, h.split.2⟩
theorem Kin.cons {k : IntKind} {b : List IntKind} {xs : List Value} (h : Kin Q (k :: b) xs) : ∃ n y, xs = .int k n :: y ∧ Q k n ∧ Kin Q b y := by
  obtain ⟨x, y, rfl, h1, h2⟩ := Kin.append (a := [k]) h
  obtain ⟨n, rfl, h3⟩ := h1.one
  exact ⟨n, y, rfl, h3, h2⟩
theorem Kin.mono {R : IntKind → Int → Prop} {ks : List IntKind} {xs : List Value} (h : Kin Q ks xs) (hq : ∀ k n, Q k n → R k n) : Kin R ks xs :=
  ⟨h.1, fun i k hk => by obtain ⟨n, h1, h2⟩ := h.2 i k hk; exact ⟨n, h1, hq _ _ h2⟩⟩
theorem Kin.rep {ks : List IntKind} : ∀ {n : Nat} {xs : List Value}, Kin Q (List.replicate n ks).flatten xs → ∀ i, i < n → Kin Q ks ((xs.drop (i * ks.length)).take ks.length)
  | 0, _, _, i, hi => by omega
  | n + 1, xs, h, 0, _ => by
    rw [List.replicate_succ, List.flatten_cons] at h
    simpa using h.split.1
  | n + 1, xs, h, i + 1, hi => by
    rw [List.replicate_succ, List.flatten_cons] at h
    have := Kin.rep h.split.2 i (by omega)
    rwa [List.drop_drop, show ks.length + i * ks.length = (i + 1) * ks.length from by rw [Nat.succ_mul]; omega] at this
end
theorem rep_length {ks : List IntKind} (n : Nat) : (List.replicate n ks).flatten.length = n * ks.length := by
  induction n with
  | zero => simp
  | succ n ih => rw [List.replicate_succ, List.flatten_cons, List.length_append, ih, Nat.succ_mul]; omega
section
variable {P : Program}
theorem flat_cells : ∀ {n : Nat} {t : TypeId} {ks : List IntKind}, flat P n t = some ks → P.cellsOf t = ks.length ∧ 0 < ks.length := by
  intro n t ks h
  cases n with
  | zero => cases h
  | succ n =>
    unfold flat at h
    split at h
    · cases h
    · rename_i h0
      have hk : P.cellsOf t = ks.length := by
        split at h
        · split at h
          · rename_i h1; injection h with h; subst h; exact h1
          · cases h
        · split at h
          · cases h
          · split at h
            · rename_i h1; injection h with h; subst h; rw [h1, rep_length]
            · cases h
        · split at h
          · cases h
          · split at h
            · rename_i h1; injection h with h; subst h; exact h1.1
            · cases h
        · cases h
      exact ⟨hk, by omega⟩
theorem info_of_cells {t : TypeId} (h : 0 < P.cellsOf t) : ∃ i, P.info? t = some i := by
  unfold Program.cellsOf at h
  cases hi : P.info? t with
  | none => rw [hi] at h; simp at h
  | some i => exact ⟨i, rfl⟩
theorem run_isAgg {t : TypeId} {td : TypeDesc} (h : P.underlying t = some td) (w : World) : (isAgg t).run P w = .ok (isAggT P t) w := by
  unfold isAgg isAggT
  rw [Sem.run_bind, run_underlying h w, h]
  cases td <;> simp
theorem flat_under {n : Nat} {t : TypeId} {ks : List IntKind} (h : flat P n t = some ks) : ∃ td, P.underlying t = some td := by
  cases n with
  | zero => cases h
  | succ n =>
    unfold flat at h
    split at h
    · cases h
    · cases hu : P.underlying t with
      | none => rw [hu] at h; cases h
      | some td => exact ⟨td, rfl⟩
/-- A part of an aggregate. -/
theorem flat_part {n : Nat} {t : TypeId} {ks : List IntKind} (h : flat P n t = some ks) (zs : List Value) (o : Nat) (ho : o + ks.length ≤ zs.length) (w : World) : (part t zs.toArray o).run P w = .ok (packT P t ((zs.drop o).take ks.length)) w := by
  obtain ⟨td, hu⟩ := flat_under h
  obtain ⟨hc, hp⟩ := flat_cells h
  obtain ⟨i, hi⟩ := info_of_cells (P := P) (t := t) (by omega)
  simp only [part, Sem.run_bind, run_isAgg hu, Result.andThen_ok]
  unfold packT
  cases hb : isAggT P t with
  | true =>
    simp only [if_true, Sem.run_bind, run_sizeOf w hi, Result.andThen_ok, hc]
    simp
  | false =>
    have hlt : o < zs.length := by omega
    have : ((zs.drop o).take ks.length).headD undef = zs[o] := by
      rw [List.drop_eq_getElem_cons hlt]
      obtain ⟨m, hm⟩ : ∃ m, ks.length = m + 1 := ⟨ks.length - 1, by omega⟩
      rw [hm]
      rfl
    rw [if_neg (by simp), if_neg (by simp), this]
    simp [hlt]
theorem two_parts {xs ys : List Value} {o a b : Nat} (hx : o + (a + b) ≤ xs.length) (hy : o + (a + b) ≤ ys.length) :
    (xs.drop o).take (a + b) = (ys.drop o).take (a + b) ↔ (xs.drop o).take a = (ys.drop o).take a ∧ (xs.drop (o + a)).take b = (ys.drop (o + a)).take b := by
  rw [List.take_add, List.take_add, List.drop_drop, List.drop_drop]
  constructor
  · intro h
    exact List.append_inj h (by simp; omega)
  · rintro ⟨h1, h2⟩
    rw [h1, h2]
/-- Equality of values of such a type. -/
theorem flat_eq : ∀ (n : Nat) {t : TypeId} {ks : List IntKind}, flat P n t = some ks → ∀ (d : Nat) (w : World) (xs ys : List Value), Kin (fun _ _ => True) ks xs → Kin (fun _ _ => True) ks ys →
    ∃ r : Bool, (Op.equalIn (d + n) t (packT P t xs) (packT P t ys)).run P w = .ok r w ∧ (r = true ↔ xs = ys) := by
  intro n
  induction n with
  | zero => intro t ks h; cases h
  | succ n ih =>
    intro t ks h d w xs ys hx hy
    have hks := flat_cells h
    unfold flat at h
    split at h
    · cases h
    · split at h
      · rename_i k hu
        split at h
        · injection h with h; subst h
          obtain ⟨a, rfl, _⟩ := hx.one
          obtain ⟨b, rfl, _⟩ := hy.one
          have hg : isAggT P t = false := by unfold isAggT; rw [hu]
          refine ⟨a == b, ?_, by simp⟩
          unfold packT
          rw [hg]
          exact run_equalIn_int w (d + n) t k k a b hu
        · cases h
      · rename_i len e hu
        split at h
        · cases h
        · rename_i ks' hf
          split at h
          · injection h with h; subst h
            have hg : isAggT P t = true := by unfold isAggT; rw [hu]
            obtain ⟨hc, hp⟩ := flat_cells hf
            obtain ⟨i, hi⟩ := info_of_cells (P := P) (t := e) (by omega)
            unfold packT
            rw [hg, if_pos rfl, if_pos rfl, ← Nat.add_assoc, run_equalIn_array (w := w) (d + n) xs.toArray ys.toArray hu hi, hc]
            have hxl : xs.length = len * ks'.length := by rw [hx.1, rep_length]
            have hyl : ys.length = len * ks'.length := by rw [hy.1, rep_length]
            have key : ∀ is : List Nat, (∀ i ∈ is, i < len) → ∃ r : Bool, (Op.eqItems (d + n) e ks'.length xs.toArray ys.toArray is).run P w = .ok r w ∧ (r = true ↔ ∀ i ∈ is, (xs.drop (i * ks'.length)).take ks'.length = (ys.drop (i * ks'.length)).take ks'.length) := by
              intro is
              induction is with
              | nil => intro _; exact ⟨true, by simp [Op.eqItems], by simp⟩
              | cons j is ihs =>
                intro hj
                have hjl := hj j List.mem_cons_self
                have hb : j * ks'.length + ks'.length ≤ len * ks'.length := by
                  rw [← Nat.succ_mul]; exact Nat.mul_le_mul_right _ hjl
                obtain ⟨r, hr, hri⟩ := ihs fun i hi => hj i (List.mem_cons_of_mem _ hi)
                obtain ⟨r', hr', hri'⟩ := ih hf d w _ _ (hx.rep j hjl) (hy.rep j hjl)
                simp only [Op.eqItems, Sem.run_bind, flat_part hf xs (j * ks'.length) (by omega) w, flat_part hf ys (j * ks'.length) (by omega) w, Result.andThen_ok, hr']
                cases r' with
                | true => exact ⟨r, by simpa using hr, by simp [hri, hri'.1 rfl]⟩
                | false => exact ⟨false, by simp, by simpa using fun h => absurd (hri'.2 h) (by simp)⟩
            obtain ⟨r, hr, hri⟩ := key (List.range len) fun i hi => List.mem_range.1 hi
            refine ⟨r, hr, hri.trans ⟨fun h => ?_, fun h => by subst h; exact fun _ _ => rfl⟩⟩
            apply List.ext_getElem?
            intro j
            rcases Nat.lt_or_ge j (len * ks'.length) with hj | hj
            · have h1 := h (j / ks'.length) (List.mem_range.2 ((Nat.div_lt_iff_lt_mul hp).2 hj))
              have h2 := congrArg (·[j % ks'.length]?) h1
              simp only [List.getElem?_take, if_pos (Nat.mod_lt _ hp), List.getElem?_drop] at h2
              rwa [Nat.mul_comm, Nat.div_add_mod] at h2
            · rw [List.getElem?_eq_none (by omega), List.getElem?_eq_none (by omega)]
          · cases h
      · rename_i fs hu
        split at h
        · cases h
        · rename_i ks' hf
          split at h
          · rename_i hst
            injection h with h; subst h
            have hg : isAggT P t = true := by unfold isAggT; rw [hu]
            have hfo : P.fieldsOf t = fs := by unfold Program.fieldsOf; rw [hu]
            unfold packT
            rw [hg, if_pos rfl, if_pos rfl, ← Nat.add_assoc, run_equalIn_struct w (d + n) t xs.toArray ys.toArray (by rw [hfo]; exact hu) hst.2, hfo]
            have key : ∀ (l : List Field) (o : Nat) (kz : List IntKind), flatFs (flat P n) l o = some kz → ∀ ka : List IntKind, Kin (fun _ _ => True) (ka ++ kz) xs → Kin (fun _ _ => True) (ka ++ kz) ys → ka.length = o →
                ∃ r : Bool, (Op.eqFields (d + n) xs.toArray ys.toArray l).run P w = .ok r w ∧ (r = true ↔ (xs.drop o).take kz.length = (ys.drop o).take kz.length) := by
              intro l
              induction l with
              | nil =>
                intro o kz hl ka _ _ _
                unfold flatFs at hl
                injection hl with hl; subst hl
                exact ⟨true, by simp [Op.eqFields], by simp⟩
              | cons f l ihl =>
                intro o kz hl ka hxa hya ho
                unfold flatFs at hl
                split at hl
                · cases hl
                · rename_i kf hff
                  split at hl
                  · rename_i hfn
                    obtain ⟨kr, hr, rfl⟩ := Option.map_eq_some_iff.1 hl
                    have lx : xs.length = o + (kf.length + kr.length) := by rw [hxa.1]; simp; omega
                    have ly : ys.length = o + (kf.length + kr.length) := by rw [hya.1]; simp; omega
                    obtain ⟨r, h1, h2⟩ := ihl (o + kf.length) kr hr (ka ++ kf) (by rw [List.append_assoc]; exact hxa) (by rw [List.append_assoc]; exact hya) (by simp; omega)
                    have kx := hxa.split.2.split.1
                    have ky := hya.split.2.split.1
                    rw [ho] at kx ky
                    obtain ⟨r', h3, h4⟩ := ih hff d w _ _ kx ky
                    simp only [Op.eqFields, if_pos hfn.2, Sem.run_bind, hfn.1, flat_part hff xs o (by omega) w, flat_part hff ys o (by omega) w, Result.andThen_ok, h3]
                    rw [List.length_append, two_parts (by omega) (by omega)]
                    cases r' with
                    | true => exact ⟨r, by simpa using h1, by simp [h2, h4.1 rfl]⟩
                    | false => exact ⟨false, by simp, by simpa using fun h => absurd (h4.2 h) (by simp)⟩
                  · cases hl
            obtain ⟨r, h1, h2⟩ := key fs.toList 0 ks' hf [] hx hy rfl
            refine ⟨r, h1, ?_⟩
            rwa [List.drop_zero, List.drop_zero, List.take_of_length_le (Nat.le_of_eq hx.1), List.take_of_length_le (Nat.le_of_eq hy.1)] at h2
          · cases h
      · cases h
variable {B : Nat} {E : Env} {dst : Option Tmp} {ty : TypeId} {pos : String} {after : Array Edge} {guard : Option (Nat × Bool)}
theorem equal_flat {t : TypeId} {ks : List IntKind} (n : Nat) (hf : flat P n t = some ks) (hn : n ≤ 10000) (hg : isAggT P t = true) {xs ys : List Value} (hx : Kin (fun _ _ => True) ks xs) (hy : Kin (fun _ _ => True) ks ys) (b : Bool) (hb : b = true ↔ xs = ys) (w : World) :
    (Op.equalIn 10000 t (.agg xs.toArray) (.agg ys.toArray)).run P w = .ok b w := by
  obtain ⟨r, hr, hri⟩ := flat_eq (P := P) n hf (10000 - n) w xs ys hx hy
  unfold packT at hr
  rw [hg, if_pos rfl, if_pos rfl, Nat.sub_add_cancel hn] at hr
  have : r = b := by
    rw [← hb] at hri
    cases r <;> cases b <;> simp_all
  rw [← this]; exact hr
/-- Two values of such a type that have several cells: whether they are equal. -/
theorem ok_eqlT {t t' : TypeId} {ks : List IntKind} {x y : Operand} {xs ys : List Value} (n : Nat) (b : Bool) (hf : flat P n t = some ks) (hn : n ≤ 10000) (hg : isAggT P t = true) (hm : P.eqGuardType P.depth t = false) (hx : E.at x = some (.v (aggV xs))) (hy : E.at y = some (.v (aggV ys)))
    (hkx : Kin (fun _ _ => True) ks xs) (hky : Kin (fun _ _ => True) ks ys) (hb : b = true ↔ xs = ys) : OpOk P B ⟨dst, .binOp .eql t x y t', ty, pos, after, guard⟩ E (.v (.bool b)) := fun ρ w _ _ hρ => by
  have h1 : ρ x = .agg xs.toArray := hρ x (by simp [Op.operands]) _ hx
  have h2 : ρ y = .agg ys.toArray := hρ y (by simp [Op.operands]) _ hy
  have := equal_flat (P := P) n hf hn hg hkx hky b hb w
  exact out_val (w' := w) (by simp [execOp, h1, h2, Sem.run_bind, run_eqGuard_agg, hm, run_eql_struct, this]) ⟨Grow.refl w, rfl⟩
theorem ok_neqT {t t' : TypeId} {ks : List IntKind} {x y : Operand} {xs ys : List Value} (n : Nat) (b : Bool) (hf : flat P n t = some ks) (hn : n ≤ 10000) (hg : isAggT P t = true) (hm : P.eqGuardType P.depth t = false) (hx : E.at x = some (.v (aggV xs))) (hy : E.at y = some (.v (aggV ys)))
    (hkx : Kin (fun _ _ => True) ks xs) (hky : Kin (fun _ _ => True) ks ys) (hb : b = true ↔ xs = ys) : OpOk P B ⟨dst, .binOp .neq t x y t', ty, pos, after, guard⟩ E (.v (.bool (!b))) := fun ρ w _ _ hρ => by
  have h1 : ρ x = .agg xs.toArray := hρ x (by simp [Op.operands]) _ hx
  have h2 : ρ y = .agg ys.toArray := hρ y (by simp [Op.operands]) _ hy
  have := equal_flat (P := P) n hf hn hg hkx hky b hb w
  exact out_val (w' := w) (by simp [execOp, h1, h2, Sem.run_bind, run_eqGuard_agg, hm, run_neq_struct, this]) ⟨Grow.refl w, rfl⟩
end
theorem kin_nil : Kin (fun _ _ => True) [] [] := ⟨rfl, fun i k h => by simp at h⟩
theorem kin_cons {k : IntKind} {n : Int} {ks : List IntKind} {xs : List Value} (h : Kin (fun _ _ => True) ks xs) : Kin (fun _ _ => True) (k :: ks) (.int k n :: xs) :=
  Kin.join (a := [k]) (xs := [.int k n]) ⟨rfl, fun i k' h' => by
    match i, h' with
    | 0, h' => simp at h'; subst h'; exact ⟨n, rfl, trivial⟩
    | i + 1, h' => simp at h'⟩ h

/-! ### Parameters -/
section
variable {H : Type} {enc : TypeId × Value → H} {P : Program} {w : World} {base : Nat} {spare : Nat → Bool} {held : Bool}
theorem trod_flat : ∀ (n : Nat) {t : TypeId} {ks : List IntKind}, flat P n t = some ks → ∀ {fuel : Nat} {cs : List Value} {x : DataW H × List MemPlace}, DataW.trod enc P w base spare held fuel t cs = some x → Kin (fun k m => (Lit.int k m).wf = true) ks cs := by
  intro n
  induction n with
  | zero => intro t ks h; cases h
  | succ n ih =>
    intro t ks h fuel cs x ht
    have hks := flat_cells h
    unfold flat at h
    split at h
    · cases h
    · split at h
      · rename_i k hu
        split at h
        · injection h with h; subst h
          obtain ⟨a, rfl, _, h3⟩ := DataW.trod_int hu ht
          exact ⟨rfl, fun i k' hk => by
            match i, hk with
            | 0, hk => simp at hk; subst hk; exact ⟨a, rfl, h3⟩
            | i + 1, hk => simp at hk⟩
        · cases h
      · rename_i len e hu
        split at h
        · cases h
        · rename_i ks' hf
          split at h
          · injection h with h; subst h
            obtain ⟨xs, m, _, _, hlen, hxl, hel⟩ := DataW.trod_array hu ht
            obtain ⟨hc, hp⟩ := flat_cells hf
            have hl : cs.length = len * ks'.length := by rw [hlen, hks.1, rep_length]
            refine ⟨by rw [hl, rep_length], fun i k hk => ?_⟩
            have hi : i < len * ks'.length := by rw [← rep_length]; exact (List.getElem?_eq_some_iff.1 hk).1
            have hj : i / ks'.length < len := (Nat.div_lt_iff_lt_mul hp).2 hi
            have h1 := hel (i / ks'.length) hj
            rw [List.getElem?_eq_getElem (by omega), hc] at h1
            have h2 := ih hf h1
            have hr : ∀ (m j : Nat), j < m * ks'.length → (List.replicate m ks').flatten[j]? = ks'[j % ks'.length]? := by
              intro m
              induction m with
              | zero => intro j hj; simp at hj
              | succ m ihm =>
                intro j hj
                rw [List.replicate_succ, List.flatten_cons]
                rcases Nat.lt_or_ge j ks'.length with h | h
                · rw [List.getElem?_append_left h, Nat.mod_eq_of_lt h]
                · rw [List.getElem?_append_right h, ihm _ (by rw [Nat.succ_mul] at hj; omega), Nat.mod_eq_sub_mod h]
            rw [hr len i hi] at hk
            obtain ⟨a, h3, h4⟩ := h2.2 _ k hk
            refine ⟨a, ?_, h4⟩
            rw [List.getElem?_take, if_pos (Nat.mod_lt _ hp), List.getElem?_drop, Nat.mul_comm, Nat.div_add_mod] at h3
            exact h3
          · cases h
      · rename_i fs hu
        split at h
        · cases h
        · rename_i ks' hf
          split at h
          · injection h with h; subst h
            obtain ⟨xs, m, _, _, hlen, hxl, hel⟩ := DataW.trod_struct hu ht
            have key : ∀ (l : List Field) (o j : Nat) (kz : List IntKind), flatFs (flat P n) l o = some kz → fs.toList.drop j = l → o + kz.length = cs.length → Kin (fun k m => (Lit.int k m).wf = true) kz (cs.drop o) := by
              intro l
              induction l with
              | nil =>
                intro o j kz hl _ ho
                unfold flatFs at hl
                injection hl with hl; subst hl
                simp only [List.length_nil, Nat.add_zero] at ho
                exact ⟨by simp [ho], fun i k h => by simp at h⟩
              | cons f l ihl =>
                intro o j kz hl hd ho
                unfold flatFs at hl
                split at hl
                · cases hl
                · rename_i kf hff
                  split at hl
                  · rename_i hfn
                    obtain ⟨kr, hr, rfl⟩ := Option.map_eq_some_iff.1 hl
                    simp only [List.length_append] at ho
                    have hj : j < fs.size := by
                      rcases Nat.lt_or_ge j fs.size with h | h
                      · exact h
                      · rw [List.drop_eq_nil_of_le (by simpa using h)] at hd; cases hd
                    have hfj : fs[j]? = some f := by
                      have := congrArg (·[0]?) hd
                      simp only [List.getElem?_drop, Nat.add_zero, List.getElem?_cons_zero] at this
                      simpa using this
                    have h1 := hel j f hfj
                    rw [List.getElem?_eq_getElem (by omega), (flat_cells hff).1, hfn.1] at h1
                    have h2 := ih hff h1
                    have h3 := ihl (o + kf.length) (j + 1) kr hr (by
                      rw [← List.drop_drop, hd]; rfl) (by omega)
                    have : cs.drop o = (cs.drop o).take kf.length ++ cs.drop (o + kf.length) := by
                      rw [← List.drop_drop, List.take_append_drop]
                    rw [this]
                    exact h2.join h3
                  · cases hl
            have := key fs.toList 0 0 ks' hf rfl (by omega)
            simpa using this
          · cases h
      · cases h
theorem okWide_agg {t : TypeId} {v : Value} {r : Reach} {b0 : Nat} (hg : isAggT P t = true) (hk : Value.okWide P w r b0 t v) : ∃ cs, v = .agg cs := by
  unfold isAggT at hg
  split at hg
  · rename_i fs hu
    obtain ⟨cs, rfl, _⟩ := okWide_struct hu hk
    exact ⟨cs, rfl⟩
  · rename_i hu
    exact okWide_arr' hu hk
  · cases hg
/-- A parameter of several cells. -/
theorem arg_flat {t : TypeId} {ks : List IntKind} {v : Value} {d : DataW H} {ps : List MemPlace} (n : Nat) (hf : flat P n t = some ks) (hg : isAggT P t = true) {r : Reach} {b0 : Nat} (hk : Value.okWide P w r b0 t v)
    (h : DataW.Trod enc P w base spare held t v d ps) : ∃ xs, v = aggV xs ∧ Kin (fun k m => (Lit.int k m).wf = true) ks xs := by
  obtain ⟨cs, rfl⟩ := okWide_agg hg hk
  obtain ⟨fuel, hf'⟩ := h
  exact ⟨cs.toList, by simp [aggV], trod_flat n hf hf'⟩
/-- A parameter that is a number. -/
theorem arg_num {t : TypeId} {k : IntKind} {v : Value} {d : DataW H} {ps : List MemPlace} (ht : P.underlying t = some (.int k)) {r : Reach} {b0 : Nat} (hk : Value.okWide P w r b0 t v)
    (h : DataW.Trod enc P w base spare held t v d ps) : ∃ n, v = .int k n ∧ (Lit.int k n).wf = true := by
  obtain ⟨n, rfl⟩ := okWide_int ht hk
  obtain ⟨fuel, hf⟩ := h
  obtain ⟨a, h1, _, h3⟩ := DataW.trod_int ht hf
  simp only [Value.cells, List.cons.injEq, Value.int.injEq, true_and, and_true] at h1
  subst h1
  exact ⟨_, rfl, h3⟩
theorem nat_u8 {n : Int} (h : (Lit.int .u8 n).wf = true) : ∃ a : Nat, n = (a : Int) ∧ a < 256 := ⟨n.toNat, by have := bounds_u8 h; omega, by have := bounds_u8 h; omega⟩
theorem nat_u16 {n : Int} (h : (Lit.int .u16 n).wf = true) : ∃ a : Nat, n = (a : Int) ∧ a < 65536 := ⟨n.toNat, by have := bounds_u16 h; omega, by have := bounds_u16 h; omega⟩
theorem nat_u32 {n : Int} (h : (Lit.int .u32 n).wf = true) : ∃ a : Nat, n = (a : Int) ∧ a < 4294967296 := ⟨n.toNat, by have := bounds_u32 h; omega, by have := bounds_u32 h; omega⟩
theorem nat_u64 {n : Int} (h : (Lit.int .u64 n).wf = true) : ∃ a : Nat, n = (a : Int) ∧ a < 18446744073709551616 := ⟨n.toNat, by have := bounds_u64 h; omega, by have := bounds_u64 h; omega⟩
/-- Cells that are bytes. -/
theorem Kin.bytes : ∀ {m : Nat} {xs : List Value}, Kin (fun k n => (Lit.int k n).wf = true) (List.replicate m .u8) xs → ∃ l : List UInt8, l.length = m ∧ xs = l.map byteV
  | 0, xs, h => ⟨[], rfl, h.nil⟩
  | m + 1, xs, h => by
    rw [List.replicate_succ] at h
    obtain ⟨n, y, rfl, h1, h2⟩ := h.cons
    obtain ⟨l, h3, rfl⟩ := Kin.bytes h2
    exact ⟨UInt8.ofNat n.toNat :: l, by simp [h3], by rw [List.map_cons, ← wf_u8 h1]⟩
end
end Go.Proofs.Ytdnblilocdddpaa
