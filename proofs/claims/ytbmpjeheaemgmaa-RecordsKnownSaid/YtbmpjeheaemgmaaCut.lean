/-
  OWN WORDS: slices that came in, cut exactly, and what their parts read as; calls of methods bound to a receiver. Nothing of one program stands here.
-/
import Derived.Test.YtbmpjeheaemgmaaNonce
import Derived.Test.YtbmpjeheaemgmaaActs
namespace Go.Proofs.Ytbmpjeheaemgmaa
open Go Go.RowKit
variable {κ : Cx}
/-- Where the rest of a slice of room c lies, k elements behind its head. -/
def cutA (c k : Nat) (A : Option Addr) : Option Addr := if c = k then A else A.map (·.add k)
section
variable {P : Program} {B : Nat} {E : Env} {dst : Option Tmp} {ty : TypeId} {pos : String} {after : Array Edge} {guard : Option (Nat × Bool)}
/-- x[:h] of a slice whose value is known. -/
theorem ok_sliceHi {t e : TypeId} {z : Value} {nb : Nat} {x o : Operand} {A : Option Addr} {len c : Nat} {kd : IntKind} (h : Nat) (ht : P.underlying t = some (.slice e)) (hs : InfoIs P e z nb) (hx : E.at x = some (.v (.slice A len c))) (ho : E.at o = some (.v (.int kd (h : Int)))) (hh : h ≤ c) (h0 : 0 < c) :
    OpOk P B ⟨dst, .slice t x none (some o) none, ty, pos, after, guard⟩ E (.v (.slice A h c)) := fun ρ w _ _ hρ => by
  have h1 : ρ x = _ := hρ x (by simp [Op.operands]) _ hx
  have h2 : ρ o = .int kd (h : Int) := hρ o (by simp [Op.operands]) _ ho
  have hr := run_slice_list (P := P) ht hs w A len c 0 h none (some (.int kd (h : Int))) kd kd (.inr ⟨rfl, rfl⟩) (.inl rfl) (Nat.zero_le _) hh
  have hA : A.map (·.add 0) = A := by cases A <;> simp [Addr.add] 
  rw [if_neg (by omega), hA, Nat.sub_zero, Nat.sub_zero] at hr
  exact out_val (x := .slice A h c) (w' := w) (by simp [execOp, h1, h2, hr]) ⟨Grow.refl w, rfl⟩
/-- x[l:] of a slice whose value is known. -/
theorem ok_sliceLo {t e : TypeId} {z : Value} {nb : Nat} {x o : Operand} {A : Option Addr} {len c : Nat} {kd : IntKind} (l : Nat) (ht : P.underlying t = some (.slice e)) (hs : InfoIs P e z nb) (hx : E.at x = some (.v (.slice A len c))) (ho : E.at o = some (.v (.int kd (l : Int)))) (hl : l ≤ len) (hc : len ≤ c) :
    OpOk P B ⟨dst, .slice t x (some o) none none, ty, pos, after, guard⟩ E (.v (.slice (cutA c l A) (len - l) (c - l))) := fun ρ w _ _ hρ => by
  have h1 : ρ x = _ := hρ x (by simp [Op.operands]) _ hx
  have h2 : ρ o = .int kd (l : Int) := hρ o (by simp [Op.operands]) _ ho
  have hr := run_slice_list (P := P) ht hs w A len c l len (some (.int kd (l : Int))) none kd kd (.inl rfl) (.inr ⟨rfl, rfl⟩) hl hc
  exact out_val (x := .slice (cutA c l A) (len - l) (c - l)) (w' := w) (by simp [execOp, h1, h2, hr, cutA]) ⟨Grow.refl w, rfl⟩
end
section
variable {P : Program} {n B : Nat} {ops : Array Oper} {E : Env} {ty : TypeId} {pos : String} {after : Array Edge}
/-- A call of a method value that writes one block. -/
theorem eff_callBR {f : FuncId} {M : Env} {T g s dst : Nat} {xs ys us : List Value} {ds : List D} {u : Value} {x : Operand} {args : Array Operand} {argTypes : Array TypeId} {E' : Env} (hf : FnWR P f M T g xs ys (us.map D.v ++ ds) u) (hM : ∀ p ∈ M, ∃ k, vbase ≤ k ∧ E.look k = some p.2)
    (hx : E.at x = some (.v (.func (.func f) us.toArray #[]))) (ha : Args E ds args.toList) (hg : B ≤ g) (hblk : E.look s = some (blk g T xs)) (hn : n ≤ vbase) (hdst : dst < n) (hl : LeftS B T g E' E) :
    Eff P n B ops ⟨some dst, .call { callee := .value x, args := args, argTypes := argTypes }, ty, pos, after, none⟩ E ((dst, .v u) :: (s, blk g T ys) :: E') := by
  intro κ a w K Q h hK
  obtain ⟨fn, h1, h2, h3⟩ := hf.body
  have hfun : a.eval x = .func (.func f) us.toArray #[] := h.at_ x _ hx
  have hrun : (execOp a.eval ⟨some dst, .call { callee := .value x, args := args, argTypes := argTypes }, ty, pos, after, none⟩).run P w = .ok (.enter f (us.toArray ++ args.map a.eval)) w := by
    have h2' : ¬ fn.name = "runtime.NumGoroutine" := by simpa using h2
    have h3' : ¬ fn.body = none := by intro h; rw [h] at h3; cases h3
    simp [execOp, resolve, Deferred.ofValue, hfun, invoke, callFunc, h1, h2', h3']
  obtain ⟨hlt, hh⟩ := h.of s _ hblk
  have hcall := hf.calls (us ++ args.toList.map a.eval) w (by simp [ha.length]) (fun j e v he hv => by
    rcases Nat.lt_or_ge j us.length with hj | hj
    · rw [List.getElem?_append_left (by simpa using hj), List.getElem?_map] at he
      rw [List.getElem?_append_left hj] at hv
      rw [hv] at he
      injection he with he; subst he; rfl
    · rw [List.getElem?_append_right (by simpa using hj), List.length_map] at he
      rw [List.getElem?_append_right hj, List.getElem?_map] at hv
      cases hxj : args.toList[j - us.length]? with
      | none => rw [hxj] at hv; cases hv
      | some y =>
        rw [hxj] at hv; injection hv with hv; subst hv
        obtain ⟨e', h4, h5⟩ := ha.nth he hxj
        exact h5.of (h.at_ y _ h4)) (fun p hp => by
    obtain ⟨k, h4, h5⟩ := hM p hp
    have h6 := h.of k _ h5
    rwa [show a.tmps.getD k undef = undef from by
      rw [Array.getD_eq_getD_getElem?, Array.getElem?_eq_none (by rw [h.size]; omega)]; rfl] at h6) hlt hh
  have harr : (us ++ args.toList.map a.eval).toArray = us.toArray ++ args.map a.eval := by apply Array.ext'; simp
  rw [harr] at hcall
  rw [if_pos (by simp [Region.wanted])]
  refine opR (by nofun) ?_
  unfold Oper.wp
  rw [hrun, Oper.upon_enter]
  refine Calls.mono hcall ?_
  rintro e w' ⟨rfl, hw, hh'⟩
  have hwr : Wrote B T g w w' := ⟨hg, hw.os, hw.tape, hw.output, hw.size, hw.cel, hw.other⟩
  have hst := hl.st h hwr
  have hlt' : g < w'.heap.size := (Array.getElem?_eq_some_iff.1 hh').1
  exact hK _ _ (hwr.below h.base) (St.put (hst.push (d := blk g T ys) ⟨hlt', hh'⟩) hdst rfl)
end
section
variable {P : Program} {n : Nat} {w₀ : World} {E : Env}
/-- A slice of bytes that came in gets a name; its room is told. -/
theorem A.nameC {c : Code} {Q : Exit → Act → World → Prop} {t k B' : Nat} {l : List UInt8} (ht : E.look t = some (old B' (byt l)))
    (h : ∀ (A₀ : Option Addr) (m : Nat), l.length ≤ m → m ≤ maxLen → A κ P w₀ n c ((t, .v (.slice A₀ l.length m)) :: (k, old B' (valM (.slice A₀ l.length m) (byt l))) :: E) Q) : A κ P w₀ n c E Q := fun a w g hs => by
  obtain ⟨hB, m, hb⟩ := hs.of t _ ht
  obtain ⟨A₀, h1, h2, h3, h4⟩ := bytes_open (l := l) hb
  exact h A₀ m h2 h3 a w g ((hs.push (t := k) (d := old B' (valM (.slice A₀ l.length m) (byt l))) ⟨hB, h1 ▸ ⟨m, hb⟩⟩).push (d := .v (.slice A₀ l.length m)) h1)
theorem RowIn.take {B : Nat} {w : World} {A : Option Addr} {vs : List Value} (h : RowIn B w A vs) (k : Nat) : RowIn B w A (vs.take k) := fun j u hu => by
  rw [List.getElem?_take] at hu
  split at hu
  · exact h j u hu
  · cases hu
theorem RowIn.drop {B : Nat} {w : World} {A : Option Addr} {vs : List Value} (h : RowIn B w A vs) (k : Nat) : RowIn B w (A.map (·.add k)) (vs.drop k) := fun j u hu => by
  rw [List.getElem?_drop] at hu
  obtain ⟨ad, h1, h2, h3⟩ := h _ u hu
  exact ⟨ad.add k, by rw [h1]; rfl, by rw [block_of_add]; exact h2, by rw [add_of_add]; exact h3⟩
/-- What the two parts of such a slice read as. -/
theorem A.cut {c : Code} {Q : Exit → Act → World → Prop} {k₀ k₁ k₂ B' m len i : Nat} {A₀ : Option Addr} {l : List UInt8} (hk : E.look k₀ = some (old B' (valM (.slice A₀ len m) (byt l)))) (hi : i ≤ len)
    (h : A κ P w₀ n c ((k₁, old B' (valM (.slice A₀ i m) (byt (l.take i)))) :: (k₂, old B' (valM (.slice (cutA m i A₀) (len - i) (m - i)) (byt (l.drop i)))) :: E) Q) : A κ P w₀ n c E Q := fun a w g hs => by
  obtain ⟨hB, m', hb⟩ := hs.of k₀ _ hk
  obtain ⟨A₁, h1, h2, h3, h4⟩ := bytes_open (l := l) hb
  injection h1 with h5 h6 h7
  subst h5; subst h6; subst h7
  have e1 : (bytes (l.take i) m).OfB B' w (.slice A₀ i m) := by
    have := bytes_mk (l := l.take i) (c := m) (A := A₀) (B := B') (w := w) (by simp; omega) h3 (by rw [List.map_take]; exact h4.take i)
    rwa [List.length_take, Nat.min_eq_left hi] at this
  have e2 : (bytes (l.drop i) (m - i)).OfB B' w (.slice (cutA m i A₀) (l.length - i) (m - i)) := by
    have := bytes_mk (l := l.drop i) (c := m - i) (A := cutA m i A₀) (B := B') (w := w) (by simp; omega) (by omega) (by
      rw [List.map_drop, cutA]
      split
      · rw [List.drop_eq_nil_of_le (by simp; omega)]; exact RowIn.nil
      · exact h4.drop i)
    rwa [List.length_drop] at this
  exact h a w g ((hs.push (t := k₂) (d := old B' (valM (.slice (cutA m i A₀) (l.length - i) (m - i)) (byt (l.drop i)))) ⟨hB, _, e2⟩).push (t := k₁) (d := old B' (valM (.slice A₀ i m) (byt (l.take i)))) ⟨hB, _, e1⟩)
end
end Go.Proofs.Ytbmpjeheaemgmaa
