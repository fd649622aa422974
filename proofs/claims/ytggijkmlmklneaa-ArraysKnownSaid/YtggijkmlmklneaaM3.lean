/-
  OWN TEXTS of this seat, put together, part 3: Arr, ArrN, Once, Many, C21a, C21b.
-/
import Derived.Test.YtggijkmlmklneaaM2
import Derived.Test.YtggijkmlmklneaaProg
namespace Go.Proofs.Ytggijkmlmklneaa
open Go Go.RowKit
set_option linter.unusedVariables false
set_option linter.unusedSimpArgs false
variable {κ : Cx}
/-! ### Blocks, arrays, operations -/
abbrev Bk := {l : List UInt8 // l.length = 32}
def zB : Bk := ⟨List.replicate 32 0, rfl⟩
def bkV (b : Bk) : List Value := b.1.map byteV
def bksV (l : List Bk) : List Value := l.flatMap bkV
theorem bk_len (b : Bk) : (bkV b).length = 32 := by unfold bkV; rw [List.length_map, b.2]
theorem bk_lens (l : List Bk) : ∀ a ∈ l, (bkV a).length = 32 := fun a _ => bk_len a
theorem bks_len (l : List Bk) : (bksV l).length = l.length * 32 := flat_length (bk_lens l)
theorem bk_one (b : Bk) : (bkV b).all (·.oneCell') = true := by unfold bkV; exact all_bytes _
theorem bks_one (l : List Bk) : (bksV l).all (·.oneCell') = true := by
  rw [List.all_eq_true]; intro x hx
  obtain ⟨b, _, hb⟩ := List.mem_flatMap.1 hx
  exact List.all_eq_true.1 (bk_one b) x hb
def bkAt (l : List Bk) (i : Nat) : Bk := l.getD i zB
theorem bks_at {l : List Bk} {i : Nat} (h : i < l.length) : ((bksV l).drop (i * 32)).take 32 = bkV (bkAt l i) := flat_getD (bk_lens l) h zB
theorem bks_atR {l : List Bk} {r : List Value} {i : Nat} (h : i < l.length) : ((bksV l ++ r).drop (i * 32)).take 32 = bkV (bkAt l i) := by
  have := rmid_at (pre := []) (suf := r) (bk_lens l) (o := 0) rfl h zB
  rw [List.nil_append, Nat.zero_add] at this
  exact this
theorem bks_set {l : List Bk} {i : Nat} (h : i < l.length) (b : Bk) : (bksV l).take (i * 32) ++ bkV b ++ (bksV l).drop (i * 32 + (bkV b).length) = bksV (l.set i b) := by
  rw [bk_len]; exact flat_set (bk_lens l) h (bk_len b)
theorem bk_inj {a b : Bk} (h : bkV a = bkV b) : a = b := Subtype.ext (bytes_inj h)
theorem bks_zero {z : Array Value} (hz : z.toList = bkV zB) (n : Nat) : (madeCells z (n * 32)).toList = bksV (List.replicate n zB) := by
  have hzs : z.size = 32 := by rw [← Array.length_toList, hz]; exact bk_len _
  apply List.ext_getElem?
  intro q
  rcases Nat.lt_or_ge q (n * 32) with hq | hq
  · have hi : q / 32 < (List.replicate n zB).length := by rw [List.length_replicate]; omega
    have hc := bks_at hi
    have h2 : (((bksV (List.replicate n zB)).drop (q / 32 * 32)).take 32)[q % 32]? = (bkV (bkAt (List.replicate n zB) (q / 32)))[q % 32]? := by rw [hc]
    rw [List.getElem?_take, if_pos (Nat.mod_lt _ (by decide)), List.getElem?_drop, show q / 32 * 32 + q % 32 = q from by omega] at h2
    rw [h2, show bkAt (List.replicate n zB) (q / 32) = zB from by
      unfold bkAt; rw [List.length_replicate] at hi; simp [List.getD, hi]]
    rw [← hz]
    have hk : q % 32 < z.size := by omega
    simp [madeCells, hq, hzs]
    rw [Array.getElem?_eq_getElem (by omega)]
    simp [hk]
  · rw [List.getElem?_eq_none (by rw [Array.length_toList, size_madeCells]; exact hq), List.getElem?_eq_none (by rw [bks_len, List.length_replicate]; exact hq)]
structure Ar where
  now : List Bk
  dur : List Bk
deriving DecidableEq
structure OpA where
  k : UInt8
  i : Int
  d : List UInt8
def mkB (l : List UInt8) : Bk := if h : l.length = 32 then ⟨l, h⟩ else zB
theorem mkB_v {l : List UInt8} (h : l.length = 32) : bkV (mkB l) = l.map byteV := by unfold mkB bkV; rw [dif_pos h]
def badA (n : Int) (o : OpA) : Bool :=
  if o.k.toNat = 3 then false else if o.k.toNat ≠ 1 ∧ o.k.toNat ≠ 2 ∨ o.i < 0 ∨ n ≤ o.i then true else decide (o.k.toNat = 2 ∧ o.d.length ≠ 32)
abbrev Rs := Bk × Int
def rsV (r : Rs) : List Value := bkV r.1 ++ [.int .i64 r.2]
theorem rs_len (r : Rs) : (rsV r).length = 33 := by unfold rsV; rw [List.length_append, bk_len]; rfl
theorem rs_one (r : Rs) : (rsV r).all (·.oneCell') = true := by unfold rsV; rw [List.all_append, bk_one]; rfl
def stepA (a : Ar) (o : OpA) : Ar × Rs :=
  if badA a.now.length o = true then (a, (zB, 1)) else if o.k.toNat = 1 then (a, (bkAt a.now o.i.toNat, 0)) else if o.k.toNat = 2 then (⟨a.now.set o.i.toNat (mkB o.d), a.dur⟩, (zB, 0)) else (⟨a.now, a.now⟩, (zB, 0))
theorem step_bad {a : Ar} {o : OpA} (h : badA a.now.length o = true) : stepA a o = (a, (zB, 1)) := if_pos h
theorem step_read {a : Ar} {o : OpA} (h : badA a.now.length o = false) (hk : o.k.toNat = 1) : stepA a o = (a, (bkAt a.now o.i.toNat, 0)) := by unfold stepA; rw [if_neg (by rw [h]; decide), if_pos hk]
theorem step_write {a : Ar} {o : OpA} (h : badA a.now.length o = false) (hk : o.k.toNat = 2) : stepA a o = (⟨a.now.set o.i.toNat (mkB o.d), a.dur⟩, (zB, 0)) := by unfold stepA; rw [if_neg (by rw [h]; decide), if_neg (by omega), if_pos hk]
theorem step_flush {a : Ar} {o : OpA} (h : badA a.now.length o = false) (hk : o.k.toNat = 3) : stepA a o = (⟨a.now, a.now⟩, (zB, 0)) := by unfold stepA; rw [if_neg (by rw [h]; decide), if_neg (by omega), if_neg (by omega)]
theorem bad_not {n : Int} {o : OpA} (h : badA n o = false) : (o.k.toNat = 1 ∧ 0 ≤ o.i ∧ o.i < n) ∨ (o.k.toNat = 2 ∧ 0 ≤ o.i ∧ o.i < n ∧ o.d.length = 32) ∨ o.k.toNat = 3 := by
  unfold badA at h
  split at h
  · exact .inr (.inr (by assumption))
  · split at h
    · cases h
    · simp only [decide_eq_false_iff_not] at h
      omega
def Ar.Ok (n : Nat) (a : Ar) : Prop := a.now.length = n ∧ a.dur.length = n
theorem step_ok {n : Nat} {a : Ar} (o : OpA) (h : a.Ok n) : (stepA a o).1.Ok n := by
  unfold stepA
  split
  · exact h
  · split
    · exact h
    · split
      · exact ⟨by rw [← h.1]; simp, h.2⟩
      · exact ⟨h.1, h.1⟩
def nthO (L : List OpA) (i : Nat) : OpA := L.getD i ⟨0, 0, []⟩
theorem nthO_get {L : List OpA} {i : Nat} (h : i < L.length) : L[i] = nthO L i := by simp [nthO, h]
theorem take_nthO {L : List OpA} {i : Nat} (h : i < L.length) : L.take (i + 1) = L.take i ++ [nthO L i] := by rw [List.take_succ_eq_append_getElem h, nthO_get h]
theorem map_nthO {L : List OpA} {i : Nat} {β : Type} (f : OpA → β) (h : i < L.length) : (L.map f)[i]? = some (f (nthO L i)) := by rw [List.getElem?_map, List.getElem?_eq_getElem h, nthO_get h]; rfl
def runA (a : Ar) (L : List OpA) : Ar := L.foldl (fun a o => (stepA a o).1) a
theorem run_ok {n : Nat} {L : List OpA} : ∀ {a : Ar}, a.Ok n → (runA a L).Ok n := by
  induction L with
  | nil => intro a h; exact h
  | cons o L ih => intro a h; exact ih (step_ok o h)
theorem run_snoc {a : Ar} {L : List OpA} {i : Nat} (h : i < L.length) : (stepA (runA a (L.take i)) (nthO L i)).1 = runA a (L.take (i + 1)) := by
  unfold runA; rw [take_nthO h, List.foldl_append]; rfl
/-- The results of operations, one after another. -/
def resA (a : Ar) : List OpA → List Rs
  | [] => []
  | o :: L => (stepA a o).2 :: resA (stepA a o).1 L
theorem res_len {L : List OpA} : ∀ {a : Ar}, (resA a L).length = L.length := by
  induction L with
  | nil => intro a; rfl
  | cons o L ih => intro a; simp [resA, ih]
theorem res_app {L L' : List OpA} : ∀ {a : Ar}, resA a (L ++ L') = resA a L ++ resA (runA a L) L' := by
  induction L with
  | nil => intro a; rfl
  | cons o L ih => intro a; simp [resA, ih, runA]
theorem res_snoc {a : Ar} {L : List OpA} {i : Nat} (h : i < L.length) : resA a (L.take i) ++ [(stepA (runA a (L.take i)) (nthO L i)).2] = resA a (L.take (i + 1)) := by
  rw [take_nthO h, res_app]; rfl
def zR : Rs := (zB, 0)
def rssV (l : List Rs) : List Value := l.flatMap rsV
theorem rs_lens (l : List Rs) : ∀ a ∈ l, (rsV a).length = 33 := fun a _ => rs_len a
theorem rss_len (l : List Rs) : (rssV l).length = l.length * 33 := flat_length (rs_lens l)
theorem rss_at {l : List Rs} {i : Nat} (h : i < l.length) : ((rssV l).drop (i * 33)).take 33 = rsV (l.getD i zR) := flat_getD (rs_lens l) h zR
theorem rss_zero {z : Array Value} (hz : z.toList = rsV zR) (n : Nat) : (madeCells z (n * 33)).toList = rssV (List.replicate n zR) := by
  have hzs : z.size = 33 := by rw [← Array.length_toList, hz]; exact rs_len _
  apply List.ext_getElem?
  intro q
  rcases Nat.lt_or_ge q (n * 33) with hq | hq
  · have hi : q / 33 < (List.replicate n zR).length := by rw [List.length_replicate]; omega
    have hc := rss_at hi
    have h2 : (((rssV (List.replicate n zR)).drop (q / 33 * 33)).take 33)[q % 33]? = (rsV ((List.replicate n zR).getD (q / 33) zR))[q % 33]? := by rw [hc]
    rw [List.getElem?_take, if_pos (Nat.mod_lt _ (by decide)), List.getElem?_drop, show q / 33 * 33 + q % 33 = q from by omega] at h2
    rw [h2, show (List.replicate n zR).getD (q / 33) zR = zR from by
      rw [List.length_replicate] at hi; simp [List.getD, hi]]
    rw [← hz]
    have hk : q % 33 < z.size := by omega
    simp [madeCells, hq, hzs]
    rw [Array.getElem?_eq_getElem (by omega)]
    simp [hk]
  · rw [List.getElem?_eq_none (by rw [Array.length_toList, size_madeCells]; exact hq), List.getElem?_eq_none (by rw [rss_len, List.length_replicate]; exact hq)]
/-- What a loop has filled in, and what it has not yet. -/
def fillR (a : Ar) (L : List OpA) (i : Nat) : List Rs := resA a (L.take i) ++ List.replicate (L.length - i) zR
theorem fill_len {a : Ar} {L : List OpA} {i : Nat} (h : i ≤ L.length) : (fillR a L i).length = L.length := by unfold fillR; rw [List.length_append, res_len, List.length_take, List.length_replicate]; omega
theorem fill_set {a : Ar} {L : List OpA} {i : Nat} (h : i < L.length) : (rssV (fillR a L i)).take (i * 33) ++ rsV (stepA (runA a (L.take i)) (nthO L i)).2 ++ (rssV (fillR a L i)).drop (i * 33 + (rsV (stepA (runA a (L.take i)) (nthO L i)).2).length) = rssV (fillR a L (i + 1)) := by
  rw [rs_len]
  refine (flat_set (rs_lens _) (by rw [fill_len (by omega)]; exact h) (rs_len _)).trans (congrArg rssV ?_)
  unfold fillR
  rw [← res_snoc h, show L.length - i = (L.length - (i + 1)) + 1 from by omega, List.replicate_succ, List.set_append_right _ _ (by rw [res_len, List.length_take]; omega), res_len, List.length_take, show i - min i L.length = 0 from by omega, List.set_cons_zero]
  simp
theorem fill_end {a : Ar} {L : List OpA} : fillR a L L.length = resA a L := by unfold fillR; simp
theorem aggV_inj {xs ys : List Value} (h : aggV xs = aggV ys) : xs = ys := by
  unfold aggV at h
  injection h with h
  simpa using h
/-- Where two lists of blocks differ. -/
def difP (x y : List Bk) (i : Nat) : List Nat := (List.range i).filter fun k => !decide (bkAt x k = bkAt y k)
theorem dif_yes {x y : List Bk} {i : Nat} (h : bkAt x i ≠ bkAt y i) : difP x y (i + 1) = difP x y i ++ [i] := by unfold difP; rw [List.range_succ, List.filter_append]; simp [h]
theorem dif_no {x y : List Bk} {i : Nat} (h : bkAt x i = bkAt y i) : difP x y (i + 1) = difP x y i := by unfold difP; rw [List.range_succ, List.filter_append]; simp [h]
theorem dif_le {x y : List Bk} {i : Nat} : (difP x y i).length ≤ i := Nat.le_trans (List.length_filter_le _ _) (by simp)
theorem bks_eq {x y : List Bk} (hl : x.length = y.length) (h : ∀ k, k < x.length → bkAt x k = bkAt y k) : x = y := by
  apply List.ext_getElem hl
  intro k h1 h2
  have := h k h1
  unfold bkAt at this
  simpa [h1, h2] using this
/-! ### Rows whose blocks satisfy a condition -/
def RowZ (Z : TypeId → Nat → Prop) (B : Nat) (w : World) (A : Option Addr) (xs : List Value) : Prop :=
  ∀ (j : Nat) (u : Value), xs[j]? = some u → ∃ ad, A = some ad ∧ ad.block < B ∧ (∃ cur e fr, w.heap[ad.block]? = some (.cells cur e fr) ∧ Z e ad.block) ∧ w.cell? (ad.add j) = some u
section
variable {Z Z' : TypeId → Nat → Prop} {B B' : Nat} {w w' : World} {A : Option Addr} {xs : List Value}
theorem RowZ.row (h : RowZ Z B w A xs) : RowIn B w A xs := fun j u hu => by
  obtain ⟨ad, h1, h2, _, h4⟩ := h j u hu
  exact ⟨ad, h1, h2, h4⟩
theorem RowZ.other (h : RowZ Z B w A xs) (hB : B ≤ B') (hk : ∀ b cur e fr, b < B → Z e b → w.heap[b]? = some (.cells cur e fr) → w'.heap[b]? = w.heap[b]?) : RowZ Z B' w' A xs := fun j u hu => by
  obtain ⟨ad, h1, h2, ⟨cur, e, fr, h3, hz⟩, h4⟩ := h j u hu
  have h6 := hk ad.block cur e fr h2 hz h3
  have h7 : w'.cell? (ad.add j) = w.cell? (ad.add j) := cell_block (by rw [block_of_add]; exact h6)
  exact ⟨ad, h1, by omega, ⟨cur, e, fr, by rw [h6]; exact h3, hz⟩, by rw [h7]; exact h4⟩
theorem RowZ.mono (h : RowZ Z B w A xs) (hz : ∀ e b, b < B → Z e b → Z' e b) : RowZ Z' B w A xs := fun j u hu => by
  obtain ⟨ad, h1, h2, ⟨cur, e, fr, h3, h5⟩, h4⟩ := h j u hu
  exact ⟨ad, h1, h2, ⟨cur, e, fr, h3, hz _ _ h2 h5⟩, h4⟩
theorem RowZ.keepB (h : RowZ Z B w A xs) (g : Below B w w') : RowZ Z B w' A xs := h.other (Nat.le_refl _) fun b _ _ _ hb _ _ => g.block b hb
theorem RowZ.upB (h : RowZ Z B w A xs) (g : B ≤ B') : RowZ Z B' w A xs := h.other g fun _ _ _ _ _ _ _ => rfl
theorem RowZ.wrote {T g : Nat} (h : RowZ Z w.heap.size w A xs) (k : Wrote B T g w w') (hz : ¬ Z T g) : RowZ Z w'.heap.size w' A xs :=
  h.other k.size fun b cur e fr hb hz' hh => k.other b hb fun hbg => by
    subst hbg
    rw [k.row _ _ _ hh] at hz'
    exact hz hz'
theorem RowZ.blk {b : Nat} {cs : List Value} {e : TypeId} {fr : Nat × Nat} (hb : b < B) (hh : w.heap[b]? = some (.cells cs.toArray e fr)) (hz : Z e b) (hx : ∀ (j : Nat) (u : Value), xs[j]? = some u → cs[j]? = some u) : RowZ Z B w (some ⟨b, 0, none⟩) xs := fun j u hu =>
  ⟨_, rfl, hb, ⟨_, e, fr, hh, hz⟩, by rw [add_lit0, Nat.zero_add]; simp [World.cell?, hh, hx j u hu]⟩
end
theorem app_get {xs r : List Value} (j : Nat) (u : Value) (h : xs[j]? = some u) : (xs ++ r)[j]? = some u := by rw [List.getElem?_append_left (List.getElem?_eq_some_iff.1 h).1]; exact h
/-- A slice of n elements; ex: without room behind them. -/
def sliZ (Z : TypeId → Nat → Prop) (ex : Bool) (n : Nat) (xs : List Value) : D :=
  .p (fun B w x => ∃ A q, x = .slice A n q ∧ n ≤ q ∧ (ex = true → q = n) ∧ RowZ Z B w A xs) (fun _ _ _ _ g ⟨A, q, h1, h2, h3, h4⟩ => ⟨A, q, h1, h2, h3, h4.keepB g⟩) (fun _ _ _ _ g ⟨A, q, h1, h2, h3, h4⟩ => ⟨A, q, h1, h2, h3, h4.upB g⟩)
/-- The same, of whatever blocks. -/
def rowG (ex : Bool) (n : Nat) (xs : List Value) : D :=
  .p (fun B w x => ∃ A q, x = .slice A n q ∧ n ≤ q ∧ (ex = true → q = n) ∧ RowIn B w A xs) (fun _ _ _ _ g ⟨A, q, h1, h2, h3, h4⟩ => ⟨A, q, h1, h2, h3, h4.keep g⟩) (fun _ _ _ _ g ⟨A, q, h1, h2, h3, h4⟩ => ⟨A, q, h1, h2, h3, h4.up g⟩)
theorem sli_rowG {Z : TypeId → Nat → Prop} {ex : Bool} {n : Nat} {xs : List Value} : Le (sliZ Z ex n xs) (rowG ex n xs) := fun _ _ _ ⟨A, q, h1, h2, h3, h4⟩ => ⟨A, q, h1, h2, h3, h4.row⟩
theorem rowG_any {ex : Bool} {n : Nat} {xs : List Value} : Le (rowG ex n xs) (rowG false n xs) := fun _ _ _ ⟨A, q, h1, h2, _, h4⟩ => ⟨A, q, h1, h2, nofun, h4⟩
theorem rowG_rowD {ex : Bool} {n : Nat} {xs : List Value} : Le (rowG ex n xs) (rowD n xs) := fun _ _ _ ⟨A, q, h1, _, _, h4⟩ => ⟨A, q, h1, h4⟩
theorem sli_rowD {Z : TypeId → Nat → Prop} {ex : Bool} {n : Nat} {xs : List Value} : Le (sliZ Z ex n xs) (rowD n xs) := sli_rowG.trans rowG_rowD
theorem Surv.sli {Z : TypeId → Nat → Prop} {B T g n : Nat} {ex : Bool} {xs : List Value} (h : ¬ Z T g) : Surv B T g (sliZ Z ex n xs) := fun w w' x k ⟨A, q, h1, h2, h3, h4⟩ => ⟨A, q, h1, h2, h3, h4.wrote k h⟩
theorem sli_mono {Z Z' : TypeId → Nat → Prop} {ex : Bool} {n : Nat} {xs : List Value} (h : ∀ e b, Z e b → Z' e b) : Le (sliZ Z ex n xs) (sliZ Z' ex n xs) := fun _ _ _ ⟨A, q, h1, h2, h3, h4⟩ => ⟨A, q, h1, h2, h3, h4.mono fun e b _ => h e b⟩
theorem sli_one {Z : TypeId → Nat → Prop} {ex : Bool} {n : Nat} {xs : List Value} (B : Nat) (w : World) (x : Value) (h : (sliZ Z ex n xs).OfB B w x) : x.oneCell' = true := by
  obtain ⟨A, q, rfl, _⟩ := h; rfl
/-- Own blocks of a type. -/
abbrev zOwn (T : TypeId) (lo : Nat) : TypeId → Nat → Prop := fun e b => e = T ∧ lo ≤ b
/-- The same, and made before one. -/
abbrev zCut (Z : TypeId → Nat → Prop) (hi : Nat) : TypeId → Nat → Prop := fun e b => Z e b ∧ b < hi
abbrev zAny : TypeId → Nat → Prop := fun _ _ => True
/-- An array of blocks. -/
def arrZ (Z : TypeId → Nat → Prop) (ex : Bool) (a : Ar) : D :=
  .p (fun B w x => ∃ u v, x = aggV [u, v] ∧ (sliZ Z ex a.now.length (bksV a.now)).OfB B w u ∧ (sliZ Z ex a.dur.length (bksV a.dur)).OfB B w v) (fun _ _ _ _ g ⟨u, v, h1, h2, h3⟩ => ⟨u, v, h1, h2.keep g, h3.keep g⟩) (fun _ _ _ _ g ⟨u, v, h1, h2, h3⟩ => ⟨u, v, h1, h2.up g, h3.up g⟩)
def arrD (ex : Bool) (a : Ar) : D :=
  .p (fun B w x => ∃ u v, x = aggV [u, v] ∧ (rowG ex a.now.length (bksV a.now)).OfB B w u ∧ (rowG ex a.dur.length (bksV a.dur)).OfB B w v) (fun _ _ _ _ g ⟨u, v, h1, h2, h3⟩ => ⟨u, v, h1, h2.keep g, h3.keep g⟩) (fun _ _ _ _ g ⟨u, v, h1, h2, h3⟩ => ⟨u, v, h1, h2.up g, h3.up g⟩)
theorem arr_ex {Z : TypeId → Nat → Prop} {ex : Bool} {a : Ar} : Le (arrZ Z ex a) (arrD ex a) := fun _ _ _ ⟨u, v, h1, h2, h3⟩ => ⟨u, v, h1, sli_rowG _ _ _ h2, sli_rowG _ _ _ h3⟩
theorem arrD_any {ex : Bool} {a : Ar} : Le (arrD ex a) (arrD false a) := fun _ _ _ ⟨u, v, h1, h2, h3⟩ => ⟨u, v, h1, rowG_any _ _ _ h2, rowG_any _ _ _ h3⟩
theorem arr_any {Z : TypeId → Nat → Prop} {ex : Bool} {a : Ar} : Le (arrZ Z ex a) (arrD false a) := arr_ex.trans arrD_any
theorem Surv.arr {Z : TypeId → Nat → Prop} {B T g : Nat} {ex : Bool} {a : Ar} (h : ¬ Z T g) : Surv B T g (arrZ Z ex a) := fun w w' x k ⟨u, v, h1, h2, h3⟩ => ⟨u, v, h1, Surv.sli h _ _ _ k h2, Surv.sli h _ _ _ k h3⟩
theorem arr_mono {Z Z' : TypeId → Nat → Prop} {ex : Bool} {a : Ar} (h : ∀ e b, Z e b → Z' e b) : Le (arrZ Z ex a) (arrZ Z' ex a) := fun _ _ _ ⟨u, v, h1, h2, h3⟩ => ⟨u, v, h1, sli_mono h _ _ _ h2, sli_mono h _ _ _ h3⟩
theorem arr_cut {Z : TypeId → Nat → Prop} {ex : Bool} {a : Ar} {w : World} {x : Value} (h : (arrZ Z ex a).Of w x) : (arrZ (zCut Z w.heap.size) ex a).Of w x := by
  obtain ⟨u, v, h1, ⟨A, q, k1, k2, k3, k4⟩, ⟨A', q', l1, l2, l3, l4⟩⟩ := h
  exact ⟨u, v, h1, ⟨A, q, k1, k2, k3, k4.mono fun e b hb hz => ⟨hz, hb⟩⟩, ⟨A', q', l1, l2, l3, l4.mono fun e b hb hz => ⟨hz, hb⟩⟩⟩
theorem sli_cut {Z : TypeId → Nat → Prop} {ex : Bool} {n : Nat} {xs : List Value} {w : World} {x : Value} (h : (sliZ Z ex n xs).Of w x) : (sliZ (zCut Z w.heap.size) ex n xs).Of w x := by
  obtain ⟨A, q, k1, k2, k3, k4⟩ := h
  exact ⟨A, q, k1, k2, k3, k4.mono fun e b hb hz => ⟨hz, hb⟩⟩
theorem Agg.arr {Z : TypeId → Nat → Prop} {ex : Bool} {a : Ar} : Agg 2 (arrZ Z ex a) := fun B w x ⟨u, v, h1, h2, h3⟩ => ⟨_, h1, rfl, by simp [sli_one _ _ _ h2, sli_one _ _ _ h3]⟩
theorem own_monoT {T : TypeId} {B B' : Nat} (h : B ≤ B') : ∀ e b, zOwn T B' e b → zOwn T B e b := fun _ _ hz => ⟨hz.1, by have := hz.2; omega⟩
/-! ### Operations -/
def opH (o : OpA) : List Value := [byteV o.k, .int .i64 o.i]
def opZ (Z : TypeId → Nat → Prop) (o : OpA) : D := tlD (opH o) (sliZ Z false o.d.length (o.d.map byteV))
def opG (o : OpA) : D := tlD (opH o) (rowG false o.d.length (o.d.map byteV))
theorem op_any {Z : TypeId → Nat → Prop} {o : OpA} : Le (opZ Z o) (opG o) := tl_le sli_rowG
theorem Surv.opz {Z : TypeId → Nat → Prop} {B T g : Nat} {o : OpA} (h : ¬ Z T g) : Surv B T g (opZ Z o) := Surv.tl (Surv.sli h)
theorem Agg.opz {Z : TypeId → Nat → Prop} {o : OpA} : Agg 3 (opZ Z o) := Agg.tl rfl rfl
theorem op_mono {Z Z' : TypeId → Nat → Prop} {o : OpA} (h : ∀ e b, Z e b → Z' e b) : Le (opZ Z o) (opZ Z' o) := tl_le (sli_mono h)
theorem op_cut {Z : TypeId → Nat → Prop} {o : OpA} {w : World} {x : Value} (h : (opZ Z o).Of w x) : (opZ (zCut Z w.heap.size) o).Of w x := by
  obtain ⟨v, h1, h2, h3⟩ := h
  exact ⟨v, h1, h2, sli_cut h3⟩
section
variable {P : Program} {w₀ : World} {n : Nat} {c : Code} {E : Env} {Q : Exit → Act → World → Prop}
/-- An array that came in gets names. -/
theorem A.nameAr {t k₁ k₂ B' : Nat} {ex : Bool} {a : Ar} (ht : E.look t = some (old B' (arrD ex a))) (h : ∀ (A₁ : Option Addr) (q₁ : Nat) (A₂ : Option Addr) (q₂ : Nat), a.now.length ≤ q₁ → a.dur.length ≤ q₂ → (ex = true → q₁ = a.now.length) → (ex = true → q₂ = a.dur.length) →
      A κ P w₀ n c ((t, .v (aggV [.slice A₁ a.now.length q₁, .slice A₂ a.dur.length q₂])) :: (k₁, old B' (memR A₁ (bksV a.now))) :: (k₂, old B' (memR A₂ (bksV a.dur))) :: E) Q) : A κ P w₀ n c E Q := fun ac w g hs => by
  obtain ⟨hB, u, v, h1, ⟨A₁, q₁, rfl, h2, h3, h4⟩, ⟨A₂, q₂, rfl, h5, h6, h7⟩⟩ := hs.of t _ ht
  exact h A₁ q₁ A₂ q₂ h2 h5 h3 h6 ac w g (((hs.push (t := k₂) (d := old B' (memR A₂ (bksV a.dur))) ⟨hB, h7⟩).push (t := k₁) (d := old B' (memR A₁ (bksV a.now))) ⟨hB, h4⟩).push (t := t) (d := .v _) h1)
/-- A slice that came in gets a name. -/
theorem A.nameSl {t k B' m : Nat} {ex : Bool} {xs : List Value} (ht : E.look t = some (old B' (rowG ex m xs))) (h : ∀ (A₁ : Option Addr) (q₁ : Nat), m ≤ q₁ → (ex = true → q₁ = m) → A κ P w₀ n c ((t, .v (.slice A₁ m q₁)) :: (k, old B' (memR A₁ xs)) :: E) Q) : A κ P w₀ n c E Q := fun ac w g hs => by
  obtain ⟨hB, A₁, q₁, h1, h2, h3, h4⟩ := hs.of t _ ht
  exact h A₁ q₁ h2 h3 ac w g ((hs.push (t := k) (d := old B' (memR A₁ xs)) ⟨hB, h4⟩).push (t := t) (d := .v _) h1)
/-- An operation that came in gets a name. -/
theorem A.nameOp {t k B' : Nat} {o : OpA} (ht : E.look t = some (old B' (opG o))) (h : ∀ (A₁ : Option Addr) (q₁ : Nat), o.d.length ≤ q₁ → A κ P w₀ n c ((t, .v (aggV [byteV o.k, .int .i64 o.i, .slice A₁ o.d.length q₁])) :: (k, old B' (memR A₁ (o.d.map byteV))) :: E) Q) : A κ P w₀ n c E Q := fun ac w g hs => by
  obtain ⟨hB, v, h0, h1, A₁, q₁, rfl, h2, h3, h4⟩ := hs.of t _ ht
  exact h A₁ q₁ h2 ac w g ((hs.push (t := k) (d := old B' (memR A₁ (o.d.map byteV))) ⟨hB, h4⟩).push (t := t) (d := .v _) h1)
/-- The same of a variable that holds it. -/
theorem A.nameOpV {t k b B' : Nat} {T : TypeId} {o : OpA} (ht : E.look t = some (varK b T 3 (old B' (opG o)))) (h : ∀ (A₁ : Option Addr) (q₁ : Nat), o.d.length ≤ q₁ → A κ P w₀ n c ((t, blk b T [byteV o.k, .int .i64 o.i, .slice A₁ o.d.length q₁]) :: (k, old B' (memR A₁ (o.d.map byteV))) :: E) Q) : A κ P w₀ n c E Q := fun ac w g hs => by
  obtain ⟨hb, cs, _, _, hh, hB, v, h0, h1, A₁, q₁, rfl, h2, h3, h4⟩ := hs.of t _ ht
  have hcs : cs = [byteV o.k, .int .i64 o.i, .slice A₁ o.d.length q₁] := aggV_inj h1
  subst hcs
  exact h A₁ q₁ h2 ac w g ((hs.push (t := k) (d := old B' (memR A₁ (o.d.map byteV))) ⟨hB, h4⟩).push (t := t) (d := blk b T _) ⟨hb, hh⟩)
/-- A variable over two slices whose blocks have names holds an array. -/
theorem A.packAr {k k₁ k₂ b b₁ b₂ q₁ q₂ lo : Nat} {T tB : TypeId} {ex : Bool} {a : Ar} {r₁ r₂ : List Value} (hk : E.look k = some (blk b T [.slice (some ⟨b₁, 0, none⟩) a.now.length q₁, .slice (some ⟨b₂, 0, none⟩) a.dur.length q₂]))
    (h1 : E.look k₁ = some (blk b₁ tB (bksV a.now ++ r₁))) (h2 : E.look k₂ = some (blk b₂ tB (bksV a.dur ++ r₂))) (hl₁ : lo ≤ b₁) (hl₂ : lo ≤ b₂) (hq₁ : a.now.length ≤ q₁) (hq₂ : a.dur.length ≤ q₂) (he : ex = true → q₁ = a.now.length ∧ q₂ = a.dur.length)
    (h : A κ P w₀ n c ((k, varK b T 2 (arrZ (zOwn tB lo) ex a)) :: E) Q) : A κ P w₀ n c E Q := fun ac w g hs => by
  obtain ⟨m1, m2⟩ := hs.of k _ hk
  obtain ⟨m3, m4⟩ := hs.of k₁ _ h1
  obtain ⟨m5, m6⟩ := hs.of k₂ _ h2
  exact h ac w g (hs.push (t := k) (d := varK b T 2 (arrZ (zOwn tB lo) ex a)) ⟨m1, _, rfl, rfl, m2, _, _, rfl, ⟨_, _, rfl, hq₁, fun h => (he h).1, RowZ.blk m3 m4 ⟨rfl, hl₁⟩ app_get⟩, ⟨_, _, rfl, hq₂, fun h => (he h).2, RowZ.blk m5 m6 ⟨rfl, hl₂⟩ app_get⟩⟩)
end
section
variable {P : Program} {B : Nat} {E : Env} {o : Oper}
/-- What an exact array means. -/
theorem OpOk.arO {A₁ A₂ : Option Addr} {q₁ q₂ k₁ k₂ B' : Nat} {a : Ar} (h : OpOk P B o E (.v (aggV [.slice A₁ a.now.length q₁, .slice A₂ a.dur.length q₂]))) (hq₁ : a.now.length ≤ q₁) (hq₂ : a.dur.length ≤ q₂) (hk₁ : vbase ≤ k₁) (hk₂ : vbase ≤ k₂)
    (h1 : E.look k₁ = some (old B' (memR A₁ (bksV a.now)))) (h2 : E.look k₂ = some (old B' (memR A₂ (bksV a.dur)))) : OpOk P B o E (old B' (arrD false a)) := fun ρ w hB hv hρ => by
  refine (h ρ w hB hv hρ).mono fun x w' hx => ⟨hx.1, ?_⟩
  have g1 : (old B' (memR A₁ (bksV a.now))).Of w' undef := D.Of.grow (hv k₁ _ hk₁ h1) hx.1
  have g2 : (old B' (memR A₂ (bksV a.dur))).Of w' undef := D.Of.grow (hv k₂ _ hk₂ h2) hx.1
  exact ⟨g1.1, _, _, hx.2, ⟨_, _, rfl, hq₁, nofun, g1.2⟩, ⟨_, _, rfl, hq₂, nofun, g2.2⟩⟩
theorem OpOk.opO {A₁ : Option Addr} {q₁ k₁ B' : Nat} {p : OpA} (h : OpOk P B o E (.v (aggV [byteV p.k, .int .i64 p.i, .slice A₁ p.d.length q₁]))) (hq₁ : p.d.length ≤ q₁) (hk₁ : vbase ≤ k₁)
    (h1 : E.look k₁ = some (old B' (memR A₁ (p.d.map byteV)))) : OpOk P B o E (old B' (opG p)) := fun ρ w hB hv hρ => by
  refine (h ρ w hB hv hρ).mono fun x w' hx => ⟨hx.1, ?_⟩
  have g1 : (old B' (memR A₁ (p.d.map byteV))).Of w' undef := D.Of.grow (hv k₁ _ hk₁ h1) hx.1
  exact ⟨g1.1, _, rfl, hx.2, _, _, rfl, hq₁, nofun, g1.2⟩
end
section
variable {P : Program} {B : Nat} {E : Env} {dst : Option Tmp} {ty : TypeId} {pos : String} {after : Array Edge} {guard : Option (Nat × Bool)}
theorem ok_makeB {t e : TypeId} {x y : Operand} {z : Value} {nb : Nat} {k k' : IntKind} (c : Nat) (ht : P.underlying t = some (.slice e)) (hinfo : InfoP P e z 32 nb) (hnb : nb ≤ 64) (hz : z.cells.toList = bkV zB)
    (hx : E.at x = some (.v (.int k (c : Int)))) (hy : E.at y = some (.v (.int k' (c : Int)))) (hc : c ≤ 4398046511104) :
    OpOk P B ⟨dst, .makeSlice t x y, ty, pos, after, guard⟩ E (newD B e (fun b => .slice (some ⟨b, 0, none⟩) c c) (bksV (List.replicate c zB))) := bks_zero hz c ▸ ok_makeK c ht hinfo hnb hx hy hc
theorem ok_makeR {t e : TypeId} {x y : Operand} {z : Value} {nb : Nat} {k k' : IntKind} (c : Nat) (ht : P.underlying t = some (.slice e)) (hinfo : InfoP P e z 33 nb) (hnb : nb ≤ 64) (hz : z.cells.toList = rsV zR)
    (hx : E.at x = some (.v (.int k (c : Int)))) (hy : E.at y = some (.v (.int k' (c : Int)))) (hc : c ≤ 4398046511104) :
    OpOk P B ⟨dst, .makeSlice t x y, ty, pos, after, guard⟩ E (newD B e (fun b => .slice (some ⟨b, 0, none⟩) c c) (rssV (List.replicate c zR))) := rss_zero hz c ▸ ok_makeK c ht hinfo hnb hx hy hc
theorem newD_sli {base : Nat} {e : TypeId} {c : Nat} {xs : List Value} : Le (newD base e (fun b => .slice (some ⟨b, 0, none⟩) c c) xs) (sliZ (zOwn e base) true c xs) := fun B w x ⟨b, h1, h2, h3, h4⟩ => ⟨_, _, h1, Nat.le_refl _, fun _ => rfl, RowZ.blk h3 h4 ⟨rfl, h2⟩ fun _ _ h => h⟩
/-- A literal of an array, of two slices. -/
theorem ok_buildAr {Z : TypeId → Nat → Prop} {t : TypeId} {ps : Array (Nat × Operand)} {x y : Operand} {ex : Bool} {a : Ar} {f g : D} (hps : ps.toList = [(0, x), (1, y)]) (hb : ∀ (A₁ : Option Addr) (n₁ q₁ : Nat) (A₂ : Option Addr) (n₂ q₂ : Nat), P.built t [(0, .slice A₁ n₁ q₁), (1, .slice A₂ n₂ q₂)] = some #[.slice A₁ n₁ q₁, .slice A₂ n₂ q₂])
    (hx : E.at x = some f) (hf : Le f (sliZ Z ex a.now.length (bksV a.now))) (hy : E.at y = some g) (hg : Le g (sliZ Z ex a.dur.length (bksV a.dur))) : OpOk P B ⟨dst, .build t ps, ty, pos, after, guard⟩ E (arrZ Z ex a) := fun ρ w _ _ hρ => by
  have h1 := hf.of (hρ x (by simp [Op.operands, hps]) _ hx)
  have h2 := hg.of (hρ y (by simp [Op.operands, hps]) _ hy)
  obtain ⟨A₁, q₁, e1, k1⟩ := id h1
  obtain ⟨A₂, q₂, e2, k2⟩ := id h2
  have hus : (ps.map fun p => (p.1, ρ p.2)).toList = [(0, .slice A₁ a.now.length q₁), (1, .slice A₂ a.dur.length q₂)] := by
    rw [Array.toList_map, hps]; simp [e1, e2]
  have hr := run_build (P := P) w t (ps.map fun (i, x) => (i, ρ x)) #[.slice A₁ a.now.length q₁, .slice A₂ a.dur.length q₂] (by rw [show (ps.map fun (i, x) => (i, ρ x)).toList = [(0, .slice A₁ a.now.length q₁), (1, .slice A₂ a.dur.length q₂)] from hus]; exact hb A₁ _ q₁ A₂ _ q₂)
  exact out_val (x := aggV [.slice A₁ a.now.length q₁, .slice A₂ a.dur.length q₂]) (w' := w) (by simp [execOp, hr, aggV]) ⟨Grow.refl w, _, _, rfl, by rw [← e1]; exact h1, by rw [← e2]; exact h2⟩
theorem ok_capG {t e : TypeId} {x : Operand} {f : D} {m : Nat} {xs : List Value} (ht : P.underlying t = some (.slice e)) (hx : E.at x = some f) (hf : Le f (rowG true m xs)) :
    OpOk P B ⟨dst, .call { callee := .builtin .cap, args := #[x], argTypes := #[t] }, ty, pos, after, guard⟩ E (.v (nI m)) := fun ρ w _ _ hρ => by
  obtain ⟨A, q, h1, _, h3, _⟩ := hf.of (hρ x (by simp [Op.operands, Call.operands]) _ hx)
  rw [h3 rfl] at h1
  exact out_val (w' := w) (by simp [execOp, resolve, invoke, builtin, Builtin.cap_, run_underlying ht, h1, goInt]) ⟨Grow.refl w, rfl⟩
/-- A slice as an array. -/
theorem ok_arrayR {t e : TypeId} {x : Operand} {A₁ : Option Addr} {q k B' : Nat} {l : List UInt8} (len : Nat) (hlen : l.length = len) (ht : P.underlying t = some (.array len e)) (hx : E.at x = some (.v (.slice A₁ l.length q))) (hk : vbase ≤ k) (hl : E.look k = some (old B' (memR A₁ (l.map byteV)))) (h0 : 0 < l.length) :
    OpOk P B ⟨dst, .sliceToArrayPointer t x, ty, pos, after, guard⟩ E (elemP (l.map byteV)) := fun ρ w _ hv hρ => by
  have h1 : ρ x = .slice A₁ l.length q := hρ x (by simp [Op.operands]) _ hx
  obtain ⟨hB, hrow⟩ := hv k _ hk hl
  obtain ⟨ad, rfl, hab, _⟩ := hrow 0 _ (List.getElem?_eq_getElem (by rw [List.length_map]; exact h0))
  subst hlen
  refine out_val (x := .pointer (some ad)) (w' := w) (by simp [execOp, h1, Instr.arrayAt, run_underlying ht]) ⟨Grow.refl w, ad, rfl, by omega, fun j u hu => ?_⟩
  obtain ⟨ad', h2, _, h4⟩ := hrow j u hu
  injection h2 with h2; subst h2; exact h4
end
end Go.Proofs.Ytggijkmlmklneaa
namespace Go.Proofs.Ytggijkmlmklneaa
open Go Go.RowKit
set_option linter.unusedVariables false
set_option linter.unusedSimpArgs false
variable {κ : Cx}
/-! ### An array over two new blocks -/
def newA (base : Nat) (e : TypeId) (ex : Bool) (a : Ar) : D :=
  .p (fun B w x => ∃ b₁ b₂ q₁ q₂ r₁ r₂, x = aggV [.slice (some ⟨b₁, 0, none⟩) a.now.length q₁, .slice (some ⟨b₂, 0, none⟩) a.dur.length q₂] ∧ (base ≤ b₁ ∧ base ≤ b₂ ∧ b₁ ≠ b₂ ∧ a.now.length ≤ q₁ ∧ a.dur.length ≤ q₂) ∧ (ex = true → q₁ = a.now.length ∧ q₂ = a.dur.length ∧ r₁ = [] ∧ r₂ = []) ∧
      b₁ < B ∧ b₂ < B ∧ w.heap[b₁]? = some (.cells (bksV a.now ++ r₁).toArray e (0, 0)) ∧ w.heap[b₂]? = some (.cells (bksV a.dur ++ r₂).toArray e (0, 0)))
    (fun _ _ _ _ g ⟨b₁, b₂, q₁, q₂, r₁, r₂, h1, h2, h3, h4, h5, h6, h7⟩ => ⟨b₁, b₂, q₁, q₂, r₁, r₂, h1, h2, h3, h4, h5, (g.block b₁ h4).trans h6, (g.block b₂ h5).trans h7⟩)
    (fun _ _ _ _ g ⟨b₁, b₂, q₁, q₂, r₁, r₂, h1, h2, h3, h4, h5, h6, h7⟩ => ⟨b₁, b₂, q₁, q₂, r₁, r₂, h1, h2, h3, by omega, by omega, h6, h7⟩)
theorem newA_mono {e : TypeId} {ex : Bool} {a : Ar} (B B' : Nat) (h : B ≤ B') : Le (newA B' e ex a) (newA B e ex a) := fun _ _ _ ⟨b₁, b₂, q₁, q₂, r₁, r₂, h1, h2, h3⟩ => ⟨b₁, b₂, q₁, q₂, r₁, r₂, h1, ⟨by omega, by omega, h2.2.2⟩, h3⟩
theorem newA_arr {base : Nat} {e : TypeId} {ex : Bool} {a : Ar} : Le (newA base e ex a) (arrZ (zOwn e base) ex a) := fun B w x ⟨b₁, b₂, q₁, q₂, r₁, r₂, h1, h2, h3, h4, h5, h6, h7⟩ =>
  ⟨_, _, h1, ⟨_, _, rfl, h2.2.2.2.1, fun h => (h3 h).1, RowZ.blk h4 h6 ⟨rfl, h2.1⟩ app_get⟩, ⟨_, _, rfl, h2.2.2.2.2, fun h => (h3 h).2.1, RowZ.blk h5 h7 ⟨rfl, h2.2.1⟩ app_get⟩⟩
structure N2 where
  b₁ : Nat
  b₂ : Nat
  q₁ : Nat
  q₂ : Nat
  r₁ : List Value
  r₂ : List Value
def NewA (B : Nat) (E : Env) (n₁ n₂ : Nat) (p : N2) : Prop := B ≤ p.b₁ ∧ B ≤ p.b₂ ∧ p.b₁ ≠ p.b₂ ∧ n₁ ≤ p.q₁ ∧ n₂ ≤ p.q₂ ∧ (∀ s b' e xs, E.look s = some (blk b' e xs) → b' < p.b₁) ∧ ∀ s b' e xs, E.look s = some (blk b' e xs) → b' < p.b₂
section
variable {P : Program} {n B : Nat} {ops : Array Oper} {E : Env}
theorem eff_nameA {o : Oper} {d k₁ k₂ : Nat} {e : TypeId} {ex : Bool} {a : Ar} (ht : o.dst = some d) (hg : o.guard = none) (hok : ∀ B', OpOk P B' o E (newA B' e ex a)) (hdn : d < n) (hnv : n ≤ vbase) :
    EffG P n B ops o E (NewA B E a.now.length a.dur.length) (fun p => (d, .v (aggV [.slice (some ⟨p.b₁, 0, none⟩) a.now.length p.q₁, .slice (some ⟨p.b₂, 0, none⟩) a.dur.length p.q₂])) :: (k₁, blk p.b₁ e (bksV a.now ++ p.r₁)) :: (k₂, blk p.b₂ e (bksV a.dur ++ p.r₂)) :: E) := by
  intro κ ac w K Q h hK
  rw [if_pos (by simp [Region.wanted, hg])]
  refine wp_of_out ht ((hok w.heap.size ac.eval w (Nat.le_refl _) (h.virt hnv) fun x _ u hu => h.at_ x _ hu).mono ?_)
  rintro x w' ⟨hgr, b₁, b₂, q₁, q₂, r₁, r₂, rfl, ⟨h1, h2, h3, h4, h5⟩, _, h6, h7, h8, h9⟩
  refine hK ⟨b₁, b₂, q₁, q₂, r₁, r₂⟩ _ _ ⟨Nat.le_trans h.base h1, Nat.le_trans h.base h2, h3, h4, h5, fun s b' e ys hs => Nat.lt_of_lt_of_le (h.of s _ hs).1 h1, fun s b' e ys hs => Nat.lt_of_lt_of_le (h.of s _ hs).1 h2⟩ (Below.mono hgr h.base) (St.put ?_ hdn rfl)
  exact ((h.grow hgr).push (t := k₂) (d := blk b₂ e _) ⟨h7, h9⟩).push (t := k₁) (d := blk b₁ e _) ⟨h6, h8⟩
def NewAE (B : Nat) (E : Env) (p : Nat × Nat) : Prop := B ≤ p.1 ∧ B ≤ p.2 ∧ p.1 ≠ p.2 ∧ (∀ s b' e xs, E.look s = some (blk b' e xs) → b' < p.1) ∧ ∀ s b' e xs, E.look s = some (blk b' e xs) → b' < p.2
theorem eff_nameAE {o : Oper} {d k₁ k₂ : Nat} {e : TypeId} {a : Ar} (ht : o.dst = some d) (hg : o.guard = none) (hok : ∀ B', OpOk P B' o E (newA B' e true a)) (hdn : d < n) (hnv : n ≤ vbase) :
    EffG P n B ops o E (NewAE B E) (fun p => (d, .v (aggV [.slice (some ⟨p.1, 0, none⟩) a.now.length a.now.length, .slice (some ⟨p.2, 0, none⟩) a.dur.length a.dur.length])) :: (k₁, blk p.1 e (bksV a.now)) :: (k₂, blk p.2 e (bksV a.dur)) :: E) := by
  intro κ ac w K Q h hK
  rw [if_pos (by simp [Region.wanted, hg])]
  refine wp_of_out ht ((hok w.heap.size ac.eval w (Nat.le_refl _) (h.virt hnv) fun x _ u hu => h.at_ x _ hu).mono ?_)
  rintro x w' ⟨hgr, b₁, b₂, q₁, q₂, r₁, r₂, rfl, ⟨h1, h2, h3, h4, h5⟩, h10, h6, h7, h8, h9⟩
  obtain ⟨rfl, rfl, rfl, rfl⟩ := h10 rfl
  rw [List.append_nil] at h8 h9
  refine hK (b₁, b₂) _ _ ⟨Nat.le_trans h.base h1, Nat.le_trans h.base h2, h3, fun s b' e ys hs => Nat.lt_of_lt_of_le (h.of s _ hs).1 h1, fun s b' e ys hs => Nat.lt_of_lt_of_le (h.of s _ hs).1 h2⟩ (Below.mono hgr h.base) (St.put ?_ hdn rfl)
  exact ((h.grow hgr).push (t := k₂) (d := blk b₂ e _) ⟨h7, h9⟩).push (t := k₁) (d := blk b₁ e _) ⟨h6, h8⟩
/-- A row that was made just now and one that is made: both get names. -/
theorem eff_two {o : Oper} {d r k₁ k₂ sz : Nat} {e : TypeId} {m₁ m₂ : Nat} {xs ys : List Value} (ht : o.dst = some d) (hg : o.guard = none) (hr : E.look r = some (ownP B e sz m₁ xs)) (h1 : 0 < m₁) (hok : ∀ B', OpOk P B' o E (ownP B' e sz m₂ ys)) (h2 : 0 < m₂) (hdn : d < n) (hrn : r < n) (hrd : r ≠ d) (hnv : n ≤ vbase) (hk₁ : vbase ≤ k₁) (hk₂ : vbase ≤ k₂) :
    EffG P n B ops o E (fun p : N2 => B ≤ p.b₁ ∧ B ≤ p.b₂ ∧ p.b₁ ≠ p.b₂ ∧ m₁ ≤ p.q₁ ∧ m₂ ≤ p.q₂) (fun p => (d, .v (.slice (some ⟨p.b₂, 0, none⟩) m₂ p.q₂)) :: (r, .v (.slice (some ⟨p.b₁, 0, none⟩) m₁ p.q₁)) :: (k₁, blk p.b₁ e (xs ++ p.r₁)) :: (k₂, blk p.b₂ e (ys ++ p.r₂)) :: E) := by
  intro κ ac w K Q h hK
  rw [if_pos (by simp [Region.wanted, hg])]
  refine wp_of_out ht ((hok w.heap.size ac.eval w (Nat.le_refl _) (h.virt hnv) fun x _ u hu => h.at_ x _ hu).mono ?_)
  rintro x w' ⟨hgr, ⟨hl, hc⟩, hlt⟩
  obtain ⟨⟨hl', hc'⟩, hlt'⟩ := h.of r _ hr
  rcases hc with ⟨_, h0⟩ | ⟨g, cap, cur, rfl, hgb, hh, hcap, _, _, htk⟩
  · omega
  rcases hc' with ⟨_, h0⟩ | ⟨g', cap', cur', hx', hgb', hh', hcap', _, _, htk'⟩
  · omega
  have hg1 : g' < w.heap.size := hlt' g' (by rw [hx']; rfl)
  have hg2 : g < w'.heap.size := hlt g rfl
  have hh2 : w'.heap[g']? = some (.cells cur' e (0, 0)) := (hgr.block g' hg1).trans hh'
  have e1 : cur' = (xs ++ cur'.toList.drop (m₁ * sz)).toArray := by
    rw [← htk', List.take_append_drop]
  have e2 : cur = (ys ++ cur.toList.drop (m₂ * sz)).toArray := by
    rw [← htk, List.take_append_drop]
  rw [e1] at hh2
  rw [e2] at hh
  refine hK ⟨g', g, cap', cap, cur'.toList.drop (m₁ * sz), cur.toList.drop (m₂ * sz)⟩ _ _ ⟨hgb', Nat.le_trans h.base hgb, by show g' ≠ g; omega, hcap', hcap⟩ (Below.mono hgr h.base) (St.put ?_ hdn rfl)
  have hst := ((h.grow hgr).push (t := k₂) (d := blk g e (ys ++ cur.toList.drop (m₂ * sz))) ⟨hg2, hh⟩).push (t := k₁) (d := blk g' e (xs ++ cur'.toList.drop (m₁ * sz))) ⟨Nat.lt_of_lt_of_le hg1 hgr.size, hh2⟩
  exact hst.push (t := r) (d := .v _) hx'
end
/-! ### Drawn regions, state by state -/
section
variable {P : Program} {n B : Nat} {ops : Array Oper} {C : Env → Prop} {κ : Cx} {Q : Exit → Act → World → Prop}
theorem EffG.sub {o : Oper} {E E' : Env} {ι : Type} {G : ι → Prop} {E₂ : ι → Env} (hs : Sub E' E) (h : EffG P n B ops o E' G E₂) : EffG P n B ops o E G E₂ := fun κ a w K Q hst hK => h κ a w K Q (hst.sub hs) hK
theorem AnyT.sub (hC : ∀ E E', Sub E' E → C E' → C E) : ∀ {fuel : Nat} {listed : Array Bool} {E E' : Env}, Sub E' E → AnyT P n B ops C fuel listed E' → AnyT P n B ops C fuel listed E
  | 0, _, _, _, hs, ⟨hr, hc⟩ => ⟨hr, hC _ _ hs hc⟩
  | fuel + 1, _, _, _, hs, .inl ⟨hr, hc⟩ => .inl ⟨hr, hC _ _ hs hc⟩
  | fuel + 1, _, _, _, hs, .inr ⟨hne, h⟩ => .inr ⟨hne, fun i hi => by
    obtain ⟨o, ho, ι, G, E₂, he, hn⟩ := h i hi
    exact ⟨o, ho, ι, G, E₂, he.sub hs, hn⟩⟩
/-- An operation whose result gets a name. -/
theorem NextT.effG {fuel : Nat} {listed : Array Bool} {E : Env} {i : Nat} {o : Oper} {r : List Nat} {ι : Type} {G : ι → Prop} {E₂ : ι → Env} (ho : ops[i]? = some o) (he : EffG P n B ops o E G E₂) (h : ∀ j, G j → AnyT P n B ops C fuel (listed.setIfInBounds i true) (E₂ j)) (hr : NextT P n B ops C fuel listed E r) :
    NextT P n B ops C fuel listed E (i :: r) := ⟨⟨o, ho, ι, G, E₂, he, h⟩, hr⟩
theorem Sub.trans {E E' E'' : Env} (h : Sub E'' E') (h' : Sub E' E) : Sub E'' E := fun p hp => h' _ (look_mem (h p hp))
theorem A.regsD {w₀ : World} {y : Code} {E : Env} {id : Nat} {ι : Type} {G : ι → Prop} {Z : ι → Env} (hm : P.follows .mixedOrders = true)
    (hr : ∀ T : Nat → Array Bool → Env → Prop, (∀ {f l E}, AnyT P n w₀.heap.size ops (fun E₁ => ∃ j, G j ∧ Sub (Z j) E₁) f l E → T f l E) → (∀ {f l l' E E'}, l' = l → Sub E' E → T f l E' → AnyT P n w₀.heap.size ops (fun E₁ => ∃ j, G j ∧ Sub (Z j) E₁) f l' E) → T ops.size (Array.replicate ops.size false) E)
    (hz : ∀ j, G j → A κ P w₀ n y (Z j) Q) : A κ P w₀ n (.seq (.region id ops true) y) E Q := by
  have hC : ∀ E E' : Env, Sub E' E → (∃ j, G j ∧ Sub (Z j) E') → ∃ j, G j ∧ Sub (Z j) E := fun E E' hs ⟨j, hj, h⟩ => ⟨j, hj, h.trans hs⟩
  have h0 := hr (AnyT P n w₀.heap.size ops (fun E₁ => ∃ j, G j ∧ Sub (Z j) E₁)) (fun h => h) (fun hl hs h => hl ▸ AnyT.sub hC hs h)
  exact A.seq fun a w hg hst => by
    have hd : Below w₀.heap.size w w.drew := (Below.refl _ w).drew
    exact wpIn_region_any hm (wp_anyE h0 (hst.grow (Grow.refl w).drew) fun E' a' w' ⟨j, hj, hs⟩ g h' => hz j hj a' w' (hg.trans (hd.trans g)) (h'.sub hs))
end
theorem own_rowG {base n : Nat} {e : TypeId} {xs : List Value} : Le (own base e n xs) (rowG false n xs) := fun B w x ⟨⟨hl, h2⟩, hlt⟩ => by
  rcases h2 with ⟨rfl, rfl⟩ | ⟨g, cap, cur, rfl, _, hh, hnc, _, _, htk⟩
  · exact ⟨none, 0, rfl, Nat.le_refl _, nofun, fun j u hu => by
      have : xs = [] := List.length_eq_zero_iff.1 (by omega)
      subst this; cases hu⟩
  · refine ⟨_, _, rfl, hnc, nofun, fun j u hu => ⟨_, rfl, hlt g rfl, ?_⟩⟩
    rw [add_lit0, Nat.zero_add]
    rw [← htk, List.getElem?_take] at hu
    split at hu
    · simp [World.cell?, hh]; simpa using hu
    · cases hu
section
variable {P : Program} {B : Nat} {E : Env} {o : Oper}
theorem OpOk.slO {ex : Bool} {A₁ : Option Addr} {m q₁ k₁ B' : Nat} {xs : List Value} (h : OpOk P B o E (.v (.slice A₁ m q₁))) (hq₁ : m ≤ q₁) (he : ex = true → q₁ = m) (hk₁ : vbase ≤ k₁) (h1 : E.look k₁ = some (old B' (memR A₁ xs))) : OpOk P B o E (old B' (rowG ex m xs)) := fun ρ w hB hv hρ => by
  refine (h ρ w hB hv hρ).mono fun x w' hx => ⟨hx.1, ?_⟩
  have g1 : (old B' (memR A₁ xs)).Of w' undef := D.Of.grow (hv k₁ _ hk₁ h1) hx.1
  exact ⟨g1.1, _, _, hx.2, hq₁, he, g1.2⟩
end
section
variable {P : Program} {B : Nat} {E : Env} {dst : Option Tmp} {ty : TypeId} {pos : String} {after : Array Edge} {guard : Option (Nat × Bool)}
theorem ok_indexKO {t e : TypeId} {m B' : Nat} {x i : Operand} {d : D} {ds : List D} {k : IntKind} (j : Nat) (ht : P.underlying t = some (.slice e)) (hs : SizeIs P e m) (hx : E.at x = some (old B' (lstK m ds))) (hi : E.at i = some (.v (.int k (j : Int)))) (hd : ds[j]? = some d) :
    OpOk P B ⟨dst, .indexAddr t x i, ty, pos, after, guard⟩ E (old B' (ptrK m d)) := fun ρ w _ _ hρ => by
  obtain ⟨hB, A, q, h1, h2⟩ := hρ x (by simp [Op.operands]) _ hx
  have hi' : ρ i = .int k j := hρ i (by simp [Op.operands]) _ hi
  obtain ⟨ad, cs, rfl, k2, k3, k4, k5⟩ := h2 j d hd
  obtain ⟨info, hinfo, hsize⟩ := hs.get
  have hlt : j < ds.length := (List.getElem?_eq_some_iff.1 hd).1
  refine out_val (x := .pointer (some (ad.add (j * m)))) (w' := w) ?_ ⟨Grow.refl w, hB, _, cs, rfl, by rw [block_of_add]; exact k2, k3, fun l u hu => by rw [add_of_add]; exact k4 l u hu, k5⟩
  simp [execOp, h1, hi', Instr.indexAt, asIntOf, run_underlying ht, sizeOf, typeInfo, hinfo, hsize, hlt]
theorem ok_loadKO {T : TypeId} {td : TypeDesc} {x : Operand} {m B' : Nat} {d : D} (ht : P.underlying T = some td) (hp : (match td with | .struct _ | .array _ _ => true | _ => false) = true) (hsz : SizeIs P T m) (hx : E.at x = some (old B' (ptrK m d))) :
    OpOk P B ⟨dst, .load T x, ty, pos, after, guard⟩ E (old B' d) := fun ρ w _ _ hρ => by
  obtain ⟨hB, ad, cs, h1, _, h3, h4, h5⟩ := hρ x (by simp [Op.operands]) _ hx
  exact out_val (w' := w) (by simp [execOp, h1, run_load_agg ht hp (hsz.of h3) h4]) ⟨Grow.refl w, hB, h5⟩
/-- x[:n:n] of a slice of n elements. -/
theorem ok_clip {t e : TypeId} {z : Value} {nb sz n q : Nat} {x ho mo : Operand} {A₁ : Option Addr} {k2 k3 : IntKind} (ht : P.underlying t = some (.slice e)) (hs : InfoP P e z sz nb) (hx : E.at x = some (.v (.slice A₁ n q))) (hho : E.at ho = some (.v (.int k2 (n : Int)))) (hmo : E.at mo = some (.v (.int k3 (n : Int)))) (hq : n ≤ q) :
    OpOk P B ⟨dst, .slice t x none (some ho) (some mo), ty, pos, after, guard⟩ E (.v (.slice A₁ n n)) := fun ρ w _ _ hρ => by
  have h1 : ρ x = _ := hρ x (by simp [Op.operands]) _ hx
  have h3 : ρ ho = .int k2 (n : Int) := hρ ho (by simp [Op.operands]) _ hho
  have h4 : ρ mo = .int k3 (n : Int) := hρ mo (by simp [Op.operands]) _ hmo
  obtain ⟨info, hinfo, _, hsize, _⟩ := hs.get
  refine out_val (x := .slice A₁ n n) (w' := w) ?_ ⟨Grow.refl w, rfl⟩
  cases A₁ with
  | none => simp [execOp, h1, h3, h4, Instr.sliceAt, Instr.slice, run_underlying ht, Instr.sliceBounds, Instr.sliceBound, asIntOf, sizeOf, typeInfo, hinfo, hsize, hq]
  | some ad => simp [execOp, h1, h3, h4, Instr.sliceAt, Instr.slice, run_underlying ht, Instr.sliceBounds, Instr.sliceBound, asIntOf, sizeOf, typeInfo, hinfo, hsize, hq, Addr.add]
end
/-! ### Ends -/
section
variable {P : Program} {n : Nat} {w₀ : World} {E : Env}
/-- return of an array over two rows that have names. -/
theorem End.newA {fn : Func} {r s b b₁ b₂ k₁ k₂ q₁ q₂ : Nat} {T e' e : TypeId} {td : TypeDesc} {ex : Bool} {a : Ar} {r₁ r₂ : List Value} (hr : fn.results = #[.cell r T]) (ht : P.underlying T = some td) (hp : (match td with | .struct _ | .array _ _ => true | _ => false) = true) (hsz : SizeIs P T 2)
    (h1 : E.look r = some (.v (.pointer (some ⟨b, 0, none⟩)))) (h2 : E.look s = some (blk b e' [.slice (some ⟨b₁, 0, none⟩) a.now.length q₁, .slice (some ⟨b₂, 0, none⟩) a.dur.length q₂])) (h3 : E.look k₁ = some (blk b₁ e (bksV a.now ++ r₁))) (h4 : E.look k₂ = some (blk b₂ e (bksV a.dur ++ r₂)))
    (hb₁ : w₀.heap.size ≤ b₁) (hb₂ : w₀.heap.size ≤ b₂) (hne : b₁ ≠ b₂) (hq₁ : a.now.length ≤ q₁) (hq₂ : a.dur.length ≤ q₂) (he : ex = true → q₁ = a.now.length ∧ q₂ = a.dur.length ∧ r₁ = [] ∧ r₂ = []) : End Cx.top w₀ n E (BP P fn (PostOf w₀ (Go.Proofs.Ytggijkmlmklneaa.newA w₀.heap.size e ex a)) .ret) := fun ac w g hs => by
  have h5 : ac.tmps[r]?.getD undef = .pointer (some ⟨b, 0, none⟩) := by rw [← Array.getD_eq_getD_getElem?]; exact hs.of r _ h1
  obtain ⟨hlt, hh⟩ := hs.of s _ h2
  obtain ⟨l1, m1⟩ := hs.of k₁ _ h3
  obtain ⟨l2, m2⟩ := hs.of k₂ _ h4
  exact BP.ret hs.defers ⟨aggV [.slice (some ⟨b₁, 0, none⟩) a.now.length q₁, .slice (some ⟨b₂, 0, none⟩) a.dur.length q₂], by simp [results, hr, h5, asAddr, load_cell (xs := [.slice (some ⟨b₁, 0, none⟩) a.now.length q₁, .slice (some ⟨b₂, 0, none⟩) a.dur.length q₂]) ht hp hsz hh], _, rfl, g, b₁, b₂, q₁, q₂, r₁, r₂, rfl, ⟨hb₁, hb₂, hne, hq₁, hq₂⟩, he, l1, l2, m1, m2⟩
/-- return of a struct of which a fact is known, of another one, and of a value. -/
theorem End.cellKV {fn : Func} {r s b m r₂ s₂ b₂ r' : Nat} {T e T₂ e₂ : TypeId} {td td₂ : TypeDesc} {d d' f f' : D} {ys : List Value} (hr : fn.results = #[.cell r T, .cell r₂ T₂, .tmp r']) (ht : P.underlying T = some td) (hp : (match td with | .struct _ | .array _ _ => true | _ => false) = true) (hsz : SizeIs P T m)
    (h1 : E.look r = some (.v (.pointer (some ⟨b, 0, none⟩)))) (h2 : E.look s = some (varK b e m d)) (hl : Le d d') (ht₂ : P.underlying T₂ = some td₂) (hp₂ : (match td₂ with | .struct _ | .array _ _ => true | _ => false) = true) (hsz₂ : SizeIs P T₂ ys.length)
    (h3 : E.look r₂ = some (.v (.pointer (some ⟨b₂, 0, none⟩)))) (h4 : E.look s₂ = some (blk b₂ e₂ ys)) (h5 : E.look r' = some f) (hl' : Le f f') : End Cx.top w₀ n E (BP P fn (PostOf w₀ (tup [d', .v (aggV ys), f'])) .ret) := fun a w g hs => by
  have h6 : a.tmps[r]?.getD undef = .pointer (some ⟨b, 0, none⟩) := by rw [← Array.getD_eq_getD_getElem?]; exact hs.of r _ h1
  have h7 : a.tmps[r₂]?.getD undef = .pointer (some ⟨b₂, 0, none⟩) := by rw [← Array.getD_eq_getD_getElem?]; exact hs.of r₂ _ h3
  obtain ⟨hlt, cs, k2, k3, hh, k5⟩ := hs.of s _ h2
  obtain ⟨_, hh₂⟩ := hs.of s₂ _ h4
  refine BP.ret hs.defers ⟨.tuple #[aggV cs, aggV ys, a.tmps.getD r' undef], by simp [results, hr, h6, h7, asAddr, load_cell (xs := cs) ht hp (hsz.of k2) hh, load_cell ht₂ hp₂ hsz₂ hh₂], _, rfl, g, [aggV cs, aggV ys, a.tmps.getD r' undef], rfl, rfl, fun j d u hd hu => ?_⟩
  match j, hd, hu with
  | 0, hd, hu => simp only [List.getElem?_cons_zero, Option.some.injEq] at hd hu; subst hd; subst hu; exact hl.of (w := w) k5
  | 1, hd, hu => simp only [List.getElem?_cons_succ, List.getElem?_cons_zero, Option.some.injEq] at hd hu; subst hd; subst hu; rfl
  | 2, hd, hu => simp only [List.getElem?_cons_succ, List.getElem?_cons_zero, Option.some.injEq] at hd hu; subst hd; subst hu; exact hl'.of (hs.of r' f h5)
  | j + 3, hd, _ => simp at hd
/-- return of a struct of which a fact is known, and of two values. -/
theorem End.cellKT {fn : Func} {r s b m r₂ r' : Nat} {T e : TypeId} {td : TypeDesc} {d d' f f' h h' : D} (hr : fn.results = #[.cell r T, .tmp r₂, .tmp r']) (ht : P.underlying T = some td) (hp : (match td with | .struct _ | .array _ _ => true | _ => false) = true) (hsz : SizeIs P T m)
    (h1 : E.look r = some (.v (.pointer (some ⟨b, 0, none⟩)))) (h2 : E.look s = some (varK b e m d)) (hl : Le d d') (h3 : E.look r₂ = some h) (hl₂ : Le h h') (h5 : E.look r' = some f) (hl' : Le f f') : End Cx.top w₀ n E (BP P fn (PostOf w₀ (tup [d', h', f'])) .ret) := fun a w g hs => by
  have h6 : a.tmps[r]?.getD undef = .pointer (some ⟨b, 0, none⟩) := by rw [← Array.getD_eq_getD_getElem?]; exact hs.of r _ h1
  obtain ⟨hlt, cs, k2, k3, hh, k5⟩ := hs.of s _ h2
  refine BP.ret hs.defers ⟨.tuple #[aggV cs, a.tmps.getD r₂ undef, a.tmps.getD r' undef], by simp [results, hr, h6, asAddr, load_cell (xs := cs) ht hp (hsz.of k2) hh], _, rfl, g, [aggV cs, a.tmps.getD r₂ undef, a.tmps.getD r' undef], rfl, rfl, fun j d u hd hu => ?_⟩
  match j, hd, hu with
  | 0, hd, hu => simp only [List.getElem?_cons_zero, Option.some.injEq] at hd hu; subst hd; subst hu; exact hl.of (w := w) k5
  | 1, hd, hu => simp only [List.getElem?_cons_succ, List.getElem?_cons_zero, Option.some.injEq] at hd hu; subst hd; subst hu; exact hl₂.of (hs.of r₂ h h3)
  | 2, hd, hu => simp only [List.getElem?_cons_succ, List.getElem?_cons_zero, Option.some.injEq] at hd hu; subst hd; subst hu; exact hl'.of (hs.of r' f h5)
  | j + 3, hd, _ => simp at hd
/-- A slice over a row that has a name. -/
theorem A.packSl {κ : Cx} {c : Code} {Q : Exit → Act → World → Prop} {t k b m lo : Nat} {e : TypeId} {xs : List Value} (ht : E.look t = some (.v (.slice (some ⟨b, 0, none⟩) m m))) (hk : E.look k = some (blk b e xs)) (hl : lo ≤ b) (h : A κ P w₀ n c ((t, sliZ (zOwn e lo) true m xs) :: E) Q) : A κ P w₀ n c E Q := fun ac w g hs => by
  obtain ⟨m1, m2⟩ := hs.of k _ hk
  exact h ac w g (hs.push (t := t) (d := sliZ (zOwn e lo) true m xs) ⟨_, _, hs.of t _ ht, Nat.le_refl _, fun _ => rfl, RowZ.blk m1 m2 ⟨rfl, hl⟩ fun _ _ h => h⟩)
end
/-- A variable over two slices whose blocks have names holds an array without room. -/
theorem A.packAE {P : Program} {n : Nat} {w₀ : World} {E : Env} {κ : Cx} {c : Code} {Q : Exit → Act → World → Prop} {k k₁ k₂ b b₁ b₂ n₁ n₂ lo : Nat} {T tB : TypeId} (a : Ar) (hk : E.look k = some (blk b T [.slice (some ⟨b₁, 0, none⟩) n₁ n₁, .slice (some ⟨b₂, 0, none⟩) n₂ n₂])) (hn₁ : n₁ = a.now.length) (hn₂ : n₂ = a.dur.length)
    (h1 : E.look k₁ = some (blk b₁ tB (bksV a.now))) (h2 : E.look k₂ = some (blk b₂ tB (bksV a.dur))) (hl₁ : lo ≤ b₁) (hl₂ : lo ≤ b₂) (h : A κ P w₀ n c ((k, varK b T 2 (arrZ (zOwn tB lo) true a)) :: E) Q) : A κ P w₀ n c E Q := by
  subst hn₁; subst hn₂
  exact A.packAr (r₁ := []) (r₂ := []) hk (by rw [List.append_nil]; exact h1) (by rw [List.append_nil]; exact h2) hl₁ hl₂ (Nat.le_refl _) (Nat.le_refl _) (fun _ => ⟨rfl, rfl⟩) h
theorem End.packAE {n : Nat} {w₀ : World} {E : Env} {κ : Cx} {Q : Act → World → Prop} {k k₁ k₂ b b₁ b₂ n₁ n₂ lo : Nat} {T tB : TypeId} (a : Ar) (hk : E.look k = some (blk b T [.slice (some ⟨b₁, 0, none⟩) n₁ n₁, .slice (some ⟨b₂, 0, none⟩) n₂ n₂])) (hn₁ : n₁ = a.now.length) (hn₂ : n₂ = a.dur.length)
    (h1 : E.look k₁ = some (blk b₁ tB (bksV a.now))) (h2 : E.look k₂ = some (blk b₂ tB (bksV a.dur))) (hl₁ : lo ≤ b₁) (hl₂ : lo ≤ b₂) (h : End κ w₀ n ((k, varK b T 2 (arrZ (zOwn tB lo) true a)) :: E) Q) : End κ w₀ n E Q := fun ac w g hs => by
  subst hn₁; subst hn₂
  obtain ⟨m1, m2⟩ := hs.of k _ hk
  obtain ⟨m3, m4⟩ := hs.of k₁ _ h1
  obtain ⟨m5, m6⟩ := hs.of k₂ _ h2
  exact h ac w g (hs.push (t := k) (d := varK b T 2 (arrZ (zOwn tB lo) true a)) ⟨m1, _, rfl, rfl, m2, _, _, rfl, ⟨_, _, rfl, Nat.le_refl _, fun _ => rfl, RowZ.blk m3 m4 ⟨rfl, hl₁⟩ fun _ _ h => h⟩, ⟨_, _, rfl, Nat.le_refl _, fun _ => rfl, RowZ.blk m5 m6 ⟨rfl, hl₂⟩ fun _ _ h => h⟩⟩)
/-- A row that has a name, by its address. -/
theorem A.memOf {P : Program} {n : Nat} {w₀ : World} {E : Env} {κ : Cx} {c : Code} {Q : Exit → Act → World → Prop} {k k' b : Nat} {e : TypeId} {xs : List Value} (hk : E.look k = some (blk b e xs)) (h : A κ P w₀ n c ((k', old (b + 1) (memR (some ⟨b, 0, none⟩) xs)) :: E) Q) : A κ P w₀ n c E Q := fun ac w g hs => by
  obtain ⟨m1, m2⟩ := hs.of k _ hk
  exact h ac w g (hs.push (t := k') (d := old (b + 1) (memR (some ⟨b, 0, none⟩) xs)) ⟨m1, blk_rowIn (Nat.lt_succ_self b) m2⟩)
/-- return of a variable of several cells from a function that writes several blocks. -/
theorem End.wroteLC {P : Program} {n : Nat} {E : Env} {w₀ w₁ : World} {fn : Func} {gs : List (TypeId × Nat)} {G : Nat → Nat → Prop} {u : Nat → Value} {M' : Nat → Env} {kw r s b : Nat} {T e : TypeId} {td : TypeDesc} {ys : List Value} {x : Exit} (hex : x = .ret ∨ x = .normal) (hr : fn.results = #[.cell r T])
    (ht : P.underlying T = some td) (hp : (match td with | .struct _ | .array _ _ => true | _ => false) = true) (hsz : SizeIs P T ys.length) (h1 : E.look r = some (.v (.pointer (some ⟨b, 0, none⟩)))) (h2 : E.look s = some (blk b e ys)) (hw : E.look kw = some (Go.Proofs.Ytggijkmlmklneaa.wroteL gs w₁)) (i : Nat) (hu : aggV ys = u i) (hG : G w₁.heap.size i) (hn : n ≤ vbase)
    (hM : ∀ p ∈ M' i, ∃ k, vbase ≤ k ∧ E.look k = some p.2) : End Cx.top w₀ n E (BP P fn (PL gs w₁ G u M') x) := End.wroteL hex hw i hG hn (fun a w hs => by
  have h3 : a.tmps[r]?.getD undef = .pointer (some ⟨b, 0, none⟩) := by rw [← Array.getD_eq_getD_getElem?]; exact hs.of r _ h1
  obtain ⟨_, hh⟩ := hs.of s _ h2
  rw [← hu]
  simp [results, hr, h3, asAddr, load_cell (xs := ys) ht hp hsz hh]) hM
/-! ### Lists of structs told by facts -/
def lstE (e : TypeId) (m : Nat) (ds : List D) : D :=
  .p (fun B w x => ∃ A q xs, x = .slice A ds.length q ∧ ds.length ≤ q ∧ xs.length = ds.length * m ∧ RowX 0 e B w A xs ∧ ∀ (i : Nat) (d : D), ds[i]? = some d → d.OfB B w (aggV ((xs.drop (i * m)).take m)))
    (fun _ _ _ _ g ⟨A, q, xs, h1, h2, h3, h4, h5⟩ => ⟨A, q, xs, h1, h2, h3, h4.keepB g, fun i d hd => (h5 i d hd).keep g⟩) (fun _ _ _ _ g ⟨A, q, xs, h1, h2, h3, h4, h5⟩ => ⟨A, q, xs, h1, h2, h3, h4.upB g, fun i d hd => (h5 i d hd).up g⟩)
theorem part_get {xs : List Value} {i m : Nat} {L : Nat} (hl : xs.length = L * m) (hi : i < L) : ((xs.drop (i * m)).take m).length = m := by
  have := Nat.mul_le_mul_right m (show i + 1 ≤ L from hi)
  rw [Nat.succ_mul] at this
  rw [List.length_take, List.length_drop]; omega
theorem lstE_lstK {e : TypeId} {m : Nat} {ds : List D} (hm : 0 < m) : Le (lstE e m ds) (lstK m ds) := fun B w x ⟨A, q, xs, h1, h2, h3, h4, h5⟩ => ⟨A, q, h1, fun i d hd => by
  have hi : i < ds.length := (List.getElem?_eq_some_iff.1 hd).1
  have hpl := part_get h3 hi
  have hlt : i * m < xs.length := by
    have := Nat.mul_le_mul_right m (show i + 1 ≤ ds.length from hi)
    rw [Nat.succ_mul] at this; omega
  obtain ⟨ad, rfl, _, hb, _, _⟩ := h4 (i * m) _ (List.getElem?_eq_getElem hlt)
  refine ⟨ad, _, rfl, hb, hpl, fun j u hu => ?_, h5 i d hd⟩
  rw [List.getElem?_take] at hu
  split at hu
  · rw [List.getElem?_drop] at hu
    obtain ⟨ad', h6, _, _, _, h7⟩ := h4 (i * m + j) u hu
    injection h6 with h6; subst h6; exact h7
  · cases hu⟩
theorem Surv.lstE {B T g : Nat} {e : TypeId} {m : Nat} {ds : List D} (h : e ≠ T) (hd : ∀ d ∈ ds, Surv B T g d) : Surv B T g (Go.Proofs.Ytggijkmlmklneaa.lstE e m ds) := fun w w' x k ⟨A, q, xs, h1, h2, h3, h4, h5⟩ =>
  ⟨A, q, xs, h1, h2, h3, h4.wrote k h, fun i d hi => hd d (List.mem_of_getElem? hi) _ _ _ k (h5 i d hi)⟩
def ownK (base : Nat) (e : TypeId) (m : Nat) (ds : List D) : D :=
  .p (fun B w x => ∃ xs, (ownP base e m ds.length xs).OfB B w x ∧ ∀ (i : Nat) (d : D), ds[i]? = some d → d.OfB B w (aggV ((xs.drop (i * m)).take m)))
    (fun _ _ _ _ g ⟨xs, h1, h2⟩ => ⟨xs, h1.keep g, fun i d hd => (h2 i d hd).keep g⟩) (fun _ _ _ _ g ⟨xs, h1, h2⟩ => ⟨xs, h1.up g, fun i d hd => (h2 i d hd).up g⟩)
theorem ownK_nil {base m : Nat} {e : TypeId} : Le (.v (.slice none 0 0)) (ownK base e m []) := fun B w x h => ⟨[], ownP_nil _ _ _ h, fun i d hd => by simp at hd⟩
theorem ownK_le {base m : Nat} {e : TypeId} {ds ds' : List D} (hl : ds.length = ds'.length) (h : ∀ (i : Nat) (d d' : D), ds[i]? = some d → ds'[i]? = some d' → Le d d') : Le (ownK base e m ds) (ownK base e m ds') := fun B w x ⟨xs, h1, h2⟩ => ⟨xs, hl ▸ h1, fun i d' hd' => by
  have hi : i < ds.length := by have := (List.getElem?_eq_some_iff.1 hd').1; omega
  exact h i _ d' (List.getElem?_eq_getElem hi) hd' _ _ _ (h2 i _ (List.getElem?_eq_getElem hi))⟩
theorem ownK_lstE {base m : Nat} {e : TypeId} {ds : List D} : Le (ownK base e m ds) (lstE e m ds) := fun B w x ⟨xs, ⟨⟨hl, h2⟩, hlt⟩, h3⟩ => by
  rcases h2 with ⟨rfl, h0⟩ | ⟨g, cap, cur, rfl, hb, hh, hnc, hcm, hcs, htk⟩
  · refine ⟨none, 0, xs, by rw [h0], by omega, hl, fun j u hu => ?_, h3⟩
    have : xs = [] := List.length_eq_zero_iff.1 (by rw [hl, h0, Nat.zero_mul])
    subst this; cases hu
  · refine ⟨_, _, xs, rfl, hnc, hl, RowX.blk (Nat.zero_le _) (hlt g rfl) hh fun j u hu => ?_, h3⟩
    rw [← htk, List.getElem?_take] at hu
    split at hu
    · simpa using hu
    · cases hu
theorem Surv.ownK {B T g base m : Nat} {e : TypeId} {ds : List D} (h : e ≠ T) (hd : ∀ d ∈ ds, Surv B T g d) : Surv B T g (Go.Proofs.Ytggijkmlmklneaa.ownK base e m ds) := fun w w' x k ⟨xs, h1, h2⟩ =>
  ⟨xs, Surv.ownP h _ _ _ k h1, fun i d hi => hd d (List.mem_of_getElem? hi) _ _ _ k (h2 i d hi)⟩
section
variable {P : Program} {B : Nat} {E : Env} {dst : Option Tmp} {ty : TypeId} {pos : String} {after : Array Edge} {guard : Option (Nat × Bool)}
/-- A literal of one struct of which a fact is known. -/
theorem ok_build1D {t e : TypeId} {z : Value} {nb sz : Nat} {x : Operand} {f d : D} (ht : P.underlying t = some (.slice e)) (hs : InfoP P e z sz nb) (hz : z.cells.size = sz) (h0 : sz ≤ 65536) (hsz : 0 < sz) (hx : E.at x = some f) (hf : Le f d) (hag : Agg sz d) :
    OpOk P B ⟨dst, .buildSlice t 1 #[(0, x)], ty, pos, after, guard⟩ E (lstK sz [d]) := fun ρ w hB hv hρ => by
  have hd := hf.of (hρ x (by simp [Op.operands]) _ hx)
  obtain ⟨us, hxe, hu, _⟩ := hag _ _ _ hd
  obtain ⟨i, hi, hzv, hsize, _⟩ := hs.get
  have hfill : Instr.fill (fun j => some (j * i.size, i.size)) ((Array.range (1 * i.size)).map (z.cells[· % z.cells.size]!)) [(0, ρ x)] = some us.toArray := by
    have hlen : ((Array.range (1 * i.size)).map (z.cells[· % z.cells.size]!)).size = us.length := by simp [hsize, hu]
    rw [hxe]
    have hc : (aggV us).cells = us.toArray := rfl
    unfold Instr.fill
    simp only [Nat.zero_mul]
    rw [hc, if_neg (by simp [hsize, hu])]
    have hg := fill_go us ((Array.range (1 * i.size)).map (z.cells[· % z.cells.size]!)).toList [] (by rw [Array.length_toList, hlen])
    simp only [List.nil_append, List.length_nil, Array.toArray_toList] at hg
    rw [show us.toArray.zipIdx.foldl (fun cs (x : Value × Nat) => match x with | (c, j) => cs.setIfInBounds (0 + j) c) ((Array.range (1 * i.size)).map (z.cells[· % z.cells.size]!)) = us.toArray from by
      rw [← Array.foldl_toList, Array.toList_zipIdx]; exact hg]
    rfl
  have hr := run_buildSlice (P := P) w t e 1 #[(0, ρ x)] us.toArray i z ht hi hzv (by rw [hsize]; omega) (by rw [hsize]; omega) (by simpa using hfill)
  have hgr : Grow w (w.alloc (.cells us.toArray e)) := Grow.alloc w _
  have hh : (w.alloc (.cells us.toArray e)).heap[w.heap.size]? = some (.cells us.toArray e (0, 0)) := heap_alloc_new w _
  refine out_val (x := .slice (some ⟨w.heap.size, 0, none⟩) 1 1) (w' := w.alloc (.cells us.toArray e)) (by simp [execOp, hr]) ⟨hgr, _, _, rfl, fun j d' hd' => ?_⟩
  match j, hd' with
  | 0, hd' =>
    simp only [List.getElem?_cons_zero, Option.some.injEq] at hd'
    subst hd'
    refine ⟨_, us, rfl, by simp, hu, fun k u hk => ?_, ?_⟩
    · rw [add_lit0, Nat.zero_mul, Nat.zero_add, Nat.zero_add]
      simp only [World.cell?, hh]
      simpa using hk
    · rw [← hxe]; exact D.Of.grow hd hgr
  | j + 1, hd' => simp at hd'
/-- x[:h] of a list of structs told by facts. -/
theorem ok_sliceLK {t e : TypeId} {z : Value} {nb sz : Nat} {x o : Operand} {f : D} {ds : List D} {kd : IntKind} (h : Nat) (ht : P.underlying t = some (.slice e)) (hs : InfoP P e z sz nb) (hx : E.at x = some f) (hf : Le f (lstE e sz ds)) (ho : E.at o = some (.v (.int kd (h : Int)))) (hh : h ≤ ds.length) :
    OpOk P B ⟨dst, .slice t x none (some o) none, ty, pos, after, guard⟩ E (lstE e sz (ds.take h)) := fun ρ w _ _ hρ => by
  obtain ⟨A, q, xs, h1, h2, h3, h4, h5⟩ := hf.of (hρ x (by simp [Op.operands]) _ hx)
  have h6 : ρ o = .int kd (h : Int) := hρ o (by simp [Op.operands]) _ ho
  obtain ⟨info, hinfo, _, hsize, _⟩ := hs.get
  have hq : h ≤ q := by omega
  refine out_val (x := .slice A h q) (w' := w) ?_ ⟨Grow.refl w, A, q, xs.take (h * sz), by rw [List.length_take, Nat.min_eq_left hh], by rw [List.length_take]; omega, ?_, ?_, ?_⟩
  · cases A with
    | none => simp [execOp, h1, h6, Instr.sliceAt, Instr.slice, run_underlying ht, Instr.sliceBounds, Instr.sliceBound, asIntOf, sizeOf, typeInfo, hinfo, hsize, hq]
    | some ad => simp [execOp, h1, h6, Instr.sliceAt, Instr.slice, run_underlying ht, Instr.sliceBounds, Instr.sliceBound, asIntOf, sizeOf, typeInfo, hinfo, hsize, hq, Addr.add]
  · have := Nat.mul_le_mul_right sz hh
    rw [List.length_take, List.length_take, h3, Nat.min_eq_left this, Nat.min_eq_left hh]
  · intro j u hu
    rw [List.getElem?_take] at hu
    split at hu
    · exact h4 j u hu
    · cases hu
  · intro i d hd
    rw [List.getElem?_take] at hd
    split at hd
    · rename_i hi
      have hle : i * sz + sz ≤ h * sz := by rw [← Nat.succ_mul]; exact Nat.mul_le_mul_right _ hi
      have := h5 i d hd
      rwa [show ((xs.take (h * sz)).drop (i * sz)).take sz = (xs.drop (i * sz)).take sz from by rw [List.drop_take, List.take_take, Nat.min_eq_left (by omega)]]
    · cases hd
end
section
variable {P : Program} {n B : Nat} {ops : Array Oper} {E : Env} {ty : TypeId} {pos : String} {after : Array Edge}
/-- append of one struct, told by a fact, to such a list that the call owns. -/
theorem eff_appendK {t e : TypeId} {z : Value} {nb m : Nat} {r x : Operand} {dst : Nat} {f₀ f d : D} {ds : List D} {E' : Env} (ht : P.underlying t = some (.slice e)) (hinfo : InfoP P e z m nb) (hnb : nb ≤ 64) (hz1 : z.cells.size = m) (hm : 0 < m)
    (hr : E.at r = some f₀) (hr' : Le f₀ (ownK B e m ds)) (hx : E.at x = some f) (hf : Le f (lstK m [d])) (hag : Agg m d) (hs : ∀ g, ∀ d' ∈ ds, Surv B e g d') (hs' : ∀ g, Surv B e g d) (hk : (ds.length + 1) * 64 ≤ 1099511627776) (hdst : dst < n) (hl : ∀ g, B ≤ g → LeftS B e g E' E) :
    Eff P n B ops ⟨some dst, .call { callee := .builtin .append, args := #[r, x], argTypes := #[t, t] }, ty, pos, after, none⟩ E ((dst, ownK B e m (ds ++ [d])) :: E') := by
  obtain ⟨i, hi, hz, hs1, hby⟩ := hinfo.get
  intro κ a w K Q h hK
  obtain ⟨xs, ⟨hown, hob⟩, hvd⟩ := hr'.of (h.at_ r _ hr)
  obtain ⟨A, c, hxe, hus⟩ := hf.of (h.at_ x _ hx)
  obtain ⟨ad, us, rfl, hab, hul, hcell, hdu⟩ := hus 0 d rfl
  simp only [List.length_cons, List.length_nil, Nat.zero_add] at hxe
  obtain ⟨us', he, hl1, hu1⟩ := hag _ _ _ hdu
  have := aggV_inj he; subst this
  have hbb : (ds.length + 1) * i.bytes ≤ (ds.length + 1) * 64 := Nat.mul_le_mul_left _ (by omega)
  obtain ⟨v', w', hrun, h3, h4, _, h6⟩ := run_append_own_at (P := P) w B t ty e i z m i.bytes ht hi hz hs1 rfl hz1 hm (a.eval r) ds.length xs hown ad 1 c us (by omega) (fun j u hu => by have := hcell j u hu; rwa [Nat.zero_mul, Nat.zero_add] at this) (fun v hv => List.all_eq_true.1 hu1 v hv) (by simp only [maxLen]; omega) (by omega) h.base
  have hexec : (execOp a.eval ⟨some dst, .call { callee := .builtin .append, args := #[r, x], argTypes := #[t, t] }, ty, pos, after, none⟩).run P w = .ok (.value v') w' := by
    simp [execOp, resolve, invoke, builtin, hxe, hrun]
  rw [if_pos (by simp [Region.wanted])]
  refine opR (by nofun) ?_
  unfold Oper.wp
  rw [hexec, Oper.upon_value]
  have hbase : ∀ g, (a.eval r).ownBlock = some g → B ≤ g := fun g hg => by
    rcases hown.2 with ⟨hv, _⟩ | ⟨g', cap, cur, hv, hb, _⟩
    · rw [hv] at hg; simp [Value.ownBlock] at hg
    · rw [hv] at hg; simp [Value.ownBlock] at hg; omega
  have hbel : Below B w w' := (Below.refl B w).grown h4 h.base hbase
  have hwr : ∃ g, B ≤ g ∧ Wrote B e g w w' := by
    rcases hown.2 with ⟨hv, _⟩ | ⟨g', cap, cur, hv, hb, hh, _⟩
    · refine ⟨w.heap.size, h.base, h.base, h4.os, h4.tape, h4.output, h4.size, fun o hx => ?_, fun k hk _ => h4.block k hk (by rw [hv]; simp [Value.ownBlock])⟩
      rw [Array.getElem?_eq_none (Nat.le_refl _)] at hx; cases hx
    · refine ⟨g', hb, hb, h4.os, h4.tape, h4.output, h4.size, fun o hx => ?_, fun k hk hne => h4.block k hk (by rw [hv]; simp [Value.ownBlock]; omega)⟩
      rw [hh] at hx; injection hx with hx; exact ⟨_, _, hx.symm⟩
  obtain ⟨g, hg, hwr⟩ := hwr
  have hst : St κ n B E' a w' := (hl g hg).st h hwr
  have hxl : xs.length = ds.length * m := hown.1
  refine hK _ _ hbel (hst.put hdst ⟨xs ++ us, ⟨by rw [List.length_append]; exact h3, lt_of_row h3⟩, fun j d' hd' => ?_⟩)
  rcases Nat.lt_or_ge j ds.length with hj | hj
  · rw [List.getElem?_append_left hj] at hd'
    have hle : j * m + m ≤ ds.length * m := by rw [← Nat.succ_mul]; exact Nat.mul_le_mul_right _ hj
    have := hs g d' (List.mem_of_getElem? hd') _ _ _ hwr (hvd j d' hd')
    rwa [show ((xs ++ us).drop (j * m)).take m = (xs.drop (j * m)).take m from by rw [List.drop_append_of_le_length (by omega), List.take_append_of_le_length (by rw [List.length_drop]; omega)]]
  · rw [List.getElem?_append_right hj] at hd'
    have hj0 : j = ds.length := by
      have := (List.getElem?_eq_some_iff.1 hd').1
      simp at this; omega
    subst hj0
    rw [Nat.sub_self, List.getElem?_cons_zero] at hd'
    injection hd' with hd'; subst hd'
    have := hs' g _ _ _ hwr hdu
    rwa [show ((xs ++ us).drop (ds.length * m)).take m = us from by rw [← hxl, List.drop_left, List.take_of_length_le (by omega)]]
end
end Go.Proofs.Ytggijkmlmklneaa
namespace Go.Proofs.Ytggijkmlmklneaa
open Go Go.RowKit
/-- What stands at operation i: operation p is the store of ys into block b, of type T; every other one yields vals[i], from what is known and stays known (Eb), and from what operations have yielded that stand before it. -/
inductive Onces (P : Program) (B : Nat) (ops : Array Oper) (vals : List Value) (Eb : Env) (p b : Nat) (T : TypeId) (ys : List Value) : Nat → List Oper → Prop
  | nil {i : Nat} : Onces P B ops vals Eb p b T ys i []
  | cons {i : Nat} {o : Oper} {rest : List Oper} {t : Nat} {v : Value} (E : Env) (hp : i ≠ p) (hv : vals[i]? = some v) (ht : o.dst = some t) (hd : Eb.look t = none ∨ Eb.look t = some (.v v)) (hf : FromN ops vals Eb o E) (hok : OpOk P B o E (.v v)) (hr : Onces P B ops vals Eb p b T ys (i + 1) rest) : Onces P B ops vals Eb p b T ys i (o :: rest)
  | store {o : Oper} {rest : List Oper} {x y : Operand} {ty : TypeId} {pos : String} {after : Array Edge} (E : Env) (ho : o = ⟨none, .store T x y, ty, pos, after, none⟩) (hf : FromN ops vals Eb o E) (hx : E.at x = some (.v (.pointer (some ⟨b, 0, none⟩)))) (hy : E.at y = some (.v (aggV ys))) (hr : Onces P B ops vals Eb p b T ys (p + 1) rest) : Onces P B ops vals Eb p b T ys p (o :: rest)
section
variable {P : Program} {n B : Nat} {ops : Array Oper} {κ : Cx} {Q : Exit → Act → World → Prop} {vals : List Value} {Eb : Env} {p b k : Nat} {T : TypeId} {zs ys : List Value}
theorem Onces.nth {m : Nat} {l : List Oper} (h : Onces P B ops vals Eb p b T ys m l) : ∀ {i : Nat} {o : Oper}, l[i]? = some o →
    (m + i ≠ p ∧ ∃ E v t, vals[m + i]? = some v ∧ o.dst = some t ∧ (Eb.look t = none ∨ Eb.look t = some (.v v)) ∧ FromN ops vals Eb o E ∧ OpOk P B o E (.v v)) ∨
    (m + i = p ∧ ∃ E x y ty pos after, o = ⟨none, .store T x y, ty, pos, after, none⟩ ∧ FromN ops vals Eb o E ∧ E.at x = some (.v (.pointer (some ⟨b, 0, none⟩))) ∧ E.at y = some (.v (aggV ys))) := by
  induction h with
  | nil => intro i o hi; simp at hi
  | @cons m o0 rest t v E hp hv ht hd hf hok _ ih =>
    intro i o hi
    cases i with
    | zero => simp at hi; subst hi; exact .inl ⟨hp, E, v, t, hv, ht, hd, hf, hok⟩
    | succ i =>
      have := ih (i := i) (by simpa using hi)
      rwa [show m + 1 + i = m + (i + 1) from by omega] at this
  | @store o0 rest x y ty pos after E ho hf hx hy _ ih =>
    intro i o hi
    cases i with
    | zero => simp at hi; subst hi; exact .inr ⟨rfl, E, x, y, ty, pos, after, ho, hf, hx, hy⟩
    | succ i =>
      have := ih (i := i) (by simpa using hi)
      rwa [show p + 1 + i = p + (i + 1) from by omega] at this
/-! ### Step by step -/
theorem FromN.more {o : Oper} {pre r : List Value} {E : Env} (h : FromN ops pre Eb o E) : FromN ops (pre ++ r) Eb o E := by
  induction h with
  | nil => exact .nil
  | all => exact .all
  | base h _ ih => exact .base h ih
  | op j he hd hv _ ih => exact .op j he hd (by rw [List.getElem?_append_left (List.getElem?_eq_some_iff.1 hv).1]; exact hv) ih
def OncesK (P : Program) (B : Nat) (ops : Array Oper) (Eb : Env) (p b : Nat) (T : TypeId) (ys : List Value) (pre : List Value) (l : List Oper) (C : List Value → Prop) : Prop := ∃ r, Onces P B ops (pre ++ r) Eb p b T ys pre.length l ∧ C (pre ++ r)
theorem OncesK.nil {pre : List Value} {C : List Value → Prop} (h : C pre) : OncesK P B ops Eb p b T ys pre [] C := ⟨[], .nil, by simpa using h⟩
theorem OncesK.cons {pre : List Value} {C : List Value → Prop} {o : Oper} {rest : List Oper} {t : Nat} {v : Value} (E : Env) (hp : Nat.beq pre.length p = false) (ht : o.dst = some t) (hd : Eb.look t = none ∨ Eb.look t = some (.v v)) (hf : FromN ops pre Eb o E) (hok : OpOk P B o E (.v v)) (hr : OncesK P B ops Eb p b T ys (pre ++ [v]) rest C) :
    OncesK P B ops Eb p b T ys pre (o :: rest) C := by
  obtain ⟨r, h1, h2⟩ := hr
  rw [List.append_assoc] at h1 h2
  rw [List.length_append] at h1
  refine ⟨[v] ++ r, .cons E (fun h => ?_) (by simp) ht hd hf.more hok h1, h2⟩
  rw [h] at hp; simp at hp
theorem OncesK.store {pre : List Value} {C : List Value → Prop} {rest : List Oper} {x y : Operand} {ty : TypeId} {pos : String} {after : Array Edge} (E : Env) (hp : pre.length = p) (hf : FromN ops pre Eb ⟨none, .store T x y, ty, pos, after, none⟩ E) (hx : E.at x = some (.v (.pointer (some ⟨b, 0, none⟩)))) (hy : E.at y = some (.v (aggV ys)))
    (hr : OncesK P B ops Eb p b T ys (pre ++ [undef]) rest C) : OncesK P B ops Eb p b T ys pre (⟨none, .store T x y, ty, pos, after, none⟩ :: rest) C := by
  obtain ⟨r, h1, h2⟩ := hr
  rw [List.append_assoc] at h1 h2
  rw [List.length_append] at h1
  subst hp
  exact ⟨[undef] ++ r, .store E rfl hf.more hx hy h1, h2⟩
end
end Go.Proofs.Ytggijkmlmklneaa
namespace Go.Proofs.Ytggijkmlmklneaa
open Go Go.RowKit
/-- A store of the region: its number, the block and its key, the type, the cells before and behind it, the value that it stores. -/
structure SV where
  p : Nat
  b : Nat
  k : Nat
  T : TypeId
  z : List Value
  y : List Value
  v : Value
/-- What the store does. -/
def SV.Ok (P : Program) (s : SV) : Prop := ∀ w : World, w.heap[s.b]? = some (.cells s.z.toArray s.T (0, 0)) → (Instr.storeAt s.T (.pointer (some ⟨s.b, 0, none⟩)) s.v).run P w = .ok () (w.setRow s.b s.y.toArray)
theorem SV.one {P : Program} {p b k nb : Nat} {T : TypeId} {z y v : Value} (h : InfoIs P T v nb) (h1 : y.oneCell' = true) : SV.Ok P ⟨p, b, k, T, [z], [y], y⟩ := fun w hh => by
  obtain ⟨inf, hi', _, hsz, _⟩ := h.get
  have hcell : w.cell? ⟨b, 0, none⟩ = some z := by simp [World.cell?, hh]
  have hfrz : w.frozen? ⟨b, 0, none⟩ = false := by simp [World.frozen?, hh]
  have hcu : y.cells = #[y] := by cases y <;> simp_all [Value.oneCell', Value.cells]
  have hadd : (⟨b, 0, none⟩ : Addr).add 0 = ⟨b, 0, none⟩ := rfl
  have hset := setCell_eq_setRow w b 0 [z].toArray T (0, 0) y hh
  have hrow : ([z].toArray.setIfInBounds 0 y) = [y].toArray := by simp
  rw [← hrow, ← hset]
  simp [Instr.storeAt, Instr.sureAddr, storeVar, hcu, sizeOf, typeInfo, hi', hsz, storeCells, hadd, run_store P w ⟨b, 0, none⟩ y .plain h1, hcell, hfrz]
theorem SV.whole {P : Program} {p b k : Nat} {T : TypeId} {zs ys : List Value} (h : SizeIs P T ys.length) (hl : zs.length = ys.length) (h1 : ys.all (·.oneCell') = true) : SV.Ok P ⟨p, b, k, T, zs, ys, aggV ys⟩ := fun w hh => by
  have := run_storeVar_row (P := P) w b T T zs.toArray ys.toArray hh (by simpa [SizeIs] using h) (by simpa using hl) (by simpa using h1)
  simp [Instr.storeAt, Instr.sureAddr, aggV, this]
inductive Many (P : Program) (B : Nat) (ops : Array Oper) (vals : List Value) (Eb : Env) (ss : List SV) : Nat → List Oper → Prop
  | nil {i : Nat} : Many P B ops vals Eb ss i []
  | cons {i : Nat} {o : Oper} {rest : List Oper} {t : Nat} {v : Value} (E : Env) (hp : ∀ s ∈ ss, i ≠ s.p) (hv : vals[i]? = some v) (ht : o.dst = some t) (hd : Eb.look t = none ∨ Eb.look t = some (.v v)) (hf : FromN ops vals Eb o E) (hok : OpOk P B o E (.v v)) (hr : Many P B ops vals Eb ss (i + 1) rest) : Many P B ops vals Eb ss i (o :: rest)
  | store {i : Nat} {o : Oper} {rest : List Oper} {x y : Operand} {ty : TypeId} {pos : String} {after : Array Edge} (s : SV) (hs : s ∈ ss) (hi : i = s.p) (E : Env) (ho : o = ⟨none, .store s.T x y, ty, pos, after, none⟩) (hf : FromN ops vals Eb o E) (hx : E.at x = some (.v (.pointer (some ⟨s.b, 0, none⟩)))) (hy : E.at y = some (.v s.v)) (hr : Many P B ops vals Eb ss (i + 1) rest) : Many P B ops vals Eb ss i (o :: rest)
section
variable {P : Program} {n B : Nat} {ops : Array Oper} {κ : Cx} {Q : Exit → Act → World → Prop} {vals : List Value} {Eb : Env} {ss : List SV}
theorem Many.nth {m : Nat} {l : List Oper} (h : Many P B ops vals Eb ss m l) : ∀ {i : Nat} {o : Oper}, l[i]? = some o →
    ((∀ s ∈ ss, m + i ≠ s.p) ∧ ∃ E v t, vals[m + i]? = some v ∧ o.dst = some t ∧ (Eb.look t = none ∨ Eb.look t = some (.v v)) ∧ FromN ops vals Eb o E ∧ OpOk P B o E (.v v)) ∨
    (∃ s ∈ ss, m + i = s.p ∧ ∃ E x y ty pos after, o = ⟨none, .store s.T x y, ty, pos, after, none⟩ ∧ FromN ops vals Eb o E ∧ E.at x = some (.v (.pointer (some ⟨s.b, 0, none⟩))) ∧ E.at y = some (.v s.v)) := by
  induction h with
  | nil => intro i o hi; simp at hi
  | @cons m o0 rest t v E hp hv ht hd hf hok _ ih =>
    intro i o hi
    cases i with
    | zero => simp at hi; subst hi; exact .inl ⟨hp, E, v, t, hv, ht, hd, hf, hok⟩
    | succ i =>
      have := ih (i := i) (by simpa using hi)
      rwa [show m + 1 + i = m + (i + 1) from by omega] at this
  | @store m o0 rest x y ty pos after s hs hi' E ho hf hx hy _ ih =>
    intro i o hi
    cases i with
    | zero => simp at hi; subst hi; exact .inr ⟨s, hs, hi', E, x, y, ty, pos, after, ho, hf, hx, hy⟩
    | succ i =>
      have := ih (i := i) (by simpa using hi)
      rwa [show m + 1 + i = m + (i + 1) from by omega] at this
structure InvM (κ : Cx) (n B : Nat) (ops : Array Oper) (vals : List Value) (Eb : Env) (ss : List SV) (listed : Array Bool) (a : Act) (w : World) : Prop where
  st : St κ n B Eb a w
  lsize : listed.size = ops.size
  blk : ∀ s ∈ ss, s.b < w.heap.size ∧ w.heap[s.b]? = some (.cells (if listed.getD s.p false then s.y else s.z).toArray s.T (0, 0))
  got : ∀ (i : Nat) (o : Oper) (t : Nat) (v : Value), ops[i]? = some o → listed.getD i false = true → o.dst = some t → vals[i]? = some v → a.tmps.getD t undef = v
theorem look_appM {t : Nat} {e : D} : ∀ {V E : Env}, Env.look (V ++ E) t = some e → (t, e) ∈ V ∨ Env.look E t = some e
  | [], _, h => .inr h
  | (s, d) :: V, E, h => by
    by_cases hs : s = t
    · subst hs
      rw [List.cons_append, look_here] at h; injection h with h; subst h
      exact .inl List.mem_cons_self
    · rw [List.cons_append, look_past _ _ hs] at h
      exact (look_appM h).imp (List.mem_cons_of_mem _) id
theorem wp_many {w₀ : World} (hfit : fits n ops = true) (hd : downsN ops = true) (hn : Many P B ops vals Eb ss 0 ops.toList) (hb : ∀ s ∈ ss, B ≤ s.b) (hdj : ∀ s ∈ ss, ∀ s' ∈ ss, s = s' ∨ (s.p ≠ s'.p ∧ s.b ≠ s'.b)) (hok : ∀ s ∈ ss, s.Ok P) (hl : ∀ s ∈ ss, LeftS B s.T s.b Eb Eb) :
    ∀ (fuel : Nat) (listed : Array Bool) (a : Act) (w : World), unlisted ops listed ≤ fuel → Below B w₀ w → InvM κ n B ops vals Eb ss listed a w → (∀ l a' w', Below B w₀ w' → InvM κ n B ops vals Eb ss l a' w' → (∀ i, i < ops.size → l.getD i false = true) → Q .normal a' w') → wpAnyIn (FR κ.rd) 0 P .any ops Q fuel listed a w := by
  have hn0 : n ≤ vbase := fits_base hfit
  have hmin : ∀ (listed : Array Bool), listed.size = ops.size → Region.ready .any ops listed = [] → ∀ i, i < ops.size → listed.getD i false = true := by
    intro listed hl hr i
    induction i using Nat.strongRecOn with
    | _ i ih =>
      intro hi
      rcases hb : listed.getD i false with _ | _
      · exfalso
        have hdi := (downs_get hd (Array.getElem?_eq_getElem hi)).2.1
        have : i ∈ Region.ready .any ops listed := by
          rw [mem_ready]
          refine ⟨?_, ops[i], Array.getElem?_eq_getElem hi, fun e he hbd => ih e.on (hdi e he hbd) (Nat.lt_trans (hdi e he hbd) hi)⟩
          have : i < listed.size := by rw [hl]; exact hi
          simp [this] at hb ⊢
          exact hb
        rw [hr] at this
        cases this
      · rfl
  intro fuel
  induction fuel with
  | zero =>
    intro listed a w hc hbel I hQ'
    have hr : Region.ready .any ops listed = [] := by
      rcases hr : Region.ready .any ops listed with _ | ⟨i, l⟩
      · rfl
      · exfalso
        have hi : i ∈ Region.ready .any ops listed := by rw [hr]; exact List.mem_cons_self
        obtain ⟨hu, o, ho, _⟩ := mem_ready.1 hi
        have hpos : 0 < unlisted ops listed := List.countP_pos_iff.2 ⟨i, List.mem_range.2 (Array.getElem?_eq_some_iff.1 ho).1, by simp only [hu]; rfl⟩
        omega
    exact ⟨hr, hQ' listed a w hbel I (hmin listed I.lsize hr)⟩
  | succ fuel ih =>
    intro listed a w hc hbel I hQ'
    refine ⟨fun hr => hQ' listed a w hbel I (hmin listed I.lsize hr), fun i hi => ?_⟩
    obtain ⟨hu, o, ho, hall⟩ := mem_ready.1 hi
    have hlt : i < ops.size := (Array.getElem?_eq_some_iff.1 ho).1
    obtain ⟨hg, _, hdis⟩ := downs_get hd ho
    have huf : listed.getD i false = false := by
      have : i < listed.size := by rw [I.lsize]; exact hlt
      simp [this] at hu ⊢
      exact hu
    have hst : ∀ {E : Env}, FromN ops vals Eb o E → ∀ t d, E.look t = some d → d.Of w (a.tmps.getD t undef) := fun {E} h => by
      induction h with
      | nil => intro t d hl; cases hl
      | all => exact I.st.of
      | @base s e E h _ ih =>
        intro t d hl
        by_cases hts : s = t
        · subst hts; rw [look_here] at hl; injection hl with hl; subst hl; exact I.st.of _ _ h
        · rw [look_past _ _ hts] at hl; exact ih t d hl
      | @op s v E j he hdj hvj _ ih =>
        intro t d hl
        by_cases hts : s = t
        · subst hts; rw [look_here] at hl; injection hl with hl; subst hl
          obtain ⟨e, he1, he2⟩ := Array.any_eq_true'.1 he
          simp only [Bool.and_eq_true, beq_iff_eq] at he2
          have hl := hall e he1 he2.1
          rw [he2.2] at hl
          cases hq : ops[j]? with
          | none => rw [hq] at hdj; cases hdj
          | some q =>
            rw [hq] at hdj
            exact I.got j q _ _ hq hl hdj hvj
        · rw [look_past _ _ hts] at hl; exact ih t d hl
    have hcl : unlisted ops (listed.setIfInBounds i true) ≤ fuel := by
      have : unlisted ops (listed.setIfInBounds i true) < unlisted ops listed := by
        refine countP_lt (x := i) (fun y hy => ?_) (List.mem_range.2 hlt) (by simp only [hu]; rfl) ?_
        · by_cases hyi : i = y
          · subst hyi
            have : i < listed.size := by rw [I.lsize]; exact hlt
            simp [this] at hy
          · rw [getD_set_ne true hyi] at hy; exact hy
        · have : i < listed.size := by rw [I.lsize]; exact hlt
          simp [this]
      omega
    have hset' : ∀ j, (listed.setIfInBounds i true).getD j false = true → j = i ∨ listed.getD j false = true := fun j hj => by
      by_cases hji : i = j
      · exact .inl hji.symm
      · rw [getD_set_ne false hji] at hj; exact .inr hj
    have hfi := fits_mem hfit (o := o) (by simpa using Array.mem_of_getElem? ho)
    rcases hn.nth (i := i) (o := o) (by simpa using ho) with ⟨hip, E, v, t, hv, ht, hdo, hfr, hok'⟩ | ⟨s₀, hs₀, hip, E, x, y, ty, pos, after, hoe, hfr, hx, hy⟩
    · simp only [Nat.zero_add] at hv hip
      have hE : St κ n B E a w := ⟨I.st.base, I.st.defers, I.st.size, hst hfr⟩
      have htn : t < n := hfi.2 t ht
      refine wpOpR_step ho fun K hK => good_wp (E := E) (d := .v v) hE.base (hE.virt hn0) ht (.inl ⟨by simp [GuardIs, hg], hok'⟩) (fun s e _ he => hE.of s e he) (fun s hs => by rw [I.st.size]; exact hfi.1 s hs) fun u w' gr hu' => ?_
      have hu' : u = v := hu'
      subst hu'
      refine hK _ _ (ih _ _ _ hcl (hbel.trans (Below.mono gr I.st.base)) ⟨⟨Nat.le_trans I.st.base gr.size, I.st.defers, by simp [Act.put, I.st.size], fun s d hs => ?_⟩, by simp [I.lsize], fun s hs => ⟨Nat.lt_of_lt_of_le (I.blk s hs).1 gr.size, ?_⟩, fun j q s z hj hl' hds hvs => ?_⟩ hQ')
      · by_cases hts : t = s
        · subst hts
          rw [getD_put_here _ _ (by rw [I.st.size]; exact htn)]
          rcases hdo with h | h
          · rw [h] at hs; cases hs
          · rw [h] at hs; injection hs with hs; subst hs; rfl
        · rw [getD_put_past _ _ hts]; exact (I.st.of s d hs).grow gr
      · rw [getD_set_ne false (hip s hs), gr.block s.b (I.blk s hs).1]; exact (I.blk s hs).2
      · rcases hset' j hl' with rfl | hl2
        · rw [ho] at hj; injection hj with hj; subst hj
          rw [ht] at hds; injection hds with hds; subst hds
          rw [hv] at hvs; injection hvs with hvs; subst hvs
          rw [getD_put_here _ _ (by rw [I.st.size]; exact htn)]
        · by_cases hji : j = i
          · subst hji; rw [huf] at hl2; cases hl2
          · have hne : t ≠ s := fun he => hdis j q hj hji (by rw [ht]; simp) (by rw [ht, hds, he])
            rw [getD_put_past _ _ hne]
            exact I.got j q s z hj hl2 hds hvs
    · rw [Nat.zero_add] at hip
      have hE : St κ n B E a w := ⟨I.st.base, I.st.defers, I.st.size, hst hfr⟩
      have hxe : a.eval x = .pointer (some ⟨s₀.b, 0, none⟩) := hE.at_ x _ hx
      have hye : a.eval y = s₀.v := hE.at_ y _ hy
      have hh : w.heap[s₀.b]? = some (.cells s₀.z.toArray s₀.T (0, 0)) := by have := (I.blk s₀ hs₀).2; rw [← hip, huf] at this; simpa using this
      have hrun : (execOp a.eval ⟨none, .store s₀.T x y, ty, pos, after, none⟩).run P w = .ok .skip (w.setRow s₀.b s₀.y.toArray) := by
        simp [execOp, hxe, hye, hok s₀ hs₀ w hh]
      refine wpOpR_step ho fun K hK => ?_
      subst hoe
      rw [if_pos (by simp [Region.wanted])]
      refine opR (by nofun) ?_
      unfold Oper.wp
      rw [hrun, Oper.upon_skip]
      have hwr := Wrote.setRow (B := B) (hb s₀ hs₀) hh s₀.y.toArray
      refine hK _ _ (ih _ _ _ hcl (hbel.trans (hwr.below I.st.base)) ⟨(hl s₀ hs₀).st I.st hwr, by simp [I.lsize], fun s hs => ⟨by simpa using (I.blk s hs).1, ?_⟩, fun j q s z hj hl' hds hvs => ?_⟩ hQ')
      · rcases hdj s hs s₀ hs₀ with rfl | ⟨h5, h6⟩
        · have : (listed.setIfInBounds i true).getD s.p false = true := by rw [← hip]; simp [show i < listed.size by rw [I.lsize]; exact hlt]
          rw [this]; exact setRow_heap w s.b _ _ s.T _ hh
        · rw [getD_set_ne false (show i ≠ s.p from by rw [hip]; exact Ne.symm h5), hwr.other s.b (I.blk s hs).1 h6]; exact (I.blk s hs).2
      · rcases hset' j hl' with rfl | hl2
        · rw [ho] at hj; injection hj with hj; subst hj; cases hds
        · exact I.got j q s z hj hl2 hds hvs
/-- What the region leaves. -/
def manyE (ss : List SV) : Env := ss.map fun s => (s.k, blk s.b s.T s.y)
theorem A.regsMm {w₀ : World} {y : Code} {E E1 : Env} {id : Nat} (vals : List Value) (hm : P.follows .mixedOrders = true) (hfit : fits n ops = true) (hd : downsN ops = true) (hn : Many P w₀.heap.size ops vals Eb ss 0 ops.toList) (hpl : ∀ s ∈ ss, s.p < ops.size) (hEb : Sub Eb E) (hk : ∀ s ∈ ss, E.look s.k = some (blk s.b s.T s.z)) (hb : ∀ s ∈ ss, w₀.heap.size ≤ s.b)
    (hdj : ∀ s ∈ ss, ∀ s' ∈ ss, s = s' ∨ (s.p ≠ s'.p ∧ s.b ≠ s'.b)) (hok : ∀ s ∈ ss, s.Ok P) (hl : ∀ s ∈ ss, LeftS w₀.heap.size s.T s.b Eb Eb) (hf : FromE ops vals Eb E1) (h : A κ P w₀ n y (manyE ss ++ E1) Q) : A κ P w₀ n (.seq (.region id ops true) y) E Q := A.seq fun a w hg hst => by
  have hdr : Below w₀.heap.size w w.drew := (Below.refl _ w).drew
  have hfin : ∀ l a' w', Below w₀.heap.size w w' → InvM κ n w₀.heap.size ops vals Eb ss l a' w' → (∀ i, i < ops.size → l.getD i false = true) → Exit.then (y.wpIn (FR κ.rd) 0 P Q) Q .normal a' w' := fun l a' w' hbel I hall => by
    refine h a' w' (hg.trans hbel) ⟨I.st.base, I.st.defers, I.st.size, fun t d hl' => ?_⟩
    have key : ∀ t d, E1.look t = some d → d.Of w' (a'.tmps.getD t undef) := by
      clear hl' h
      induction hf with
      | nil => intro t d hl; cases hl
      | all => exact I.st.of
      | @base s e E h _ ih =>
        intro t d hl
        by_cases hts : s = t
        · subst hts; rw [look_here] at hl; injection hl with hl; subst hl; exact I.st.of _ _ h
        · rw [look_past _ _ hts] at hl; exact ih t d hl
      | @op s v E j hdj hvj _ ih =>
        intro t d hl
        by_cases hts : s = t
        · subst hts; rw [look_here] at hl; injection hl with hl; subst hl
          cases hq : ops[j]? with
          | none => rw [hq] at hdj; cases hdj
          | some q =>
            rw [hq] at hdj
            exact I.got j q _ _ hq (hall j (Array.getElem?_eq_some_iff.1 hq).1) hdj hvj
        · rw [look_past _ _ hts] at hl; exact ih t d hl
    rcases look_appM hl' with hm | hm
    · obtain ⟨s, hs, he⟩ := List.mem_map.1 hm
      injection he with h2 h3
      subst h3
      have hI := I.blk s hs
      rw [hall s.p (hpl s hs)] at hI
      exact ⟨hI.1, hI.2⟩
    · exact key t d hm
  refine wpIn_region_any hm (wp_many (Q := Exit.then (y.wpIn (FR κ.rd) 0 P Q) Q) (w₀ := w) (B := w₀.heap.size) hfit hd hn hb hdj hok hl _ _ _ _ ?_ hdr ⟨(hst.sub hEb).grow (Grow.refl w).drew, by simp, fun s hs => ?_, fun i o t v hi hl => ?_⟩ hfin)
  · refine Nat.le_trans List.countP_le_length ?_
    simp
  · obtain ⟨hk1, hk2⟩ := hst.of s.k _ (hk s hs)
    have : (Array.replicate ops.size false).getD s.p false = false := by simp [hpl s hs]
    rw [this]; exact ⟨hk1, hk2⟩
  · simp [(Array.getElem?_eq_some_iff.1 hi).1] at hl
theorem Many.next {i : Nat} {o : Oper} {rest : List Oper} {t : Nat} {v : Value} (E : Env) (hp : (ss.all fun s => !Nat.beq i s.p) = true) (hv : vals[i]? = some v) (ht : o.dst = some t) (hd : Eb.look t = none ∨ Eb.look t = some (.v v)) (hf : FromN ops vals Eb o E) (hok : OpOk P B o E (.v v)) (hr : Many P B ops vals Eb ss (i + 1) rest) : Many P B ops vals Eb ss i (o :: rest) :=
  .cons E (fun s hs h => by have := List.all_eq_true.1 hp s hs; rw [h] at this; simp at this) hv ht hd hf hok hr
theorem A.regsMK {w₀ : World} {y : Code} {E E1 : Env} {id : Nat} (ss : List SV) (vals : List Value) (hm : P.follows .mixedOrders = true) (hfit : fits n ops = true) (hd : downsN ops = true) (hpl : (ss.all fun s => Nat.blt s.p ops.size) = true) (hEb : Sub Eb E) (hn : Many P w₀.heap.size ops vals Eb ss 0 ops.toList) (hf : FromE ops vals Eb E1) (hk : ∀ s ∈ ss, E.look s.k = some (blk s.b s.T s.z)) (hb : ∀ s ∈ ss, w₀.heap.size ≤ s.b)
    (hdj : ∀ s ∈ ss, ∀ s' ∈ ss, s = s' ∨ (s.p ≠ s'.p ∧ s.b ≠ s'.b)) (hok : ∀ s ∈ ss, s.Ok P) (hl : ∀ s ∈ ss, LeftS w₀.heap.size s.T s.b Eb Eb) (h : A κ P w₀ n y (manyE ss ++ E1) Q) : A κ P w₀ n (.seq (.region id ops true) y) E Q :=
  A.regsMm vals hm hfit hd hn (fun s hs => Nat.le_of_ble_eq_true (List.all_eq_true.1 hpl s hs)) hEb hk hb hdj hok hl hf h
end
/-! ### Elements at known addresses -/
section
variable {P : Program} {B : Nat} {E : Env} {dst : Option Tmp} {ty : TypeId} {pos : String} {after : Array Edge} {guard : Option (Nat × Bool)}
end
end Go.Proofs.Ytggijkmlmklneaa
namespace Go.Proofs.Ytggijkmlmklneaa
open Go Go.RowKit
set_option linter.unusedVariables false
set_option maxRecDepth 20000
set_option linter.unusedSimpArgs false

theorem info5 : InfoIs Try.prog 5 (.int .u8 0) 1 := by unfold InfoIs; kernel_rfl
theorem info3 : InfoIs Try.prog 3 (.int .i64 0) 8 := by unfold InfoIs; kernel_rfl
theorem info28 : InfoIs Try.prog 28 (.slice none 0 0) 24 := by unfold InfoIs; kernel_rfl
theorem info81 : InfoIs Try.prog 81 (.nilFunc) 8 := by unfold InfoIs; kernel_rfl
theorem zero30 : ZeroIs Try.prog 30 ([.slice none 0 0] ++ [.slice none 0 0]) := by unfold ZeroIs; kernel_rfl
theorem size30 : SizeIs Try.prog 30 2 := by unfold SizeIs; kernel_rfl
theorem field30_0 : FieldIs Try.prog 30 0 0 1 := by unfold FieldIs; kernel_rfl
theorem field30_1 : FieldIs Try.prog 30 1 1 1 := by unfold FieldIs; kernel_rfl
theorem zero35 : ZeroIs Try.prog 35 ([.slice none 0 0] ++ [.slice none 0 0]) := by unfold ZeroIs; kernel_rfl
theorem size35 : SizeIs Try.prog 35 2 := by unfold SizeIs; kernel_rfl
theorem field35_0 : FieldIs Try.prog 35 0 0 1 := by unfold FieldIs; kernel_rfl
theorem field35_1 : FieldIs Try.prog 35 1 1 1 := by unfold FieldIs; kernel_rfl
theorem zero47 : ZeroIs Try.prog 47 ([.int .u8 0] ++ [.int .i64 0] ++ [.slice none 0 0]) := by unfold ZeroIs; kernel_rfl
theorem size47 : SizeIs Try.prog 47 3 := by unfold SizeIs; kernel_rfl
theorem field47_0 : FieldIs Try.prog 47 0 0 1 := by unfold FieldIs; kernel_rfl
theorem field47_1 : FieldIs Try.prog 47 1 1 1 := by unfold FieldIs; kernel_rfl
theorem field47_2 : FieldIs Try.prog 47 2 2 1 := by unfold FieldIs; kernel_rfl
theorem zero41 : ZeroIs Try.prog 41 (bkV zB) := by unfold ZeroIs; kernel_rfl
theorem size41 : SizeIs Try.prog 41 32 := by unfold SizeIs; kernel_rfl
theorem zero49 : ZeroIs Try.prog 49 (rsV zR) := by unfold ZeroIs; kernel_rfl
theorem size49 : SizeIs Try.prog 49 33 := by unfold SizeIs; kernel_rfl
theorem field49_0 : FieldIs Try.prog 49 0 0 32 := by unfold FieldIs; kernel_rfl
theorem field49_1 : FieldIs Try.prog 49 1 32 1 := by unfold FieldIs; kernel_rfl
theorem size82 : SizeIs Try.prog 82 4 := by unfold SizeIs; kernel_rfl
theorem zero82 : ZeroIs Try.prog 82 (List.replicate 4 (.nilFunc)) := by unfold ZeroIs; kernel_rfl
theorem infoB : InfoP Try.prog 41 (aggV (bkV zB)) 32 32 := by unfold InfoP; kernel_rfl
theorem infoO : InfoP Try.prog 47 (aggV [.int .u8 0, .int .i64 0, .slice none 0 0]) 3 40 := by unfold InfoP; kernel_rfl
theorem infoR : InfoP Try.prog 49 (aggV (rsV zR)) 33 40 := by unfold InfoP; kernel_rfl
theorem infoI : InfoP Try.prog 3 (.int .i64 0) 1 8 := by unfold InfoP; kernel_rfl
theorem flat41 : flat Try.prog 4 41 = some (List.replicate 32 .u8) := by kernel_rfl
theorem flat49 : flat Try.prog 4 49 = some (List.replicate 32 .u8 ++ [.i64]) := by kernel_rfl
theorem kinBk (b : Bk) : Kin (fun _ _ => True) (List.replicate 32 .u8) (bkV b) := kinB b.2
theorem kinRs (r : Rs) : Kin (fun _ _ => True) (List.replicate 32 .u8 ++ [.i64]) (rsV r) := Kin.join (kinBk r.1) ⟨rfl, fun i k hk => by
 cases i with
 | zero => simp at hk; subst hk; exact ⟨_, rfl, trivial⟩
 | succ i => simp at hk⟩
theorem buildD (A₁ : Option Addr) (n₁ q₁ : Nat) (A₂ : Option Addr) (n₂ q₂ : Nat) : Try.prog.built 30 [(0, .slice A₁ n₁ q₁), (1, .slice A₂ n₂ q₂)] = some #[.slice A₁ n₁ q₁, .slice A₂ n₂ q₂] := by kernel_rfl
theorem buildR1 (e : Int) : Try.prog.built 49 [(1, .int .i64 e)] = some (rsV (zB, e)).toArray := by kernel_rfl
theorem buildR0 (b : Bk) : Try.prog.built 49 [(0, aggV (bkV b))] = some (rsV (b, 0)).toArray := by
 obtain ⟨l, hl⟩ := b
 match l, hl with
 | [a0, a1, a2, a3, a4, a5, a6, a7, a8, a9, b0, b1, b2, b3, b4, b5, b6, b7, b8, b9, c0, c1, c2, c3, c4, c5, c6, c7, c8, c9, d0, d1], _ => show _ = _; kernel_rfl
/-- The array of n blocks that are zero. -/
def zA (n : Nat) : Ar := ⟨List.replicate n zB, List.replicate n zB⟩
theorem zA_ok (n : Nat) : (zA n).Ok n := ⟨by simp [zA], by simp [zA]⟩
theorem newD_z {base n : Nat} : Le (newD base 41 (fun b => .slice (some ⟨b, 0, none⟩) n n) (bksV (List.replicate n zB))) (sliZ (zOwn 41 base) true (zA n).now.length (bksV (zA n).now)) := newD_sli.trans (Le.eq (by simp [zA]))
theorem newD_z' {base n : Nat} : Le (newD base 41 (fun b => .slice (some ⟨b, 0, none⟩) n n) (bksV (List.replicate n zB))) (sliZ (zOwn 41 base) true (zA n).dur.length (bksV (zA n).dur)) := newD_z
def chkA (a : Ar) : Int := if a.now.length = a.dur.length ∧ 1 ≤ a.now.length ∧ a.now.length ≤ 4096 then 0 else 1
theorem chk_ok {a : Ar} {n : Nat} (h : a.Ok n) (h1 : 1 ≤ n) (h2 : n ≤ 4096) : chkA a = 0 := if_pos ⟨h.1.trans h.2.symm, by rw [h.1]; omega, by rw [h.1]; omega⟩

theorem within_fn (i n : Int) : Fn Try.prog 34 [.v (.int .i64 (i)), .v (.int .i64 (n))] (.v (.bool (decide (0 ≤ i ∧ i < n)))) := by
 refine FV Try.func34 rfl Try.ntmps34 rfl fun w₀ => ?_
 refine GV rfl ?_
 rcases Bool.eq_false_or_eq_true (decide (0 ≤ i)) with hsp | hsp
 ·refine GT ?_
  refine RV 2 rfl ?_
  refine RZ (.bool true) (congrArg Value.bool hsp) ?_
  refine RV 4 rfl ?_
  refine RZ (.bool (decide (i < n))) (rfl) ?_
  refine RVN 2 rfl ?_
  refine A.ret ?_
  first | exact End.ret1 rfl rfl (Le.v (congrArg Value.bool (decide_eq_false (fun h => of_decide_eq_false hsp h.1)).symm)) | exact End.ret1 rfl rfl (Le.v (congrArg Value.bool (decide_eq_decide.2 ⟨fun h => ⟨of_decide_eq_true hsp, h⟩, fun h => h.2⟩)))
 ·refine GT ?_
  refine RV 2 rfl ?_
  refine RZ (.bool false) (congrArg Value.bool hsp) ?_
  refine RVN 6 rfl ?_
  refine A.ret ?_
  first | exact End.ret1 rfl rfl (Le.v (congrArg Value.bool (decide_eq_false (fun h => of_decide_eq_false hsp h.1)).symm)) | exact End.ret1 rfl rfl (Le.v (congrArg Value.bool (decide_eq_decide.2 ⟨fun h => ⟨of_decide_eq_true hsp, h⟩, fun h => h.2⟩)))
theorem sCheck_ok (m : Int) (h : 1 ≤ m ∧ m ≤ 4096) : Fn Try.prog 30 [.v (.int .i64 (m))] (.v (.int .i64 0)) := by
 refine FV Try.func30 rfl Try.ntmps30 rfl fun w₀ => ?_
 refine GV rfl ?_
 refine QS ?_
 refine GT ?_
 refine RV 2 rfl ?_
 refine RF ?_
 refine RV 3 rfl ?_
 refine RF ?_
 refine RVN 1 rfl ?_
 refine A.no rfl ?_
 refine QK ?_
 refine GV rfl ?_
 refine A.ret ?_
 exact ER rfl rfl
theorem sCheck_bad (m : Int) (h : ¬ (1 ≤ m ∧ m ≤ 4096)) : Fn Try.prog 30 [.v (.int .i64 (m))] (.v (.int .i64 1)) := by
 refine FV Try.func30 rfl Try.ntmps30 rfl fun w₀ => ?_
 refine GV rfl ?_
 refine QS ?_
 rcases Bool.eq_false_or_eq_true (decide (m < 1)) with hsp | hsp
 ·refine GT ?_
  refine RV 2 rfl ?_
  refine RZ (.bool true) (congrArg Value.bool hsp) ?_
  refine RVN 4 rfl ?_
  refine A.yes rfl ?_
  refine GV rfl ?_
  refine A.ret ?_
  refine End.ret_then ?_
  exact ER rfl rfl
 ·refine GT ?_
  refine RV 2 rfl ?_
  refine RZ (.bool false) (congrArg Value.bool hsp) ?_
  refine RV 3 rfl ?_
  refine RZ (.bool true) (by have := of_decide_eq_false hsp; simp; omega) ?_
  refine RVN 1 rfl ?_
  refine A.yes rfl ?_
  refine GV rfl ?_
  refine A.ret ?_
  refine End.ret_then ?_
  exact ER rfl rfl
theorem sCheck_fn (m : Int) : Fn Try.prog 30 [.v (.int .i64 (m))] (.v (.int .i64 (if 1 ≤ m ∧ m ≤ 4096 then 0 else 1))) := by
 by_cases h : 1 ≤ m ∧ m ≤ 4096
 ·rw [if_pos h]; exact sCheck_ok m h
 ·rw [if_neg h]; exact sCheck_bad m h
theorem Check_ne (a : Ar) (h : a.now.length ≠ a.dur.length) : Fn Try.prog 16 [arrD false a] (.v (.int .i64 1)) := by
 refine Fn.of Try.func16 rfl (by kernel_rfl) Try.ntmps16 (by simp) (fun w => [(0, old w.heap.size (arrD false a))]) (fun w => (Start.old rfl Start.nil)) fun w₀ => ?_
 refine A.nameAr (t := 0) (k₁ := 1000201) (k₂ := 1000202) rfl fun A₁ q₁ A₂ q₂ hq₁ hq₂ he₁ he₂ => ?_
 refine GS ?_
 refine TN 0 ?_
 refine RN ?_
 refine ZB 1000001 rfl fun b1 ⟨hBb1, hb1⟩ => ?_
 refine TL ?_
 refine RVN 1 rfl ?_
 refine QS ?_
 refine GT ?_
 refine RS (ok_field field30_0 (by decide) rfl) ?_
 refine RLV 1000001 Try.underlying28 rfl rfl rfl ?_
 refine RS (ok_lenV Try.underlying28 rfl) ?_
 refine RS (ok_field field30_1 (by decide) rfl) ?_
 refine RLV 1000001 Try.underlying28 rfl rfl rfl ?_
 refine RS (ok_lenV Try.underlying28 rfl) ?_
 refine RB rfl rfl rfl ?_
 refine RT ?_
 refine RN ?_
 refine A.yes rfl ?_
 refine GV rfl ?_
 refine A.ret ?_
 refine End.ret_then ?_
 exact ER rfl rfl
theorem Check_eq (a : Ar) (h : a.now.length = a.dur.length) : Fn Try.prog 16 [arrD false a] (.v (.int .i64 (if 1 ≤ (a.now.length : Int) ∧ (a.now.length : Int) ≤ 4096 then 0 else 1))) := by
 refine Fn.of Try.func16 rfl (by kernel_rfl) Try.ntmps16 (by simp) (fun w => [(0, old w.heap.size (arrD false a))]) (fun w => (Start.old rfl Start.nil)) fun w₀ => ?_
 refine A.nameAr (t := 0) (k₁ := 1000201) (k₂ := 1000202) rfl fun A₁ q₁ A₂ q₂ hq₁ hq₂ he₁ he₂ => ?_
 refine GS ?_
 refine TN 0 ?_
 refine RN ?_
 refine ZB 1000001 rfl fun b1 ⟨hBb1, hb1⟩ => ?_
 refine TL ?_
 refine RVN 1 rfl ?_
 refine QS ?_
 refine GT ?_
 refine RS (ok_field field30_0 (by decide) rfl) ?_
 refine RLV 1000001 Try.underlying28 rfl rfl rfl ?_
 refine RS (ok_lenV Try.underlying28 rfl) ?_
 refine RS (ok_field field30_1 (by decide) rfl) ?_
 refine RLV 1000001 Try.underlying28 rfl rfl rfl ?_
 refine RS (ok_lenV Try.underlying28 rfl) ?_
 refine RB rfl rfl rfl ?_
 refine RF ?_
 refine RN ?_
 refine A.no rfl ?_
 refine QK ?_
 refine GT ?_
 refine RS (ok_field field30_0 (by decide) rfl) ?_
 refine RLV 1000001 Try.underlying28 rfl rfl rfl ?_
 refine RS (ok_lenV Try.underlying28 rfl) ?_
 refine RS (ok_call (sCheck_fn (a.now.length : Int)) (A1 rfl)) ?_
 refine RVN 1 rfl ?_
 refine A.ret ?_
 exact ER rfl rfl
theorem Check_fn (a : Ar) : Fn Try.prog 16 [arrD false a] (.v (.int .i64 (chkA a))) := by
 by_cases h : a.now.length = a.dur.length
 ·have := Check_eq a h
  unfold chkA
  simpa [h, show (1 ≤ (a.dur.length : Int)) ↔ 1 ≤ a.dur.length from by omega, show ((a.dur.length : Int) ≤ 4096) ↔ a.dur.length ≤ 4096 from by omega] using this
 ·have := Check_ne a h
  unfold chkA
  rw [if_neg (fun x => h x.1)]; exact this
theorem Bad_w1 (n : Int) (o : OpA) (hk : o.k.toNat = 2) (hl : o.d.length ≠ 32) : Fn Try.prog 15 [.v (.int .i64 (n)), opG o] (.v (.bool true)) := by
 refine Fn.of Try.func15 rfl (by kernel_rfl) Try.ntmps15 (by simp) (fun w => [(0, .v (.int .i64 (n))), (1, old w.heap.size (opG o))]) (fun w => (Start.v rfl (Start.old rfl Start.nil))) fun w₀ => ?_
 refine A.nameOp (t := 1) (k := 1000203) rfl fun A₁ q₁ hq₁ => ?_
 refine GS ?_
 refine TN 0 ?_
 refine RN ?_
 refine ZB 1000003 rfl fun b3 ⟨hBb3, hb3⟩ => ?_
 refine TL ?_
 refine RVN 1 rfl ?_
 refine QS ?_
 refine GT ?_
 refine RS (ok_field field47_0 (by decide) rfl) ?_
 refine RLV 1000003 Try.underlying44 rfl rfl rfl ?_
 refine RN ?_
 refine A.block ?_
 refine QSB ?_
 refine QSB ?_
 refine QSB ?_
 refine QS ?_
 refine QS ?_
 refine GT ?_
 refine RB rfl rfl rfl ?_
 refine RT ?_
 refine RVN 1 rfl ?_
 refine A.yes rfl ?_
 refine A.exit ?_
 refine End.exit_then ?_
 refine End.exit_then ?_
 refine End.exit_here ?_
 refine EN ?_
 refine GT ?_
 refine RS (ok_field field47_2 (by decide) rfl) ?_
 refine RLV 1000003 Try.underlying45 rfl rfl rfl ?_
 refine RS (ok_lenV Try.underlying45 rfl) ?_
 refine RB rfl rfl rfl ?_
 refine RT ?_
 refine RN ?_
 refine A.yes rfl ?_
 refine GV rfl ?_
 refine A.ret ?_
 refine End.ret_block ?_
 refine End.ret_then ?_
 refine End.ret_block ?_
 refine End.ret_then ?_
 refine End.ret_block ?_
 refine End.ret_then ?_
 exact ER rfl rfl
theorem Bad_w2 (n : Int) (o : OpA) (hk : o.k.toNat = 2) (hl : o.d.length = 32) : Fn Try.prog 15 [.v (.int .i64 (n)), opG o] (.v (.bool (!decide (0 ≤ o.i ∧ o.i < n)))) := by
 refine Fn.of Try.func15 rfl (by kernel_rfl) Try.ntmps15 (by simp) (fun w => [(0, .v (.int .i64 (n))), (1, old w.heap.size (opG o))]) (fun w => (Start.v rfl (Start.old rfl Start.nil))) fun w₀ => ?_
 refine A.nameOp (t := 1) (k := 1000203) rfl fun A₁ q₁ hq₁ => ?_
 refine GS ?_
 refine TN 0 ?_
 refine RN ?_
 refine ZB 1000003 rfl fun b3 ⟨hBb3, hb3⟩ => ?_
 refine TL ?_
 refine RVN 1 rfl ?_
 refine QS ?_
 refine GT ?_
 refine RS (ok_field field47_0 (by decide) rfl) ?_
 refine RLV 1000003 Try.underlying44 rfl rfl rfl ?_
 refine RN ?_
 refine A.block ?_
 refine QSB ?_
 refine QSB ?_
 refine QSB ?_
 refine QS ?_
 refine QS ?_
 refine GT ?_
 refine RB rfl rfl rfl ?_
 refine RT ?_
 refine RVN 1 rfl ?_
 refine A.yes rfl ?_
 refine A.exit ?_
 refine End.exit_then ?_
 refine End.exit_then ?_
 refine End.exit_here ?_
 refine EN ?_
 refine GT ?_
 refine RS (ok_field field47_2 (by decide) rfl) ?_
 refine RLV 1000003 Try.underlying45 rfl rfl rfl ?_
 refine RS (ok_lenV Try.underlying45 rfl) ?_
 refine RB rfl rfl rfl ?_
 refine RF ?_
 refine RN ?_
 refine A.no rfl ?_
 refine A.skip ?_
 refine End.normal_block ?_
 refine EN ?_
 refine QS ?_
 refine GT ?_
 refine RS (ok_field field47_1 (by decide) rfl) ?_
 refine RLV 1000003 Try.underlying3 rfl rfl rfl ?_
 refine RM rfl ?_
 refine RS (ok_call (within_fn o.i n) (A2 rfl rfl)) ?_
 refine RVN 2 rfl ?_
 refine A.ret ?_
 refine End.ret_then ?_
 refine End.ret_block ?_
 refine End.ret_then ?_
 refine End.ret_block ?_
 refine End.ret_then ?_
 exact ER rfl rfl
theorem Bad_r (n : Int) (o : OpA) (hk : o.k.toNat = 1) : Fn Try.prog 15 [.v (.int .i64 (n)), opG o] (.v (.bool (!decide (0 ≤ o.i ∧ o.i < n)))) := by
 refine Fn.of Try.func15 rfl (by kernel_rfl) Try.ntmps15 (by simp) (fun w => [(0, .v (.int .i64 (n))), (1, old w.heap.size (opG o))]) (fun w => (Start.v rfl (Start.old rfl Start.nil))) fun w₀ => ?_
 refine A.nameOp (t := 1) (k := 1000203) rfl fun A₁ q₁ hq₁ => ?_
 refine GS ?_
 refine TN 0 ?_
 refine RN ?_
 refine ZB 1000003 rfl fun b3 ⟨hBb3, hb3⟩ => ?_
 refine TL ?_
 refine RVN 1 rfl ?_
 refine QS ?_
 refine GT ?_
 refine RS (ok_field field47_0 (by decide) rfl) ?_
 refine RLV 1000003 Try.underlying44 rfl rfl rfl ?_
 refine RN ?_
 refine A.block ?_
 refine QSB ?_
 refine QSB ?_
 refine QSB ?_
 refine QS ?_
 refine QS ?_
 refine GT ?_
 refine RB rfl rfl rfl ?_
 refine RF ?_
 refine RVN 1 rfl ?_
 refine A.no rfl ?_
 refine QK ?_
 refine QS ?_
 refine GT ?_
 refine RB rfl rfl rfl ?_
 refine RT ?_
 refine RVN 1 rfl ?_
 refine A.yes rfl ?_
 refine A.exit ?_
 refine End.exit_then ?_
 refine End.exit_then ?_
 refine End.exit_past (by decide) ?_
 refine End.exit_then ?_
 refine End.exit_here ?_
 refine EN ?_
 refine QS ?_
 refine GT ?_
 refine RS (ok_field field47_1 (by decide) rfl) ?_
 refine RLV 1000003 Try.underlying3 rfl rfl rfl ?_
 refine RM rfl ?_
 refine RS (ok_call (within_fn o.i n) (A2 rfl rfl)) ?_
 refine RVN 2 rfl ?_
 refine A.ret ?_
 refine End.ret_then ?_
 refine End.ret_block ?_
 refine End.ret_then ?_
 refine End.ret_block ?_
 refine End.ret_then ?_
 exact ER rfl rfl
theorem Bad_f (n : Int) (o : OpA) (hk : o.k.toNat = 3) : Fn Try.prog 15 [.v (.int .i64 (n)), opG o] (.v (.bool false)) := by
 refine Fn.of Try.func15 rfl (by kernel_rfl) Try.ntmps15 (by simp) (fun w => [(0, .v (.int .i64 (n))), (1, old w.heap.size (opG o))]) (fun w => (Start.v rfl (Start.old rfl Start.nil))) fun w₀ => ?_
 refine A.nameOp (t := 1) (k := 1000203) rfl fun A₁ q₁ hq₁ => ?_
 refine GS ?_
 refine TN 0 ?_
 refine RN ?_
 refine ZB 1000003 rfl fun b3 ⟨hBb3, hb3⟩ => ?_
 refine TL ?_
 refine RVN 1 rfl ?_
 refine QS ?_
 refine GT ?_
 refine RS (ok_field field47_0 (by decide) rfl) ?_
 refine RLV 1000003 Try.underlying44 rfl rfl rfl ?_
 refine RN ?_
 refine A.block ?_
 refine QSB ?_
 refine QSB ?_
 refine QSB ?_
 refine QS ?_
 refine QS ?_
 refine GT ?_
 refine RB rfl rfl rfl ?_
 refine RF ?_
 refine RVN 1 rfl ?_
 refine A.no rfl ?_
 refine QK ?_
 refine QS ?_
 refine GT ?_
 refine RB rfl rfl rfl ?_
 refine RF ?_
 refine RVN 1 rfl ?_
 refine A.no rfl ?_
 refine QK ?_
 refine GT ?_
 refine RB rfl rfl rfl ?_
 refine RT ?_
 refine RVN 1 rfl ?_
 refine A.yes rfl ?_
 refine A.exit ?_
 refine End.exit_then ?_
 refine End.exit_past (by decide) ?_
 refine End.exit_then ?_
 refine End.exit_past (by decide) ?_
 refine End.exit_then ?_
 refine End.exit_here ?_
 refine EN ?_
 refine QS ?_
 refine GV rfl ?_
 refine A.ret ?_
 refine End.ret_then ?_
 refine End.ret_block ?_
 refine End.ret_then ?_
 exact ER rfl rfl
theorem Bad_o (n : Int) (o : OpA) (h1 : o.k.toNat ≠ 1) (h2 : o.k.toNat ≠ 2) (h3 : o.k.toNat ≠ 3) : Fn Try.prog 15 [.v (.int .i64 (n)), opG o] (.v (.bool true)) := by
 refine Fn.of Try.func15 rfl (by kernel_rfl) Try.ntmps15 (by simp) (fun w => [(0, .v (.int .i64 (n))), (1, old w.heap.size (opG o))]) (fun w => (Start.v rfl (Start.old rfl Start.nil))) fun w₀ => ?_
 refine A.nameOp (t := 1) (k := 1000203) rfl fun A₁ q₁ hq₁ => ?_
 refine GS ?_
 refine TN 0 ?_
 refine RN ?_
 refine ZB 1000003 rfl fun b3 ⟨hBb3, hb3⟩ => ?_
 refine TL ?_
 refine RVN 1 rfl ?_
 refine QS ?_
 refine GT ?_
 refine RS (ok_field field47_0 (by decide) rfl) ?_
 refine RLV 1000003 Try.underlying44 rfl rfl rfl ?_
 refine RN ?_
 refine A.block ?_
 refine QSB ?_
 refine QSB ?_
 refine QSB ?_
 refine QS ?_
 refine QS ?_
 refine GT ?_
 refine RB rfl rfl rfl ?_
 refine RF ?_
 refine RVN 1 rfl ?_
 refine A.no rfl ?_
 refine QK ?_
 refine QS ?_
 refine GT ?_
 refine RB rfl rfl rfl ?_
 refine RF ?_
 refine RVN 1 rfl ?_
 refine A.no rfl ?_
 refine QK ?_
 refine GT ?_
 refine RB rfl rfl rfl ?_
 refine RF ?_
 refine RVN 1 rfl ?_
 refine A.no rfl ?_
 refine QK ?_
 refine A.exit ?_
 refine End.exit_past (by decide) ?_
 refine End.exit_then ?_
 refine End.exit_past (by decide) ?_
 refine End.exit_then ?_
 refine End.exit_past (by decide) ?_
 refine End.exit_then ?_
 refine End.exit_here ?_
 refine EN ?_
 refine GV rfl ?_
 refine A.ret ?_
 exact ER rfl rfl
theorem Bad_fn (n : Int) (o : OpA) : Fn Try.prog 15 [.v (.int .i64 (n)), opG o] (.v (.bool (badA n o))) := by
 by_cases h3 : o.k.toNat = 3
 ·rw [show badA n o = false from if_pos h3]; exact Bad_f n o h3
 by_cases h2 : o.k.toNat = 2
 ·by_cases hl : o.d.length = 32
  ·rw [show badA n o = !decide (0 ≤ o.i ∧ o.i < n) from by
    unfold badA; rw [if_neg h3]; by_cases h : 0 ≤ o.i ∧ o.i < n
    ·rw [if_neg (by omega), decide_eq_true h]; simp [h2, hl]
    ·rw [if_pos (by omega), decide_eq_false h]; rfl]
   exact Bad_w2 n o h2 hl
  ·rw [show badA n o = true from by
    unfold badA; rw [if_neg h3]; split
    ·rfl
    ·simp [h2, hl]]
   exact Bad_w1 n o h2 hl
 by_cases h1 : o.k.toNat = 1
 ·rw [show badA n o = !decide (0 ≤ o.i ∧ o.i < n) from by
   unfold badA; rw [if_neg h3]; by_cases h : 0 ≤ o.i ∧ o.i < n
   ·rw [if_neg (by omega), decide_eq_true h]; simp [h1]
   ·rw [if_pos (by omega), decide_eq_false h]; rfl]
  exact Bad_r n o h1
 ·rw [show badA n o = true from by unfold badA; rw [if_neg h3, if_pos (by omega)]]; exact Bad_o n o h1 h2 h3
theorem New_ok (n : Nat) (h1 : 1 ≤ n) (h2 : n ≤ 4096) : FnB Try.prog 9 [.v (nI (n))] (fun B => tup [arrZ (zOwn 41 B) true (zA n), .v (nI (0))]) := by
 refine FnB.of Try.func9 rfl (by kernel_rfl) Try.ntmps9 (by simp) (fun w => [(0, .v (nI (n)))]) (fun w => (Start.v rfl Start.nil)) fun w₀ => ?_
 refine GS ?_
 refine TN 0 ?_
 refine RN ?_
 refine ZN 1000002 zero30 fun b2 ⟨hBb2, hb2⟩ => ?_
 refine TL ?_
 refine RVN 1 rfl ?_
 refine QS ?_
 refine GT ?_
 refine RM rfl ?_
 refine RS (ok_call (sCheck_ok (n : Int) ⟨by omega, by omega⟩) (A1 rfl)) ?_
 refine RVN 1 rfl ?_
 refine GT ?_
 refine RV 2 rfl ?_
 refine RF ?_
 refine RN ?_
 refine A.no rfl ?_
 refine QK ?_
 refine GD ?_
 refine TD 5 ?_
 refine RM rfl ?_
 refine RS ((ok_makeB n Try.underlying28 infoB (by decide) rfl rfl rfl (by omega))) ?_
 refine RM rfl ?_
 refine RS ((ok_makeB n Try.underlying28 infoB (by decide) rfl rfl rfl (by omega))) ?_
 refine RS (ok_buildAr (Z := zOwn 41 w₀.heap.size) (ex := true) (a := zA n) rfl buildD rfl newD_z rfl newD_z') ?_
 refine RN ?_
 refine ⟨_, eff_storeK (n := 16) (s := 1000002) size30 rfl rfl (Le.refl _) (Agg.arr) hBb2 rfl (rfl) (Surv.arr (fun h => absurd h.1 (by decide))) (LV 2 rfl LN), ?_⟩
 refine TL ?_
 refine RVN 1 rfl ?_
 refine A.ret ?_
 exact End.varK2 (s := 1000002) rfl Try.underlying30 rfl size30 rfl rfl (Le.refl _) rfl (Le.refl _)
theorem New_bad (m : Int) (h : ¬ (1 ≤ m ∧ m ≤ 4096)) : Fn Try.prog 9 [.v (.int .i64 (m))] (.v (.tuple #[aggV [.slice none 0 0, .slice none 0 0], .int .i64 1])) := by
 refine FV Try.func9 rfl Try.ntmps9 rfl fun w₀ => ?_
 refine GS ?_
 refine TN 0 ?_
 refine RN ?_
 refine ZN 1000002 zero30 fun b2 ⟨hBb2, hb2⟩ => ?_
 refine TL ?_
 refine RVN 1 rfl ?_
 refine QS ?_
 refine GT ?_
 refine RM rfl ?_
 refine RS (ok_call (sCheck_bad m h) (A1 rfl)) ?_
 refine RVN 1 rfl ?_
 refine GT ?_
 refine RV 2 rfl ?_
 refine RT ?_
 refine RN ?_
 refine A.yes rfl ?_
 refine GS ?_
 refine TF 2 ?_
 refine RS (ok_lit [] ([.slice none 0 0] ++ [.slice none 0 0]) (fun _ _ => rfl) (by kernel_rfl)) ?_
 refine RVN 1 rfl ?_
 refine ZA 1000002 (size30.of rfl) hBb2 rfl rfl rfl (LW [2, 10] rfl) ?_
 refine TL ?_
 refine RVN 1 rfl ?_
 refine A.ret ?_
 refine End.ret_then ?_
 exact End.cellV (s := 1000002) rfl Try.underlying30 rfl size30 rfl rfl rfl
set_option maxHeartbeats 4000000 in
theorem copied_fn (now dur : List Bk) (hn : now.length ≤ 4096) (hd : dur.length ≤ 4096) : FnB Try.prog 31 [rowG false now.length (bksV now), rowG false dur.length (bksV dur)] (fun B => newA B 41 true ⟨now, dur⟩) := by
 refine FnB.of Try.func31 rfl (by kernel_rfl) Try.ntmps31 (by simp) (fun w => [(0, old w.heap.size (rowG false now.length (bksV now))), (1, old w.heap.size (rowG false dur.length (bksV dur)))]) (fun w => (Start.old rfl (Start.old rfl Start.nil))) fun w₀ => ?_
 refine A.nameSl (t := 0) (k := 1000201) rfl fun A₁ q₁ hq₁ _ => ?_
 refine A.nameSl (t := 1) (k := 1000202) rfl fun A₂ q₂ hq₂ _ => ?_
 refine GS ?_
 refine TN 0 ?_
 refine RN ?_
 refine ZN 1000004 zero30 fun b4 ⟨hBb4, hb4⟩ => ?_
 refine TL ?_
 refine RN ?_
 refine A.regsD (ι := Nat × Nat × Nat) (G := fun ⟨b8, b11, b5⟩ => w₀.heap.size ≤ b8 ∧ w₀.heap.size ≤ b11 ∧ w₀.heap.size ≤ b5 ∧ b8 ≠ b11 ∧ b8 ≠ b5 ∧ b11 ≠ b5 ∧ b4 < b8 ∧ b4 < b11 ∧ b4 < b5) (Z := fun ⟨b8, b11, b5⟩ => [(1000008, blk b8 41 (bksV (List.replicate now.length zB))), (1000011, blk b11 41 (bksV (List.replicate dur.length zB))), (5, .v (ptr b5)), (1000005, blk b5 30 [.slice (some ⟨b8, 0, none⟩) now.length now.length, .slice (some ⟨b11, 0, none⟩) dur.length dur.length]), (0, .v (.slice A₁ now.length q₁)), (1, .v (.slice A₂ dur.length q₂)), (4, .v (ptr b4)), (1000004, blk b4 30 ([.slice none 0 0] ++ [.slice none 0 0])), (1000201, old w₀.heap.size (memR A₁ (bksV now))), (1000202, old w₀.heap.size (memR A₂ (bksV dur)))]) (by kernel_rfl) (fun T hI hO => ?_) ?_
 ·have hs111111111 (b8 : Nat) (b11 : Nat) (b5 : Nat) (hBb8 : w₀.heap.size ≤ b8) (hBb11 : w₀.heap.size ≤ b11) (hBb5 : w₀.heap.size ≤ b5) (hne_b8_b11 : b8 ≠ b11) (hne_b8_b5 : b8 ≠ b5) (hne_b11_b5 : b11 ≠ b5) (hlt_b4_b8 : b4 < b8) (hlt_b4_b11 : b4 < b11) (hlt_b4_b5 : b4 < b5) : T 0 #[true, true, true, true, true, true, true, true, true] [(6, .v (.slice A₁ now.length q₁)), (7, .v (nI (now.length))), (8, .v (.slice (some ⟨b8, 0, none⟩) now.length now.length)), (1000008, blk b8 41 (bksV (List.replicate now.length zB))), (9, .v (.slice A₂ dur.length q₂)), (10, .v (nI (dur.length))), (11, .v (.slice (some ⟨b11, 0, none⟩) dur.length dur.length)), (1000011, blk b11 41 (bksV (List.replicate dur.length zB))), (12, .v (aggV [.slice (some ⟨b8, 0, none⟩) now.length now.length, .slice (some ⟨b11, 0, none⟩) dur.length dur.length])), (5, .v (ptr b5)), (1000005, blk b5 30 [.slice (some ⟨b8, 0, none⟩) now.length now.length, .slice (some ⟨b11, 0, none⟩) dur.length dur.length]), (0, .v (.slice A₁ now.length q₁)), (1, .v (.slice A₂ dur.length q₂)), (4, .v (ptr b4)), (1000004, blk b4 30 ([.slice none 0 0] ++ [.slice none 0 0])), (1000201, old w₀.heap.size (memR A₁ (bksV now))), (1000202, old w₀.heap.size (memR A₂ (bksV dur)))] := hI (AnyT.last (by kernel_rfl) ⟨⟨b8, b11, b5⟩, ⟨hBb8, hBb11, hBb5, hne_b8_b11, hne_b8_b5, hne_b11_b5, hlt_b4_b8, hlt_b4_b11, hlt_b4_b5⟩, (Sv [1000008, 1000011, 5, 1000005, 0, 1, 4, 1000004, 1000201, 1000202] rfl)⟩)
  have hs111111110 (b8 : Nat) (b11 : Nat) (b5 : Nat) (hBb8 : w₀.heap.size ≤ b8) (hBb11 : w₀.heap.size ≤ b11) (hBb5 : w₀.heap.size ≤ b5) (hne_b8_b11 : b8 ≠ b11) (hne_b8_b5 : b8 ≠ b5) (hne_b11_b5 : b11 ≠ b5) (hlt_b4_b8 : b4 < b8) (hlt_b4_b11 : b4 < b11) (hlt_b4_b5 : b4 < b5) : T 1 #[true, true, true, true, true, true, true, true, false] [(6, .v (.slice A₁ now.length q₁)), (7, .v (nI (now.length))), (8, .v (.slice (some ⟨b8, 0, none⟩) now.length now.length)), (1000008, blk b8 41 (bksV (List.replicate now.length zB))), (9, .v (.slice A₂ dur.length q₂)), (10, .v (nI (dur.length))), (11, .v (.slice (some ⟨b11, 0, none⟩) dur.length dur.length)), (1000011, blk b11 41 (bksV (List.replicate dur.length zB))), (12, .v (aggV [.slice (some ⟨b8, 0, none⟩) now.length now.length, .slice (some ⟨b11, 0, none⟩) dur.length dur.length])), (5, .v (ptr b5)), (1000005, blk b5 30 ([.slice none 0 0] ++ [.slice none 0 0])), (0, .v (.slice A₁ now.length q₁)), (1, .v (.slice A₂ dur.length q₂)), (4, .v (ptr b4)), (1000004, blk b4 30 ([.slice none 0 0] ++ [.slice none 0 0])), (1000201, old w₀.heap.size (memR A₁ (bksV now))), (1000202, old w₀.heap.size (memR A₂ (bksV dur)))] := hI (AnyT.step 8 [] (by kernel_rfl) (NextT.eff rfl (eff_storeA (n := 22) (s := 1000005) (size30.of (rfl)) rfl rfl (rfl) hBb5 rfl (rfl) (LV 0 rfl (LV 1 rfl (LV 4 rfl (LV 5 rfl (LV 6 rfl (LV 7 rfl (LV 8 rfl (LV 9 rfl (LV 10 rfl (LV 11 rfl (LV 12 rfl (LB 1000004 rfl (LT 1000008 rfl (LT 1000011 rfl (LO 1000201 rfl (LO 1000202 rfl LN))))))))))))))))) (hO (by kernel_rfl) (Sv [6, 7, 8, 1000008, 9, 10, 11, 1000011, 12, 5, 1000005, 0, 1, 4, 1000004, 1000201, 1000202] rfl) (hs111111111 b8 b11 b5 hBb8 hBb11 hBb5 hne_b8_b11 hne_b8_b5 hne_b11_b5 hlt_b4_b8 hlt_b4_b11 hlt_b4_b5)) (trivial)))
  have hs111111100 (b8 : Nat) (b11 : Nat) (hBb8 : w₀.heap.size ≤ b8) (hBb11 : w₀.heap.size ≤ b11) (hne_b8_b11 : b8 ≠ b11) (hlt_b4_b8 : b4 < b8) (hlt_b4_b11 : b4 < b11) : T 2 #[true, true, true, true, true, true, true, false, false] [(6, .v (.slice A₁ now.length q₁)), (7, .v (nI (now.length))), (8, .v (.slice (some ⟨b8, 0, none⟩) now.length now.length)), (1000008, blk b8 41 (bksV (List.replicate now.length zB))), (9, .v (.slice A₂ dur.length q₂)), (10, .v (nI (dur.length))), (11, .v (.slice (some ⟨b11, 0, none⟩) dur.length dur.length)), (1000011, blk b11 41 (bksV (List.replicate dur.length zB))), (12, .v (aggV [.slice (some ⟨b8, 0, none⟩) now.length now.length, .slice (some ⟨b11, 0, none⟩) dur.length dur.length])), (0, .v (.slice A₁ now.length q₁)), (1, .v (.slice A₂ dur.length q₂)), (4, .v (ptr b4)), (1000004, blk b4 30 ([.slice none 0 0] ++ [.slice none 0 0])), (1000201, old w₀.heap.size (memR A₁ (bksV now))), (1000202, old w₀.heap.size (memR A₂ (bksV dur)))] := hI (AnyT.step 7 [] (by kernel_rfl) (NextT.effG rfl (eff_alloc (n := 22) (d := 5) (k := 1000005) zero30 (by decide)) (fun b5 hb5 => hO (by kernel_rfl) (Sv [6, 7, 8, 1000008, 9, 10, 11, 1000011, 12, 5, 1000005, 0, 1, 4, 1000004, 1000201, 1000202] rfl) (hs111111110 b8 b11 b5 hBb8 hBb11 hb5.1 hne_b8_b11 (Nat.ne_of_lt (hb5.2 1000008 _ _ _ rfl)) (Nat.ne_of_lt (hb5.2 1000011 _ _ _ rfl)) hlt_b4_b8 hlt_b4_b11 (hb5.2 1000004 _ _ _ rfl))) (trivial)))
  have hs111111010 (b8 : Nat) (b11 : Nat) (b5 : Nat) (hBb8 : w₀.heap.size ≤ b8) (hBb11 : w₀.heap.size ≤ b11) (hBb5 : w₀.heap.size ≤ b5) (hne_b8_b11 : b8 ≠ b11) (hne_b8_b5 : b8 ≠ b5) (hne_b11_b5 : b11 ≠ b5) (hlt_b4_b8 : b4 < b8) (hlt_b4_b11 : b4 < b11) (hlt_b4_b5 : b4 < b5) : T 2 #[true, true, true, true, true, true, false, true, false] [(6, .v (.slice A₁ now.length q₁)), (7, .v (nI (now.length))), (8, .v (.slice (some ⟨b8, 0, none⟩) now.length now.length)), (1000008, blk b8 41 (bksV (List.replicate now.length zB))), (9, .v (.slice A₂ dur.length q₂)), (10, .v (nI (dur.length))), (11, .v (.slice (some ⟨b11, 0, none⟩) dur.length dur.length)), (1000011, blk b11 41 (bksV (List.replicate dur.length zB))), (5, .v (ptr b5)), (1000005, blk b5 30 ([.slice none 0 0] ++ [.slice none 0 0])), (0, .v (.slice A₁ now.length q₁)), (1, .v (.slice A₂ dur.length q₂)), (4, .v (ptr b4)), (1000004, blk b4 30 ([.slice none 0 0] ++ [.slice none 0 0])), (1000201, old w₀.heap.size (memR A₁ (bksV now))), (1000202, old w₀.heap.size (memR A₂ (bksV dur)))] := hI (AnyT.step 6 [] (by kernel_rfl) (NextT.pure (by kernel_rfl) rfl rfl rfl (ok_litS [(0, .slice (some ⟨b8, 0, none⟩) now.length now.length), (1, .slice (some ⟨b11, 0, none⟩) dur.length dur.length)] [.slice (some ⟨b8, 0, none⟩) now.length now.length, .slice (some ⟨b11, 0, none⟩) dur.length dur.length] ⟨rfl, rfl, rfl, rfl, trivial⟩ (buildD _ _ _ _ _ _)) (hO (by kernel_rfl) (Sv [6, 7, 8, 1000008, 9, 10, 11, 1000011, 12, 5, 1000005, 0, 1, 4, 1000004, 1000201, 1000202] rfl) (hs111111110 b8 b11 b5 hBb8 hBb11 hBb5 hne_b8_b11 hne_b8_b5 hne_b11_b5 hlt_b4_b8 hlt_b4_b11 hlt_b4_b5)) trivial))
  have hs111111000 (b8 : Nat) (b11 : Nat) (hBb8 : w₀.heap.size ≤ b8) (hBb11 : w₀.heap.size ≤ b11) (hne_b8_b11 : b8 ≠ b11) (hlt_b4_b8 : b4 < b8) (hlt_b4_b11 : b4 < b11) : T 3 #[true, true, true, true, true, true, false, false, false] [(6, .v (.slice A₁ now.length q₁)), (7, .v (nI (now.length))), (8, .v (.slice (some ⟨b8, 0, none⟩) now.length now.length)), (1000008, blk b8 41 (bksV (List.replicate now.length zB))), (9, .v (.slice A₂ dur.length q₂)), (10, .v (nI (dur.length))), (11, .v (.slice (some ⟨b11, 0, none⟩) dur.length dur.length)), (1000011, blk b11 41 (bksV (List.replicate dur.length zB))), (0, .v (.slice A₁ now.length q₁)), (1, .v (.slice A₂ dur.length q₂)), (4, .v (ptr b4)), (1000004, blk b4 30 ([.slice none 0 0] ++ [.slice none 0 0])), (1000201, old w₀.heap.size (memR A₁ (bksV now))), (1000202, old w₀.heap.size (memR A₂ (bksV dur)))] := hI (AnyT.step 6 [7] (by kernel_rfl) (NextT.pure (by kernel_rfl) rfl rfl rfl (ok_litS [(0, .slice (some ⟨b8, 0, none⟩) now.length now.length), (1, .slice (some ⟨b11, 0, none⟩) dur.length dur.length)] [.slice (some ⟨b8, 0, none⟩) now.length now.length, .slice (some ⟨b11, 0, none⟩) dur.length dur.length] ⟨rfl, rfl, rfl, rfl, trivial⟩ (buildD _ _ _ _ _ _)) (hO (by kernel_rfl) (Sv [6, 7, 8, 1000008, 9, 10, 11, 1000011, 12, 0, 1, 4, 1000004, 1000201, 1000202] rfl) (hs111111100 b8 b11 hBb8 hBb11 hne_b8_b11 hlt_b4_b8 hlt_b4_b11)) (NextT.effG rfl (eff_alloc (n := 22) (d := 5) (k := 1000005) zero30 (by decide)) (fun b5 hb5 => hO (by kernel_rfl) (Sv [6, 7, 8, 1000008, 9, 10, 11, 1000011, 5, 1000005, 0, 1, 4, 1000004, 1000201, 1000202] rfl) (hs111111010 b8 b11 b5 hBb8 hBb11 hb5.1 hne_b8_b11 (Nat.ne_of_lt (hb5.2 1000008 _ _ _ rfl)) (Nat.ne_of_lt (hb5.2 1000011 _ _ _ rfl)) hlt_b4_b8 hlt_b4_b11 (hb5.2 1000004 _ _ _ rfl))) (trivial))))
  have hs111110010 (b8 : Nat) (b5 : Nat) (hBb8 : w₀.heap.size ≤ b8) (hBb5 : w₀.heap.size ≤ b5) (hne_b8_b5 : b8 ≠ b5) (hlt_b4_b8 : b4 < b8) (hlt_b4_b5 : b4 < b5) : T 3 #[true, true, true, true, true, false, false, true, false] [(6, .v (.slice A₁ now.length q₁)), (7, .v (nI (now.length))), (8, .v (.slice (some ⟨b8, 0, none⟩) now.length now.length)), (1000008, blk b8 41 (bksV (List.replicate now.length zB))), (9, .v (.slice A₂ dur.length q₂)), (10, .v (nI (dur.length))), (5, .v (ptr b5)), (1000005, blk b5 30 ([.slice none 0 0] ++ [.slice none 0 0])), (0, .v (.slice A₁ now.length q₁)), (1, .v (.slice A₂ dur.length q₂)), (4, .v (ptr b4)), (1000004, blk b4 30 ([.slice none 0 0] ++ [.slice none 0 0])), (1000201, old w₀.heap.size (memR A₁ (bksV now))), (1000202, old w₀.heap.size (memR A₂ (bksV dur)))] := hI (AnyT.step 5 [] (by kernel_rfl) (NextT.effG rfl (eff_name (n := 22) (d := 11) (k := 1000011) rfl rfl (fun B' => ok_makeB dur.length Try.underlying28 infoB (by decide) rfl rfl rfl (by omega)) (by decide) (by decide)) (fun b11 hb11 => hO (by kernel_rfl) (Sv [6, 7, 8, 1000008, 9, 10, 11, 1000011, 5, 1000005, 0, 1, 4, 1000004, 1000201, 1000202] rfl) (hs111111010 b8 b11 b5 hBb8 hb11.1 hBb5 (Nat.ne_of_lt (hb11.2 1000008 _ _ _ rfl)) hne_b8_b5 (Nat.ne_of_gt (hb11.2 1000005 _ _ _ rfl)) hlt_b4_b8 (hb11.2 1000004 _ _ _ rfl) hlt_b4_b5)) (trivial)))
  have hs111110000 (b8 : Nat) (hBb8 : w₀.heap.size ≤ b8) (hlt_b4_b8 : b4 < b8) : T 4 #[true, true, true, true, true, false, false, false, false] [(6, .v (.slice A₁ now.length q₁)), (7, .v (nI (now.length))), (8, .v (.slice (some ⟨b8, 0, none⟩) now.length now.length)), (1000008, blk b8 41 (bksV (List.replicate now.length zB))), (9, .v (.slice A₂ dur.length q₂)), (10, .v (nI (dur.length))), (0, .v (.slice A₁ now.length q₁)), (1, .v (.slice A₂ dur.length q₂)), (4, .v (ptr b4)), (1000004, blk b4 30 ([.slice none 0 0] ++ [.slice none 0 0])), (1000201, old w₀.heap.size (memR A₁ (bksV now))), (1000202, old w₀.heap.size (memR A₂ (bksV dur)))] := hI (AnyT.step 5 [7] (by kernel_rfl) (NextT.effG rfl (eff_name (n := 22) (d := 11) (k := 1000011) rfl rfl (fun B' => ok_makeB dur.length Try.underlying28 infoB (by decide) rfl rfl rfl (by omega)) (by decide) (by decide)) (fun b11 hb11 => hO (by kernel_rfl) (Sv [6, 7, 8, 1000008, 9, 10, 11, 1000011, 0, 1, 4, 1000004, 1000201, 1000202] rfl) (hs111111000 b8 b11 hBb8 hb11.1 (Nat.ne_of_lt (hb11.2 1000008 _ _ _ rfl)) hlt_b4_b8 (hb11.2 1000004 _ _ _ rfl))) (NextT.effG rfl (eff_alloc (n := 22) (d := 5) (k := 1000005) zero30 (by decide)) (fun b5 hb5 => hO (by kernel_rfl) (Sv [6, 7, 8, 1000008, 9, 10, 5, 1000005, 0, 1, 4, 1000004, 1000201, 1000202] rfl) (hs111110010 b8 b5 hBb8 hb5.1 (Nat.ne_of_lt (hb5.2 1000008 _ _ _ rfl)) hlt_b4_b8 (hb5.2 1000004 _ _ _ rfl))) (trivial))))
  have hs111100010 (b8 : Nat) (b5 : Nat) (hBb8 : w₀.heap.size ≤ b8) (hBb5 : w₀.heap.size ≤ b5) (hne_b8_b5 : b8 ≠ b5) (hlt_b4_b8 : b4 < b8) (hlt_b4_b5 : b4 < b5) : T 4 #[true, true, true, true, false, false, false, true, false] [(6, .v (.slice A₁ now.length q₁)), (7, .v (nI (now.length))), (8, .v (.slice (some ⟨b8, 0, none⟩) now.length now.length)), (1000008, blk b8 41 (bksV (List.replicate now.length zB))), (9, .v (.slice A₂ dur.length q₂)), (5, .v (ptr b5)), (1000005, blk b5 30 ([.slice none 0 0] ++ [.slice none 0 0])), (0, .v (.slice A₁ now.length q₁)), (1, .v (.slice A₂ dur.length q₂)), (4, .v (ptr b4)), (1000004, blk b4 30 ([.slice none 0 0] ++ [.slice none 0 0])), (1000201, old w₀.heap.size (memR A₁ (bksV now))), (1000202, old w₀.heap.size (memR A₂ (bksV dur)))] := hI (AnyT.step 4 [] (by kernel_rfl) (NextT.pure (by kernel_rfl) rfl rfl rfl (ok_lenV Try.underlying28 rfl) (hO (by kernel_rfl) (Sv [6, 7, 8, 1000008, 9, 10, 5, 1000005, 0, 1, 4, 1000004, 1000201, 1000202] rfl) (hs111110010 b8 b5 hBb8 hBb5 hne_b8_b5 hlt_b4_b8 hlt_b4_b5)) trivial))
  have hs111100000 (b8 : Nat) (hBb8 : w₀.heap.size ≤ b8) (hlt_b4_b8 : b4 < b8) : T 5 #[true, true, true, true, false, false, false, false, false] [(6, .v (.slice A₁ now.length q₁)), (7, .v (nI (now.length))), (8, .v (.slice (some ⟨b8, 0, none⟩) now.length now.length)), (1000008, blk b8 41 (bksV (List.replicate now.length zB))), (9, .v (.slice A₂ dur.length q₂)), (0, .v (.slice A₁ now.length q₁)), (1, .v (.slice A₂ dur.length q₂)), (4, .v (ptr b4)), (1000004, blk b4 30 ([.slice none 0 0] ++ [.slice none 0 0])), (1000201, old w₀.heap.size (memR A₁ (bksV now))), (1000202, old w₀.heap.size (memR A₂ (bksV dur)))] := hI (AnyT.step 4 [7] (by kernel_rfl) (NextT.pure (by kernel_rfl) rfl rfl rfl (ok_lenV Try.underlying28 rfl) (hO (by kernel_rfl) (Sv [6, 7, 8, 1000008, 9, 10, 0, 1, 4, 1000004, 1000201, 1000202] rfl) (hs111110000 b8 hBb8 hlt_b4_b8)) (NextT.effG rfl (eff_alloc (n := 22) (d := 5) (k := 1000005) zero30 (by decide)) (fun b5 hb5 => hO (by kernel_rfl) (Sv [6, 7, 8, 1000008, 9, 5, 1000005, 0, 1, 4, 1000004, 1000201, 1000202] rfl) (hs111100010 b8 b5 hBb8 hb5.1 (Nat.ne_of_lt (hb5.2 1000008 _ _ _ rfl)) hlt_b4_b8 (hb5.2 1000004 _ _ _ rfl))) (trivial))))
  have hs111000010 (b8 : Nat) (b5 : Nat) (hBb8 : w₀.heap.size ≤ b8) (hBb5 : w₀.heap.size ≤ b5) (hne_b8_b5 : b8 ≠ b5) (hlt_b4_b8 : b4 < b8) (hlt_b4_b5 : b4 < b5) : T 5 #[true, true, true, false, false, false, false, true, false] [(6, .v (.slice A₁ now.length q₁)), (7, .v (nI (now.length))), (8, .v (.slice (some ⟨b8, 0, none⟩) now.length now.length)), (1000008, blk b8 41 (bksV (List.replicate now.length zB))), (5, .v (ptr b5)), (1000005, blk b5 30 ([.slice none 0 0] ++ [.slice none 0 0])), (0, .v (.slice A₁ now.length q₁)), (1, .v (.slice A₂ dur.length q₂)), (4, .v (ptr b4)), (1000004, blk b4 30 ([.slice none 0 0] ++ [.slice none 0 0])), (1000201, old w₀.heap.size (memR A₁ (bksV now))), (1000202, old w₀.heap.size (memR A₂ (bksV dur)))] := hI (AnyT.step 3 [] (by kernel_rfl) (NextT.pure (by kernel_rfl) rfl rfl rfl (ok_move rfl) (hO (by kernel_rfl) (Sv [6, 7, 8, 1000008, 9, 5, 1000005, 0, 1, 4, 1000004, 1000201, 1000202] rfl) (hs111100010 b8 b5 hBb8 hBb5 hne_b8_b5 hlt_b4_b8 hlt_b4_b5)) trivial))
  have hs111000000 (b8 : Nat) (hBb8 : w₀.heap.size ≤ b8) (hlt_b4_b8 : b4 < b8) : T 6 #[true, true, true, false, false, false, false, false, false] [(6, .v (.slice A₁ now.length q₁)), (7, .v (nI (now.length))), (8, .v (.slice (some ⟨b8, 0, none⟩) now.length now.length)), (1000008, blk b8 41 (bksV (List.replicate now.length zB))), (0, .v (.slice A₁ now.length q₁)), (1, .v (.slice A₂ dur.length q₂)), (4, .v (ptr b4)), (1000004, blk b4 30 ([.slice none 0 0] ++ [.slice none 0 0])), (1000201, old w₀.heap.size (memR A₁ (bksV now))), (1000202, old w₀.heap.size (memR A₂ (bksV dur)))] := hI (AnyT.step 3 [7] (by kernel_rfl) (NextT.pure (by kernel_rfl) rfl rfl rfl (ok_move rfl) (hO (by kernel_rfl) (Sv [6, 7, 8, 1000008, 9, 0, 1, 4, 1000004, 1000201, 1000202] rfl) (hs111100000 b8 hBb8 hlt_b4_b8)) (NextT.effG rfl (eff_alloc (n := 22) (d := 5) (k := 1000005) zero30 (by decide)) (fun b5 hb5 => hO (by kernel_rfl) (Sv [6, 7, 8, 1000008, 5, 1000005, 0, 1, 4, 1000004, 1000201, 1000202] rfl) (hs111000010 b8 b5 hBb8 hb5.1 (Nat.ne_of_lt (hb5.2 1000008 _ _ _ rfl)) hlt_b4_b8 (hb5.2 1000004 _ _ _ rfl))) (trivial))))
  have hs110111010 (b11 : Nat) (b5 : Nat) (hBb11 : w₀.heap.size ≤ b11) (hBb5 : w₀.heap.size ≤ b5) (hne_b11_b5 : b11 ≠ b5) (hlt_b4_b11 : b4 < b11) (hlt_b4_b5 : b4 < b5) : T 3 #[true, true, false, true, true, true, false, true, false] [(6, .v (.slice A₁ now.length q₁)), (7, .v (nI (now.length))), (9, .v (.slice A₂ dur.length q₂)), (10, .v (nI (dur.length))), (11, .v (.slice (some ⟨b11, 0, none⟩) dur.length dur.length)), (1000011, blk b11 41 (bksV (List.replicate dur.length zB))), (5, .v (ptr b5)), (1000005, blk b5 30 ([.slice none 0 0] ++ [.slice none 0 0])), (0, .v (.slice A₁ now.length q₁)), (1, .v (.slice A₂ dur.length q₂)), (4, .v (ptr b4)), (1000004, blk b4 30 ([.slice none 0 0] ++ [.slice none 0 0])), (1000201, old w₀.heap.size (memR A₁ (bksV now))), (1000202, old w₀.heap.size (memR A₂ (bksV dur)))] := hI (AnyT.step 2 [] (by kernel_rfl) (NextT.effG rfl (eff_name (n := 22) (d := 8) (k := 1000008) rfl rfl (fun B' => ok_makeB now.length Try.underlying28 infoB (by decide) rfl rfl rfl (by omega)) (by decide) (by decide)) (fun b8 hb8 => hO (by kernel_rfl) (Sv [6, 7, 8, 1000008, 9, 10, 11, 1000011, 5, 1000005, 0, 1, 4, 1000004, 1000201, 1000202] rfl) (hs111111010 b8 b11 b5 hb8.1 hBb11 hBb5 (Nat.ne_of_gt (hb8.2 1000011 _ _ _ rfl)) (Nat.ne_of_gt (hb8.2 1000005 _ _ _ rfl)) hne_b11_b5 (hb8.2 1000004 _ _ _ rfl) hlt_b4_b11 hlt_b4_b5)) (trivial)))
  have hs110111000 (b11 : Nat) (hBb11 : w₀.heap.size ≤ b11) (hlt_b4_b11 : b4 < b11) : T 4 #[true, true, false, true, true, true, false, false, false] [(6, .v (.slice A₁ now.length q₁)), (7, .v (nI (now.length))), (9, .v (.slice A₂ dur.length q₂)), (10, .v (nI (dur.length))), (11, .v (.slice (some ⟨b11, 0, none⟩) dur.length dur.length)), (1000011, blk b11 41 (bksV (List.replicate dur.length zB))), (0, .v (.slice A₁ now.length q₁)), (1, .v (.slice A₂ dur.length q₂)), (4, .v (ptr b4)), (1000004, blk b4 30 ([.slice none 0 0] ++ [.slice none 0 0])), (1000201, old w₀.heap.size (memR A₁ (bksV now))), (1000202, old w₀.heap.size (memR A₂ (bksV dur)))] := hI (AnyT.step 2 [7] (by kernel_rfl) (NextT.effG rfl (eff_name (n := 22) (d := 8) (k := 1000008) rfl rfl (fun B' => ok_makeB now.length Try.underlying28 infoB (by decide) rfl rfl rfl (by omega)) (by decide) (by decide)) (fun b8 hb8 => hO (by kernel_rfl) (Sv [6, 7, 8, 1000008, 9, 10, 11, 1000011, 0, 1, 4, 1000004, 1000201, 1000202] rfl) (hs111111000 b8 b11 hb8.1 hBb11 (Nat.ne_of_gt (hb8.2 1000011 _ _ _ rfl)) (hb8.2 1000004 _ _ _ rfl) hlt_b4_b11)) (NextT.effG rfl (eff_alloc (n := 22) (d := 5) (k := 1000005) zero30 (by decide)) (fun b5 hb5 => hO (by kernel_rfl) (Sv [6, 7, 9, 10, 11, 1000011, 5, 1000005, 0, 1, 4, 1000004, 1000201, 1000202] rfl) (hs110111010 b11 b5 hBb11 hb5.1 (Nat.ne_of_lt (hb5.2 1000011 _ _ _ rfl)) hlt_b4_b11 (hb5.2 1000004 _ _ _ rfl))) (trivial))))
  have hs110110010 (b5 : Nat) (hBb5 : w₀.heap.size ≤ b5) (hlt_b4_b5 : b4 < b5) : T 4 #[true, true, false, true, true, false, false, true, false] [(6, .v (.slice A₁ now.length q₁)), (7, .v (nI (now.length))), (9, .v (.slice A₂ dur.length q₂)), (10, .v (nI (dur.length))), (5, .v (ptr b5)), (1000005, blk b5 30 ([.slice none 0 0] ++ [.slice none 0 0])), (0, .v (.slice A₁ now.length q₁)), (1, .v (.slice A₂ dur.length q₂)), (4, .v (ptr b4)), (1000004, blk b4 30 ([.slice none 0 0] ++ [.slice none 0 0])), (1000201, old w₀.heap.size (memR A₁ (bksV now))), (1000202, old w₀.heap.size (memR A₂ (bksV dur)))] := hI (AnyT.step 2 [5] (by kernel_rfl) (NextT.effG rfl (eff_name (n := 22) (d := 8) (k := 1000008) rfl rfl (fun B' => ok_makeB now.length Try.underlying28 infoB (by decide) rfl rfl rfl (by omega)) (by decide) (by decide)) (fun b8 hb8 => hO (by kernel_rfl) (Sv [6, 7, 8, 1000008, 9, 10, 5, 1000005, 0, 1, 4, 1000004, 1000201, 1000202] rfl) (hs111110010 b8 b5 hb8.1 hBb5 (Nat.ne_of_gt (hb8.2 1000005 _ _ _ rfl)) (hb8.2 1000004 _ _ _ rfl) hlt_b4_b5)) (NextT.effG rfl (eff_name (n := 22) (d := 11) (k := 1000011) rfl rfl (fun B' => ok_makeB dur.length Try.underlying28 infoB (by decide) rfl rfl rfl (by omega)) (by decide) (by decide)) (fun b11 hb11 => hO (by kernel_rfl) (Sv [6, 7, 9, 10, 11, 1000011, 5, 1000005, 0, 1, 4, 1000004, 1000201, 1000202] rfl) (hs110111010 b11 b5 hb11.1 hBb5 (Nat.ne_of_gt (hb11.2 1000005 _ _ _ rfl)) (hb11.2 1000004 _ _ _ rfl) hlt_b4_b5)) (trivial))))
  have hs110110000 : T 5 #[true, true, false, true, true, false, false, false, false] [(6, .v (.slice A₁ now.length q₁)), (7, .v (nI (now.length))), (9, .v (.slice A₂ dur.length q₂)), (10, .v (nI (dur.length))), (0, .v (.slice A₁ now.length q₁)), (1, .v (.slice A₂ dur.length q₂)), (4, .v (ptr b4)), (1000004, blk b4 30 ([.slice none 0 0] ++ [.slice none 0 0])), (1000201, old w₀.heap.size (memR A₁ (bksV now))), (1000202, old w₀.heap.size (memR A₂ (bksV dur)))] := hI (AnyT.step 2 [5, 7] (by kernel_rfl) (NextT.effG rfl (eff_name (n := 22) (d := 8) (k := 1000008) rfl rfl (fun B' => ok_makeB now.length Try.underlying28 infoB (by decide) rfl rfl rfl (by omega)) (by decide) (by decide)) (fun b8 hb8 => hO (by kernel_rfl) (Sv [6, 7, 8, 1000008, 9, 10, 0, 1, 4, 1000004, 1000201, 1000202] rfl) (hs111110000 b8 hb8.1 (hb8.2 1000004 _ _ _ rfl))) (NextT.effG rfl (eff_name (n := 22) (d := 11) (k := 1000011) rfl rfl (fun B' => ok_makeB dur.length Try.underlying28 infoB (by decide) rfl rfl rfl (by omega)) (by decide) (by decide)) (fun b11 hb11 => hO (by kernel_rfl) (Sv [6, 7, 9, 10, 11, 1000011, 0, 1, 4, 1000004, 1000201, 1000202] rfl) (hs110111000 b11 hb11.1 (hb11.2 1000004 _ _ _ rfl))) (NextT.effG rfl (eff_alloc (n := 22) (d := 5) (k := 1000005) zero30 (by decide)) (fun b5 hb5 => hO (by kernel_rfl) (Sv [6, 7, 9, 10, 5, 1000005, 0, 1, 4, 1000004, 1000201, 1000202] rfl) (hs110110010 b5 hb5.1 (hb5.2 1000004 _ _ _ rfl))) (trivial)))))
  have hs110100010 (b5 : Nat) (hBb5 : w₀.heap.size ≤ b5) (hlt_b4_b5 : b4 < b5) : T 5 #[true, true, false, true, false, false, false, true, false] [(6, .v (.slice A₁ now.length q₁)), (7, .v (nI (now.length))), (9, .v (.slice A₂ dur.length q₂)), (5, .v (ptr b5)), (1000005, blk b5 30 ([.slice none 0 0] ++ [.slice none 0 0])), (0, .v (.slice A₁ now.length q₁)), (1, .v (.slice A₂ dur.length q₂)), (4, .v (ptr b4)), (1000004, blk b4 30 ([.slice none 0 0] ++ [.slice none 0 0])), (1000201, old w₀.heap.size (memR A₁ (bksV now))), (1000202, old w₀.heap.size (memR A₂ (bksV dur)))] := hI (AnyT.step 2 [4] (by kernel_rfl) (NextT.effG rfl (eff_name (n := 22) (d := 8) (k := 1000008) rfl rfl (fun B' => ok_makeB now.length Try.underlying28 infoB (by decide) rfl rfl rfl (by omega)) (by decide) (by decide)) (fun b8 hb8 => hO (by kernel_rfl) (Sv [6, 7, 8, 1000008, 9, 5, 1000005, 0, 1, 4, 1000004, 1000201, 1000202] rfl) (hs111100010 b8 b5 hb8.1 hBb5 (Nat.ne_of_gt (hb8.2 1000005 _ _ _ rfl)) (hb8.2 1000004 _ _ _ rfl) hlt_b4_b5)) (NextT.pure (by kernel_rfl) rfl rfl rfl (ok_lenV Try.underlying28 rfl) (hO (by kernel_rfl) (Sv [6, 7, 9, 10, 5, 1000005, 0, 1, 4, 1000004, 1000201, 1000202] rfl) (hs110110010 b5 hBb5 hlt_b4_b5)) trivial)))
  have hs110100000 : T 6 #[true, true, false, true, false, false, false, false, false] [(6, .v (.slice A₁ now.length q₁)), (7, .v (nI (now.length))), (9, .v (.slice A₂ dur.length q₂)), (0, .v (.slice A₁ now.length q₁)), (1, .v (.slice A₂ dur.length q₂)), (4, .v (ptr b4)), (1000004, blk b4 30 ([.slice none 0 0] ++ [.slice none 0 0])), (1000201, old w₀.heap.size (memR A₁ (bksV now))), (1000202, old w₀.heap.size (memR A₂ (bksV dur)))] := hI (AnyT.step 2 [4, 7] (by kernel_rfl) (NextT.effG rfl (eff_name (n := 22) (d := 8) (k := 1000008) rfl rfl (fun B' => ok_makeB now.length Try.underlying28 infoB (by decide) rfl rfl rfl (by omega)) (by decide) (by decide)) (fun b8 hb8 => hO (by kernel_rfl) (Sv [6, 7, 8, 1000008, 9, 0, 1, 4, 1000004, 1000201, 1000202] rfl) (hs111100000 b8 hb8.1 (hb8.2 1000004 _ _ _ rfl))) (NextT.pure (by kernel_rfl) rfl rfl rfl (ok_lenV Try.underlying28 rfl) (hO (by kernel_rfl) (Sv [6, 7, 9, 10, 0, 1, 4, 1000004, 1000201, 1000202] rfl) (hs110110000)) (NextT.effG rfl (eff_alloc (n := 22) (d := 5) (k := 1000005) zero30 (by decide)) (fun b5 hb5 => hO (by kernel_rfl) (Sv [6, 7, 9, 5, 1000005, 0, 1, 4, 1000004, 1000201, 1000202] rfl) (hs110100010 b5 hb5.1 (hb5.2 1000004 _ _ _ rfl))) (trivial)))))
  have hs110000010 (b5 : Nat) (hBb5 : w₀.heap.size ≤ b5) (hlt_b4_b5 : b4 < b5) : T 6 #[true, true, false, false, false, false, false, true, false] [(6, .v (.slice A₁ now.length q₁)), (7, .v (nI (now.length))), (5, .v (ptr b5)), (1000005, blk b5 30 ([.slice none 0 0] ++ [.slice none 0 0])), (0, .v (.slice A₁ now.length q₁)), (1, .v (.slice A₂ dur.length q₂)), (4, .v (ptr b4)), (1000004, blk b4 30 ([.slice none 0 0] ++ [.slice none 0 0])), (1000201, old w₀.heap.size (memR A₁ (bksV now))), (1000202, old w₀.heap.size (memR A₂ (bksV dur)))] := hI (AnyT.step 2 [3] (by kernel_rfl) (NextT.effG rfl (eff_name (n := 22) (d := 8) (k := 1000008) rfl rfl (fun B' => ok_makeB now.length Try.underlying28 infoB (by decide) rfl rfl rfl (by omega)) (by decide) (by decide)) (fun b8 hb8 => hO (by kernel_rfl) (Sv [6, 7, 8, 1000008, 5, 1000005, 0, 1, 4, 1000004, 1000201, 1000202] rfl) (hs111000010 b8 b5 hb8.1 hBb5 (Nat.ne_of_gt (hb8.2 1000005 _ _ _ rfl)) (hb8.2 1000004 _ _ _ rfl) hlt_b4_b5)) (NextT.pure (by kernel_rfl) rfl rfl rfl (ok_move rfl) (hO (by kernel_rfl) (Sv [6, 7, 9, 5, 1000005, 0, 1, 4, 1000004, 1000201, 1000202] rfl) (hs110100010 b5 hBb5 hlt_b4_b5)) trivial)))
  have hs110000000 : T 7 #[true, true, false, false, false, false, false, false, false] [(6, .v (.slice A₁ now.length q₁)), (7, .v (nI (now.length))), (0, .v (.slice A₁ now.length q₁)), (1, .v (.slice A₂ dur.length q₂)), (4, .v (ptr b4)), (1000004, blk b4 30 ([.slice none 0 0] ++ [.slice none 0 0])), (1000201, old w₀.heap.size (memR A₁ (bksV now))), (1000202, old w₀.heap.size (memR A₂ (bksV dur)))] := hI (AnyT.step 2 [3, 7] (by kernel_rfl) (NextT.effG rfl (eff_name (n := 22) (d := 8) (k := 1000008) rfl rfl (fun B' => ok_makeB now.length Try.underlying28 infoB (by decide) rfl rfl rfl (by omega)) (by decide) (by decide)) (fun b8 hb8 => hO (by kernel_rfl) (Sv [6, 7, 8, 1000008, 0, 1, 4, 1000004, 1000201, 1000202] rfl) (hs111000000 b8 hb8.1 (hb8.2 1000004 _ _ _ rfl))) (NextT.pure (by kernel_rfl) rfl rfl rfl (ok_move rfl) (hO (by kernel_rfl) (Sv [6, 7, 9, 0, 1, 4, 1000004, 1000201, 1000202] rfl) (hs110100000)) (NextT.effG rfl (eff_alloc (n := 22) (d := 5) (k := 1000005) zero30 (by decide)) (fun b5 hb5 => hO (by kernel_rfl) (Sv [6, 7, 5, 1000005, 0, 1, 4, 1000004, 1000201, 1000202] rfl) (hs110000010 b5 hb5.1 (hb5.2 1000004 _ _ _ rfl))) (trivial)))))
  have hs100111010 (b11 : Nat) (b5 : Nat) (hBb11 : w₀.heap.size ≤ b11) (hBb5 : w₀.heap.size ≤ b5) (hne_b11_b5 : b11 ≠ b5) (hlt_b4_b11 : b4 < b11) (hlt_b4_b5 : b4 < b5) : T 4 #[true, false, false, true, true, true, false, true, false] [(6, .v (.slice A₁ now.length q₁)), (9, .v (.slice A₂ dur.length q₂)), (10, .v (nI (dur.length))), (11, .v (.slice (some ⟨b11, 0, none⟩) dur.length dur.length)), (1000011, blk b11 41 (bksV (List.replicate dur.length zB))), (5, .v (ptr b5)), (1000005, blk b5 30 ([.slice none 0 0] ++ [.slice none 0 0])), (0, .v (.slice A₁ now.length q₁)), (1, .v (.slice A₂ dur.length q₂)), (4, .v (ptr b4)), (1000004, blk b4 30 ([.slice none 0 0] ++ [.slice none 0 0])), (1000201, old w₀.heap.size (memR A₁ (bksV now))), (1000202, old w₀.heap.size (memR A₂ (bksV dur)))] := hI (AnyT.step 1 [] (by kernel_rfl) (NextT.pure (by kernel_rfl) rfl rfl rfl (ok_lenV Try.underlying28 rfl) (hO (by kernel_rfl) (Sv [6, 7, 9, 10, 11, 1000011, 5, 1000005, 0, 1, 4, 1000004, 1000201, 1000202] rfl) (hs110111010 b11 b5 hBb11 hBb5 hne_b11_b5 hlt_b4_b11 hlt_b4_b5)) trivial))
  have hs100111000 (b11 : Nat) (hBb11 : w₀.heap.size ≤ b11) (hlt_b4_b11 : b4 < b11) : T 5 #[true, false, false, true, true, true, false, false, false] [(6, .v (.slice A₁ now.length q₁)), (9, .v (.slice A₂ dur.length q₂)), (10, .v (nI (dur.length))), (11, .v (.slice (some ⟨b11, 0, none⟩) dur.length dur.length)), (1000011, blk b11 41 (bksV (List.replicate dur.length zB))), (0, .v (.slice A₁ now.length q₁)), (1, .v (.slice A₂ dur.length q₂)), (4, .v (ptr b4)), (1000004, blk b4 30 ([.slice none 0 0] ++ [.slice none 0 0])), (1000201, old w₀.heap.size (memR A₁ (bksV now))), (1000202, old w₀.heap.size (memR A₂ (bksV dur)))] := hI (AnyT.step 1 [7] (by kernel_rfl) (NextT.pure (by kernel_rfl) rfl rfl rfl (ok_lenV Try.underlying28 rfl) (hO (by kernel_rfl) (Sv [6, 7, 9, 10, 11, 1000011, 0, 1, 4, 1000004, 1000201, 1000202] rfl) (hs110111000 b11 hBb11 hlt_b4_b11)) (NextT.effG rfl (eff_alloc (n := 22) (d := 5) (k := 1000005) zero30 (by decide)) (fun b5 hb5 => hO (by kernel_rfl) (Sv [6, 9, 10, 11, 1000011, 5, 1000005, 0, 1, 4, 1000004, 1000201, 1000202] rfl) (hs100111010 b11 b5 hBb11 hb5.1 (Nat.ne_of_lt (hb5.2 1000011 _ _ _ rfl)) hlt_b4_b11 (hb5.2 1000004 _ _ _ rfl))) (trivial))))
  have hs100110010 (b5 : Nat) (hBb5 : w₀.heap.size ≤ b5) (hlt_b4_b5 : b4 < b5) : T 5 #[true, false, false, true, true, false, false, true, false] [(6, .v (.slice A₁ now.length q₁)), (9, .v (.slice A₂ dur.length q₂)), (10, .v (nI (dur.length))), (5, .v (ptr b5)), (1000005, blk b5 30 ([.slice none 0 0] ++ [.slice none 0 0])), (0, .v (.slice A₁ now.length q₁)), (1, .v (.slice A₂ dur.length q₂)), (4, .v (ptr b4)), (1000004, blk b4 30 ([.slice none 0 0] ++ [.slice none 0 0])), (1000201, old w₀.heap.size (memR A₁ (bksV now))), (1000202, old w₀.heap.size (memR A₂ (bksV dur)))] := hI (AnyT.step 1 [5] (by kernel_rfl) (NextT.pure (by kernel_rfl) rfl rfl rfl (ok_lenV Try.underlying28 rfl) (hO (by kernel_rfl) (Sv [6, 7, 9, 10, 5, 1000005, 0, 1, 4, 1000004, 1000201, 1000202] rfl) (hs110110010 b5 hBb5 hlt_b4_b5)) (NextT.effG rfl (eff_name (n := 22) (d := 11) (k := 1000011) rfl rfl (fun B' => ok_makeB dur.length Try.underlying28 infoB (by decide) rfl rfl rfl (by omega)) (by decide) (by decide)) (fun b11 hb11 => hO (by kernel_rfl) (Sv [6, 9, 10, 11, 1000011, 5, 1000005, 0, 1, 4, 1000004, 1000201, 1000202] rfl) (hs100111010 b11 b5 hb11.1 hBb5 (Nat.ne_of_gt (hb11.2 1000005 _ _ _ rfl)) (hb11.2 1000004 _ _ _ rfl) hlt_b4_b5)) (trivial))))
  have hs100110000 : T 6 #[true, false, false, true, true, false, false, false, false] [(6, .v (.slice A₁ now.length q₁)), (9, .v (.slice A₂ dur.length q₂)), (10, .v (nI (dur.length))), (0, .v (.slice A₁ now.length q₁)), (1, .v (.slice A₂ dur.length q₂)), (4, .v (ptr b4)), (1000004, blk b4 30 ([.slice none 0 0] ++ [.slice none 0 0])), (1000201, old w₀.heap.size (memR A₁ (bksV now))), (1000202, old w₀.heap.size (memR A₂ (bksV dur)))] := hI (AnyT.step 1 [5, 7] (by kernel_rfl) (NextT.pure (by kernel_rfl) rfl rfl rfl (ok_lenV Try.underlying28 rfl) (hO (by kernel_rfl) (Sv [6, 7, 9, 10, 0, 1, 4, 1000004, 1000201, 1000202] rfl) (hs110110000)) (NextT.effG rfl (eff_name (n := 22) (d := 11) (k := 1000011) rfl rfl (fun B' => ok_makeB dur.length Try.underlying28 infoB (by decide) rfl rfl rfl (by omega)) (by decide) (by decide)) (fun b11 hb11 => hO (by kernel_rfl) (Sv [6, 9, 10, 11, 1000011, 0, 1, 4, 1000004, 1000201, 1000202] rfl) (hs100111000 b11 hb11.1 (hb11.2 1000004 _ _ _ rfl))) (NextT.effG rfl (eff_alloc (n := 22) (d := 5) (k := 1000005) zero30 (by decide)) (fun b5 hb5 => hO (by kernel_rfl) (Sv [6, 9, 10, 5, 1000005, 0, 1, 4, 1000004, 1000201, 1000202] rfl) (hs100110010 b5 hb5.1 (hb5.2 1000004 _ _ _ rfl))) (trivial)))))
  have hs100100010 (b5 : Nat) (hBb5 : w₀.heap.size ≤ b5) (hlt_b4_b5 : b4 < b5) : T 6 #[true, false, false, true, false, false, false, true, false] [(6, .v (.slice A₁ now.length q₁)), (9, .v (.slice A₂ dur.length q₂)), (5, .v (ptr b5)), (1000005, blk b5 30 ([.slice none 0 0] ++ [.slice none 0 0])), (0, .v (.slice A₁ now.length q₁)), (1, .v (.slice A₂ dur.length q₂)), (4, .v (ptr b4)), (1000004, blk b4 30 ([.slice none 0 0] ++ [.slice none 0 0])), (1000201, old w₀.heap.size (memR A₁ (bksV now))), (1000202, old w₀.heap.size (memR A₂ (bksV dur)))] := hI (AnyT.step 1 [4] (by kernel_rfl) (NextT.pure (by kernel_rfl) rfl rfl rfl (ok_lenV Try.underlying28 rfl) (hO (by kernel_rfl) (Sv [6, 7, 9, 5, 1000005, 0, 1, 4, 1000004, 1000201, 1000202] rfl) (hs110100010 b5 hBb5 hlt_b4_b5)) (NextT.pure (by kernel_rfl) rfl rfl rfl (ok_lenV Try.underlying28 rfl) (hO (by kernel_rfl) (Sv [6, 9, 10, 5, 1000005, 0, 1, 4, 1000004, 1000201, 1000202] rfl) (hs100110010 b5 hBb5 hlt_b4_b5)) trivial)))
  have hs100100000 : T 7 #[true, false, false, true, false, false, false, false, false] [(6, .v (.slice A₁ now.length q₁)), (9, .v (.slice A₂ dur.length q₂)), (0, .v (.slice A₁ now.length q₁)), (1, .v (.slice A₂ dur.length q₂)), (4, .v (ptr b4)), (1000004, blk b4 30 ([.slice none 0 0] ++ [.slice none 0 0])), (1000201, old w₀.heap.size (memR A₁ (bksV now))), (1000202, old w₀.heap.size (memR A₂ (bksV dur)))] := hI (AnyT.step 1 [4, 7] (by kernel_rfl) (NextT.pure (by kernel_rfl) rfl rfl rfl (ok_lenV Try.underlying28 rfl) (hO (by kernel_rfl) (Sv [6, 7, 9, 0, 1, 4, 1000004, 1000201, 1000202] rfl) (hs110100000)) (NextT.pure (by kernel_rfl) rfl rfl rfl (ok_lenV Try.underlying28 rfl) (hO (by kernel_rfl) (Sv [6, 9, 10, 0, 1, 4, 1000004, 1000201, 1000202] rfl) (hs100110000)) (NextT.effG rfl (eff_alloc (n := 22) (d := 5) (k := 1000005) zero30 (by decide)) (fun b5 hb5 => hO (by kernel_rfl) (Sv [6, 9, 5, 1000005, 0, 1, 4, 1000004, 1000201, 1000202] rfl) (hs100100010 b5 hb5.1 (hb5.2 1000004 _ _ _ rfl))) (trivial)))))
  have hs100000010 (b5 : Nat) (hBb5 : w₀.heap.size ≤ b5) (hlt_b4_b5 : b4 < b5) : T 7 #[true, false, false, false, false, false, false, true, false] [(6, .v (.slice A₁ now.length q₁)), (5, .v (ptr b5)), (1000005, blk b5 30 ([.slice none 0 0] ++ [.slice none 0 0])), (0, .v (.slice A₁ now.length q₁)), (1, .v (.slice A₂ dur.length q₂)), (4, .v (ptr b4)), (1000004, blk b4 30 ([.slice none 0 0] ++ [.slice none 0 0])), (1000201, old w₀.heap.size (memR A₁ (bksV now))), (1000202, old w₀.heap.size (memR A₂ (bksV dur)))] := hI (AnyT.step 1 [3] (by kernel_rfl) (NextT.pure (by kernel_rfl) rfl rfl rfl (ok_lenV Try.underlying28 rfl) (hO (by kernel_rfl) (Sv [6, 7, 5, 1000005, 0, 1, 4, 1000004, 1000201, 1000202] rfl) (hs110000010 b5 hBb5 hlt_b4_b5)) (NextT.pure (by kernel_rfl) rfl rfl rfl (ok_move rfl) (hO (by kernel_rfl) (Sv [6, 9, 5, 1000005, 0, 1, 4, 1000004, 1000201, 1000202] rfl) (hs100100010 b5 hBb5 hlt_b4_b5)) trivial)))
  have hs100000000 : T 8 #[true, false, false, false, false, false, false, false, false] [(6, .v (.slice A₁ now.length q₁)), (0, .v (.slice A₁ now.length q₁)), (1, .v (.slice A₂ dur.length q₂)), (4, .v (ptr b4)), (1000004, blk b4 30 ([.slice none 0 0] ++ [.slice none 0 0])), (1000201, old w₀.heap.size (memR A₁ (bksV now))), (1000202, old w₀.heap.size (memR A₂ (bksV dur)))] := hI (AnyT.step 1 [3, 7] (by kernel_rfl) (NextT.pure (by kernel_rfl) rfl rfl rfl (ok_lenV Try.underlying28 rfl) (hO (by kernel_rfl) (Sv [6, 7, 0, 1, 4, 1000004, 1000201, 1000202] rfl) (hs110000000)) (NextT.pure (by kernel_rfl) rfl rfl rfl (ok_move rfl) (hO (by kernel_rfl) (Sv [6, 9, 0, 1, 4, 1000004, 1000201, 1000202] rfl) (hs100100000)) (NextT.effG rfl (eff_alloc (n := 22) (d := 5) (k := 1000005) zero30 (by decide)) (fun b5 hb5 => hO (by kernel_rfl) (Sv [6, 5, 1000005, 0, 1, 4, 1000004, 1000201, 1000202] rfl) (hs100000010 b5 hb5.1 (hb5.2 1000004 _ _ _ rfl))) (trivial)))))
  have hs000111010 (b11 : Nat) (b5 : Nat) (hBb11 : w₀.heap.size ≤ b11) (hBb5 : w₀.heap.size ≤ b5) (hne_b11_b5 : b11 ≠ b5) (hlt_b4_b11 : b4 < b11) (hlt_b4_b5 : b4 < b5) : T 5 #[false, false, false, true, true, true, false, true, false] [(9, .v (.slice A₂ dur.length q₂)), (10, .v (nI (dur.length))), (11, .v (.slice (some ⟨b11, 0, none⟩) dur.length dur.length)), (1000011, blk b11 41 (bksV (List.replicate dur.length zB))), (5, .v (ptr b5)), (1000005, blk b5 30 ([.slice none 0 0] ++ [.slice none 0 0])), (0, .v (.slice A₁ now.length q₁)), (1, .v (.slice A₂ dur.length q₂)), (4, .v (ptr b4)), (1000004, blk b4 30 ([.slice none 0 0] ++ [.slice none 0 0])), (1000201, old w₀.heap.size (memR A₁ (bksV now))), (1000202, old w₀.heap.size (memR A₂ (bksV dur)))] := hI (AnyT.step 0 [] (by kernel_rfl) (NextT.pure (by kernel_rfl) rfl rfl rfl (ok_move rfl) (hO (by kernel_rfl) (Sv [6, 9, 10, 11, 1000011, 5, 1000005, 0, 1, 4, 1000004, 1000201, 1000202] rfl) (hs100111010 b11 b5 hBb11 hBb5 hne_b11_b5 hlt_b4_b11 hlt_b4_b5)) trivial))
  have hs000111000 (b11 : Nat) (hBb11 : w₀.heap.size ≤ b11) (hlt_b4_b11 : b4 < b11) : T 6 #[false, false, false, true, true, true, false, false, false] [(9, .v (.slice A₂ dur.length q₂)), (10, .v (nI (dur.length))), (11, .v (.slice (some ⟨b11, 0, none⟩) dur.length dur.length)), (1000011, blk b11 41 (bksV (List.replicate dur.length zB))), (0, .v (.slice A₁ now.length q₁)), (1, .v (.slice A₂ dur.length q₂)), (4, .v (ptr b4)), (1000004, blk b4 30 ([.slice none 0 0] ++ [.slice none 0 0])), (1000201, old w₀.heap.size (memR A₁ (bksV now))), (1000202, old w₀.heap.size (memR A₂ (bksV dur)))] := hI (AnyT.step 0 [7] (by kernel_rfl) (NextT.pure (by kernel_rfl) rfl rfl rfl (ok_move rfl) (hO (by kernel_rfl) (Sv [6, 9, 10, 11, 1000011, 0, 1, 4, 1000004, 1000201, 1000202] rfl) (hs100111000 b11 hBb11 hlt_b4_b11)) (NextT.effG rfl (eff_alloc (n := 22) (d := 5) (k := 1000005) zero30 (by decide)) (fun b5 hb5 => hO (by kernel_rfl) (Sv [9, 10, 11, 1000011, 5, 1000005, 0, 1, 4, 1000004, 1000201, 1000202] rfl) (hs000111010 b11 b5 hBb11 hb5.1 (Nat.ne_of_lt (hb5.2 1000011 _ _ _ rfl)) hlt_b4_b11 (hb5.2 1000004 _ _ _ rfl))) (trivial))))
  have hs000110010 (b5 : Nat) (hBb5 : w₀.heap.size ≤ b5) (hlt_b4_b5 : b4 < b5) : T 6 #[false, false, false, true, true, false, false, true, false] [(9, .v (.slice A₂ dur.length q₂)), (10, .v (nI (dur.length))), (5, .v (ptr b5)), (1000005, blk b5 30 ([.slice none 0 0] ++ [.slice none 0 0])), (0, .v (.slice A₁ now.length q₁)), (1, .v (.slice A₂ dur.length q₂)), (4, .v (ptr b4)), (1000004, blk b4 30 ([.slice none 0 0] ++ [.slice none 0 0])), (1000201, old w₀.heap.size (memR A₁ (bksV now))), (1000202, old w₀.heap.size (memR A₂ (bksV dur)))] := hI (AnyT.step 0 [5] (by kernel_rfl) (NextT.pure (by kernel_rfl) rfl rfl rfl (ok_move rfl) (hO (by kernel_rfl) (Sv [6, 9, 10, 5, 1000005, 0, 1, 4, 1000004, 1000201, 1000202] rfl) (hs100110010 b5 hBb5 hlt_b4_b5)) (NextT.effG rfl (eff_name (n := 22) (d := 11) (k := 1000011) rfl rfl (fun B' => ok_makeB dur.length Try.underlying28 infoB (by decide) rfl rfl rfl (by omega)) (by decide) (by decide)) (fun b11 hb11 => hO (by kernel_rfl) (Sv [9, 10, 11, 1000011, 5, 1000005, 0, 1, 4, 1000004, 1000201, 1000202] rfl) (hs000111010 b11 b5 hb11.1 hBb5 (Nat.ne_of_gt (hb11.2 1000005 _ _ _ rfl)) (hb11.2 1000004 _ _ _ rfl) hlt_b4_b5)) (trivial))))
  have hs000110000 : T 7 #[false, false, false, true, true, false, false, false, false] [(9, .v (.slice A₂ dur.length q₂)), (10, .v (nI (dur.length))), (0, .v (.slice A₁ now.length q₁)), (1, .v (.slice A₂ dur.length q₂)), (4, .v (ptr b4)), (1000004, blk b4 30 ([.slice none 0 0] ++ [.slice none 0 0])), (1000201, old w₀.heap.size (memR A₁ (bksV now))), (1000202, old w₀.heap.size (memR A₂ (bksV dur)))] := hI (AnyT.step 0 [5, 7] (by kernel_rfl) (NextT.pure (by kernel_rfl) rfl rfl rfl (ok_move rfl) (hO (by kernel_rfl) (Sv [6, 9, 10, 0, 1, 4, 1000004, 1000201, 1000202] rfl) (hs100110000)) (NextT.effG rfl (eff_name (n := 22) (d := 11) (k := 1000011) rfl rfl (fun B' => ok_makeB dur.length Try.underlying28 infoB (by decide) rfl rfl rfl (by omega)) (by decide) (by decide)) (fun b11 hb11 => hO (by kernel_rfl) (Sv [9, 10, 11, 1000011, 0, 1, 4, 1000004, 1000201, 1000202] rfl) (hs000111000 b11 hb11.1 (hb11.2 1000004 _ _ _ rfl))) (NextT.effG rfl (eff_alloc (n := 22) (d := 5) (k := 1000005) zero30 (by decide)) (fun b5 hb5 => hO (by kernel_rfl) (Sv [9, 10, 5, 1000005, 0, 1, 4, 1000004, 1000201, 1000202] rfl) (hs000110010 b5 hb5.1 (hb5.2 1000004 _ _ _ rfl))) (trivial)))))
  have hs000100010 (b5 : Nat) (hBb5 : w₀.heap.size ≤ b5) (hlt_b4_b5 : b4 < b5) : T 7 #[false, false, false, true, false, false, false, true, false] [(9, .v (.slice A₂ dur.length q₂)), (5, .v (ptr b5)), (1000005, blk b5 30 ([.slice none 0 0] ++ [.slice none 0 0])), (0, .v (.slice A₁ now.length q₁)), (1, .v (.slice A₂ dur.length q₂)), (4, .v (ptr b4)), (1000004, blk b4 30 ([.slice none 0 0] ++ [.slice none 0 0])), (1000201, old w₀.heap.size (memR A₁ (bksV now))), (1000202, old w₀.heap.size (memR A₂ (bksV dur)))] := hI (AnyT.step 0 [4] (by kernel_rfl) (NextT.pure (by kernel_rfl) rfl rfl rfl (ok_move rfl) (hO (by kernel_rfl) (Sv [6, 9, 5, 1000005, 0, 1, 4, 1000004, 1000201, 1000202] rfl) (hs100100010 b5 hBb5 hlt_b4_b5)) (NextT.pure (by kernel_rfl) rfl rfl rfl (ok_lenV Try.underlying28 rfl) (hO (by kernel_rfl) (Sv [9, 10, 5, 1000005, 0, 1, 4, 1000004, 1000201, 1000202] rfl) (hs000110010 b5 hBb5 hlt_b4_b5)) trivial)))
  have hs000100000 : T 8 #[false, false, false, true, false, false, false, false, false] [(9, .v (.slice A₂ dur.length q₂)), (0, .v (.slice A₁ now.length q₁)), (1, .v (.slice A₂ dur.length q₂)), (4, .v (ptr b4)), (1000004, blk b4 30 ([.slice none 0 0] ++ [.slice none 0 0])), (1000201, old w₀.heap.size (memR A₁ (bksV now))), (1000202, old w₀.heap.size (memR A₂ (bksV dur)))] := hI (AnyT.step 0 [4, 7] (by kernel_rfl) (NextT.pure (by kernel_rfl) rfl rfl rfl (ok_move rfl) (hO (by kernel_rfl) (Sv [6, 9, 0, 1, 4, 1000004, 1000201, 1000202] rfl) (hs100100000)) (NextT.pure (by kernel_rfl) rfl rfl rfl (ok_lenV Try.underlying28 rfl) (hO (by kernel_rfl) (Sv [9, 10, 0, 1, 4, 1000004, 1000201, 1000202] rfl) (hs000110000)) (NextT.effG rfl (eff_alloc (n := 22) (d := 5) (k := 1000005) zero30 (by decide)) (fun b5 hb5 => hO (by kernel_rfl) (Sv [9, 5, 1000005, 0, 1, 4, 1000004, 1000201, 1000202] rfl) (hs000100010 b5 hb5.1 (hb5.2 1000004 _ _ _ rfl))) (trivial)))))
  have hs000000010 (b5 : Nat) (hBb5 : w₀.heap.size ≤ b5) (hlt_b4_b5 : b4 < b5) : T 8 #[false, false, false, false, false, false, false, true, false] [(5, .v (ptr b5)), (1000005, blk b5 30 ([.slice none 0 0] ++ [.slice none 0 0])), (0, .v (.slice A₁ now.length q₁)), (1, .v (.slice A₂ dur.length q₂)), (4, .v (ptr b4)), (1000004, blk b4 30 ([.slice none 0 0] ++ [.slice none 0 0])), (1000201, old w₀.heap.size (memR A₁ (bksV now))), (1000202, old w₀.heap.size (memR A₂ (bksV dur)))] := hI (AnyT.step 0 [3] (by kernel_rfl) (NextT.pure (by kernel_rfl) rfl rfl rfl (ok_move rfl) (hO (by kernel_rfl) (Sv [6, 5, 1000005, 0, 1, 4, 1000004, 1000201, 1000202] rfl) (hs100000010 b5 hBb5 hlt_b4_b5)) (NextT.pure (by kernel_rfl) rfl rfl rfl (ok_move rfl) (hO (by kernel_rfl) (Sv [9, 5, 1000005, 0, 1, 4, 1000004, 1000201, 1000202] rfl) (hs000100010 b5 hBb5 hlt_b4_b5)) trivial)))
  have hs000000000 : T 9 #[false, false, false, false, false, false, false, false, false] [(0, .v (.slice A₁ now.length q₁)), (1, .v (.slice A₂ dur.length q₂)), (4, .v (ptr b4)), (1000004, blk b4 30 ([.slice none 0 0] ++ [.slice none 0 0])), (1000201, old w₀.heap.size (memR A₁ (bksV now))), (1000202, old w₀.heap.size (memR A₂ (bksV dur)))] := hI (AnyT.step 0 [3, 7] (by kernel_rfl) (NextT.pure (by kernel_rfl) rfl rfl rfl (ok_move rfl) (hO (by kernel_rfl) (Sv [6, 0, 1, 4, 1000004, 1000201, 1000202] rfl) (hs100000000)) (NextT.pure (by kernel_rfl) rfl rfl rfl (ok_move rfl) (hO (by kernel_rfl) (Sv [9, 0, 1, 4, 1000004, 1000201, 1000202] rfl) (hs000100000)) (NextT.effG rfl (eff_alloc (n := 22) (d := 5) (k := 1000005) zero30 (by decide)) (fun b5 hb5 => hO (by kernel_rfl) (Sv [5, 1000005, 0, 1, 4, 1000004, 1000201, 1000202] rfl) (hs000000010 b5 hb5.1 (hb5.2 1000004 _ _ _ rfl))) (trivial)))))
  exact hI (hO (by kernel_rfl) (Sv [0, 1, 4, 1000004, 1000201, 1000202] rfl) hs000000000)
 ·rintro ⟨b8, b11, b5⟩ ⟨hBb8, hBb11, hBb5, hne_b8_b11, hne_b8_b5, hne_b11_b5, hlt_b4_b8, hlt_b4_b11, hlt_b4_b5⟩
  refine GS ?_
  refine TF 3 ?_
  refine RS (ok_field field30_0 (by decide) rfl) ?_
  refine RLV 1000005 Try.underlying28 rfl rfl rfl ?_
  refine RVN 1 rfl ?_
  refine ⟨_, eff_copyK (n := 22) (s := 1000008) (k := 1000201) (B' := w₀.heap.size) Try.underlying28 infoB rfl rfl rfl (bks_one _) (bks_len _) (Nat.le_refl _) (by decide) hBb8 rfl (by rw [bks_len, List.length_replicate]; omega) (by decide) (LT 1000004 rfl (LT 1000005 rfl (LB 1000011 rfl (LO 1000201 rfl (LO 1000202 rfl (LW [1, 4, 5] rfl)))))), ?_⟩
  refine TL ?_
  refine RN ?_
  refine A.sub (KC 1 rfl (KC 4 rfl (KC 5 rfl (KC 1000004 rfl (KC 1000005 rfl (KE 1000008 rfl (show _ = blk b8 41 (bksV now) from congrArg _ (by rw [List.take_zero, List.nil_append, List.drop_eq_nil_of_le (by rw [bks_len, List.length_replicate]; omega), List.append_nil])) (KC 1000011 rfl (KC 1000201 rfl (KC 1000202 rfl KN))))))))) ?_
  refine GS ?_
  refine TF 3 ?_
  refine RS (ok_field field30_1 (by decide) rfl) ?_
  refine RLV 1000005 Try.underlying28 rfl rfl rfl ?_
  refine RVN 1 rfl ?_
  refine ⟨_, eff_copyK (n := 22) (s := 1000011) (k := 1000202) (B' := w₀.heap.size) Try.underlying28 infoB rfl rfl rfl (bks_one _) (bks_len _) (Nat.le_refl _) (by decide) hBb11 rfl (by rw [bks_len, List.length_replicate]; omega) (by decide) (LT 1000004 rfl (LT 1000005 rfl (LB 1000008 rfl (LO 1000201 rfl (LO 1000202 rfl (LW [4, 5] rfl)))))), ?_⟩
  refine TL ?_
  refine RN ?_
  refine A.sub (KC 4 rfl (KC 5 rfl (KC 1000004 rfl (KC 1000005 rfl (KC 1000008 rfl (KE 1000011 rfl (show _ = blk b11 41 (bksV dur) from congrArg _ (by rw [List.take_zero, List.nil_append, List.drop_eq_nil_of_le (by rw [bks_len, List.length_replicate]; omega), List.append_nil])) (KC 1000201 rfl (KC 1000202 rfl KN)))))))) ?_
  refine GS ?_
  refine TF 1 ?_
  refine RL 1000005 Try.underlying30 rfl rfl (size30.of rfl) ?_
  refine RN ?_
  refine ZA 1000004 (size30.of rfl) hBb4 rfl rfl rfl (LV 4 rfl (LB 1000005 rfl (LT 1000008 rfl (LT 1000011 rfl (LO 1000201 rfl (LO 1000202 rfl LN)))))) ?_
  refine TL ?_
  refine RN ?_
  refine A.ret ?_
  exact End.newA (s := 1000004) (k₁ := 1000008) (k₂ := 1000011) (a := ⟨now, dur⟩) (r₁ := []) (r₂ := []) rfl Try.underlying30 rfl size30 rfl rfl (by rw [List.append_nil]; rfl) (by rw [List.append_nil]; rfl) hBb8 hBb11 hne_b8_b11 (Nat.le_refl _) (Nat.le_refl _) (fun _ => ⟨rfl, rfl, rfl, rfl⟩)
end Go.Proofs.Ytggijkmlmklneaa
namespace Go.Proofs.Ytggijkmlmklneaa
open Go Go.RowKit
set_option linter.unusedVariables false
set_option maxRecDepth 20000
set_option linter.unusedSimpArgs false
theorem buildF : Try.prog.built 82 [(1, .func (.func 39) #[] #[]), (2, .func (.func 40) #[] #[]), (3, .func (.func 41) #[] #[])] = some #[.nilFunc, .func (.func 39) #[] #[], .func (.func 40) #[] #[], .func (.func 41) #[] #[]] := by kernel_rfl
theorem ar_ext {a b : Ar} (h1 : a.now = b.now) (h2 : a.dur = b.dur) : a = b := by cases a; cases b; simp_all
theorem cI_arr (a : Ar) (i : Int) (h : chkA a = 1)  : Fn Try.prog 37 [arrD false a, .v (.int .i64 (i))] (.v (.int .i64 1)) := by
 refine Fn.of Try.func37 rfl (by kernel_rfl) Try.ntmps37 (by simp) (fun w => [(0, old w.heap.size (arrD false a)), (1, .v (.int .i64 (i)))]) (fun w => (Start.old rfl (Start.v rfl Start.nil))) fun w₀ => ?_
 refine A.nameAr (t := 0) (k₁ := 1000201) (k₂ := 1000202) rfl fun A₁ q₁ A₂ q₂ hq₁ hq₂ he₁ he₂ => ?_
 refine GS ?_
 refine TN 0 ?_
 refine RN ?_
 refine ZB 1000002 rfl fun b2 ⟨hBb2, hb2⟩ => ?_
 refine TL ?_
 refine RVN 1 rfl ?_
 refine QS ?_
 refine GT ?_
 refine RS (OpOk.arO (k₁ := 1000201) (k₂ := 1000202) (ok_loadA (s := 1000002) (by decide) Try.underlying30 rfl (size30.of (rfl)) rfl rfl) hq₁ hq₂ (by decide) (by decide) rfl rfl) ?_
 refine RS (ok_call (Check_fn a) (Args.cons rfl (by first | exact Le.refl _ | exact Le.old _ _ | exact arr_any | exact arr_ex | exact arrD_any | exact op_any | exact (Le.old _ _).trans arrD_any | exact (Le.old _ _).trans arr_any) Args.nil)) ?_; refine RZ (.int .i64 1) (by rw [h]) ?_
 refine RVN 1 rfl ?_
 refine GT ?_
 refine RV 2 rfl ?_
 refine RT ?_
 refine RN ?_
 refine A.yes rfl ?_
 refine GV rfl ?_
 refine A.ret ?_
 refine End.ret_then ?_
 exact ER rfl rfl
theorem cI_out (a : Ar) (i : Int) (h : chkA a = 0) (hi : ¬ (0 ≤ i ∧ i < (a.now.length : Int))) : Fn Try.prog 37 [arrD false a, .v (.int .i64 (i))] (.v (.int .i64 1)) := by
 refine Fn.of Try.func37 rfl (by kernel_rfl) Try.ntmps37 (by simp) (fun w => [(0, old w.heap.size (arrD false a)), (1, .v (.int .i64 (i)))]) (fun w => (Start.old rfl (Start.v rfl Start.nil))) fun w₀ => ?_
 refine A.nameAr (t := 0) (k₁ := 1000201) (k₂ := 1000202) rfl fun A₁ q₁ A₂ q₂ hq₁ hq₂ he₁ he₂ => ?_
 refine GS ?_
 refine TN 0 ?_
 refine RN ?_
 refine ZB 1000002 rfl fun b2 ⟨hBb2, hb2⟩ => ?_
 refine TL ?_
 refine RVN 1 rfl ?_
 refine QS ?_
 refine GT ?_
 refine RS (OpOk.arO (k₁ := 1000201) (k₂ := 1000202) (ok_loadA (s := 1000002) (by decide) Try.underlying30 rfl (size30.of (rfl)) rfl rfl) hq₁ hq₂ (by decide) (by decide) rfl rfl) ?_
 refine RS (ok_call (Check_fn a) (Args.cons rfl (by first | exact Le.refl _ | exact Le.old _ _ | exact arr_any | exact arr_ex | exact arrD_any | exact op_any | exact (Le.old _ _).trans arrD_any | exact (Le.old _ _).trans arr_any) Args.nil)) ?_; refine RZ (.int .i64 0) (by rw [h]) ?_
 refine RVN 1 rfl ?_
 refine GT ?_
 refine RV 2 rfl ?_
 refine RF ?_
 refine RN ?_
 refine A.no rfl ?_
 refine QK ?_
 refine QS ?_
 refine GT ?_
 refine RM rfl ?_
 refine RS (ok_field field30_0 (by decide) rfl) ?_
 refine RLV 1000002 Try.underlying28 rfl rfl rfl ?_
 refine RS (ok_lenV Try.underlying28 rfl) ?_
 refine RS (ok_call (within_fn i (a.now.length : Int)) (A2 rfl rfl)) ?_; refine RZ (.bool false) (by rw [decide_eq_false hi]) ?_
 refine RVN 1 rfl ?_
 refine A.yes rfl ?_
 refine GV rfl ?_
 refine A.ret ?_
 refine End.ret_then ?_
 exact ER rfl rfl
theorem cI_in (a : Ar) (i : Int) (h : chkA a = 0) (hi : 0 ≤ i ∧ i < (a.now.length : Int)) : Fn Try.prog 37 [arrD false a, .v (.int .i64 (i))] (.v (.int .i64 0)) := by
 refine Fn.of Try.func37 rfl (by kernel_rfl) Try.ntmps37 (by simp) (fun w => [(0, old w.heap.size (arrD false a)), (1, .v (.int .i64 (i)))]) (fun w => (Start.old rfl (Start.v rfl Start.nil))) fun w₀ => ?_
 refine A.nameAr (t := 0) (k₁ := 1000201) (k₂ := 1000202) rfl fun A₁ q₁ A₂ q₂ hq₁ hq₂ he₁ he₂ => ?_
 refine GS ?_
 refine TN 0 ?_
 refine RN ?_
 refine ZB 1000002 rfl fun b2 ⟨hBb2, hb2⟩ => ?_
 refine TL ?_
 refine RVN 1 rfl ?_
 refine QS ?_
 refine GT ?_
 refine RS (OpOk.arO (k₁ := 1000201) (k₂ := 1000202) (ok_loadA (s := 1000002) (by decide) Try.underlying30 rfl (size30.of (rfl)) rfl rfl) hq₁ hq₂ (by decide) (by decide) rfl rfl) ?_
 refine RS (ok_call (Check_fn a) (Args.cons rfl (by first | exact Le.refl _ | exact Le.old _ _ | exact arr_any | exact arr_ex | exact arrD_any | exact op_any | exact (Le.old _ _).trans arrD_any | exact (Le.old _ _).trans arr_any) Args.nil)) ?_; refine RZ (.int .i64 0) (by rw [h]) ?_
 refine RVN 1 rfl ?_
 refine GT ?_
 refine RV 2 rfl ?_
 refine RF ?_
 refine RN ?_
 refine A.no rfl ?_
 refine QK ?_
 refine QS ?_
 refine GT ?_
 refine RM rfl ?_
 refine RS (ok_field field30_0 (by decide) rfl) ?_
 refine RLV 1000002 Try.underlying28 rfl rfl rfl ?_
 refine RS (ok_lenV Try.underlying28 rfl) ?_
 refine RS (ok_call (within_fn i (a.now.length : Int)) (A2 rfl rfl)) ?_; refine RZ (.bool true) (by rw [decide_eq_true hi]) ?_
 refine RVN 1 rfl ?_
 refine A.no rfl ?_
 refine QK ?_
 refine GV rfl ?_
 refine A.ret ?_
 exact ER rfl rfl
theorem Read_arr (a : Ar) (i : Int) (h : chkA a = 1)  : Fn Try.prog 26 [arrD false a, .v (.int .i64 (i))] (.v (.tuple #[aggV (bkV zB), .int .i64 1])) := by
 refine Fn.of Try.func26 rfl (by kernel_rfl) Try.ntmps26 (by simp) (fun w => [(0, old w.heap.size (arrD false a)), (1, .v (.int .i64 (i)))]) (fun w => (Start.old rfl (Start.v rfl Start.nil))) fun w₀ => ?_
 refine A.nameAr (t := 0) (k₁ := 1000201) (k₂ := 1000202) rfl fun A₁ q₁ A₂ q₂ hq₁ hq₂ he₁ he₂ => ?_
 refine GS ?_
 refine TN 0 ?_
 refine RN ?_
 refine ZB 1000002 rfl fun b2 ⟨hBb2, hb2⟩ => ?_
 refine TN 1 ?_
 refine RN ?_
 refine ZN 1000004 zero41 fun b4 ⟨hBb4, hb4⟩ => ?_
 refine TL ?_
 refine RVN 1 rfl ?_
 refine QS ?_
 refine GT ?_
 refine RS (OpOk.arO (k₁ := 1000201) (k₂ := 1000202) (ok_loadA (s := 1000002) (by decide) Try.underlying30 rfl (size30.of (rfl)) rfl rfl) hq₁ hq₂ (by decide) (by decide) rfl rfl) ?_
 refine RM rfl ?_
 refine RS (ok_call (cI_arr a i h) (Args.cons rfl (by first | exact Le.refl _ | exact Le.old _ _ | exact arr_any | exact arr_ex | exact arrD_any | exact op_any | exact (Le.old _ _).trans arrD_any | exact (Le.old _ _).trans arr_any) (Args.cons rfl (by first | exact Le.refl _ | exact Le.old _ _ | exact arr_any | exact arr_ex | exact arrD_any | exact op_any | exact (Le.old _ _).trans arrD_any | exact (Le.old _ _).trans arr_any) Args.nil))) ?_
 refine RVN 1 rfl ?_
 refine GT ?_
 refine RV 2 rfl ?_
 refine RT ?_
 refine RN ?_
 refine A.yes rfl ?_
 refine GS ?_
 refine TF 2 ?_
 refine RS (ok_litP [] Try.underlying41 info5 zero41 (by decide) trivial rfl) ?_; refine RZ (aggV (bkV zB)) (by rfl) ?_
 refine RVN 1 rfl ?_
 refine ⟨_, eff_storeA (n := 19) (s := 1000004) (size41.of (bk_len _)) rfl rfl (bk_one _) hBb4 rfl (by simp only [bk_len]) (LT 1000002 rfl (LO 1000201 rfl (LO 1000202 rfl (LW [4, 13] rfl)))), ?_⟩
 refine TL ?_
 refine RVN 1 rfl ?_
 refine A.ret ?_
 refine End.ret_then ?_
 exact End.cellV (s := 1000004) rfl Try.underlying41 rfl (size41.of (bk_len _)) rfl rfl rfl
theorem Read_out (a : Ar) (i : Int) (h : chkA a = 0) (hi : ¬ (0 ≤ i ∧ i < (a.now.length : Int))) : Fn Try.prog 26 [arrD false a, .v (.int .i64 (i))] (.v (.tuple #[aggV (bkV zB), .int .i64 1])) := by
 refine Fn.of Try.func26 rfl (by kernel_rfl) Try.ntmps26 (by simp) (fun w => [(0, old w.heap.size (arrD false a)), (1, .v (.int .i64 (i)))]) (fun w => (Start.old rfl (Start.v rfl Start.nil))) fun w₀ => ?_
 refine A.nameAr (t := 0) (k₁ := 1000201) (k₂ := 1000202) rfl fun A₁ q₁ A₂ q₂ hq₁ hq₂ he₁ he₂ => ?_
 refine GS ?_
 refine TN 0 ?_
 refine RN ?_
 refine ZB 1000002 rfl fun b2 ⟨hBb2, hb2⟩ => ?_
 refine TN 1 ?_
 refine RN ?_
 refine ZN 1000004 zero41 fun b4 ⟨hBb4, hb4⟩ => ?_
 refine TL ?_
 refine RVN 1 rfl ?_
 refine QS ?_
 refine GT ?_
 refine RS (OpOk.arO (k₁ := 1000201) (k₂ := 1000202) (ok_loadA (s := 1000002) (by decide) Try.underlying30 rfl (size30.of (rfl)) rfl rfl) hq₁ hq₂ (by decide) (by decide) rfl rfl) ?_
 refine RM rfl ?_
 refine RS (ok_call (cI_out a i h hi) (Args.cons rfl (by first | exact Le.refl _ | exact Le.old _ _ | exact arr_any | exact arr_ex | exact arrD_any | exact op_any | exact (Le.old _ _).trans arrD_any | exact (Le.old _ _).trans arr_any) (Args.cons rfl (by first | exact Le.refl _ | exact Le.old _ _ | exact arr_any | exact arr_ex | exact arrD_any | exact op_any | exact (Le.old _ _).trans arrD_any | exact (Le.old _ _).trans arr_any) Args.nil))) ?_
 refine RVN 1 rfl ?_
 refine GT ?_
 refine RV 2 rfl ?_
 refine RT ?_
 refine RN ?_
 refine A.yes rfl ?_
 refine GS ?_
 refine TF 2 ?_
 refine RS (ok_litP [] Try.underlying41 info5 zero41 (by decide) trivial rfl) ?_; refine RZ (aggV (bkV zB)) (by rfl) ?_
 refine RVN 1 rfl ?_
 refine ⟨_, eff_storeA (n := 19) (s := 1000004) (size41.of (bk_len _)) rfl rfl (bk_one _) hBb4 rfl (by simp only [bk_len]) (LT 1000002 rfl (LO 1000201 rfl (LO 1000202 rfl (LW [4, 13] rfl)))), ?_⟩
 refine TL ?_
 refine RVN 1 rfl ?_
 refine A.ret ?_
 refine End.ret_then ?_
 exact End.cellV (s := 1000004) rfl Try.underlying41 rfl (size41.of (bk_len _)) rfl rfl rfl
theorem Read_ok (a : Ar) (i : Nat) (h : chkA a = 0) (hi : i < a.now.length) : Fn Try.prog 26 [arrD false a, .v (nI (i))] (.v (.tuple #[aggV (bkV (bkAt a.now i)), .int .i64 0])) := by
 refine Fn.of Try.func26 rfl (by kernel_rfl) Try.ntmps26 (by simp) (fun w => [(0, old w.heap.size (arrD false a)), (1, .v (nI (i)))]) (fun w => (Start.old rfl (Start.v rfl Start.nil))) fun w₀ => ?_
 refine A.nameAr (t := 0) (k₁ := 1000201) (k₂ := 1000202) rfl fun A₁ q₁ A₂ q₂ hq₁ hq₂ he₁ he₂ => ?_
 refine GS ?_
 refine TN 0 ?_
 refine RN ?_
 refine ZB 1000002 rfl fun b2 ⟨hBb2, hb2⟩ => ?_
 refine TN 1 ?_
 refine RN ?_
 refine ZN 1000004 zero41 fun b4 ⟨hBb4, hb4⟩ => ?_
 refine TL ?_
 refine RVN 1 rfl ?_
 refine QS ?_
 refine GT ?_
 refine RS (OpOk.arO (k₁ := 1000201) (k₂ := 1000202) (ok_loadA (s := 1000002) (by decide) Try.underlying30 rfl (size30.of (rfl)) rfl rfl) hq₁ hq₂ (by decide) (by decide) rfl rfl) ?_
 refine RM rfl ?_
 refine RS (ok_call (cI_in a i h ⟨by omega, by omega⟩) (Args.cons rfl (by first | exact Le.refl _ | exact Le.old _ _ | exact arr_any | exact arr_ex | exact arrD_any | exact op_any | exact (Le.old _ _).trans arrD_any | exact (Le.old _ _).trans arr_any) (Args.cons rfl (by first | exact Le.refl _ | exact Le.old _ _ | exact arr_any | exact arr_ex | exact arrD_any | exact op_any | exact (Le.old _ _).trans arrD_any | exact (Le.old _ _).trans arr_any) Args.nil))) ?_
 refine RVN 1 rfl ?_
 refine GT ?_
 refine RV 2 rfl ?_
 refine RF ?_
 refine RN ?_
 refine A.no rfl ?_
 refine QK ?_
 refine GS ?_
 refine TF 5 ?_
 refine RS (ok_field field30_0 (by decide) rfl) ?_
 refine RLV 1000002 Try.underlying28 rfl rfl rfl ?_
 refine RM rfl ?_
 refine RS ((ok_indexR (s := 1000201) i Try.underlying28 infoB rfl rfl (by decide) rfl hi (by rw [bks_len]; omega))) ?_
 refine RS (ok_loadElemT 32 Try.underlying41 rfl size41 (by rw [bks_at hi, bk_len]; exact Nat.le_refl _) rfl) ?_; refine RZ (aggV (bkV (bkAt a.now i))) (congrArg aggV (by rw [bks_at hi]; exact List.take_of_length_le (Nat.le_of_eq (bk_len _)))) ?_
 refine RN ?_
 refine ⟨_, eff_storeA (n := 19) (s := 1000004) (size41.of (bk_len _)) rfl rfl (bk_one _) hBb4 rfl (by simp only [bk_len]) (LV 4 rfl (LT 1000002 rfl (LO 1000201 rfl (LO 1000202 rfl LN)))), ?_⟩
 refine TL ?_
 refine RVN 1 rfl ?_
 refine A.ret ?_
 exact End.cellV (s := 1000004) rfl Try.underlying41 rfl (size41.of (bk_len _)) rfl rfl rfl
theorem Write_arr (a : Ar) (i : Int) (b : Bk) (h : chkA a = 1)  : Fn Try.prog 27 [arrD false a, .v (.int .i64 (i)), .v (aggV (bkV b))] (.v (.tuple #[aggV [.slice none 0 0, .slice none 0 0], .int .i64 1])) := by
 refine Fn.of Try.func27 rfl (by kernel_rfl) Try.ntmps27 (by simp) (fun w => [(0, old w.heap.size (arrD false a)), (1, .v (.int .i64 (i))), (2, .v (aggV (bkV b)))]) (fun w => (Start.old rfl (Start.v rfl (Start.v rfl Start.nil)))) fun w₀ => ?_
 refine A.nameAr (t := 0) (k₁ := 1000201) (k₂ := 1000202) rfl fun A₁ q₁ A₂ q₂ hq₁ hq₂ he₁ he₂ => ?_
 refine GS ?_
 refine TN 0 ?_
 refine RN ?_
 refine ZB 1000003 rfl fun b3 ⟨hBb3, hb3⟩ => ?_
 refine TN 1 ?_
 refine RN ?_
 refine ZB 1000005 rfl fun b5 ⟨hBb5, hb5⟩ => ?_
 refine TN 2 ?_
 refine RN ?_
 refine ZN 1000006 zero30 fun b6 ⟨hBb6, hb6⟩ => ?_
 have hlt_b3_b6 := hb6 1000003 b3 _ _ rfl
 refine TL ?_
 refine RVN 1 rfl ?_
 refine QS ?_
 refine GT ?_
 refine RS (OpOk.arO (k₁ := 1000201) (k₂ := 1000202) (ok_loadA (s := 1000003) (by decide) Try.underlying30 rfl (size30.of (rfl)) rfl rfl) hq₁ hq₂ (by decide) (by decide) rfl rfl) ?_
 refine RM rfl ?_
 refine RS (ok_call (cI_arr a i h) (Args.cons rfl (by first | exact Le.refl _ | exact Le.old _ _ | exact arr_any | exact arr_ex | exact arrD_any | exact op_any | exact (Le.old _ _).trans arrD_any | exact (Le.old _ _).trans arr_any) (Args.cons rfl (by first | exact Le.refl _ | exact Le.old _ _ | exact arr_any | exact arr_ex | exact arrD_any | exact op_any | exact (Le.old _ _).trans arrD_any | exact (Le.old _ _).trans arr_any) Args.nil))) ?_
 refine RVN 1 rfl ?_
 refine GT ?_
 refine RV 2 rfl ?_
 refine RT ?_
 refine RN ?_
 refine A.yes rfl ?_
 refine GS ?_
 refine TF 2 ?_
 refine RS (ok_lit [] ([.slice none 0 0] ++ [.slice none 0 0]) (fun _ _ => rfl) (by kernel_rfl)) ?_
 refine RVN 1 rfl ?_
 refine ZA 1000006 (size30.of rfl) hBb6 rfl rfl rfl (LB 1000003 rfl (LT 1000005 rfl (LO 1000201 rfl (LO 1000202 rfl (LW [6, 16] rfl))))) ?_
 refine TL ?_
 refine RVN 1 rfl ?_
 refine A.ret ?_
 refine End.ret_then ?_
 exact End.cellV (s := 1000006) rfl Try.underlying30 rfl size30 rfl rfl rfl
set_option maxHeartbeats 2000000 in
theorem Write_ok (a : Ar) (i : Nat) (b : Bk) (h : chkA a = 0) (h1 : a.now.length ≤ 4096) (h2 : a.dur.length ≤ 4096) (hi : i < a.now.length) : FnB Try.prog 27 [arrD false a, .v (nI (i)), .v (aggV (bkV b))] (fun B => tup [arrZ (zOwn 41 B) true ⟨a.now.set i b, a.dur⟩, .v (nI (0))]) := by
 refine FnB.of Try.func27 rfl (by kernel_rfl) Try.ntmps27 (by simp) (fun w => [(0, old w.heap.size (arrD false a)), (1, .v (nI (i))), (2, .v (aggV (bkV b)))]) (fun w => (Start.old rfl (Start.v rfl (Start.v rfl Start.nil)))) fun w₀ => ?_
 refine A.nameAr (t := 0) (k₁ := 1000201) (k₂ := 1000202) rfl fun A₁ q₁ A₂ q₂ hq₁ hq₂ he₁ he₂ => ?_
 refine GS ?_
 refine TN 0 ?_
 refine RN ?_
 refine ZB 1000003 rfl fun b3 ⟨hBb3, hb3⟩ => ?_
 refine TN 1 ?_
 refine RN ?_
 refine ZB 1000005 rfl fun b5 ⟨hBb5, hb5⟩ => ?_
 refine TN 2 ?_
 refine RN ?_
 refine ZN 1000006 zero30 fun b6 ⟨hBb6, hb6⟩ => ?_
 have hlt_b3_b6 := hb6 1000003 b3 _ _ rfl
 refine TL ?_
 refine RVN 1 rfl ?_
 refine QS ?_
 refine GT ?_
 refine RS (OpOk.arO (k₁ := 1000201) (k₂ := 1000202) (ok_loadA (s := 1000003) (by decide) Try.underlying30 rfl (size30.of (rfl)) rfl rfl) hq₁ hq₂ (by decide) (by decide) rfl rfl) ?_
 refine RM rfl ?_
 refine RS (ok_call (cI_in a i h ⟨by omega, by omega⟩) (Args.cons rfl (by first | exact Le.refl _ | exact Le.old _ _ | exact arr_any | exact arr_ex | exact arrD_any | exact op_any | exact (Le.old _ _).trans arrD_any | exact (Le.old _ _).trans arr_any) (Args.cons rfl (by first | exact Le.refl _ | exact Le.old _ _ | exact arr_any | exact arr_ex | exact arrD_any | exact op_any | exact (Le.old _ _).trans arrD_any | exact (Le.old _ _).trans arr_any) Args.nil))) ?_
 refine RVN 1 rfl ?_
 refine GT ?_
 refine RV 2 rfl ?_
 refine RF ?_
 refine RN ?_
 refine A.no rfl ?_
 refine QK ?_
 refine GS ?_
 refine RunTK.newG 4 (by decide) rfl (.inl rfl) ?_
 refine RS (ok_field field30_0 (by decide) rfl) ?_
 refine RS (OpOk.slO (ex := false) (k₁ := 1000201) (ok_loadV (s := 1000003) (by decide) Try.underlying28 rfl rfl rfl (rfl)) hq₁ nofun (by decide) rfl) ?_
 refine RS (ok_field field30_1 (by decide) rfl) ?_
 refine RS (OpOk.slO (ex := false) (k₁ := 1000202) (ok_loadV (s := 1000003) (by decide) Try.underlying28 rfl rfl rfl (rfl)) hq₂ nofun (by decide) rfl) ?_
 refine RN ?_
 refine ⟨_, _, _, eff_nameAE (n := 28) (d := 21) (k₁ := 1000301) (k₂ := 1000302) rfl rfl (fun B' => ok_callB (copied_fn a.now a.dur h1 h2) newA_mono (Args.cons rfl (by first | exact Le.refl _ | exact Le.old _ _ | exact arr_any | exact arr_ex | exact arrD_any | exact op_any | exact (Le.old _ _).trans arrD_any | exact (Le.old _ _).trans arr_any) (Args.cons rfl (by first | exact Le.refl _ | exact Le.old _ _ | exact arr_any | exact arr_ex | exact arrD_any | exact op_any | exact (Le.old _ _).trans arrD_any | exact (Le.old _ _).trans arr_any) Args.nil))) (by decide) (by decide), fun ⟨c1, c2⟩ hc => ?_⟩
 have hBc1 := hc.1
 have hBc2 := hc.2.1
 have hne : c1 ≠ c2 := hc.2.2.1
 dsimp only at hBc1 hBc2
 have hlt_b5_c1 : b5 < c1 := hc.2.2.2.1 1000005 _ _ _ rfl
 have hlt_b5_c2 : b5 < c2 := hc.2.2.2.2 1000005 _ _ _ rfl
 refine TN 5 ?_
 refine RN ?_
 refine ZN 1000009 zero30 fun b9 ⟨hBb9, hb9⟩ => ?_
 have hlt_b3_b9 := hb9 1000003 b3 _ _ rfl
 have hlt_b6_b9 := hb9 1000006 b6 _ _ rfl
 refine TF 6 ?_
 refine RN ?_
 refine ZA 1000009 (size30.of rfl) hBb9 rfl rfl rfl (LB 1000003 rfl (LT 1000005 rfl (LB 1000006 rfl (LO 1000201 rfl (LO 1000202 rfl (LT 1000301 rfl (LT 1000302 rfl (LW [1, 5, 6, 9] rfl)))))))) ?_
 refine TL ?_
 refine RN ?_
 refine GS ?_
 refine TF 5 ?_
 refine RS (ok_field field30_0 (by decide) rfl) ?_
 refine RLV 1000009 Try.underlying28 rfl rfl rfl ?_
 refine RM rfl ?_
 refine RS (ok_loadA (s := 1000005) (by decide) Try.underlying41 rfl (size41.of (bk_len _)) rfl rfl) ?_
 refine RS (ok_indexVK i Try.underlying28 infoB rfl rfl hi) ?_
 refine RN ?_
 refine ⟨_, eff_storeP (n := 28) (s := 1000301) (size41.of (bk_len _)) rfl rfl (bk_one _) hBc1 rfl (by rw [bk_len, bks_len]; (try dsimp only); omega) (LT 1000003 rfl (LB 1000005 rfl (LT 1000006 rfl (LT 1000009 rfl (LO 1000201 rfl (LO 1000202 rfl (LB 1000302 rfl (LW [6, 9] rfl)))))))), ?_⟩
 refine TL ?_
 refine RN ?_
 refine A.sub (KC 6 rfl (KC 9 rfl (KC 1000003 rfl (KC 1000005 rfl (KC 1000006 rfl (KC 1000009 rfl (KC 1000201 rfl (KC 1000202 rfl (KE 1000301 rfl (show _ = blk c1 41 (bksV (a.now.set i b)) from congrArg _ (bks_set hi b)) (KC 1000302 rfl KN)))))))))) ?_
 refine GS ?_
 refine TF 1 ?_
 refine RL 1000009 Try.underlying30 rfl rfl (size30.of rfl) ?_
 refine RN ?_
 refine ZA 1000006 (size30.of rfl) hBb6 rfl rfl rfl (LV 6 rfl (LB 1000003 rfl (LT 1000005 rfl (LB 1000009 rfl (LO 1000201 rfl (LO 1000202 rfl (LT 1000301 rfl (LT 1000302 rfl LN)))))))) ?_
 refine TL ?_
 refine RVN 1 rfl ?_
 refine A.packAE (k := 1000006) (k₁ := 1000301) (k₂ := 1000302) (lo := w₀.heap.size) ⟨a.now.set i b, a.dur⟩ rfl (List.length_set ..).symm rfl rfl rfl hBc1 hBc2 ?_
 refine A.ret ?_
 exact End.varK2 (s := 1000006) rfl Try.underlying30 rfl size30 rfl rfl (Le.refl _) rfl (Le.refl _)
theorem Flush_arr (a : Ar) (h : chkA a = 1)  : Fn Try.prog 22 [arrD false a] (.v (.tuple #[aggV [.slice none 0 0, .slice none 0 0], .int .i64 1])) := by
 refine Fn.of Try.func22 rfl (by kernel_rfl) Try.ntmps22 (by simp) (fun w => [(0, old w.heap.size (arrD false a))]) (fun w => (Start.old rfl Start.nil)) fun w₀ => ?_
 refine A.nameAr (t := 0) (k₁ := 1000201) (k₂ := 1000202) rfl fun A₁ q₁ A₂ q₂ hq₁ hq₂ he₁ he₂ => ?_
 refine GS ?_
 refine TN 0 ?_
 refine RN ?_
 refine ZB 1000001 rfl fun b1 ⟨hBb1, hb1⟩ => ?_
 refine TN 1 ?_
 refine RN ?_
 refine ZN 1000002 zero30 fun b2 ⟨hBb2, hb2⟩ => ?_
 have hlt_b1_b2 := hb2 1000001 b1 _ _ rfl
 refine TL ?_
 refine RVN 1 rfl ?_
 refine QS ?_
 refine GT ?_
 refine RS (OpOk.arO (k₁ := 1000201) (k₂ := 1000202) (ok_loadA (s := 1000001) (by decide) Try.underlying30 rfl (size30.of (rfl)) rfl rfl) hq₁ hq₂ (by decide) (by decide) rfl rfl) ?_
 refine RS (ok_call (Check_fn a) (Args.cons rfl (by first | exact Le.refl _ | exact Le.old _ _ | exact arr_any | exact arr_ex | exact arrD_any | exact op_any | exact (Le.old _ _).trans arrD_any | exact (Le.old _ _).trans arr_any) Args.nil)) ?_; refine RZ (.int .i64 1) (by rw [h]) ?_
 refine RVN 1 rfl ?_
 refine GT ?_
 refine RV 2 rfl ?_
 refine RT ?_
 refine RN ?_
 refine A.yes rfl ?_
 refine GS ?_
 refine TF 2 ?_
 refine RS (ok_lit [] ([.slice none 0 0] ++ [.slice none 0 0]) (fun _ _ => rfl) (by kernel_rfl)) ?_
 refine RVN 1 rfl ?_
 refine ZA 1000002 (size30.of rfl) hBb2 rfl rfl rfl (LB 1000001 rfl (LO 1000201 rfl (LO 1000202 rfl (LW [2, 10] rfl)))) ?_
 refine TL ?_
 refine RVN 1 rfl ?_
 refine A.ret ?_
 refine End.ret_then ?_
 exact End.cellV (s := 1000002) rfl Try.underlying30 rfl size30 rfl rfl rfl
theorem Flush_ok (a : Ar) (h : chkA a = 0) (h1 : a.now.length ≤ 4096) (h2 : a.dur.length ≤ 4096)  : FnB Try.prog 22 [arrD false a] (fun B => tup [arrZ (zOwn 41 B) true ⟨a.now, a.now⟩, .v (nI (0))]) := by
 refine FnB.of Try.func22 rfl (by kernel_rfl) Try.ntmps22 (by simp) (fun w => [(0, old w.heap.size (arrD false a))]) (fun w => (Start.old rfl Start.nil)) fun w₀ => ?_
 refine A.nameAr (t := 0) (k₁ := 1000201) (k₂ := 1000202) rfl fun A₁ q₁ A₂ q₂ hq₁ hq₂ he₁ he₂ => ?_
 refine GS ?_
 refine TN 0 ?_
 refine RN ?_
 refine ZB 1000001 rfl fun b1 ⟨hBb1, hb1⟩ => ?_
 refine TN 1 ?_
 refine RN ?_
 refine ZN 1000002 zero30 fun b2 ⟨hBb2, hb2⟩ => ?_
 have hlt_b1_b2 := hb2 1000001 b1 _ _ rfl
 refine TL ?_
 refine RVN 1 rfl ?_
 refine QS ?_
 refine GT ?_
 refine RS (OpOk.arO (k₁ := 1000201) (k₂ := 1000202) (ok_loadA (s := 1000001) (by decide) Try.underlying30 rfl (size30.of (rfl)) rfl rfl) hq₁ hq₂ (by decide) (by decide) rfl rfl) ?_
 refine RS (ok_call (Check_fn a) (Args.cons rfl (by first | exact Le.refl _ | exact Le.old _ _ | exact arr_any | exact arr_ex | exact arrD_any | exact op_any | exact (Le.old _ _).trans arrD_any | exact (Le.old _ _).trans arr_any) Args.nil)) ?_; refine RZ (.int .i64 0) (by rw [h]) ?_
 refine RVN 1 rfl ?_
 refine GT ?_
 refine RV 2 rfl ?_
 refine RF ?_
 refine RN ?_
 refine A.no rfl ?_
 refine QK ?_
 refine GS ?_
 refine TF 5 ?_
 refine RS (ok_field field30_0 (by decide) rfl) ?_
 refine RS (OpOk.slO (ex := false) (k₁ := 1000201) (ok_loadV (s := 1000001) (by decide) Try.underlying28 rfl rfl rfl (rfl)) hq₁ nofun (by decide) rfl) ?_
 refine RS (ok_field field30_0 (by decide) rfl) ?_
 refine RS (OpOk.slO (ex := false) (k₁ := 1000201) (ok_loadV (s := 1000001) (by decide) Try.underlying28 rfl rfl rfl (rfl)) hq₁ nofun (by decide) rfl) ?_
 refine RS (ok_callB (copied_fn a.now a.now h1 h1) newA_mono (Args.cons rfl (by first | exact Le.refl _ | exact Le.old _ _ | exact arr_any | exact arr_ex | exact arrD_any | exact op_any | exact (Le.old _ _).trans arrD_any | exact (Le.old _ _).trans arr_any) (Args.cons rfl (by first | exact Le.refl _ | exact Le.old _ _ | exact arr_any | exact arr_ex | exact arrD_any | exact op_any | exact (Le.old _ _).trans arrD_any | exact (Le.old _ _).trans arr_any) Args.nil))) ?_
 refine RN ?_
 refine ⟨_, eff_storeK (n := 16) (s := 1000002) size30 rfl rfl (newA_arr) (Agg.arr) hBb2 rfl (rfl) (Surv.arr (fun h => absurd h.1 (by decide))) (LV 2 rfl (LB 1000001 rfl (LO 1000201 rfl (LO 1000202 rfl LN)))), ?_⟩
 refine TL ?_
 refine RVN 1 rfl ?_
 refine A.ret ?_
 exact End.varK2 (s := 1000002) rfl Try.underlying30 rfl size30 rfl rfl (Le.refl _) rfl (Le.refl _)
theorem Crash_arr (a : Ar) (h : chkA a = 1)  : Fn Try.prog 23 [arrD false a] (.v (.tuple #[aggV [.slice none 0 0, .slice none 0 0], .int .i64 1])) := by
 refine Fn.of Try.func23 rfl (by kernel_rfl) Try.ntmps23 (by simp) (fun w => [(0, old w.heap.size (arrD false a))]) (fun w => (Start.old rfl Start.nil)) fun w₀ => ?_
 refine A.nameAr (t := 0) (k₁ := 1000201) (k₂ := 1000202) rfl fun A₁ q₁ A₂ q₂ hq₁ hq₂ he₁ he₂ => ?_
 refine GS ?_
 refine TN 0 ?_
 refine RN ?_
 refine ZB 1000001 rfl fun b1 ⟨hBb1, hb1⟩ => ?_
 refine TN 1 ?_
 refine RN ?_
 refine ZN 1000002 zero30 fun b2 ⟨hBb2, hb2⟩ => ?_
 have hlt_b1_b2 := hb2 1000001 b1 _ _ rfl
 refine TL ?_
 refine RVN 1 rfl ?_
 refine QS ?_
 refine GT ?_
 refine RS (OpOk.arO (k₁ := 1000201) (k₂ := 1000202) (ok_loadA (s := 1000001) (by decide) Try.underlying30 rfl (size30.of (rfl)) rfl rfl) hq₁ hq₂ (by decide) (by decide) rfl rfl) ?_
 refine RS (ok_call (Check_fn a) (Args.cons rfl (by first | exact Le.refl _ | exact Le.old _ _ | exact arr_any | exact arr_ex | exact arrD_any | exact op_any | exact (Le.old _ _).trans arrD_any | exact (Le.old _ _).trans arr_any) Args.nil)) ?_; refine RZ (.int .i64 1) (by rw [h]) ?_
 refine RVN 1 rfl ?_
 refine GT ?_
 refine RV 2 rfl ?_
 refine RT ?_
 refine RN ?_
 refine A.yes rfl ?_
 refine GS ?_
 refine TF 2 ?_
 refine RS (ok_lit [] ([.slice none 0 0] ++ [.slice none 0 0]) (fun _ _ => rfl) (by kernel_rfl)) ?_
 refine RVN 1 rfl ?_
 refine ZA 1000002 (size30.of rfl) hBb2 rfl rfl rfl (LB 1000001 rfl (LO 1000201 rfl (LO 1000202 rfl (LW [2, 10] rfl)))) ?_
 refine TL ?_
 refine RVN 1 rfl ?_
 refine A.ret ?_
 refine End.ret_then ?_
 exact End.cellV (s := 1000002) rfl Try.underlying30 rfl size30 rfl rfl rfl
theorem Crash_ok (a : Ar) (h : chkA a = 0) (h1 : a.now.length ≤ 4096) (h2 : a.dur.length ≤ 4096)  : FnB Try.prog 23 [arrD false a] (fun B => tup [arrZ (zOwn 41 B) true ⟨a.dur, a.dur⟩, .v (nI (0))]) := by
 refine FnB.of Try.func23 rfl (by kernel_rfl) Try.ntmps23 (by simp) (fun w => [(0, old w.heap.size (arrD false a))]) (fun w => (Start.old rfl Start.nil)) fun w₀ => ?_
 refine A.nameAr (t := 0) (k₁ := 1000201) (k₂ := 1000202) rfl fun A₁ q₁ A₂ q₂ hq₁ hq₂ he₁ he₂ => ?_
 refine GS ?_
 refine TN 0 ?_
 refine RN ?_
 refine ZB 1000001 rfl fun b1 ⟨hBb1, hb1⟩ => ?_
 refine TN 1 ?_
 refine RN ?_
 refine ZN 1000002 zero30 fun b2 ⟨hBb2, hb2⟩ => ?_
 have hlt_b1_b2 := hb2 1000001 b1 _ _ rfl
 refine TL ?_
 refine RVN 1 rfl ?_
 refine QS ?_
 refine GT ?_
 refine RS (OpOk.arO (k₁ := 1000201) (k₂ := 1000202) (ok_loadA (s := 1000001) (by decide) Try.underlying30 rfl (size30.of (rfl)) rfl rfl) hq₁ hq₂ (by decide) (by decide) rfl rfl) ?_
 refine RS (ok_call (Check_fn a) (Args.cons rfl (by first | exact Le.refl _ | exact Le.old _ _ | exact arr_any | exact arr_ex | exact arrD_any | exact op_any | exact (Le.old _ _).trans arrD_any | exact (Le.old _ _).trans arr_any) Args.nil)) ?_; refine RZ (.int .i64 0) (by rw [h]) ?_
 refine RVN 1 rfl ?_
 refine GT ?_
 refine RV 2 rfl ?_
 refine RF ?_
 refine RN ?_
 refine A.no rfl ?_
 refine QK ?_
 refine GS ?_
 refine TF 5 ?_
 refine RS (ok_field field30_1 (by decide) rfl) ?_
 refine RS (OpOk.slO (ex := false) (k₁ := 1000202) (ok_loadV (s := 1000001) (by decide) Try.underlying28 rfl rfl rfl (rfl)) hq₂ nofun (by decide) rfl) ?_
 refine RS (ok_field field30_1 (by decide) rfl) ?_
 refine RS (OpOk.slO (ex := false) (k₁ := 1000202) (ok_loadV (s := 1000001) (by decide) Try.underlying28 rfl rfl rfl (rfl)) hq₂ nofun (by decide) rfl) ?_
 refine RS (ok_callB (copied_fn a.dur a.dur h2 h2) newA_mono (Args.cons rfl (by first | exact Le.refl _ | exact Le.old _ _ | exact arr_any | exact arr_ex | exact arrD_any | exact op_any | exact (Le.old _ _).trans arrD_any | exact (Le.old _ _).trans arr_any) (Args.cons rfl (by first | exact Le.refl _ | exact Le.old _ _ | exact arr_any | exact arr_ex | exact arrD_any | exact op_any | exact (Le.old _ _).trans arrD_any | exact (Le.old _ _).trans arr_any) Args.nil))) ?_
 refine RN ?_
 refine ⟨_, eff_storeK (n := 16) (s := 1000002) size30 rfl rfl (newA_arr) (Agg.arr) hBb2 rfl (rfl) (Surv.arr (fun h => absurd h.1 (by decide))) (LV 2 rfl (LB 1000001 rfl (LO 1000201 rfl (LO 1000202 rfl LN)))), ?_⟩
 refine TL ?_
 refine RVN 1 rfl ?_
 refine A.ret ?_
 exact End.varK2 (s := 1000002) rfl Try.underlying30 rfl size30 rfl rfl (Le.refl _) rfl (Le.refl _)
theorem Equal_ne (x y : List Bk) (h : x.length ≠ y.length) : Fn Try.prog 35 [rowG false x.length (bksV x), rowG false y.length (bksV y)] (.v (.bool false)) := by
 refine Fn.of Try.func35 rfl (by kernel_rfl) Try.ntmps35 (by simp) (fun w => [(0, old w.heap.size (rowG false x.length (bksV x))), (1, old w.heap.size (rowG false y.length (bksV y)))]) (fun w => (Start.old rfl (Start.old rfl Start.nil))) fun w₀ => ?_
 refine A.nameSl (t := 0) (k := 1000201) rfl fun A₁ q₁ hq₁ _ => ?_
 refine A.nameSl (t := 1) (k := 1000204) rfl fun A₂ q₂ hq₂ _ => ?_
 refine GV rfl ?_
 refine QS ?_
 refine GT ?_
 refine RM rfl ?_
 refine RS (ok_lenV Try.underlying28 rfl) ?_
 refine RM rfl ?_
 refine RS (ok_lenV Try.underlying28 rfl) ?_
 refine RB rfl rfl rfl ?_
 refine RT ?_
 refine RN ?_
 refine A.yes rfl ?_
 refine GV rfl ?_
 refine A.ret ?_
 refine End.ret_then ?_
 exact ER rfl rfl
set_option maxHeartbeats 2000000 in
theorem Equal_eq (x y : List Bk) (h4 : x.length ≤ 4096) (hl : x.length = y.length) : Fn Try.prog 35 [rowG false x.length (bksV x), rowG false y.length (bksV y)] (.v (.bool (decide (x = y)))) := by
 refine Fn.of Try.func35 rfl (by kernel_rfl) Try.ntmps35 (by simp) (fun w => [(0, old w.heap.size (rowG false x.length (bksV x))), (1, old w.heap.size (rowG false y.length (bksV y)))]) (fun w => (Start.old rfl (Start.old rfl Start.nil))) fun w₀ => ?_
 refine A.nameSl (t := 0) (k := 1000201) rfl fun A₁ q₁ hq₁ _ => ?_
 refine A.nameSl (t := 1) (k := 1000204) rfl fun A₂ q₂ hq₂ _ => ?_
 refine GV rfl ?_
 refine QS ?_
 refine GT ?_
 refine RM rfl ?_
 refine RS (ok_lenV Try.underlying28 rfl) ?_
 refine RM rfl ?_
 refine RS (ok_lenV Try.underlying28 rfl) ?_
 refine RB rfl rfl rfl ?_
 refine RF ?_
 refine RN ?_
 refine A.no rfl ?_
 refine QK ?_
 refine QS ?_
 refine GT ?_
 refine RM rfl ?_
 refine RS (ok_lenV Try.underlying28 rfl) ?_
 refine RVN 1 rfl ?_
 refine A.block ?_
 refine A.loop (ι := Nat) (fun i => i ≤ x.length ∧ ∀ k, k < i → bkAt x k = bkAt y k) (fun i => [(0, .v (.slice A₁ x.length q₁)), (1, .v (.slice A₂ y.length q₂)), (1000201, old w₀.heap.size (memR A₁ (bksV x))), (1000204, old w₀.heap.size (memR A₂ (bksV y))), (13, .v (nI (i))), (12, .v (nI (x.length)))]) (fun i => x.length - i) 0 ?_ ?_ ?_
 ·exact ⟨Nat.zero_le _, fun k h => absurd h (Nat.not_lt_zero _)⟩
 ·exact (KC 0 rfl (KC 1 rfl (KC 1000201 rfl (KC 1000204 rfl (KE 13 rfl (by rfl) (KC 12 rfl KN))))))
 intro i hG
 refine GV rfl ?_
 refine QS ?_
 refine A.cond rfl (fun hc14 => ?_) (fun hc14 => ?_)
 ·have hlt : i < x.length := by simp at hc14; omega
  refine QK ?_
  refine QSB ?_
  refine GV rfl ?_
  refine GTD ?_
  refine RV 2 rfl ?_
  refine RS ((ok_indexR (s := 1000201) i Try.underlying28 infoB rfl rfl (by decide) rfl (by omega) (by rw [bks_len]; omega))) ?_
  refine RS (ok_loadElemT 32 Try.underlying41 rfl size41 (by rw [bks_at (by omega), bk_len]; exact Nat.le_refl _) rfl) ?_; refine RZ (aggV (bkV (bkAt x i))) (congrArg aggV (by rw [bks_at (by omega)]; exact List.take_of_length_le (Nat.le_of_eq (bk_len _)))) ?_
  refine RV 2 rfl ?_
  refine RS ((ok_indexR (s := 1000204) i Try.underlying28 infoB rfl rfl (by decide) rfl (by omega) (by rw [bks_len]; omega))) ?_
  refine RS (ok_loadElemT 32 Try.underlying41 rfl size41 (by rw [bks_at (by omega), bk_len]; exact Nat.le_refl _) rfl) ?_; refine RZ (aggV (bkV (bkAt y i))) (congrArg aggV (by rw [bks_at (by omega)]; exact List.take_of_length_le (Nat.le_of_eq (bk_len _)))) ?_
  refine RS (ok_neqT (n := 4) (decide (bkAt x i = bkAt y i)) flat41 (by decide) (by kernel_rfl) (by kernel_rfl) rfl rfl (kinBk _) (kinBk _) (by rw [decide_eq_true_iff]; exact ⟨fun h => congrArg bkV h, bk_inj⟩)) ?_
  refine RN ?_
  refine A.cond rfl (fun hc24 => ?_) (fun hc24 => ?_)
  ·have hne : bkAt x i ≠ bkAt y i := by simpa using hc24
   refine GV rfl ?_
   refine A.ret ?_
   refine End.ret_block ?_
   refine End.ret_then ?_
   refine End.ret_then ?_
   refine End.ret_block ?_
   refine End.ret_then ?_
   first | exact End.ret1 rfl rfl (Le.v (congrArg Value.bool (decide_eq_false (fun h => hne (by rw [h]))).symm)) | exact End.ret1 rfl rfl (Le.v (congrArg Value.bool (decide_eq_true (bks_eq hl fun k hk => hG.2 k (by omega))).symm))
  ·have heq : bkAt x i = bkAt y i := by simpa using hc24
   refine A.skip ?_
   refine End.normal_block ?_
   refine EN ?_
   refine GTE ?_
   refine RB rfl rfl rfl ?_
   refine RZ (nI (i + 1)) (wrap_eq (by omega) (by omega)) ?_
   refine RVN 1 rfl ?_
   refine End.normal_then ?_
   refine End.again (i + 1) ?_ ?_ ?_
   ·exact ⟨by omega, fun k h => (Nat.lt_or_ge k i).elim (hG.2 k) fun h => by rw [show k = i from by omega]; exact heq⟩
   ·show _ - _ < _ - _; omega
   ·exact (Sv [0, 1, 1000201, 1000204, 13, 12] rfl)
 ·have hge : ¬ i < x.length := by simp at hc14; omega
  refine A.exit ?_
  refine End.exit_then ?_
  refine End.exit_then ?_
  refine End.exit_here ?_
  refine EN ?_
  refine GV rfl ?_
  refine A.ret ?_
  first | exact End.ret1 rfl rfl (Le.v (congrArg Value.bool (decide_eq_false (fun h => hne (by rw [h]))).symm)) | exact End.ret1 rfl rfl (Le.v (congrArg Value.bool (decide_eq_true (bks_eq hl fun k hk => hG.2 k (by omega))).symm))
theorem Equal_fn (x y : List Bk) (h4 : x.length ≤ 4096) : Fn Try.prog 35 [rowG false x.length (bksV x), rowG false y.length (bksV y)] (.v (.bool (decide (x = y)))) := by
 by_cases hl : x.length = y.length
 ·exact Equal_eq x y h4 hl
 ·rw [decide_eq_false (fun h => hl (by rw [h]))]; exact Equal_ne x y hl
theorem Same_fn (a b : Ar) (h1 : a.now.length ≤ 4096) (h2 : a.dur.length ≤ 4096) : Fn Try.prog 21 [arrD false a, arrD false b] (.v (.bool (decide (a = b)))) := by
 refine Fn.of Try.func21 rfl (by kernel_rfl) Try.ntmps21 (by simp) (fun w => [(0, old w.heap.size (arrD false a)), (1, old w.heap.size (arrD false b))]) (fun w => (Start.old rfl (Start.old rfl Start.nil))) fun w₀ => ?_
 refine A.nameAr (t := 0) (k₁ := 1000201) (k₂ := 1000202) rfl fun A₁ q₁ A₂ q₂ hq₁ hq₂ he₁ he₂ => ?_
 refine A.nameAr (t := 1) (k₁ := 1000204) (k₂ := 1000205) rfl fun A₁' q₁' A₂' q₂' hq₁' hq₂' he₁' he₂' => ?_
 refine GS ?_
 refine TN 0 ?_
 refine RN ?_
 refine ZB 1000002 rfl fun b2 ⟨hBb2, hb2⟩ => ?_
 refine TN 1 ?_
 refine RN ?_
 refine ZB 1000003 rfl fun b3 ⟨hBb3, hb3⟩ => ?_
 have hlt_b2_b3 := hb3 1000002 b2 _ _ rfl
 refine TL ?_
 refine RVN 1 rfl ?_
 rcases Bool.eq_false_or_eq_true (decide (a.now = b.now)) with hsp | hsp
 ·refine GT ?_
  refine RS (ok_field field30_0 (by decide) rfl) ?_
  refine RS (OpOk.slO (ex := false) (k₁ := 1000201) (ok_loadV (s := 1000002) (by decide) Try.underlying28 rfl rfl rfl (rfl)) hq₁ nofun (by decide) rfl) ?_
  refine RS (ok_field field30_0 (by decide) rfl) ?_
  refine RS (OpOk.slO (ex := false) (k₁ := 1000204) (ok_loadV (s := 1000003) (by decide) Try.underlying28 rfl rfl rfl (rfl)) hq₁' nofun (by decide) rfl) ?_
  refine RS (ok_call (Equal_fn a.now b.now h1) (Args.cons rfl (by first | exact Le.refl _ | exact Le.old _ _ | exact arr_any | exact arr_ex | exact arrD_any | exact op_any | exact (Le.old _ _).trans arrD_any | exact (Le.old _ _).trans arr_any) (Args.cons rfl (by first | exact Le.refl _ | exact Le.old _ _ | exact arr_any | exact arr_ex | exact arrD_any | exact op_any | exact (Le.old _ _).trans arrD_any | exact (Le.old _ _).trans arr_any) Args.nil))) ?_; refine RZ (.bool true) (congrArg Value.bool hsp) ?_
  refine RM rfl ?_
  refine RQ (ok_field field30_1 (by decide) rfl) ?_
  refine RQ (OpOk.slO (ex := false) (k₁ := 1000202) (ok_loadV (s := 1000002) (by decide) Try.underlying28 rfl rfl rfl (rfl)) hq₂ nofun (by decide) rfl) ?_
  refine RQ (ok_field field30_1 (by decide) rfl) ?_
  refine RQ (OpOk.slO (ex := false) (k₁ := 1000205) (ok_loadV (s := 1000003) (by decide) Try.underlying28 rfl rfl rfl (rfl)) hq₂' nofun (by decide) rfl) ?_
  refine RQ (ok_call (Equal_fn a.dur b.dur h2) (Args.cons rfl (by first | exact Le.refl _ | exact Le.old _ _ | exact arr_any | exact arr_ex | exact arrD_any | exact op_any | exact (Le.old _ _).trans arrD_any | exact (Le.old _ _).trans arr_any) (Args.cons rfl (by first | exact Le.refl _ | exact Le.old _ _ | exact arr_any | exact arr_ex | exact arrD_any | exact op_any | exact (Le.old _ _).trans arrD_any | exact (Le.old _ _).trans arr_any) Args.nil))) ?_; refine RZ (.bool (decide (a.dur = b.dur))) (rfl) ?_
  refine RVN 2 rfl ?_
  refine A.ret ?_
  first | exact End.ret1 rfl rfl (Le.v (congrArg Value.bool (decide_eq_false (fun h => of_decide_eq_false hsp (congrArg Ar.now h))).symm)) | exact End.ret1 rfl rfl (Le.v (congrArg Value.bool (decide_eq_decide.2 ⟨fun h => ar_ext (of_decide_eq_true hsp) h, fun h => congrArg Ar.dur h⟩)))
 ·refine GT ?_
  refine RS (ok_field field30_0 (by decide) rfl) ?_
  refine RS (OpOk.slO (ex := false) (k₁ := 1000201) (ok_loadV (s := 1000002) (by decide) Try.underlying28 rfl rfl rfl (rfl)) hq₁ nofun (by decide) rfl) ?_
  refine RS (ok_field field30_0 (by decide) rfl) ?_
  refine RS (OpOk.slO (ex := false) (k₁ := 1000204) (ok_loadV (s := 1000003) (by decide) Try.underlying28 rfl rfl rfl (rfl)) hq₁' nofun (by decide) rfl) ?_
  refine RS (ok_call (Equal_fn a.now b.now h1) (Args.cons rfl (by first | exact Le.refl _ | exact Le.old _ _ | exact arr_any | exact arr_ex | exact arrD_any | exact op_any | exact (Le.old _ _).trans arrD_any | exact (Le.old _ _).trans arr_any) (Args.cons rfl (by first | exact Le.refl _ | exact Le.old _ _ | exact arr_any | exact arr_ex | exact arrD_any | exact op_any | exact (Le.old _ _).trans arrD_any | exact (Le.old _ _).trans arr_any) Args.nil))) ?_; refine RZ (.bool false) (congrArg Value.bool hsp) ?_
  refine RVN 8 rfl ?_
  refine A.ret ?_
  first | exact End.ret1 rfl rfl (Le.v (congrArg Value.bool (decide_eq_false (fun h => of_decide_eq_false hsp (congrArg Ar.now h))).symm)) | exact End.ret1 rfl rfl (Le.v (congrArg Value.bool (decide_eq_decide.2 ⟨fun h => ar_ext (of_decide_eq_true hsp) h, fun h => congrArg Ar.dur h⟩)))
theorem Clip_fn (n : Nat) (xs : List Value) : Fn Try.prog 36 [rowG false n xs] (rowG true n xs) := by
 refine Fn.of Try.func36 rfl (by kernel_rfl) Try.ntmps36 (by simp) (fun w => [(0, old w.heap.size (rowG false n xs))]) (fun w => (Start.old rfl Start.nil)) fun w₀ => ?_
 refine A.nameSl (t := 0) (k := 1000201) rfl fun A₁ q₁ hq₁ _ => ?_
 refine GV rfl ?_
 refine GT ?_
 refine RV 2 rfl ?_
 refine RS (ok_lenV Try.underlying63 rfl) ?_
 refine RM rfl ?_
 refine RS (ok_lenV Try.underlying63 rfl) ?_
 refine RS (OpOk.slO (ex := true) (k₁ := 1000201) (ok_clip Try.underlying63 infoI rfl rfl rfl hq₁) (Nat.le_refl _) (fun _ => rfl) (by decide) rfl) ?_
 refine RVN 1 rfl ?_
 refine A.ret ?_
 exact End.ret1 rfl rfl (Le.old _ _)
theorem Differ_a (a b : Ar) (h : chkA a = 1)  : Fn Try.prog 25 [arrD false a, arrD false b] (.v (.tuple #[.slice none 0 0, .int .i64 1])) := by
 refine Fn.of Try.func25 rfl (by kernel_rfl) Try.ntmps25 (by simp) (fun w => [(0, old w.heap.size (arrD false a)), (1, old w.heap.size (arrD false b))]) (fun w => (Start.old rfl (Start.old rfl Start.nil))) fun w₀ => ?_
 refine A.nameAr (t := 0) (k₁ := 1000201) (k₂ := 1000202) rfl fun A₁ q₁ A₂ q₂ hq₁ hq₂ he₁ he₂ => ?_
 refine A.nameAr (t := 1) (k₁ := 1000204) (k₂ := 1000205) rfl fun A₁' q₁' A₂' q₂' hq₁' hq₂' he₁' he₂' => ?_
 refine GS ?_
 refine TN 0 ?_
 refine RN ?_
 refine ZB 1000002 rfl fun b2 ⟨hBb2, hb2⟩ => ?_
 refine TN 1 ?_
 refine RN ?_
 refine ZB 1000003 rfl fun b3 ⟨hBb3, hb3⟩ => ?_
 have hlt_b2_b3 := hb3 1000002 b2 _ _ rfl
 refine TL ?_
 refine RVN 2 rfl ?_
 refine QS ?_
 refine GT ?_
 refine RS (OpOk.arO (k₁ := 1000201) (k₂ := 1000202) (ok_loadA (s := 1000002) (by decide) Try.underlying30 rfl (size30.of (rfl)) rfl rfl) hq₁ hq₂ (by decide) (by decide) rfl rfl) ?_
 refine RS (ok_call (Check_fn a) (Args.cons rfl (by first | exact Le.refl _ | exact Le.old _ _ | exact arr_any | exact arr_ex | exact arrD_any | exact op_any | exact (Le.old _ _).trans arrD_any | exact (Le.old _ _).trans arr_any) Args.nil)) ?_; refine RZ (.int .i64 1) (by rw [h]) ?_
 refine RVN 1 rfl ?_
 refine GT ?_
 refine RV 2 rfl ?_
 refine RT ?_
 refine RN ?_
 refine A.yes rfl ?_
 refine GV rfl ?_
 refine A.ret ?_
 refine End.ret_then ?_
 exact End.ret2V rfl rfl rfl
theorem Differ_b (a b : Ar) (h : chkA a = 0) (h' : chkA b = 1) : Fn Try.prog 25 [arrD false a, arrD false b] (.v (.tuple #[.slice none 0 0, .int .i64 1])) := by
 refine Fn.of Try.func25 rfl (by kernel_rfl) Try.ntmps25 (by simp) (fun w => [(0, old w.heap.size (arrD false a)), (1, old w.heap.size (arrD false b))]) (fun w => (Start.old rfl (Start.old rfl Start.nil))) fun w₀ => ?_
 refine A.nameAr (t := 0) (k₁ := 1000201) (k₂ := 1000202) rfl fun A₁ q₁ A₂ q₂ hq₁ hq₂ he₁ he₂ => ?_
 refine A.nameAr (t := 1) (k₁ := 1000204) (k₂ := 1000205) rfl fun A₁' q₁' A₂' q₂' hq₁' hq₂' he₁' he₂' => ?_
 refine GS ?_
 refine TN 0 ?_
 refine RN ?_
 refine ZB 1000002 rfl fun b2 ⟨hBb2, hb2⟩ => ?_
 refine TN 1 ?_
 refine RN ?_
 refine ZB 1000003 rfl fun b3 ⟨hBb3, hb3⟩ => ?_
 have hlt_b2_b3 := hb3 1000002 b2 _ _ rfl
 refine TL ?_
 refine RVN 2 rfl ?_
 refine QS ?_
 refine GT ?_
 refine RS (OpOk.arO (k₁ := 1000201) (k₂ := 1000202) (ok_loadA (s := 1000002) (by decide) Try.underlying30 rfl (size30.of (rfl)) rfl rfl) hq₁ hq₂ (by decide) (by decide) rfl rfl) ?_
 refine RS (ok_call (Check_fn a) (Args.cons rfl (by first | exact Le.refl _ | exact Le.old _ _ | exact arr_any | exact arr_ex | exact arrD_any | exact op_any | exact (Le.old _ _).trans arrD_any | exact (Le.old _ _).trans arr_any) Args.nil)) ?_; refine RZ (.int .i64 0) (by rw [h]) ?_
 refine RVN 1 rfl ?_
 refine GT ?_
 refine RV 2 rfl ?_
 refine RF ?_
 refine RN ?_
 refine A.no rfl ?_
 refine QK ?_
 refine QS ?_
 refine GT ?_
 refine RS (OpOk.arO (k₁ := 1000204) (k₂ := 1000205) (ok_loadA (s := 1000003) (by decide) Try.underlying30 rfl (size30.of (rfl)) rfl rfl) hq₁' hq₂' (by decide) (by decide) rfl rfl) ?_
 refine RS (ok_call (Check_fn b) (Args.cons rfl (by first | exact Le.refl _ | exact Le.old _ _ | exact arr_any | exact arr_ex | exact arrD_any | exact op_any | exact (Le.old _ _).trans arrD_any | exact (Le.old _ _).trans arr_any) Args.nil)) ?_; refine RZ (.int .i64 1) (by rw [h']) ?_
 refine RVN 1 rfl ?_
 refine GT ?_
 refine RV 2 rfl ?_
 refine RT ?_
 refine RN ?_
 refine A.yes rfl ?_
 refine GV rfl ?_
 refine A.ret ?_
 refine End.ret_then ?_
 exact End.ret2V rfl rfl rfl
theorem Differ_n (a b : Ar) (h : chkA a = 0) (h' : chkA b = 0) (hl : a.now.length ≠ b.now.length) : Fn Try.prog 25 [arrD false a, arrD false b] (.v (.tuple #[.slice none 0 0, .int .i64 1])) := by
 refine Fn.of Try.func25 rfl (by kernel_rfl) Try.ntmps25 (by simp) (fun w => [(0, old w.heap.size (arrD false a)), (1, old w.heap.size (arrD false b))]) (fun w => (Start.old rfl (Start.old rfl Start.nil))) fun w₀ => ?_
 refine A.nameAr (t := 0) (k₁ := 1000201) (k₂ := 1000202) rfl fun A₁ q₁ A₂ q₂ hq₁ hq₂ he₁ he₂ => ?_
 refine A.nameAr (t := 1) (k₁ := 1000204) (k₂ := 1000205) rfl fun A₁' q₁' A₂' q₂' hq₁' hq₂' he₁' he₂' => ?_
 refine GS ?_
 refine TN 0 ?_
 refine RN ?_
 refine ZB 1000002 rfl fun b2 ⟨hBb2, hb2⟩ => ?_
 refine TN 1 ?_
 refine RN ?_
 refine ZB 1000003 rfl fun b3 ⟨hBb3, hb3⟩ => ?_
 have hlt_b2_b3 := hb3 1000002 b2 _ _ rfl
 refine TL ?_
 refine RVN 2 rfl ?_
 refine QS ?_
 refine GT ?_
 refine RS (OpOk.arO (k₁ := 1000201) (k₂ := 1000202) (ok_loadA (s := 1000002) (by decide) Try.underlying30 rfl (size30.of (rfl)) rfl rfl) hq₁ hq₂ (by decide) (by decide) rfl rfl) ?_
 refine RS (ok_call (Check_fn a) (Args.cons rfl (by first | exact Le.refl _ | exact Le.old _ _ | exact arr_any | exact arr_ex | exact arrD_any | exact op_any | exact (Le.old _ _).trans arrD_any | exact (Le.old _ _).trans arr_any) Args.nil)) ?_; refine RZ (.int .i64 0) (by rw [h]) ?_
 refine RVN 1 rfl ?_
 refine GT ?_
 refine RV 2 rfl ?_
 refine RF ?_
 refine RN ?_
 refine A.no rfl ?_
 refine QK ?_
 refine QS ?_
 refine GT ?_
 refine RS (OpOk.arO (k₁ := 1000204) (k₂ := 1000205) (ok_loadA (s := 1000003) (by decide) Try.underlying30 rfl (size30.of (rfl)) rfl rfl) hq₁' hq₂' (by decide) (by decide) rfl rfl) ?_
 refine RS (ok_call (Check_fn b) (Args.cons rfl (by first | exact Le.refl _ | exact Le.old _ _ | exact arr_any | exact arr_ex | exact arrD_any | exact op_any | exact (Le.old _ _).trans arrD_any | exact (Le.old _ _).trans arr_any) Args.nil)) ?_; refine RZ (.int .i64 0) (by rw [h']) ?_
 refine RVN 1 rfl ?_
 refine GT ?_
 refine RV 2 rfl ?_
 refine RF ?_
 refine RN ?_
 refine A.no rfl ?_
 refine QK ?_
 refine QS ?_
 refine GT ?_
 refine RS (ok_field field30_0 (by decide) rfl) ?_
 refine RLV 1000002 Try.underlying28 rfl rfl rfl ?_
 refine RS (ok_lenV Try.underlying28 rfl) ?_
 refine RS (ok_field field30_0 (by decide) rfl) ?_
 refine RLV 1000003 Try.underlying28 rfl rfl rfl ?_
 refine RS (ok_lenV Try.underlying28 rfl) ?_
 refine RB rfl rfl rfl ?_
 refine RT ?_
 refine RN ?_
 refine A.yes rfl ?_
 refine GV rfl ?_
 refine A.ret ?_
 refine End.ret_then ?_
 exact End.ret2V rfl rfl rfl
set_option maxHeartbeats 4000000 in
theorem Differ_ok (a b : Ar) (h : chkA a = 0) (h' : chkA b = 0) (hl : a.now.length = b.now.length) (h4 : a.now.length ≤ 4096) : Fn Try.prog 25 [arrD false a, arrD false b] (tup [rowG true (difP a.now b.now a.now.length).length ((difP a.now b.now a.now.length).map (fun k : Nat => nI k)), .v (nI (0))]) := by
 refine Fn.of Try.func25 rfl (by kernel_rfl) Try.ntmps25 (by simp) (fun w => [(0, old w.heap.size (arrD false a)), (1, old w.heap.size (arrD false b))]) (fun w => (Start.old rfl (Start.old rfl Start.nil))) fun w₀ => ?_
 refine A.nameAr (t := 0) (k₁ := 1000201) (k₂ := 1000202) rfl fun A₁ q₁ A₂ q₂ hq₁ hq₂ he₁ he₂ => ?_
 refine A.nameAr (t := 1) (k₁ := 1000204) (k₂ := 1000205) rfl fun A₁' q₁' A₂' q₂' hq₁' hq₂' he₁' he₂' => ?_
 refine GS ?_
 refine TN 0 ?_
 refine RN ?_
 refine ZB 1000002 rfl fun b2 ⟨hBb2, hb2⟩ => ?_
 refine TN 1 ?_
 refine RN ?_
 refine ZB 1000003 rfl fun b3 ⟨hBb3, hb3⟩ => ?_
 have hlt_b2_b3 := hb3 1000002 b2 _ _ rfl
 refine TL ?_
 refine RVN 2 rfl ?_
 refine QS ?_
 refine GT ?_
 refine RS (OpOk.arO (k₁ := 1000201) (k₂ := 1000202) (ok_loadA (s := 1000002) (by decide) Try.underlying30 rfl (size30.of (rfl)) rfl rfl) hq₁ hq₂ (by decide) (by decide) rfl rfl) ?_
 refine RS (ok_call (Check_fn a) (Args.cons rfl (by first | exact Le.refl _ | exact Le.old _ _ | exact arr_any | exact arr_ex | exact arrD_any | exact op_any | exact (Le.old _ _).trans arrD_any | exact (Le.old _ _).trans arr_any) Args.nil)) ?_; refine RZ (.int .i64 0) (by rw [h]) ?_
 refine RVN 1 rfl ?_
 refine GT ?_
 refine RV 2 rfl ?_
 refine RF ?_
 refine RN ?_
 refine A.no rfl ?_
 refine QK ?_
 refine QS ?_
 refine GT ?_
 refine RS (OpOk.arO (k₁ := 1000204) (k₂ := 1000205) (ok_loadA (s := 1000003) (by decide) Try.underlying30 rfl (size30.of (rfl)) rfl rfl) hq₁' hq₂' (by decide) (by decide) rfl rfl) ?_
 refine RS (ok_call (Check_fn b) (Args.cons rfl (by first | exact Le.refl _ | exact Le.old _ _ | exact arr_any | exact arr_ex | exact arrD_any | exact op_any | exact (Le.old _ _).trans arrD_any | exact (Le.old _ _).trans arr_any) Args.nil)) ?_; refine RZ (.int .i64 0) (by rw [h']) ?_
 refine RVN 1 rfl ?_
 refine GT ?_
 refine RV 2 rfl ?_
 refine RF ?_
 refine RN ?_
 refine A.no rfl ?_
 refine QK ?_
 refine QS ?_
 refine GT ?_
 refine RS (ok_field field30_0 (by decide) rfl) ?_
 refine RLV 1000002 Try.underlying28 rfl rfl rfl ?_
 refine RS (ok_lenV Try.underlying28 rfl) ?_
 refine RS (ok_field field30_0 (by decide) rfl) ?_
 refine RLV 1000003 Try.underlying28 rfl rfl rfl ?_
 refine RS (ok_lenV Try.underlying28 rfl) ?_
 refine RB rfl rfl rfl ?_
 refine RF ?_
 refine RN ?_
 refine A.no rfl ?_
 refine QK ?_
 refine GV rfl ?_
 refine QS ?_
 refine GT ?_
 refine RS (ok_field field30_0 (by decide) rfl) ?_
 refine RLV 1000002 Try.underlying28 rfl rfl rfl ?_
 refine RS (ok_lenV Try.underlying28 rfl) ?_
 refine RVN 1 rfl ?_
 refine A.sub (Sv [3, 8, 29, 30, 31, 1000002, 1000003, 1000201, 1000202, 1000204, 1000205] rfl) ?_
 refine A.block ?_
 refine A.subL (SubL.cons (t := 3) rfl (Le.refl _) (SubL.cons (t := 29) rfl (Le.refl _) (SubL.cons (t := 30) rfl (Le.refl _) (SubL.cons (t := 31) rfl (Le.refl _) (SubL.cons (t := 8) rfl (own_nil (B := w₀.heap.size) (e := 3)) (SubL.cons (t := 1000002) rfl (Le.refl _) (SubL.cons (t := 1000003) rfl (Le.refl _) (SubL.cons (t := 1000201) rfl (Le.refl _) (SubL.cons (t := 1000204) rfl (Le.refl _) SubL.nil))))))))) ?_
 refine A.loop (ι := Nat) (fun i => i ≤ a.now.length) (fun i => [(3, .v (ptr b3)), (29, .v (.slice A₁ a.now.length q₁)), (30, .v (nI (a.now.length))), (31, .v (nI (i))), (8, own w₀.heap.size 3 (difP a.now b.now i).length ((difP a.now b.now i).map (fun k : Nat => nI k))), (1000002, blk b2 30 [.slice A₁ a.now.length q₁, .slice A₂ a.dur.length q₂]), (1000003, blk b3 30 [.slice A₁' b.now.length q₁', .slice A₂' b.dur.length q₂']), (1000201, old w₀.heap.size (memR A₁ (bksV a.now))), (1000204, old w₀.heap.size (memR A₁' (bksV b.now)))]) (fun i => a.now.length - i) 0 ?_ ?_ ?_
 ·exact Nat.zero_le _
 ·exact (KC 3 rfl (KC 29 rfl (KC 30 rfl (KE 31 rfl (by rfl) (KC 8 rfl (KC 1000002 rfl (KC 1000003 rfl (KC 1000201 rfl (KC 1000204 rfl KN)))))))))
 intro i hG
 refine GV rfl ?_
 refine QS ?_
 refine A.cond rfl (fun hc32 => ?_) (fun hc32 => ?_)
 ·have hlt : i < a.now.length := by simp at hc32; omega
  refine QK ?_
  refine QSB ?_
  refine GS ?_
  refine TN 3 ?_
  refine RM rfl ?_
  refine RS ((ok_indexR (s := 1000201) i Try.underlying28 infoB rfl rfl (by decide) rfl (by omega) (by rw [bks_len]; omega))) ?_
  refine RS (ok_loadElemT 32 Try.underlying41 rfl size41 (by rw [bks_at (by omega), bk_len]; exact Nat.le_refl _) rfl) ?_; refine RZ (aggV (bkV (bkAt a.now i))) (congrArg aggV (by rw [bks_at (by omega)]; exact List.take_of_length_le (Nat.le_of_eq (bk_len _)))) ?_
  refine RN ?_
  refine ZN 1000010 zero41 fun b10 ⟨hBb10, hb10⟩ => ?_
  refine TF 5 ?_
  refine RVN 1 rfl ?_
  refine ⟨_, eff_storeA (n := 50) (s := 1000010) (size41.of (bk_len _)) rfl rfl (bk_one _) hBb10 rfl (by simp only [bk_len]) (LeftS.cons (t := 8) rfl (Surv.own (by decide)) (LT 1000002 rfl (LT 1000003 rfl (LO 1000201 rfl (LO 1000204 rfl (LW [3, 9, 10, 29, 30, 31] rfl)))))), ?_⟩
  refine TL ?_
  refine RN ?_
  refine GTD ?_
  refine RS (ok_loadA (s := 1000010) (by decide) Try.underlying41 rfl (size41.of (bk_len _)) rfl rfl) ?_
  refine RS (ok_field field30_0 (by decide) rfl) ?_
  refine RLV 1000003 Try.underlying28 rfl rfl rfl ?_
  refine RM rfl ?_
  refine RS ((ok_indexR (s := 1000204) i Try.underlying28 infoB rfl rfl (by decide) rfl (by omega) (by rw [bks_len]; omega))) ?_
  refine RS (ok_loadElemT 32 Try.underlying41 rfl size41 (by rw [bks_at (by omega), bk_len]; exact Nat.le_refl _) rfl) ?_; refine RZ (aggV (bkV (bkAt b.now i))) (congrArg aggV (by rw [bks_at (by omega)]; exact List.take_of_length_le (Nat.le_of_eq (bk_len _)))) ?_
  refine RS (ok_neqT (n := 4) (decide (bkAt a.now i = bkAt b.now i)) flat41 (by decide) (by kernel_rfl) (by kernel_rfl) rfl rfl (kinBk _) (kinBk _) (by rw [decide_eq_true_iff]; exact ⟨fun h => congrArg bkV h, bk_inj⟩)) ?_
  refine RN ?_
  refine A.cond rfl (fun hc42 => ?_) (fun hc42 => ?_)
  ·have hnq : bkAt a.now i ≠ bkAt b.now i := by simpa using hc42
   refine GE ?_
   refine TF 3 ?_
   refine RV 2 rfl ?_
   refine RS (ok_build [.v (nI i)] Try.underlying63 info3 rfl (by decide) (by decide) rfl ⟨rfl, rfl, trivial⟩ (fun d hd w x h => by simp only [List.mem_cons, List.not_mem_nil, or_false] at hd; subst hd; exact v_one rfl h)) ?_
   refine RN ?_
   refine ⟨_, eff_appendS (vs := [nI i]) Try.underlying63 info3 (by decide) rfl rfl rfl (le_lst _ _) (by simp [Value.oneCell', nI]) (by have := dif_le (x := a.now) (y := b.now) (i := i); simp; omega) (by decide) (fun g hg => (LT 1000002 rfl (LT 1000003 rfl (LT 1000010 rfl (LO 1000201 rfl (LO 1000204 rfl (LW [3, 29, 30, 31] rfl))))))), ?_⟩
   refine TL ?_
   refine RVN 1 rfl ?_
   refine End.normal_block ?_
   refine EN ?_
   refine GTE ?_
   refine RB rfl rfl rfl ?_
   refine RZ (nI (i + 1)) (wrap_eq (by omega) (by omega)) ?_
   refine RVN 1 rfl ?_
   refine End.normal_then ?_
   refine End.again (i + 1) ?_ ?_ ?_
   ·show _ ≤ _; omega
   ·show _ - _ < _ - _; omega
   ·exact (KC 3 rfl (KC 29 rfl (KC 30 rfl (KC 31 rfl (KE 8 rfl (by first | rw [dif_no heq] | (rw [dif_yes hnq]; simp)) (KC 1000002 rfl (KC 1000003 rfl (KC 1000201 rfl (KC 1000204 rfl KN)))))))))
  ·have heq : bkAt a.now i = bkAt b.now i := by simpa using hc42
   refine A.skip ?_
   refine End.normal_block ?_
   refine EN ?_
   refine GTE ?_
   refine RB rfl rfl rfl ?_
   refine RZ (nI (i + 1)) (wrap_eq (by omega) (by omega)) ?_
   refine RVN 1 rfl ?_
   refine End.normal_then ?_
   refine End.again (i + 1) ?_ ?_ ?_
   ·show _ ≤ _; omega
   ·show _ - _ < _ - _; omega
   ·exact (KC 3 rfl (KC 29 rfl (KC 30 rfl (KC 31 rfl (KE 8 rfl (by first | rw [dif_no heq] | (rw [dif_yes hnq]; simp)) (KC 1000002 rfl (KC 1000003 rfl (KC 1000201 rfl (KC 1000204 rfl KN)))))))))
 ·have hge : i = a.now.length := by simp at hc32; omega
  refine A.exit ?_
  refine End.exit_then ?_
  refine End.exit_then ?_
  refine End.exit_here ?_
  refine EN ?_
  refine GT ?_
  refine RM rfl ?_
  refine RS (ok_call (Clip_fn _ _) (Args.cons rfl own_rowG Args.nil)) ?_
  refine RVN 2 rfl ?_
  refine A.ret ?_
  subst hge
  exact End.ret2 rfl rfl (Le.refl _) rfl (Le.refl _)
end Go.Proofs.Ytggijkmlmklneaa
