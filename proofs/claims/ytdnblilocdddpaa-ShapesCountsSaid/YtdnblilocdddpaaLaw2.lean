/-
  From contracts by facts to the walks that given statements ask for: tables that are listed; parameters that are arrays of numbers, slices of bytes, slices of such slices.
-/
import Derived.Test.YtdnblilocdddpaaLaw
import Derived.Test.YtdnblilocdddpaaOps4
import Derived.Test.YtdnblilocdddpaaSha
import Derived.OpenShut
import Derived.ChangeSlices
namespace Go.Proofs.Ytdnblilocdddpaa
open Go Go.RowKit Go.ChangeShapes Go.WideShapes

theorem FnM.law {P : Program} {f : FuncId} {M : Env} {ds : List D} (h : FnM P f M ds (.v (.bool true))) (vs : List Value) (w : World) (hM : ∀ p ∈ M, p.2.Of w undef) (hl : vs.length = ds.length) (hv : ∀ (j : Nat) (e : D) (u : Value), ds[j]? = some e → vs[j]? = some u → e.Of w u) :
    Calls P f vs.toArray w fun e w' => e = .returned (.bool true) ∧ Below w.heap.size w w' :=
  (h.calls vs w hM hl hv).mono fun e w' ⟨x, he, g, hx⟩ => ⟨by have hx : x = .bool true := hx; rw [he, hx], g⟩

section
variable {H : Type} {enc : TypeId × Value → H} {P : Program} {w : World} {base : Nat} {spare : Nat → Bool} {held : Bool}
/-- An array of numbers, read. -/
theorem trod_ints {T e : TypeId} {k : IntKind} {n fuel : Nat} {cs : List Value} {x : DataW H × List MemPlace} (ht : P.underlying T = some (.array n e)) (he : P.underlying e = some (.int k)) (hc : P.cellsOf e = 1) (hT : P.cellsOf T = n)
    (h : DataW.trod enc P w base spare held fuel T cs = some x) : ∃ ns : List Int, ns.length = n ∧ cs = ns.map (fun m => .int k m) ∧ x.1 = .agg (ns.map fun m => .lit (.int k m)) ∧ ∀ m ∈ ns, (Lit.int k m).wf = true := by
  obtain ⟨xs, m, _, rfl, hlen, hxl, hel⟩ := DataW.trod_array ht h
  have each : ∀ i, i < n → ∃ a : Int, cs[i]? = some (.int k a) ∧ xs[i]? = some (.lit (.int k a), []) ∧ (Lit.int k a).wf = true := fun i hi => by
    have hi' : i < cs.length := by omega
    have h1 := hel i hi
    rw [List.getElem?_eq_getElem (by omega), hc, Nat.mul_one] at h1
    obtain ⟨a, h2, h3, h4⟩ := DataW.trod_int he h1
    have h5 : (cs.drop i).take 1 = [cs[i]] := by
      rw [List.drop_eq_getElem_cons hi']; rfl
    rw [h5] at h2
    injection h2 with h2
    exact ⟨a, by rw [List.getElem?_eq_getElem hi', h2], by rw [List.getElem?_eq_getElem (by omega), h3], h4⟩
  refine ⟨xs.map numOf, by simp [hxl], ?_, ?_, fun a ha => ?_⟩
  · apply List.ext_getElem?
    intro i
    rcases Nat.lt_or_ge i n with hi | hi
    · obtain ⟨a, h1, h2, _⟩ := each i hi
      simp [h1, h2, numOf]
    · rw [List.getElem?_eq_none (by omega), List.getElem?_eq_none (by simp; omega)]
  · show DataW.agg _ = DataW.agg _
    congr 1
    apply List.ext_getElem?
    intro i
    rcases Nat.lt_or_ge i n with hi | hi
    · obtain ⟨a, h1, h2, _⟩ := each i hi
      simp [h2, numOf]
    · rw [List.getElem?_eq_none (by simp; omega), List.getElem?_eq_none (by simp; omega)]
  · obtain ⟨j, hj⟩ := List.mem_iff_getElem?.1 ha
    have hjn : j < n := by have := (List.getElem?_eq_some_iff.1 hj).1; simp at this; omega
    obtain ⟨b, _, h2, h3⟩ := each j hjn
    simp [h2, numOf] at hj
    exact hj ▸ h3
/-- A slice of bytes, read. -/
theorem trod_byt {t e : TypeId} {fuel : Nat} {cs : List Value} {x : DataW H × List MemPlace} (ht : P.underlying t = some (.slice e)) (he : P.underlying e = some (.int .u8)) (hc : P.cellsOf e = 1) (hsp : ∀ b, spare b = true)
    (h : DataW.trod enc P w base spare held fuel t cs = some x) : ∃ v l, cs = [v] ∧ (byt l).Of w v := by
  rcases open_ints ht he hc h with ⟨rfl, _⟩ | ⟨a, len, cap, zs, rfl, _, hl, hm, hz, _, hcell, hwf⟩
  · obtain ⟨l, _, h1⟩ := byt_of_cells (w := w) (a := none) (len := 0) (cap := 0) (zs := []) (.inl ⟨rfl, rfl, rfl, rfl⟩)
    exact ⟨_, l, rfl, h1⟩
  · obtain ⟨l, _, h1⟩ := byt_of_cells (w := w) (a := some a) (len := len) (cap := cap) (zs := zs) (.inr ⟨a, rfl, hl, hm, by rw [hz, hsp, if_pos rfl], hcell, hwf⟩)
    exact ⟨_, l, rfl, h1⟩
/-- A slice of slices of bytes, read. -/
theorem trod_byts {t e b : TypeId} {fuel : Nat} {cs : List Value} {x : DataW H × List MemPlace} (ht : P.underlying t = some (.slice e)) (he : P.underlying e = some (.slice b)) (hb : P.underlying b = some (.int .u8)) (hc : P.cellsOf b = 1) (hce : P.cellsOf e = 1) (hsp : ∀ b, spare b = true)
    (h : DataW.trod enc P w base spare held fuel t cs = some x) : ∃ (v : Value) (ll : List (List UInt8)), cs = [v] ∧ (lst (ll.map byt)).Of w v := by
  rcases DataW.trod_slice ht h with ⟨rfl, _⟩ | ⟨a, len, cap, elems, rest, n, _, rfl, _, hba, hl, hm, hlen, hel, _, _⟩
  · exact ⟨_, [], rfl, lst_nil_le.of (w := w) (x := .slice none 0 0) rfl⟩
  · have each : ∀ i, ∃ p : Value × List UInt8, i < len → w.cell? (a.add i) = some p.1 ∧ (byt p.2).Of w p.1 := fun i => by
      by_cases hi : i < len
      · have h1 := hel i hi
        rw [List.getElem?_eq_getElem (by omega), hce, Nat.mul_one, Option.bind_eq_some_iff] at h1
        obtain ⟨cs', h2, h3⟩ := h1
        obtain ⟨v, l, rfl, h4⟩ := trod_byt he hb hc hsp h3
        exact ⟨(v, l), fun _ => ⟨cell_of_cells?_one h2, h4⟩⟩
      · exact ⟨(undef, []), fun h => absurd h hi⟩
    obtain ⟨f, hf⟩ := Classical.axiomOfChoice each
    refine ⟨_, (List.range len).map fun i => (f i).2, rfl, cap, some a, (List.range len).map fun i => (f i).1, by simp, by simpa using hl, hm, by simp, fun j u hu => ?_, fun j d u hd hu => ?_⟩
    · rw [List.getElem?_map] at hu
      rcases Nat.lt_or_ge j len with hj | hj
      · simp only [List.getElem?_range hj, Option.map_some, Option.some.injEq] at hu
        obtain ⟨h1, _⟩ := hf j hj
        rw [hu] at h1
        have hlt := block_of_cell h1
        rw [block_of_add] at hlt
        exact ⟨a, rfl, hlt, h1⟩
      · rw [List.getElem?_eq_none (by simpa using hj)] at hu; cases hu
    · rw [List.getElem?_map] at hu
      rcases Nat.lt_or_ge j len with hj | hj
      · simp only [List.getElem?_range hj, Option.map_some, Option.some.injEq] at hu
        simp only [List.getElem?_map, List.getElem?_range hj, Option.map_some, Option.some.injEq] at hd
        subst hu; subst hd
        exact (hf j hj).2
      · rw [List.getElem?_eq_none (by simpa using hj)] at hu; cases hu

theorem okWide_arr' {r : Reach} {b0 n : Nat} {t e : TypeId} {v : Value} (ht : P.underlying t = some (.array n e)) (h : Value.okWide P w r b0 t v) : ∃ cs, v = .agg cs := by
  unfold Value.okWide at h
  rw [ht] at h
  obtain ⟨cs, h, _⟩ := h
  exact ⟨cs, h⟩
/-- Parameters. -/
theorem arg_byt {t e : TypeId} {v : Value} {d : DataW H} {ps : List MemPlace} (ht : P.underlying t = some (.slice e)) (he : P.underlying e = some (.int .u8)) (hc : P.cellsOf e = 1) {r : Reach} {b0 : Nat} (hk : Value.okWide P w r b0 t v)
    (h : DataW.Trod enc P w base (fun _ => true) held t v d ps) : ∃ l, (byt l).Of w v := by
  obtain ⟨a, len, cap, rfl⟩ := okWide_slice ht hk
  obtain ⟨fuel, hf⟩ := h
  obtain ⟨v, l, h1, h2⟩ := trod_byt ht he hc (fun _ => rfl) hf
  simp only [Value.cells, List.cons.injEq] at h1
  exact ⟨l, h1.1 ▸ h2⟩
theorem arg_byts {t e b : TypeId} {v : Value} {d : DataW H} {ps : List MemPlace} (ht : P.underlying t = some (.slice e)) (he : P.underlying e = some (.slice b)) (hb : P.underlying b = some (.int .u8)) (hc : P.cellsOf b = 1) (hce : P.cellsOf e = 1) {r : Reach} {b0 : Nat} (hk : Value.okWide P w r b0 t v)
    (h : DataW.Trod enc P w base (fun _ => true) held t v d ps) : ∃ ll : List (List UInt8), (lst (ll.map byt)).Of w v := by
  obtain ⟨a, len, cap, rfl⟩ := okWide_slice ht hk
  obtain ⟨fuel, hf⟩ := h
  obtain ⟨v, l, h1, h2⟩ := trod_byts ht he hb hc hce (fun _ => rfl) hf
  simp only [Value.cells, List.cons.injEq] at h1
  exact ⟨l, h1.1 ▸ h2⟩
theorem wf_u8 {m : Int} (h : (Lit.int .u8 m).wf = true) : Value.int .u8 m = byteV (UInt8.ofNat m.toNat) := by
  simp [Lit.wf, IntKind.min, IntKind.max, IntKind.signed, IntKind.bits] at h
  unfold byteV
  congr 1
  simp
  omega
theorem wf_u32 {m : Int} (h : (Lit.int .u32 m).wf = true) : Value.int .u32 m = u32V (UInt32.ofNat m.toNat) := by
  simp [Lit.wf, IntKind.min, IntKind.max, IntKind.signed, IntKind.bits] at h
  rw [u32V_of (by omega)]
  congr 1
  omega
theorem arg_bytes {t e : TypeId} {n : Nat} {v : Value} {d : DataW H} {ps : List MemPlace} (ht : P.underlying t = some (.array n e)) (he : P.underlying e = some (.int .u8)) (hc : P.cellsOf e = 1) (hT : P.cellsOf t = n) {r : Reach} {b0 : Nat} (hk : Value.okWide P w r b0 t v)
    (h : DataW.Trod enc P w base (fun _ => true) held t v d ps) : ∃ l : List UInt8, l.length = n ∧ v = aggV (l.map byteV) := by
  obtain ⟨cs, rfl⟩ := okWide_arr' ht hk
  obtain ⟨fuel, hf⟩ := h
  obtain ⟨ns, h1, h2, _, h4⟩ := trod_ints ht he hc hT hf
  refine ⟨ns.map fun m => UInt8.ofNat m.toNat, by simp [h1], ?_⟩
  have h2 : cs.toList = _ := h2
  rw [aggV, List.map_map]
  congr 1
  apply Array.ext'
  rw [h2]
  exact List.map_congr_left fun m hm => wf_u8 (h4 m hm)
theorem arg_words {t e : TypeId} {n : Nat} {v : Value} {d : DataW H} {ps : List MemPlace} (ht : P.underlying t = some (.array n e)) (he : P.underlying e = some (.int .u32)) (hc : P.cellsOf e = 1) (hT : P.cellsOf t = n) {r : Reach} {b0 : Nat} (hk : Value.okWide P w r b0 t v)
    (h : DataW.Trod enc P w base (fun _ => true) held t v d ps) : ∃ l : List UInt32, l.length = n ∧ v = aggV (l.map u32V) := by
  obtain ⟨cs, rfl⟩ := okWide_arr' ht hk
  obtain ⟨fuel, hf⟩ := h
  obtain ⟨ns, h1, h2, _, h4⟩ := trod_ints ht he hc hT hf
  refine ⟨ns.map fun m => UInt32.ofNat m.toNat, by simp [h1], ?_⟩
  have h2 : cs.toList = _ := h2
  rw [aggV, List.map_map]
  congr 1
  apply Array.ext'
  rw [h2]
  exact List.map_congr_left fun m hm => wf_u32 (h4 m hm)
theorem arg_u8 {t : TypeId} {v : Value} {d : DataW H} {ps : List MemPlace} (ht : P.underlying t = some (.int .u8)) {r : Reach} {b0 : Nat} (hk : Value.okWide P w r b0 t v)
    (h : DataW.Trod enc P w base (fun _ => true) held t v d ps) : ∃ b : UInt8, v = byteV b := by
  obtain ⟨n, rfl⟩ := okWide_int ht hk
  obtain ⟨fuel, hf⟩ := h
  obtain ⟨a, h1, _, h3⟩ := DataW.trod_int ht hf
  simp only [Value.cells, List.cons.injEq, Value.int.injEq, true_and, and_true] at h1
  subst h1
  exact ⟨_, wf_u8 h3⟩
theorem arg_i64 {t : TypeId} {v : Value} (ht : P.underlying t = some (.int .i64)) {r : Reach} {b0 : Nat} (hk : Value.okWide P w r b0 t v) : ∃ n : Int, v = .int .i64 n := by
  obtain ⟨n, rfl⟩ := okWide_int ht hk
  exact ⟨n, rfl⟩
/-- A struct of an array of bytes and one byte behind it. -/
theorem arg_rec {t e : TypeId} {n : Nat} {fs : Array Field} {f0 f1 : Field} {v : Value} {d : DataW H} {ps : List MemPlace} (ht : P.underlying t = some (.struct fs)) (h0 : fs[0]? = some f0) (h1 : fs[1]? = some f1) (o0 : f0.offset = 0) (o1 : f1.offset = n)
    (ta : P.underlying f0.type = some (.array n e)) (he : P.underlying e = some (.int .u8)) (hc : P.cellsOf e = 1) (hT : P.cellsOf f0.type = n) (tb : P.underlying f1.type = some (.int .u8)) (hb : P.cellsOf f1.type = 1) (hC : P.cellsOf t = n + 1) {r : Reach} {b0 : Nat} (hk : Value.okWide P w r b0 t v)
    (h : DataW.Trod enc P w base (fun _ => true) held t v d ps) : ∃ (l : List UInt8) (c : UInt8), l.length = n ∧ v = aggV (l.map byteV ++ [byteV c]) := by
  obtain ⟨cs, rfl, hcs⟩ := okWide_struct ht hk
  obtain ⟨fuel, hf⟩ := h
  obtain ⟨xs, m, _, _, hlen, hxl, hel⟩ := DataW.trod_struct ht hf
  have hn0 : 0 < fs.size := (Array.getElem?_eq_some_iff.1 h0).1
  have hn1 : 1 < fs.size := (Array.getElem?_eq_some_iff.1 h1).1
  have e0 := hel 0 f0 h0
  have e1 := hel 1 f1 h1
  rw [List.getElem?_eq_getElem (by omega)] at e0 e1
  rw [o0, List.drop_zero, hT] at e0
  rw [o1, hb] at e1
  obtain ⟨ns, a1, a2, _, a4⟩ := trod_ints ta he hc hT e0
  obtain ⟨c, b1, _, b3⟩ := DataW.trod_int tb e1
  have hlen' : cs.toList.length = n + 1 := by rw [← hC]; exact hlen
  refine ⟨ns.map fun m => UInt8.ofNat m.toNat, UInt8.ofNat c.toNat, by simp [a1], ?_⟩
  rw [aggV, List.map_map]
  congr 1
  apply Array.ext'
  have hsplit : cs.toList = cs.toList.take n ++ (cs.toList.drop n).take 1 := by
    rw [List.take_of_length_le (l := cs.toList.drop n) (by rw [List.length_drop, hlen']; omega), List.take_append_drop]
  have a2' : cs.toList.take n = _ := a2
  have b1' : (cs.toList.drop n).take 1 = _ := b1
  rw [hsplit, a2', b1', ← wf_u8 b3]
  simp only [List.append_cancel_right_eq]
  exact List.map_congr_left fun m hm => wf_u8 (a4 m hm)
theorem words8 {l : List UInt32} (h : l.length = 8) : ∃ s : R8, l = s.list := by
  match l, h with
  | [a, b, c, d, e, f, g, i], _ => exact ⟨⟨a, b, c, d, e, f, g, i⟩, rfl⟩
end

/-! ### Listed tables -/
theorem mem_row {g n : Nat} (h : 0 < n) : MemPlace.cell g 0 ∈ MemPlace.row ⟨g, 0, none⟩ n := by
  cases n with
  | zero => omega
  | succ n => simp [MemPlace.row, List.range_succ_eq_map]
theorem tab_of_laid {P : Program} {w : World} : ∀ {l : List (String × DataW Unit)} {ps : List MemPlace}, DataW.LaidVars P w l ps → (∀ b off, MemPlace.cell b off ∈ ps → ∃ c t, w.heap[b]? = some (.cells c t (0, 0))) →
    ∀ {nm : String} {d : DataW Unit}, (nm, d) ∈ l → ∀ {g : Nat} {T e : TypeId} {k : IntKind} {n : Nat} {ns : List Int}, P.globalNamed nm = some g → (P.globals[g]?).map (·.type) = some T → P.underlying T = some (.array n e) → P.underlying e = some (.int k) → P.cellsOf e = 1 → P.cellsOf T = n → 0 < n →
      d = .agg (ns.map fun m => .lit (.int k m)) → (tab g (ns.map fun m => .int k m)).Of w undef
  | [], _, _, _, _, _, hm, _, _, _, _, _, _, _, _, _, _, _, _, _, _ => by cases hm
  | (n', d') :: r, ps, hl, hr, nm, d, hm, g, T, e, k, n, ns, hg, hT, ht, he, hc, hcT, hpos, hd => by
    obtain ⟨g', t', cs, fuel, p, q, h1, h2, h3, h4, h5, rfl⟩ := hl
    rcases List.mem_cons.1 hm with hm | hm
    · injection hm with hn hdd
      subst hn; subst hdd
      obtain rfl := Option.some.inj (hg.symm.trans h1)
      obtain rfl := Option.some.inj (hT.symm.trans h2)
      obtain ⟨ns', g1, g2, g3, _⟩ := trod_ints ht he hc hcT h4
      have hns : ns' = ns := by
        simp only [hd, DataW.agg.injEq] at g3
        have hinj : ∀ a b : List Int, (a.map fun m => (DataW.lit (.int k m) : DataW Unit)) = b.map (fun m => .lit (.int k m)) → a = b := by
          intro a
          induction a with
          | nil => intro b h; cases b with
            | nil => rfl
            | cons _ _ => cases h
          | cons x a ih => intro b h; cases b with
            | nil => cases h
            | cons y b =>
              simp only [List.map_cons, List.cons.injEq, DataW.lit.injEq, Lit.int.injEq, true_and] at h
              rw [h.1, ih b h.2]
        exact (hinj _ _ g3).symm
      subst hns
      have hsz : cs.size = n := by
        have := congrArg List.length g2
        simp at this; omega
      obtain ⟨c, t, hh⟩ := hr g 0 (List.mem_append_left _ (List.mem_append_left _ (mem_row (by omega))))
      unfold World.var? at h3
      rw [h1, Option.bind_some, hh] at h3
      simp only [Option.some.injEq] at h3
      subst h3
      have hlt : g < w.heap.size := (Array.getElem?_eq_some_iff.1 hh).1
      refine ⟨hlt, t, ?_⟩
      rw [hh, ← g2]
    · exact tab_of_laid h5 (fun b off h => hr b off (List.mem_append_right _ h)) hm hg hT ht he hc hcT hpos hd
end Go.Proofs.Ytdnblilocdddpaa
