/-
 The laws of caissonlaw08, part five: NoncesOnce. What stays true: every nonce that was given out is below its shard's counter.
-/
import Derived.Test.YtmedljdbamnoiaaShort
import Derived.Test.YtmedljdbamnoiaaC08d
import Derived.Test.YtmedljdbamnoiaaPair
import Derived.Test.YtmedljdbamnoiaaLate
namespace Go.Proofs.Ytmedljdbamnoiaa
open Go Go.RowKit
set_option linter.unusedVariables false
theorem infoN : InfoP Try.prog 25 (.agg #[.int .u32 0, .int .u64 0]) 2 16 := by unfold InfoP; kernel_rfl
theorem byteD_getD {l : List UInt8} {i : Nat} (h : i < l.length) : (l.map byteD)[i]? = some (byteD (l.getD i 0)) := by
 rw [List.getElem?_map, List.getElem?_eq_getElem h, List.getD_eq_getElem?_getD, List.getElem?_eq_getElem h]; rfl
def nvP (p : Nat × Nat) : List Value := [nW (p.1), nQ (p.2)]
/-- The nonces that were given out, as cells. -/
def cellsN (gv : List (Nat × Nat)) : List Value := gv.flatMap nvP
theorem cellsN_snoc (gv : List (Nat × Nat)) (p : Nat × Nat) : cellsN (gv ++ [p]) = cellsN gv ++ nvP p := by simp [cellsN]
theorem cellsN_get : ∀ {gv : List (Nat × Nat)} {k : Nat}, k < gv.length → ((cellsN gv).drop (k * 2)).take 2 = nvP (gv.getD k (0, 0))
 | [], k, h => by simp at h
 | p :: gv, 0, _ => by simp [cellsN, nvP]
 | p :: gv, k + 1, h => by
  have ih := cellsN_get (gv := gv) (k := k) (by simpa using h)
  rw [show (k + 1) * 2 = k * 2 + 2 from by omega]
  simpa [cellsN, nvP] using ih
theorem Crash_own (cs : List Nat) (m l r : Nat) (hV : Valid cs m l r) : Fn Try.prog 20 [hdD (vlst (rowQ cs)) (alR m l r)] (tup [hdD (own 0 23 (List.replicate cs.length m).length (rowQ (List.replicate cs.length m))) (alR m l r), .v (.int .i64 0)]) := by
 have h8 : cs.length ≤ 8 := hV.2.1
 exact (Crash_ok cs m l r hV).fn fun B => new_own2 (by rw [rowQ_length, List.length_replicate]) (by rw [rowQ_length]) (by simp only [maxLen]; omega)
theorem Extend_any2 (cs : List Nat) (m l r : Nat) (hV : Valid cs m l r) (hl : l < 18446744073709551616) : ∃ (C : List Nat) (M L R : Nat) (e : Int), Fn Try.prog 19 [hdD (vlst (rowQ cs)) (alR m l r)] (tup [hdD (own 0 23 C.length (rowQ C)) (alR M L R), .v (.int .i64 e)]) ∧
  ((e = 0 ∧ C = cs ∧ M = m + r ∧ l = L ∧ r = R ∧ m + r ≤ l) ∨ e = 8) := by
 have h8 : cs.length ≤ 8 := hV.2.1
 have hml : m ≤ l := hV.2.2.2.1
 rcases Nat.lt_or_ge (l - m) r with h | h
 ·exact ⟨[], 0, 0, 0, 8, (Extend_nonce cs m l r hV hl h).le (nil_own2 (rest := alR 0 0 0)), .inr rfl⟩
 ·exact ⟨cs, m + r, l, r, 0, (Extend_ok cs m l r hV hl h).fn fun B => new_own2 (by rw [rowQ_length]) (by rw [rowQ_length]) (by simp only [maxLen]; omega), .inl ⟨rfl, rfl, rfl, rfl, rfl, by omega⟩⟩
theorem Take_any (cs : List Nat) (m l r s : Nat) (h : s < cs.length) (hV : Valid cs m l r) (hm : m < 18446744073709551616) : ∃ (ns nc : Nat) (C : List Nat) (M L R : Nat) (e : Int), Fn Try.prog 17 [hdD (vlst (rowQ cs)) (alR m l r), .v (nI s)] (tup [.v (aggV [nW ns, nQ nc]), hdD (own 0 23 C.length (rowQ C)) (alR M L R), .v (.int .i64 e)]) ∧
  ((e = 0 ∧ s = ns ∧ cs.getD s 0 = nc ∧ cs.getD s 0 < m ∧ C = cs.set s (cs.getD s 0 + 1) ∧ m = M ∧ l = L ∧ r = R) ∨ e = 10) := by
 have h8 : cs.length ≤ 8 := hV.2.1
 rcases Nat.lt_or_eq_of_le (getD_le (i := s) hV.2.2.1) with hc | hc
 ·exact ⟨s, _, _, m, l, r, 0, (Take_ok cs m l r s h hV hc hm).fn fun B => new_own3 (by rw [rowQ_length, List.length_set]) (by rw [rowQ_length]) (by simp only [maxLen]; omega), .inl ⟨rfl, rfl, rfl, hc, rfl, rfl, rfl, rfl⟩⟩
 ·exact ⟨0, 0, [], 0, 0, 0, 10, (Take_state cs m l r s h hV hc).le (nil_own3 (rest := alR 0 0 0)), .inr rfl⟩
theorem valid_crash {cs : List Nat} {m l r : Nat} (h : Valid cs m l r) : Valid (List.replicate cs.length m) m l r := by
 obtain ⟨h1, h2, h3, h4⟩ := h
 exact ⟨by simpa using h1, by simpa using h2, fun c hc => by rw [List.eq_of_mem_replicate hc]; exact Nat.le_refl _, h4⟩
theorem valid_extend {cs : List Nat} {m l r : Nat} (h : Valid cs m l r) (hle : m + r ≤ l) : Valid cs (m + r) l r := by
 obtain ⟨h1, h2, h3, _, h5⟩ := h
 exact ⟨h1, h2, fun c hc => Nat.le_trans (h3 c hc) (Nat.le_add_right _ _), hle, h5⟩
theorem valid_take {cs : List Nat} {m l r s : Nat} (h : Valid cs m l r) (hc : cs.getD s 0 < m) : Valid (cs.set s (cs.getD s 0 + 1)) m l r := by
 obtain ⟨h1, h2, h3, h4⟩ := h
 refine ⟨by simpa using h1, by simpa using h2, fun c hm => ?_, h4⟩
 rcases List.mem_or_eq_of_mem_set hm with hm | rfl
 ·exact h3 c hm
 ·omega
theorem getD_big {cs : List Nat} {i : Nat} (h : cs.length ≤ i) : cs.getD i 0 = 0 := by rw [List.getD_eq_getElem?_getD, List.getElem?_eq_none h]; rfl
theorem crash_inv {cs : List Nat} {m l r : Nat} {gv : List (Nat × Nat)} (hV : Valid cs m l r) (h : ∀ p ∈ gv, p.2 < cs.getD p.1 0) : ∀ p ∈ gv, p.2 < (List.replicate cs.length m).getD p.1 0 := fun p hp => by
 have h1 := h p hp
 rcases Nat.lt_or_ge p.1 cs.length with hi | hi
 ·have h2 : cs.getD p.1 0 ≤ m := getD_le hV.2.2.1
  rw [List.getD_eq_getElem?_getD, List.getElem?_replicate, if_pos hi]
  exact Nat.lt_of_lt_of_le h1 h2
 ·rw [getD_big hi] at h1; omega
theorem take_inv {cs : List Nat} {s : Nat} {gv : List (Nat × Nat)} (hs : s < cs.length) (h : ∀ p ∈ gv, p.2 < cs.getD p.1 0) : ∀ p ∈ gv ++ [(s, cs.getD s 0)], p.2 < (cs.set s (cs.getD s 0 + 1)).getD p.1 0 := fun p hp => by
 have hset : ∀ i, (cs.set s (cs.getD s 0 + 1)).getD i 0 = if s = i then cs.getD s 0 + 1 else cs.getD i 0 := fun i => by
  rw [List.getD_eq_getElem?_getD, List.getElem?_set]
  by_cases hi : s = i
  ·rw [if_pos hi, if_pos hi, if_pos hs]; rfl
  ·rw [if_neg hi, if_neg hi, List.getD_eq_getElem?_getD]
 rw [hset]
 rcases List.mem_append.1 hp with hp | hp
 ·have h1 := h p hp
  split
  ·rename_i hi; rw [← hi] at h1; omega
  ·exact h1
 ·obtain rfl : p = (s, cs.getD s 0) := by simpa using hp
  rw [if_pos rfl]; exact Nat.lt_succ_self _
theorem given_ne {cs : List Nat} {gv : List (Nat × Nat)} {k s : Nat} (hk : k < gv.length) (h : ∀ p ∈ gv, p.2 < cs.getD p.1 0) : ¬ ((gv.getD k (0, 0)).1 = s ∧ (gv.getD k (0, 0)).2 = cs.getD s 0) := fun ⟨h1, h2⟩ => by
 have h3 : gv.getD k (0, 0) ∈ gv := by rw [List.getD_eq_getElem?_getD, List.getElem?_eq_getElem hk]; exact List.getElem_mem hk
 have := h _ h3
 rw [h1, h2] at this
 exact Nat.lt_irrefl _ this

theorem NO_long (us : List Nat) (M R O : Nat) (L : List UInt8) (h : 60 < L.length) : Fn Try.prog 6 [hdD (vlst (us.map sV)) [nB M, nB R, .int .u16 ((O : Nat) : Int)], byt L] (.v (.bool true)) := by
 refine Fn.of Try.func6 rfl (by kernel_rfl) Try.ntmps6 (by simp) (fun w => [(0, old w.heap.size (hdD (vlst (us.map sV)) [nB M, nB R, .int .u16 ((O : Nat) : Int)])), (1, old w.heap.size (byt L))]) (fun w => (Start.old rfl (Start.old rfl Start.nil))) fun w₀ => ?_
 refine A.nameHd (t := 0) (k := 1000200) rfl fun v hv => ?_
 refine GS ?_
 refine TN 0 ?_
 refine RN ?_
 refine ⟨_, _, eff_box (n := 118) (d := 2) (k := 1000002) rfl (by decide), fun b2 hb2 => ?_⟩
 have hBb2 := hb2.1
 refine TL ?_
 refine RA rfl ?_
 refine RN ?_
 refine A.seq ?_
 refine GS ?_
 refine TL ?_
 refine RM rfl ?_
 refine RS (ok_lenB Try.underlying26 rfl LA) ?_
 refine RBS rfl rfl rfl (.bool true) (by simp; omega) ?_
 refine RN ?_
 refine A.yes rfl ?_
 refine GS ?_
 refine TL ?_
 refine RS (ok_call lives8_fn Args.nil) ?_
 refine RA rfl ?_
 refine RN ?_
 refine A.ret ?_
 refine End.ret_then ?_
 exact End.ret1 rfl rfl (by first | exact Le.refl _ | exact Le.old _ _)
set_option maxHeartbeats 8000000 in
theorem NO_main (us cs : List Nat) (M R O m l r : Nat) (L : List UInt8) (h60 : L.length ≤ 60) (hOf : FnB Try.prog 21 [hdD (vlst (us.map sV)) [nB M, nB R, .int .u16 ((O : Nat) : Int)]] (fun B => hdD (own B 23 cs.length (rowQ cs)) (alR m l r))) (hV0 : Valid cs m l r) (hl64 : l < 18446744073709551616) : Fn Try.prog 6 [hdD (vlst (us.map sV)) [nB M, nB R, .int .u16 ((O : Nat) : Int)], byt L] (.v (.bool true)) := by
 refine Fn.of Try.func6 rfl (by kernel_rfl) Try.ntmps6 (by simp) (fun w => [(0, old w.heap.size (hdD (vlst (us.map sV)) [nB M, nB R, .int .u16 ((O : Nat) : Int)])), (1, old w.heap.size (byt L))]) (fun w => (Start.old rfl (Start.old rfl Start.nil))) fun w₀ => ?_
 refine A.nameHd (t := 0) (k := 1000200) rfl fun v hv => ?_
 refine GS ?_
 refine TN 0 ?_
 refine RN ?_
 refine ⟨_, _, eff_box (n := 118) (d := 2) (k := 1000002) rfl (by decide), fun b2 hb2 => ?_⟩
 have hBb2 := hb2.1
 refine TL ?_
 refine RA rfl ?_
 refine RN ?_
 refine A.seq ?_
 refine GS ?_
 refine TL ?_
 refine RM rfl ?_
 refine RS (ok_lenB Try.underlying26 rfl LA) ?_
 refine RBS rfl rfl rfl (.bool false) (by simp; omega) ?_
 refine RN ?_
 refine A.no rfl ?_
 refine A.skip ?_
 refine EN ?_
 refine GS ?_
 refine TN 2 ?_
 refine RS (OpOk.hdO (ok_loadA (s := 1000002) (by decide) Try.underlying51 rfl (size51.of (rfl)) rfl rfl) hv (k := 1000200) (by decide) rfl) ?_
 refine RS (ok_callB hOf own_mono2 (Args.cons rfl (Le.old _ _) Args.nil)) ?_
 refine RN ?_
 refine ⟨_, _, eff_alloc (n := 118) (d := 5) (k := 1000005) zero36 (by decide), fun b5 hb5 => ?_⟩
 have hBb5 := hb5.1
 refine TF 3 ?_
 refine RN ?_
 refine ⟨_, eff_storeH (n := 118) (s := 1000005) (size36.of rfl) rfl rfl rfl hBb5 rfl rfl (Surv.own (by decide)) (LO 1 rfl (LV 5 rfl (LT 1000002 rfl (LO 1000200 rfl LN)))), ?_⟩
 refine TL ?_
 refine RN ?_
 refine GS ?_
 refine TL ?_
 refine RA rfl ?_
 refine RN ?_
 refine A.seq ?_
 refine GS ?_
 refine TL ?_
 refine RA rfl ?_
 refine RN ?_
 refine A.block ?_
 refine A.subL (SubL.cons (t := 1) rfl (Le.refl _) (SubL.cons (t := 5) rfl (Le.refl _) (SubL.cons (t := 6) rfl (ownP_nil (B := w₀.heap.size) (sz := 2) (e := 25)) (SubL.cons (t := 7) rfl (Le.refl _) (SubL.cons (t := 1000005) rfl (varA_le (own_mono (Nat.zero_le _))) SubL.nil))))) ?_
 refine A.loop (ι := Nat × List Nat × Nat × List (Nat × Nat)) (fun s => s.1 ≤ L.length ∧ Valid s.2.1 s.2.2.1 l r ∧ (∀ p ∈ s.2.2.2, p.2 < s.2.1.getD p.1 0) ∧ s.2.2.2.length ≤ s.1) (fun s => [(1, old w₀.heap.size (byt L)), (5, .v (.pointer (some ⟨b5, 0, none⟩))), (6, ownP w₀.heap.size 25 2 s.2.2.2.length (cellsN s.2.2.2)), (7, .v (nI (s.1))), (1000005, varA b5 36 (own 0 23 s.2.1.length (rowQ s.2.1)) (alR s.2.2.1 l r))]) (fun s => L.length - s.1) (0, cs, m, []) ?_ ?_ ?_
 ·exact ⟨Nat.zero_le _, hV0, fun p hp => (by cases hp), Nat.le_refl _⟩
 ·exact (KC 1 rfl (KC 5 rfl (KC 6 rfl (KE 7 rfl (by rfl) (KC 1000005 rfl KN)))))
 intro s hs
 obtain ⟨hi1, hV, hG, hL⟩ := hs
 have h8 : s.2.1.length ≤ 8 := hV.2.1
 have h1l : 0 < s.2.1.length := hV.1
 have hml : s.2.2.1 ≤ l := hV.2.2.2.1
 refine A.seq ?_
 refine A.openA (k := 1000005) (k' := 1000208) rfl fun v5 hv5 => ?_
 refine A.dup (k := 1000208) (k' := 1000205) rfl (fun _ _ _ _ h => h) ?_
 refine GS ?_
 refine TL ?_
 refine RM rfl ?_
 refine RM rfl ?_
 refine RS (ok_lenB Try.underlying26 rfl LA) ?_
 refine RB rfl rfl rfl ?_
 refine RN ?_
 refine A.cond rfl (fun hc26 => ?_) (fun hc26 => ?_)
 ·have hlt : s.1 < L.length := by simp at hc26; omega
  obtain ⟨k, hk⟩ : ∃ k, k = (L.getD s.1 0).toNat := ⟨_, rfl⟩
  have hk8 : k < 256 := by rw [hk]; exact UInt8.toNat_lt _
  obtain ⟨q, hq⟩ : ∃ q, q = k / 16 % s.2.1.length := ⟨_, rfl⟩
  have hq1 : q < s.2.1.length := by rw [hq]; exact Nat.mod_lt _ h1l
  refine A.skip ?_
  refine EN ?_
  refine A.seq ?_
  refine A.block ?_
  refine GS ?_
  refine TN 1 ?_
  refine RS (ok_loadA (s := 1000005) (by decide) Try.underlying36 rfl (size36.of (rfl)) rfl rfl) ?_
  refine RN ?_
  refine ⟨_, _, eff_alloc (n := 118) (d := 8) (k := 1000008) zero36 (by decide), fun b8 hb8 => ?_⟩
  have hBb8 := hb8.1
  have hlt_b5_b8 : b5 < b8 := hb8.2 1000005 _ _ _ rfl
  refine TF 2 ?_
  refine RN ?_
  refine ⟨_, eff_storeA (n := 118) (s := 1000008) (size36.of (rfl)) rfl rfl (by rw [List.all_cons, hv5]; rfl) hBb8 rfl (rfl) (LO 1 rfl (LV 5 rfl (LeftS.cons (t := 6) rfl (Surv.ownP (by decide)) (LV 7 rfl (LV 8 rfl (LB 1000005 rfl (LeftS.cons (t := 1000205) rfl (Surv.valM (Surv.own (by decide))) (LeftS.cons (t := 1000208) rfl (Surv.valM (Surv.own (by decide))) LN)))))))), ?_⟩
  refine TL ?_
  refine RN ?_
  refine A.seq ?_
  refine GS ?_
  refine TL ?_
  refine RM rfl ?_
  refine RM rfl ?_
  refine RS (ok_index (d := byteD (L.getD s.1 0)) Try.underlying26 info5 rfl LA rfl (by omega) (by rw [Int.toNat_natCast, byteD_getD hlt])) ?_
  refine RS (ok_load Try.underlying5 rfl rfl) ?_; refine RZ (nB k) (by rw [hk]; rfl) ?_
  refine RS (ok_rem rfl rfl (by decide)) ?_; refine RZ (nB (k % 16)) (by rw [tmod_lit _ (by decide)]; rfl) ?_
  refine RN ?_
  refine A.block ?_
  refine GS ?_
  refine TL ?_
  refine RB rfl rfl rfl ?_
  refine RA rfl ?_
  refine RN ?_
  refine A.cond rfl (fun hc77 => ?_) (fun hc77 => ?_)
  ·have hcr := Crash_own s.2.1 s.2.2.1 l r hV
   have hVX := valid_crash hV
   have hlenX : (List.replicate s.2.1.length s.2.2.1).length = s.2.1.length := List.length_replicate
   obtain ⟨cs', hcs'⟩ : ∃ x, x = List.replicate s.2.1.length s.2.2.1 := ⟨_, rfl⟩
   obtain ⟨m', hm'⟩ : ∃ x, x = s.2.2.1 := ⟨_, rfl⟩
   obtain ⟨gv', hgv'⟩ : ∃ x, x = s.2.2.2 := ⟨_, rfl⟩
   have hV' : Valid cs' m' l r := by rw [hcs', hm']; exact hVX
   have hG' : ∀ p ∈ gv', p.2 < cs'.getD p.1 0 := by rw [hcs', hgv']; exact crash_inv hV hG
   have hL' : gv'.length ≤ s.1 + 1 := by rw [hgv']; omega
   refine GS ?_
   refine TN 5 ?_
   refine RS (OpOk.hdP (ok_loadA (s := 1000005) (by decide) Try.underlying36 rfl (size36.of (rfl)) rfl rfl) (by assumption) (k := 1000205) (by decide) rfl) ?_
   refine RS (ok_call hcr (Args.cons rfl (hd_le (own_vlst (rowQ_length _).symm)) Args.nil)) ?_
   refine RM rfl ?_
   refine RS (ok_extract rfl rfl) ?_
   refine RS (ok_extract rfl rfl) ?_
   refine RN ?_
   refine ⟨_, _, eff_alloc (n := 118) (d := 9) (k := 1000009) zero36 (by decide), fun b9 hb9 => ?_⟩
   have hBb9 := hb9.1
   have hlt_b5_b9 : b5 < b9 := hb9.2 1000005 _ _ _ rfl
   have hlt_b8_b9 : b8 < b9 := hb9.2 1000008 _ _ _ rfl
   refine TF 6 ?_
   refine RN ?_
   refine ⟨_, eff_storeH (n := 118) (s := 1000009) (size36.of rfl) rfl rfl rfl hBb9 rfl rfl (Surv.own (by decide)) (LO 1 rfl (LV 5 rfl (LeftS.cons (t := 6) rfl (Surv.ownP (by decide)) (LV 7 rfl (LV 8 rfl (LV 9 rfl (LV 83 rfl (LB 1000005 rfl (LB 1000008 rfl (LeftS.cons (t := 1000205) rfl (Surv.valM (Surv.own (by decide))) (LeftS.cons (t := 1000208) rfl (Surv.valM (Surv.own (by decide))) LN))))))))))), ?_⟩
   refine TL ?_
   refine RA rfl ?_
   refine RN ?_
   refine A.seq ?_
   refine GS ?_
   refine TL ?_
   refine RM rfl ?_
   refine RBS rfl rfl rfl (.bool false) (by rfl) ?_
   refine RN ?_
   refine A.no rfl ?_
   refine A.skip ?_
   refine EN ?_
   refine GE ?_
   refine TF 1 ?_
   refine RS (ok_loadH (s := 1000009) (by decide) Try.underlying36 rfl (size36.of rfl) rfl rfl) ?_
   refine RN ?_
   refine ⟨_, eff_storeH (n := 118) (s := 1000005) (size36.of rfl) rfl rfl rfl hBb5 rfl rfl (Surv.own (by decide)) (LO 1 rfl (LV 5 rfl (LeftS.cons (t := 6) rfl (Surv.ownP (by decide)) (LV 7 rfl (LV 8 rfl (LB 1000008 rfl (LeftS.cons (t := 1000009) rfl (Surv.varA (by omega) (Surv.own (by decide))) (LeftS.cons (t := 1000205) rfl (Surv.valM (Surv.own (by decide))) (LeftS.cons (t := 1000208) rfl (Surv.valM (Surv.own (by decide))) LN))))))))), ?_⟩
   refine TL ?_
   refine RN ?_
   refine End.sub (KC 1 rfl (KC 5 rfl (KC 6 rfl (KC 7 rfl (KC 8 rfl (KC 1000005 rfl (KC 1000008 rfl (KC 1000009 rfl (KC 1000205 rfl (KC 1000208 rfl KN)))))))))) ?_
   refine End.normal_block ?_
   refine EN ?_
   refine A.openA (k := 1000005) (k' := 1000205) rfl fun v6 hv6 => ?_
   refine GS ?_
   refine TL ?_
   refine RS (ok_field field36_1 (by decide) rfl) ?_
   refine RS (ok_loadV (s := 1000005) (by decide) Try.underlying23 rfl rfl rfl (rfl)) ?_
   refine RS (ok_field field36_1 (by decide) rfl) ?_
   refine RS (ok_loadV (s := 1000008) (by decide) Try.underlying23 rfl rfl rfl (rfl)) ?_
   refine RBS rfl rfl rfl (.bool false) (by first | (simp; done) | (simp; omega)) ?_
   refine RM rfl ?_
   refine RQ (ok_field field36_0 (by decide) rfl) ?_
   refine RQ (OpOk.valP (ok_loadV (s := 1000005) (by decide) Try.underlying34 rfl rfl rfl (rfl)) (k := 1000205) (by decide) rfl) ?_
   refine RQ (ok_lenU _ Try.underlying34 rfl (own_vlst (rowQ_length _).symm) (rowQ_length _)) ?_
   refine RQ (ok_field field36_0 (by decide) rfl) ?_
   refine RQ (OpOk.valP (ok_loadV (s := 1000008) (by decide) Try.underlying34 rfl rfl rfl (rfl)) (k := 1000208) (by decide) rfl) ?_
   refine RQ (ok_lenU _ Try.underlying34 rfl (own_vlst (rowQ_length _).symm) (rowQ_length _)) ?_
   refine RQ (ok_bin rfl rfl rfl) ?_; refine RZ (.bool false) (congrArg Value.bool (bne_eq_false_iff_eq.2 (by omega))) ?_
   refine RP rfl rfl ?_
   refine RM rfl ?_
   refine RQ (OpOk.hdP (ok_loadA (s := 1000005) (by decide) Try.underlying36 rfl (size36.of (rfl)) rfl rfl) (by assumption) (k := 1000205) (by decide) rfl) ?_
   refine RQ (ok_call (Check_ok _ _ _ _ hVX) (Args.cons rfl (hd_le (own_vlst (rowQ_length _).symm)) Args.nil)) ?_
   refine RQ (ok_bin rfl rfl rfl) ?_; refine RZ (.bool false) (by rfl) ?_
   refine RP rfl rfl ?_
   refine RN ?_
   refine A.no rfl ?_
   refine A.skip ?_
   refine End.normal_block ?_
   refine EN ?_
   refine A.closeA (k := 1000005) (k' := 1000205) (by assumption) rfl rfl ?_
   refine GE ?_
   refine TL ?_
   refine RM rfl ?_
   refine RBS rfl rfl rfl (nI (s.1 + 1)) (by rw [wrap_i64 (by omega) (by omega)]; exact congrArg (Value.int .i64) (by omega)) ?_
   refine RA rfl ?_
   refine RN ?_
   refine End.normal_then ?_
   refine End.again (s.1 + 1, cs', m', gv') ?_ ?_ ?_
   ·exact ⟨by show s.1 + 1 ≤ _; omega, hV', hG', hL'⟩
   ·show L.length - (s.1 + 1) < L.length - s.1; omega
   ·exact (KC 1 rfl (KC 5 rfl (KE 6 rfl (by rw [hgv']; first | done | rfl | (rw [cellsN_snoc, List.length_append]; rfl)) (KC 7 rfl (KE 1000005 rfl (by rw [hcs', hm']; try rfl) KN)))))
  ·obtain ⟨C1, M1, L1, R1, e1, hEx, hA1⟩ := Extend_any2 s.2.1 s.2.2.1 l r hV hl64
   obtain ⟨ns, nc, C, M', L', R', e, hTk, hAlt⟩ := Take_any s.2.1 s.2.2.1 l r q hq1 hV (by omega)
   refine A.seq ?_
   rcases Bool.eq_false_or_eq_true (decide (k % 16 = 1)) with hsp | hsp
   ·refine GS ?_
    refine TL ?_
    refine RBS rfl rfl rfl (.bool true) (congrArg Value.bool (beq_iff_eq.2 (by simp at hsp; omega))) ?_
    refine RA rfl ?_
    refine RN ?_
    refine A.yes rfl ?_
    refine A.skip ?_
    refine EN ?_
    refine A.yes rfl ?_
    refine GS ?_
    refine TN 5 ?_
    refine RS (OpOk.hdP (ok_loadA (s := 1000005) (by decide) Try.underlying36 rfl (size36.of (rfl)) rfl rfl) (by assumption) (k := 1000205) (by decide) rfl) ?_
    refine RS (ok_call hEx (Args.cons rfl (hd_le (own_vlst (rowQ_length _).symm)) Args.nil)) ?_
    refine RM rfl ?_
    refine RS (ok_extract rfl rfl) ?_
    refine RS (ok_extract rfl rfl) ?_
    refine RN ?_
    refine ⟨_, _, eff_alloc (n := 118) (d := 11) (k := 1000011) zero36 (by decide), fun b11 hb11 => ?_⟩
    have hBb11 := hb11.1
    have hlt_b5_b11 : b5 < b11 := hb11.2 1000005 _ _ _ rfl
    have hlt_b8_b11 : b8 < b11 := hb11.2 1000008 _ _ _ rfl
    refine TF 6 ?_
    refine RN ?_
    refine ⟨_, eff_storeH (n := 118) (s := 1000011) (size36.of rfl) rfl rfl rfl hBb11 rfl rfl (Surv.own (by decide)) (LO 1 rfl (LV 5 rfl (LeftS.cons (t := 6) rfl (Surv.ownP (by decide)) (LV 7 rfl (LV 8 rfl (LV 11 rfl (LV 94 rfl (LB 1000005 rfl (LB 1000008 rfl (LeftS.cons (t := 1000205) rfl (Surv.valM (Surv.own (by decide))) (LeftS.cons (t := 1000208) rfl (Surv.valM (Surv.own (by decide))) LN))))))))))), ?_⟩
    refine TL ?_
    refine RA rfl ?_
    refine RN ?_
    refine GS ?_
    refine TL ?_
    refine RM rfl ?_
    refine RB rfl rfl rfl ?_
    refine RN ?_
    refine A.sub (KC 1 rfl (KC 5 rfl (KC 6 rfl (KC 7 rfl (KC 8 rfl (KC 11 rfl (KC 96 rfl (KC 1000005 rfl (KC 1000008 rfl (KC 1000011 rfl (KC 1000205 rfl (KC 1000208 rfl KN)))))))))))) ?_
    refine A.cond rfl (fun hc96 => ?_) (fun hc96 => ?_)
    ·have he1 : e1 = 0 := by simpa using hc96
     obtain ⟨_, hC1, hM1, rfl, rfl, hle⟩ := hA1.resolve_right (by omega)
     have hVX : Valid C1 M1 l r := by rw [hC1, hM1]; exact valid_extend hV hle
     have hlenX : C1.length = s.2.1.length := by rw [hC1]
     obtain ⟨cs', hcs'⟩ : ∃ x, x = C1 := ⟨_, rfl⟩
     obtain ⟨m', hm'⟩ : ∃ x, x = M1 := ⟨_, rfl⟩
     obtain ⟨gv', hgv'⟩ : ∃ x, x = s.2.2.2 := ⟨_, rfl⟩
     have hV' : Valid cs' m' l r := by rw [hcs', hm']; exact hVX
     have hG' : ∀ p ∈ gv', p.2 < cs'.getD p.1 0 := by rw [hcs', hgv', hC1]; exact hG
     have hL' : gv'.length ≤ s.1 + 1 := by rw [hgv']; omega
     refine GE ?_
     refine TF 1 ?_
     refine RS (ok_loadH (s := 1000011) (by decide) Try.underlying36 rfl (size36.of rfl) rfl rfl) ?_
     refine RN ?_
     refine ⟨_, eff_storeH (n := 118) (s := 1000005) (size36.of rfl) rfl rfl rfl hBb5 rfl rfl (Surv.own (by decide)) (LO 1 rfl (LV 5 rfl (LeftS.cons (t := 6) rfl (Surv.ownP (by decide)) (LV 7 rfl (LV 8 rfl (LB 1000008 rfl (LeftS.cons (t := 1000011) rfl (Surv.varA (by omega) (Surv.own (by decide))) (LeftS.cons (t := 1000205) rfl (Surv.valM (Surv.own (by decide))) (LeftS.cons (t := 1000208) rfl (Surv.valM (Surv.own (by decide))) LN))))))))), ?_⟩
     refine TL ?_
     refine RN ?_
     refine End.normal_block ?_
     refine EN ?_
     refine A.openA (k := 1000005) (k' := 1000205) rfl fun v6 hv6 => ?_
     refine GS ?_
     refine TL ?_
     refine RS (ok_field field36_1 (by decide) rfl) ?_
     refine RS (ok_loadV (s := 1000005) (by decide) Try.underlying23 rfl rfl rfl (rfl)) ?_
     refine RS (ok_field field36_1 (by decide) rfl) ?_
     refine RS (ok_loadV (s := 1000008) (by decide) Try.underlying23 rfl rfl rfl (rfl)) ?_
     refine RBS rfl rfl rfl (.bool false) (by first | (simp; done) | (simp; omega)) ?_
     refine RM rfl ?_
     refine RQ (ok_field field36_0 (by decide) rfl) ?_
     refine RQ (OpOk.valP (ok_loadV (s := 1000005) (by decide) Try.underlying34 rfl rfl rfl (rfl)) (k := 1000205) (by decide) rfl) ?_
     refine RQ (ok_lenU _ Try.underlying34 rfl (own_vlst (rowQ_length _).symm) (rowQ_length _)) ?_
     refine RQ (ok_field field36_0 (by decide) rfl) ?_
     refine RQ (OpOk.valP (ok_loadV (s := 1000008) (by decide) Try.underlying34 rfl rfl rfl (rfl)) (k := 1000208) (by decide) rfl) ?_
     refine RQ (ok_lenU _ Try.underlying34 rfl (own_vlst (rowQ_length _).symm) (rowQ_length _)) ?_
     refine RQ (ok_bin rfl rfl rfl) ?_; refine RZ (.bool false) (congrArg Value.bool (bne_eq_false_iff_eq.2 (by omega))) ?_
     refine RP rfl rfl ?_
     refine RM rfl ?_
     refine RQ (OpOk.hdP (ok_loadA (s := 1000005) (by decide) Try.underlying36 rfl (size36.of (rfl)) rfl rfl) (by assumption) (k := 1000205) (by decide) rfl) ?_
     refine RQ (ok_call (Check_ok _ _ _ _ hVX) (Args.cons rfl (hd_le (own_vlst (rowQ_length _).symm)) Args.nil)) ?_
     refine RQ (ok_bin rfl rfl rfl) ?_; refine RZ (.bool false) (by rfl) ?_
     refine RP rfl rfl ?_
     refine RN ?_
     refine A.no rfl ?_
     refine A.skip ?_
     refine End.normal_block ?_
     refine EN ?_
     refine A.closeA (k := 1000005) (k' := 1000205) (by assumption) rfl rfl ?_
     refine GE ?_
     refine TL ?_
     refine RM rfl ?_
     refine RBS rfl rfl rfl (nI (s.1 + 1)) (by rw [wrap_i64 (by omega) (by omega)]; exact congrArg (Value.int .i64) (by omega)) ?_
     refine RA rfl ?_
     refine RN ?_
     refine End.normal_then ?_
     refine End.again (s.1 + 1, cs', m', gv') ?_ ?_ ?_
     ·exact ⟨by show s.1 + 1 ≤ _; omega, hV', hG', hL'⟩
     ·show L.length - (s.1 + 1) < L.length - s.1; omega
     ·exact (KC 1 rfl (KC 5 rfl (KE 6 rfl (by rw [hgv']; first | done | rfl | (rw [cellsN_snoc, List.length_append]; rfl)) (KC 7 rfl (KE 1000005 rfl (by rw [hcs', hm']; try rfl) KN)))))
    ·have hVX := hV
     obtain ⟨cs', hcs'⟩ : ∃ x, x = s.2.1 := ⟨_, rfl⟩
     obtain ⟨m', hm'⟩ : ∃ x, x = s.2.2.1 := ⟨_, rfl⟩
     obtain ⟨gv', hgv'⟩ : ∃ x, x = s.2.2.2 := ⟨_, rfl⟩
     have hV' : Valid cs' m' l r := by rw [hcs', hm']; exact hVX
     have hG' : ∀ p ∈ gv', p.2 < cs'.getD p.1 0 := by rw [hcs', hgv']; exact hG
     have hL' : gv'.length ≤ s.1 + 1 := by rw [hgv']; omega
     refine A.skip ?_
     refine End.normal_block ?_
     refine EN ?_
     refine GS ?_
     refine TL ?_
     refine RS (ok_field field36_1 (by decide) rfl) ?_
     refine RS (ok_loadV (s := 1000005) (by decide) Try.underlying23 rfl rfl rfl (rfl)) ?_
     refine RS (ok_field field36_1 (by decide) rfl) ?_
     refine RS (ok_loadV (s := 1000008) (by decide) Try.underlying23 rfl rfl rfl (rfl)) ?_
     refine RBS rfl rfl rfl (.bool false) (by first | (simp; done) | (simp; omega)) ?_
     refine RM rfl ?_
     refine RQ (ok_field field36_0 (by decide) rfl) ?_
     refine RQ (OpOk.valP (ok_loadV (s := 1000005) (by decide) Try.underlying34 rfl rfl rfl (rfl)) (k := 1000205) (by decide) rfl) ?_
     refine RQ (ok_lenU _ Try.underlying34 rfl (own_vlst (rowQ_length _).symm) (rowQ_length _)) ?_
     refine RQ (ok_field field36_0 (by decide) rfl) ?_
     refine RQ (OpOk.valP (ok_loadV (s := 1000008) (by decide) Try.underlying34 rfl rfl rfl (rfl)) (k := 1000208) (by decide) rfl) ?_
     refine RQ (ok_lenU _ Try.underlying34 rfl (own_vlst (rowQ_length _).symm) (rowQ_length _)) ?_
     refine RQ (ok_bin rfl rfl rfl) ?_; refine RZ (.bool false) (congrArg Value.bool (bne_eq_false_iff_eq.2 (by omega))) ?_
     refine RP rfl rfl ?_
     refine RM rfl ?_
     refine RQ (OpOk.hdP (ok_loadA (s := 1000005) (by decide) Try.underlying36 rfl (size36.of (rfl)) rfl rfl) (by assumption) (k := 1000205) (by decide) rfl) ?_
     refine RQ (ok_call (Check_ok _ _ _ _ hVX) (Args.cons rfl (hd_le (own_vlst (rowQ_length _).symm)) Args.nil)) ?_
     refine RQ (ok_bin rfl rfl rfl) ?_; refine RZ (.bool false) (by rfl) ?_
     refine RP rfl rfl ?_
     refine RN ?_
     refine A.no rfl ?_
     refine A.skip ?_
     refine End.normal_block ?_
     refine EN ?_
     refine A.closeA (k := 1000005) (k' := 1000205) (by assumption) rfl rfl ?_
     refine GE ?_
     refine TL ?_
     refine RM rfl ?_
     refine RBS rfl rfl rfl (nI (s.1 + 1)) (by rw [wrap_i64 (by omega) (by omega)]; exact congrArg (Value.int .i64) (by omega)) ?_
     refine RA rfl ?_
     refine RN ?_
     refine End.normal_then ?_
     refine End.again (s.1 + 1, cs', m', gv') ?_ ?_ ?_
     ·exact ⟨by show s.1 + 1 ≤ _; omega, hV', hG', hL'⟩
     ·show L.length - (s.1 + 1) < L.length - s.1; omega
     ·exact (KC 1 rfl (KC 5 rfl (KE 6 rfl (by rw [hgv']; first | done | rfl | (rw [cellsN_snoc, List.length_append]; rfl)) (KC 7 rfl (KE 1000005 rfl (by rw [hcs', hm']; try rfl) KN)))))
   ·refine GS ?_
    refine TL ?_
    refine RBS rfl rfl rfl (.bool false) (congrArg Value.bool (beq_eq_false_iff_ne.2 (by simp at hsp; omega))) ?_
    refine RA rfl ?_
    refine RN ?_
    refine A.no rfl ?_
    refine GE ?_
    refine TL ?_
    refine RB rfl rfl rfl ?_
    refine RA rfl ?_
    refine RN ?_
    refine EN ?_
    refine A.cond rfl (fun hc87 => ?_) (fun hc87 => ?_)
    ·refine GS ?_
     refine TN 5 ?_
     refine RS (OpOk.hdP (ok_loadA (s := 1000005) (by decide) Try.underlying36 rfl (size36.of (rfl)) rfl rfl) (by assumption) (k := 1000205) (by decide) rfl) ?_
     refine RS (ok_call hEx (Args.cons rfl (hd_le (own_vlst (rowQ_length _).symm)) Args.nil)) ?_
     refine RM rfl ?_
     refine RS (ok_extract rfl rfl) ?_
     refine RS (ok_extract rfl rfl) ?_
     refine RN ?_
     refine ⟨_, _, eff_alloc (n := 118) (d := 11) (k := 1000011) zero36 (by decide), fun b11 hb11 => ?_⟩
     have hBb11 := hb11.1
     have hlt_b5_b11 : b5 < b11 := hb11.2 1000005 _ _ _ rfl
     have hlt_b8_b11 : b8 < b11 := hb11.2 1000008 _ _ _ rfl
     refine TF 6 ?_
     refine RN ?_
     refine ⟨_, eff_storeH (n := 118) (s := 1000011) (size36.of rfl) rfl rfl rfl hBb11 rfl rfl (Surv.own (by decide)) (LO 1 rfl (LV 5 rfl (LeftS.cons (t := 6) rfl (Surv.ownP (by decide)) (LV 7 rfl (LV 8 rfl (LV 11 rfl (LV 94 rfl (LB 1000005 rfl (LB 1000008 rfl (LeftS.cons (t := 1000205) rfl (Surv.valM (Surv.own (by decide))) (LeftS.cons (t := 1000208) rfl (Surv.valM (Surv.own (by decide))) LN))))))))))), ?_⟩
     refine TL ?_
     refine RA rfl ?_
     refine RN ?_
     refine A.sub (KC 1 rfl (KC 5 rfl (KC 6 rfl (KC 7 rfl (KC 8 rfl (KC 11 rfl (KC 12 rfl (KC 1000005 rfl (KC 1000008 rfl (KC 1000011 rfl (KC 1000205 rfl (KC 1000208 rfl KN)))))))))))) ?_
     refine GS ?_
     refine TL ?_
     refine RM rfl ?_
     refine RB rfl rfl rfl ?_
     refine RN ?_
     refine A.cond rfl (fun hc96 => ?_) (fun hc96 => ?_)
     ·have he1 : e1 = 0 := by simpa using hc96
      obtain ⟨_, hC1, hM1, rfl, rfl, hle⟩ := hA1.resolve_right (by omega)
      have hVX : Valid C1 M1 l r := by rw [hC1, hM1]; exact valid_extend hV hle
      have hlenX : C1.length = s.2.1.length := by rw [hC1]
      obtain ⟨cs', hcs'⟩ : ∃ x, x = C1 := ⟨_, rfl⟩
      obtain ⟨m', hm'⟩ : ∃ x, x = M1 := ⟨_, rfl⟩
      obtain ⟨gv', hgv'⟩ : ∃ x, x = s.2.2.2 := ⟨_, rfl⟩
      have hV' : Valid cs' m' l r := by rw [hcs', hm']; exact hVX
      have hG' : ∀ p ∈ gv', p.2 < cs'.getD p.1 0 := by rw [hcs', hgv', hC1]; exact hG
      have hL' : gv'.length ≤ s.1 + 1 := by rw [hgv']; omega
      refine GE ?_
      refine TF 1 ?_
      refine RS (ok_loadH (s := 1000011) (by decide) Try.underlying36 rfl (size36.of rfl) rfl rfl) ?_
      refine RN ?_
      refine ⟨_, eff_storeH (n := 118) (s := 1000005) (size36.of rfl) rfl rfl rfl hBb5 rfl rfl (Surv.own (by decide)) (LO 1 rfl (LV 5 rfl (LeftS.cons (t := 6) rfl (Surv.ownP (by decide)) (LV 7 rfl (LV 8 rfl (LB 1000008 rfl (LeftS.cons (t := 1000011) rfl (Surv.varA (by omega) (Surv.own (by decide))) (LeftS.cons (t := 1000205) rfl (Surv.valM (Surv.own (by decide))) (LeftS.cons (t := 1000208) rfl (Surv.valM (Surv.own (by decide))) LN))))))))), ?_⟩
      refine TL ?_
      refine RN ?_
      refine End.normal_block ?_
      refine EN ?_
      refine A.openA (k := 1000005) (k' := 1000205) rfl fun v6 hv6 => ?_
      refine GS ?_
      refine TL ?_
      refine RS (ok_field field36_1 (by decide) rfl) ?_
      refine RS (ok_loadV (s := 1000005) (by decide) Try.underlying23 rfl rfl rfl (rfl)) ?_
      refine RS (ok_field field36_1 (by decide) rfl) ?_
      refine RS (ok_loadV (s := 1000008) (by decide) Try.underlying23 rfl rfl rfl (rfl)) ?_
      refine RBS rfl rfl rfl (.bool false) (by first | (simp; done) | (simp; omega)) ?_
      refine RM rfl ?_
      refine RQ (ok_field field36_0 (by decide) rfl) ?_
      refine RQ (OpOk.valP (ok_loadV (s := 1000005) (by decide) Try.underlying34 rfl rfl rfl (rfl)) (k := 1000205) (by decide) rfl) ?_
      refine RQ (ok_lenU _ Try.underlying34 rfl (own_vlst (rowQ_length _).symm) (rowQ_length _)) ?_
      refine RQ (ok_field field36_0 (by decide) rfl) ?_
      refine RQ (OpOk.valP (ok_loadV (s := 1000008) (by decide) Try.underlying34 rfl rfl rfl (rfl)) (k := 1000208) (by decide) rfl) ?_
      refine RQ (ok_lenU _ Try.underlying34 rfl (own_vlst (rowQ_length _).symm) (rowQ_length _)) ?_
      refine RQ (ok_bin rfl rfl rfl) ?_; refine RZ (.bool false) (congrArg Value.bool (bne_eq_false_iff_eq.2 (by omega))) ?_
      refine RP rfl rfl ?_
      refine RM rfl ?_
      refine RQ (OpOk.hdP (ok_loadA (s := 1000005) (by decide) Try.underlying36 rfl (size36.of (rfl)) rfl rfl) (by assumption) (k := 1000205) (by decide) rfl) ?_
      refine RQ (ok_call (Check_ok _ _ _ _ hVX) (Args.cons rfl (hd_le (own_vlst (rowQ_length _).symm)) Args.nil)) ?_
      refine RQ (ok_bin rfl rfl rfl) ?_; refine RZ (.bool false) (by rfl) ?_
      refine RP rfl rfl ?_
      refine RN ?_
      refine A.no rfl ?_
      refine A.skip ?_
      refine End.normal_block ?_
      refine EN ?_
      refine A.closeA (k := 1000005) (k' := 1000205) (by assumption) rfl rfl ?_
      refine GE ?_
      refine TL ?_
      refine RM rfl ?_
      refine RBS rfl rfl rfl (nI (s.1 + 1)) (by rw [wrap_i64 (by omega) (by omega)]; exact congrArg (Value.int .i64) (by omega)) ?_
      refine RA rfl ?_
      refine RN ?_
      refine End.sub (KC 1 rfl (KC 5 rfl (KC 6 rfl (KC 7 rfl (KC 1000005 rfl (KC 1000008 rfl (KC 1000011 rfl (KC 1000205 rfl (KC 1000208 rfl KN))))))))) ?_
      refine End.normal_then ?_
      refine End.again (s.1 + 1, cs', m', gv') ?_ ?_ ?_
      ·exact ⟨by show s.1 + 1 ≤ _; omega, hV', hG', hL'⟩
      ·show L.length - (s.1 + 1) < L.length - s.1; omega
      ·exact (KC 1 rfl (KC 5 rfl (KE 6 rfl (by rw [hgv']; first | done | rfl | (rw [cellsN_snoc, List.length_append]; rfl)) (KC 7 rfl (KE 1000005 rfl (by rw [hcs', hm']; try rfl) KN)))))
     ·have hVX := hV
      obtain ⟨cs', hcs'⟩ : ∃ x, x = s.2.1 := ⟨_, rfl⟩
      obtain ⟨m', hm'⟩ : ∃ x, x = s.2.2.1 := ⟨_, rfl⟩
      obtain ⟨gv', hgv'⟩ : ∃ x, x = s.2.2.2 := ⟨_, rfl⟩
      have hV' : Valid cs' m' l r := by rw [hcs', hm']; exact hVX
      have hG' : ∀ p ∈ gv', p.2 < cs'.getD p.1 0 := by rw [hcs', hgv']; exact hG
      have hL' : gv'.length ≤ s.1 + 1 := by rw [hgv']; omega
      refine A.skip ?_
      refine End.normal_block ?_
      refine EN ?_
      refine GS ?_
      refine TL ?_
      refine RS (ok_field field36_1 (by decide) rfl) ?_
      refine RS (ok_loadV (s := 1000005) (by decide) Try.underlying23 rfl rfl rfl (rfl)) ?_
      refine RS (ok_field field36_1 (by decide) rfl) ?_
      refine RS (ok_loadV (s := 1000008) (by decide) Try.underlying23 rfl rfl rfl (rfl)) ?_
      refine RBS rfl rfl rfl (.bool false) (by first | (simp; done) | (simp; omega)) ?_
      refine RM rfl ?_
      refine RQ (ok_field field36_0 (by decide) rfl) ?_
      refine RQ (OpOk.valP (ok_loadV (s := 1000005) (by decide) Try.underlying34 rfl rfl rfl (rfl)) (k := 1000205) (by decide) rfl) ?_
      refine RQ (ok_lenU _ Try.underlying34 rfl (own_vlst (rowQ_length _).symm) (rowQ_length _)) ?_
      refine RQ (ok_field field36_0 (by decide) rfl) ?_
      refine RQ (OpOk.valP (ok_loadV (s := 1000008) (by decide) Try.underlying34 rfl rfl rfl (rfl)) (k := 1000208) (by decide) rfl) ?_
      refine RQ (ok_lenU _ Try.underlying34 rfl (own_vlst (rowQ_length _).symm) (rowQ_length _)) ?_
      refine RQ (ok_bin rfl rfl rfl) ?_; refine RZ (.bool false) (congrArg Value.bool (bne_eq_false_iff_eq.2 (by omega))) ?_
      refine RP rfl rfl ?_
      refine RM rfl ?_
      refine RQ (OpOk.hdP (ok_loadA (s := 1000005) (by decide) Try.underlying36 rfl (size36.of (rfl)) rfl rfl) (by assumption) (k := 1000205) (by decide) rfl) ?_
      refine RQ (ok_call (Check_ok _ _ _ _ hVX) (Args.cons rfl (hd_le (own_vlst (rowQ_length _).symm)) Args.nil)) ?_
      refine RQ (ok_bin rfl rfl rfl) ?_; refine RZ (.bool false) (by rfl) ?_
      refine RP rfl rfl ?_
      refine RN ?_
      refine A.no rfl ?_
      refine A.skip ?_
      refine End.normal_block ?_
      refine EN ?_
      refine A.closeA (k := 1000005) (k' := 1000205) (by assumption) rfl rfl ?_
      refine GE ?_
      refine TL ?_
      refine RM rfl ?_
      refine RBS rfl rfl rfl (nI (s.1 + 1)) (by rw [wrap_i64 (by omega) (by omega)]; exact congrArg (Value.int .i64) (by omega)) ?_
      refine RA rfl ?_
      refine RN ?_
      refine End.normal_then ?_
      refine End.again (s.1 + 1, cs', m', gv') ?_ ?_ ?_
      ·exact ⟨by show s.1 + 1 ≤ _; omega, hV', hG', hL'⟩
      ·show L.length - (s.1 + 1) < L.length - s.1; omega
      ·exact (KC 1 rfl (KC 5 rfl (KE 6 rfl (by rw [hgv']; first | done | rfl | (rw [cellsN_snoc, List.length_append]; rfl)) (KC 7 rfl (KE 1000005 rfl (by rw [hcs', hm']; try rfl) KN)))))
    ·refine A.dup (k := 1000005) (k' := 1000305) rfl (fun _ _ _ _ h => h) ?_
     refine A.regsLH _ (fun B => (OldH.p (t := 1) rfl (OldH.same (t := 5) rfl (OldH.p (t := 6) rfl (OldH.same (t := 7) rfl (OldH.same (t := 8) rfl (OldH.same (t := 87) rfl (OldH.p (t := 1000005) rfl (OldH.p (t := 1000008) rfl (OldH.p (t := 1000205) rfl (OldH.p (t := 1000208) rfl (OldH.same (t := 1000305) rfl OldH.nil)))))))))))) 18 [14, 15] (by kernel_rfl) (by kernel_rfl) (by kernel_rfl) (by kernel_rfl) (fun B => [(1, old w₀.heap.size (byt L)), (5, .v (.pointer (some ⟨b5, 0, none⟩))), (6, ownP w₀.heap.size 25 2 s.2.2.2.length (cellsN s.2.2.2)), (7, .v (nI (s.1))), (8, .v (.pointer (some ⟨b8, 0, none⟩))), (13, freshV B [b5] 25 [nW ns, nQ nc]), (14, freshA B [b5] 36 (own 0 23 C.length (rowQ C)) (alR M' L' R')), (15, .v (.int .i64 e)), (1000005, blk b5 36 (v5 :: alR s.2.2.1 l r)), (1000008, blk b8 36 (v5 :: alR s.2.2.1 l r)), (1000205, valM v5 (own 0 23 s.2.1.length (rowQ s.2.1))), (1000208, valM v5 (own 0 23 s.2.1.length (rowQ s.2.1)))]) (fun B hB => ?_) (fun B hB => ?_)
     ·refine RS (OpOk.hdO (ok_loadA (s := 1000305) (by decide) Try.underlying36 rfl (size36.of (rfl)) rfl rfl) (by assumption) (k := 1000205) (by decide) rfl) ?_
      refine RM rfl ?_
      refine RM rfl ?_
      refine RS (ok_index (d := byteD (L.getD s.1 0)) Try.underlying26 info5 rfl LA rfl (by omega) (by rw [Int.toNat_natCast, byteD_getD hlt])) ?_
      refine RS (ok_load Try.underlying5 rfl rfl) ?_; refine RZ (nB k) (by rw [hk]; rfl) ?_
      refine RS (ok_div rfl rfl (by decide)) ?_; refine RZ (nB (k / 16)) (by rw [tdiv_lit _ (by decide), show Int.toNat 16 = 16 from rfl]; exact congrArg (Value.int .u8) (wrap_u8 (by omega) (by omega))) ?_
      refine RS (ok_conv Try.underlying5 Try.underlying3 rfl) ?_; refine RZ (nI (k / 16)) (by rw [wrapN_i64 (by omega)]) ?_
      refine RS (ok_field field36_0 (by decide) rfl) ?_
      refine RS (OpOk.valO (ok_loadV (s := 1000305) (by decide) Try.underlying34 rfl rfl rfl (rfl)) (k := 1000205) (by decide) rfl) ?_
      refine RS (ok_lenU s.2.1.length Try.underlying34 rfl ((Le.old _ _).trans (own_vlst (rowQ_length _).symm)) (rowQ_length _)) ?_
      refine RS (ok_rem rfl rfl (by omega)) ?_; refine RZ (nI q) (by rw [hq]; exact congrArg (Value.int .i64) (Int.ofNat_tmod _ _).symm) ?_
      refine RS (ok_call hTk (Args.cons rfl ((Le.old _ _).trans (hd_le (own_vlst (rowQ_length _).symm))) (A1 rfl))) ?_
      refine RM rfl ?_
      refine RS (ok_extract rfl rfl) ?_
      refine RS (ok_extract rfl rfl) ?_
      refine RS (ok_extract rfl rfl) ?_
      refine RS (ok_allocF [b5] zero25 (Named.cons (s := 1000305) (by decide) rfl Named.nil)) ?_
      refine RS (ok_allocF [b5] zero36 (Named.cons (s := 1000305) (by decide) rfl Named.nil)) ?_
      refine RN ?_
      intro S hS
      simp only [subs, List.map_cons, List.map_nil, List.cons_append, List.nil_append, List.mem_cons, List.not_mem_nil, or_false] at hS
      rcases hS with rfl | rfl | rfl | rfl
      ·refine ⟨2, Nat.le_of_ble_eq_true (by kernel_rfl), _, (KC 1 rfl (KC 5 rfl (KC 6 rfl (KC 7 rfl (KC 8 rfl (KC 13 rfl (KC 14 rfl (KC 35 rfl (KC 36 rfl (KC 37 rfl (KC 38 rfl (KC 39 rfl (KC 40 rfl (KC 41 rfl (KC 42 rfl (KC 43 rfl (KC 44 rfl (KC 45 rfl (KC 46 rfl (KC 47 rfl (KC 48 rfl (KC 49 rfl (KC 50 rfl (KC 87 rfl (KC 1000005 rfl (KC 1000008 rfl (KC 1000205 rfl (KC 1000208 rfl (KC 1000305 rfl KN))))))))))))))))))))))))))))), by kernel_rfl, _, rfl, _, eff_storeFF (n := 118) (size25.of (rfl)) (Nat.le_refl _) rfl rfl (rfl) (rfl) (fun b hb => (LeftS.cons (t := 1) rfl (Surv.old hb) (LV 5 rfl (LeftS.cons (t := 6) rfl (Surv.old hb) (LV 7 rfl (LV 8 rfl (LeftS.cons (t := 14) rfl (Surv.freshVT (by decide)) (LeftS.cons (t := 35) rfl (Surv.tup3 (Surv.v _) (Surv.hd (Surv.own (by decide))) (Surv.v _)) (LeftS.cons (t := 36) rfl (Surv.old hb) (LeftS.cons (t := 37) rfl (Surv.old hb) (LV 38 rfl (LV 40 rfl (LV 41 rfl (LV 42 rfl (LV 43 rfl (LeftS.cons (t := 44) rfl (Surv.old hb) (LV 45 rfl (LV 46 rfl (LeftS.cons (t := 47) rfl (Surv.tup3 (Surv.v _) (Surv.hd (Surv.own (by decide))) (Surv.v _)) (LV 48 rfl (LeftS.cons (t := 49) rfl (Surv.hd (Surv.own (by decide))) (LV 50 rfl (LV 87 rfl (LeftS.cons (t := 1000005) rfl (Surv.old hb) (LeftS.cons (t := 1000008) rfl (Surv.old hb) (LeftS.cons (t := 1000205) rfl (Surv.old hb) (LeftS.cons (t := 1000208) rfl (Surv.old hb) LN))))))))))))))))))))))))))), ?_⟩
       refine AnyT.step 19 [] (by kernel_rfl) ?_
       refine NextT.eff rfl (eff_storeFA (n := 118) (size36.of rfl) (Nat.le_refl _) rfl rfl rfl rfl (fun b hb => Surv.own (by decide)) (fun b hb => (LeftS.cons (t := 1) rfl (Surv.old hb) (LV 5 rfl (LeftS.cons (t := 6) rfl (Surv.old hb) (LV 7 rfl (LV 8 rfl (LeftS.cons (t := 13) rfl (Surv.freshVT (by decide)) (LeftS.cons (t := 35) rfl (Surv.tup3 (Surv.v _) (Surv.hd (Surv.own (by decide))) (Surv.v _)) (LeftS.cons (t := 36) rfl (Surv.old hb) (LeftS.cons (t := 37) rfl (Surv.old hb) (LV 38 rfl (LV 40 rfl (LV 41 rfl (LV 42 rfl (LV 43 rfl (LeftS.cons (t := 44) rfl (Surv.old hb) (LV 45 rfl (LV 46 rfl (LeftS.cons (t := 47) rfl (Surv.tup3 (Surv.v _) (Surv.hd (Surv.own (by decide))) (Surv.v _)) (LV 48 rfl (LeftS.cons (t := 49) rfl (Surv.hd (Surv.own (by decide))) (LV 50 rfl (LV 87 rfl (LeftS.cons (t := 1000005) rfl (Surv.old hb) (LeftS.cons (t := 1000008) rfl (Surv.old hb) (LeftS.cons (t := 1000205) rfl (Surv.old hb) (LeftS.cons (t := 1000208) rfl (Surv.old hb) LN)))))))))))))))))))))))))))) ?_ ?_
       ·refine AnyT.step 20 [] (by kernel_rfl) ?_
        refine NextT.pure (by kernel_rfl) rfl rfl rfl (ok_assign rfl) ?_ ?_
        ·refine AnyT.last (by kernel_rfl) ?_
         exact (SubL.cons (t := 1) rfl (Le.old _ _) (SubL.cons (t := 5) rfl (Le.refl _) (SubL.cons (t := 6) rfl (Le.old _ _) (SubL.cons (t := 7) rfl (Le.refl _) (SubL.cons (t := 8) rfl (Le.refl _) (SubL.cons (t := 13) rfl (Le.refl _) (SubL.cons (t := 14) rfl (Le.refl _) (SubL.cons (t := 15) rfl (Le.refl _) (SubL.cons (t := 1000005) rfl (Le.old _ _) (SubL.cons (t := 1000008) rfl (Le.old _ _) (SubL.cons (t := 1000205) rfl (Le.old _ _) (SubL.cons (t := 1000208) rfl (Le.old _ _) SubL.nil))))))))))))
        exact trivial
       exact trivial
      ·refine ⟨3, Nat.le_of_ble_eq_true (by kernel_rfl), _, (KC 1 rfl (KC 5 rfl (KC 6 rfl (KC 7 rfl (KC 8 rfl (KC 13 rfl (KC 14 rfl (KC 35 rfl (KC 36 rfl (KC 37 rfl (KC 38 rfl (KC 39 rfl (KC 40 rfl (KC 41 rfl (KC 42 rfl (KC 43 rfl (KC 44 rfl (KC 45 rfl (KC 46 rfl (KC 47 rfl (KC 48 rfl (KC 49 rfl (KC 87 rfl (KC 1000005 rfl (KC 1000008 rfl (KC 1000205 rfl (KC 1000208 rfl (KC 1000305 rfl KN)))))))))))))))))))))))))))), by kernel_rfl, _, rfl, _, eff_storeFF (n := 118) (size25.of (rfl)) (Nat.le_refl _) rfl rfl (rfl) (rfl) (fun b hb => (LeftS.cons (t := 1) rfl (Surv.old hb) (LV 5 rfl (LeftS.cons (t := 6) rfl (Surv.old hb) (LV 7 rfl (LV 8 rfl (LeftS.cons (t := 14) rfl (Surv.freshVT (by decide)) (LeftS.cons (t := 35) rfl (Surv.tup3 (Surv.v _) (Surv.hd (Surv.own (by decide))) (Surv.v _)) (LeftS.cons (t := 36) rfl (Surv.old hb) (LeftS.cons (t := 37) rfl (Surv.old hb) (LV 38 rfl (LV 40 rfl (LV 41 rfl (LV 42 rfl (LV 43 rfl (LeftS.cons (t := 44) rfl (Surv.old hb) (LV 45 rfl (LV 46 rfl (LeftS.cons (t := 47) rfl (Surv.tup3 (Surv.v _) (Surv.hd (Surv.own (by decide))) (Surv.v _)) (LV 48 rfl (LeftS.cons (t := 49) rfl (Surv.hd (Surv.own (by decide))) (LV 87 rfl (LeftS.cons (t := 1000005) rfl (Surv.old hb) (LeftS.cons (t := 1000008) rfl (Surv.old hb) (LeftS.cons (t := 1000205) rfl (Surv.old hb) (LeftS.cons (t := 1000208) rfl (Surv.old hb) LN)))))))))))))))))))))))))), ?_⟩
       refine AnyT.step 15 [19] (by kernel_rfl) ?_
       refine NextT.pure (by kernel_rfl) rfl rfl rfl (ok_extract rfl rfl) ?_ ?_
       ·refine AnyT.step 19 [] (by kernel_rfl) ?_
        refine NextT.eff rfl (eff_storeFA (n := 118) (size36.of rfl) (Nat.le_refl _) rfl rfl rfl rfl (fun b hb => Surv.own (by decide)) (fun b hb => (LeftS.cons (t := 1) rfl (Surv.old hb) (LV 5 rfl (LeftS.cons (t := 6) rfl (Surv.old hb) (LV 7 rfl (LV 8 rfl (LeftS.cons (t := 13) rfl (Surv.freshVT (by decide)) (LeftS.cons (t := 35) rfl (Surv.tup3 (Surv.v _) (Surv.hd (Surv.own (by decide))) (Surv.v _)) (LeftS.cons (t := 36) rfl (Surv.old hb) (LeftS.cons (t := 37) rfl (Surv.old hb) (LV 38 rfl (LV 40 rfl (LV 41 rfl (LV 42 rfl (LV 43 rfl (LeftS.cons (t := 44) rfl (Surv.old hb) (LV 45 rfl (LV 46 rfl (LeftS.cons (t := 47) rfl (Surv.tup3 (Surv.v _) (Surv.hd (Surv.own (by decide))) (Surv.v _)) (LV 48 rfl (LeftS.cons (t := 49) rfl (Surv.hd (Surv.own (by decide))) (LV 50 rfl (LV 87 rfl (LeftS.cons (t := 1000005) rfl (Surv.old hb) (LeftS.cons (t := 1000008) rfl (Surv.old hb) (LeftS.cons (t := 1000205) rfl (Surv.old hb) (LeftS.cons (t := 1000208) rfl (Surv.old hb) LN)))))))))))))))))))))))))))) ?_ ?_
        ·refine AnyT.step 20 [] (by kernel_rfl) ?_
         refine NextT.pure (by kernel_rfl) rfl rfl rfl (ok_assign rfl) ?_ ?_
         ·refine AnyT.last (by kernel_rfl) ?_
          exact (SubL.cons (t := 1) rfl (Le.old _ _) (SubL.cons (t := 5) rfl (Le.refl _) (SubL.cons (t := 6) rfl (Le.old _ _) (SubL.cons (t := 7) rfl (Le.refl _) (SubL.cons (t := 8) rfl (Le.refl _) (SubL.cons (t := 13) rfl (Le.refl _) (SubL.cons (t := 14) rfl (Le.refl _) (SubL.cons (t := 15) rfl (Le.refl _) (SubL.cons (t := 1000005) rfl (Le.old _ _) (SubL.cons (t := 1000008) rfl (Le.old _ _) (SubL.cons (t := 1000205) rfl (Le.old _ _) (SubL.cons (t := 1000208) rfl (Le.old _ _) SubL.nil))))))))))))
         exact trivial
        exact trivial
       refine NextT.eff rfl (eff_storeFA (n := 118) (size36.of rfl) (Nat.le_refl _) rfl rfl rfl rfl (fun b hb => Surv.own (by decide)) (fun b hb => (LeftS.cons (t := 1) rfl (Surv.old hb) (LV 5 rfl (LeftS.cons (t := 6) rfl (Surv.old hb) (LV 7 rfl (LV 8 rfl (LeftS.cons (t := 13) rfl (Surv.freshVT (by decide)) (LeftS.cons (t := 35) rfl (Surv.tup3 (Surv.v _) (Surv.hd (Surv.own (by decide))) (Surv.v _)) (LeftS.cons (t := 36) rfl (Surv.old hb) (LeftS.cons (t := 37) rfl (Surv.old hb) (LV 38 rfl (LV 40 rfl (LV 41 rfl (LV 42 rfl (LV 43 rfl (LeftS.cons (t := 44) rfl (Surv.old hb) (LV 45 rfl (LV 46 rfl (LeftS.cons (t := 47) rfl (Surv.tup3 (Surv.v _) (Surv.hd (Surv.own (by decide))) (Surv.v _)) (LV 48 rfl (LeftS.cons (t := 49) rfl (Surv.hd (Surv.own (by decide))) (LV 87 rfl (LeftS.cons (t := 1000005) rfl (Surv.old hb) (LeftS.cons (t := 1000008) rfl (Surv.old hb) (LeftS.cons (t := 1000205) rfl (Surv.old hb) (LeftS.cons (t := 1000208) rfl (Surv.old hb) LN))))))))))))))))))))))))))) ?_ ?_
       ·refine AnyT.step 15 [] (by kernel_rfl) ?_
        refine NextT.pure (by kernel_rfl) rfl rfl rfl (ok_extract rfl rfl) ?_ ?_
        ·refine AnyT.step 20 [] (by kernel_rfl) ?_
         refine NextT.pure (by kernel_rfl) rfl rfl rfl (ok_assign rfl) ?_ ?_
         ·refine AnyT.last (by kernel_rfl) ?_
          exact (SubL.cons (t := 1) rfl (Le.old _ _) (SubL.cons (t := 5) rfl (Le.refl _) (SubL.cons (t := 6) rfl (Le.old _ _) (SubL.cons (t := 7) rfl (Le.refl _) (SubL.cons (t := 8) rfl (Le.refl _) (SubL.cons (t := 13) rfl (Le.refl _) (SubL.cons (t := 14) rfl (Le.refl _) (SubL.cons (t := 15) rfl (Le.refl _) (SubL.cons (t := 1000005) rfl (Le.old _ _) (SubL.cons (t := 1000008) rfl (Le.old _ _) (SubL.cons (t := 1000205) rfl (Le.old _ _) (SubL.cons (t := 1000208) rfl (Le.old _ _) SubL.nil))))))))))))
         exact trivial
        exact trivial
       exact trivial
      ·refine ⟨3, Nat.le_of_ble_eq_true (by kernel_rfl), _, (KC 1 rfl (KC 5 rfl (KC 6 rfl (KC 7 rfl (KC 8 rfl (KC 13 rfl (KC 14 rfl (KC 35 rfl (KC 36 rfl (KC 37 rfl (KC 38 rfl (KC 39 rfl (KC 40 rfl (KC 41 rfl (KC 42 rfl (KC 43 rfl (KC 44 rfl (KC 45 rfl (KC 46 rfl (KC 47 rfl (KC 48 rfl (KC 50 rfl (KC 87 rfl (KC 1000005 rfl (KC 1000008 rfl (KC 1000205 rfl (KC 1000208 rfl (KC 1000305 rfl KN)))))))))))))))))))))))))))), by kernel_rfl, _, rfl, _, eff_storeFF (n := 118) (size25.of (rfl)) (Nat.le_refl _) rfl rfl (rfl) (rfl) (fun b hb => (LeftS.cons (t := 1) rfl (Surv.old hb) (LV 5 rfl (LeftS.cons (t := 6) rfl (Surv.old hb) (LV 7 rfl (LV 8 rfl (LeftS.cons (t := 14) rfl (Surv.freshVT (by decide)) (LeftS.cons (t := 35) rfl (Surv.tup3 (Surv.v _) (Surv.hd (Surv.own (by decide))) (Surv.v _)) (LeftS.cons (t := 36) rfl (Surv.old hb) (LeftS.cons (t := 37) rfl (Surv.old hb) (LV 38 rfl (LV 40 rfl (LV 41 rfl (LV 42 rfl (LV 43 rfl (LeftS.cons (t := 44) rfl (Surv.old hb) (LV 45 rfl (LV 46 rfl (LeftS.cons (t := 47) rfl (Surv.tup3 (Surv.v _) (Surv.hd (Surv.own (by decide))) (Surv.v _)) (LV 48 rfl (LV 50 rfl (LV 87 rfl (LeftS.cons (t := 1000005) rfl (Surv.old hb) (LeftS.cons (t := 1000008) rfl (Surv.old hb) (LeftS.cons (t := 1000205) rfl (Surv.old hb) (LeftS.cons (t := 1000208) rfl (Surv.old hb) LN)))))))))))))))))))))))))), ?_⟩
       refine AnyT.step 14 [] (by kernel_rfl) ?_
       refine NextT.pure (by kernel_rfl) rfl rfl rfl (ok_extract rfl rfl) ?_ ?_
       ·refine AnyT.step 19 [] (by kernel_rfl) ?_
        refine NextT.eff rfl (eff_storeFA (n := 118) (size36.of rfl) (Nat.le_refl _) rfl rfl rfl rfl (fun b hb => Surv.own (by decide)) (fun b hb => (LeftS.cons (t := 1) rfl (Surv.old hb) (LV 5 rfl (LeftS.cons (t := 6) rfl (Surv.old hb) (LV 7 rfl (LV 8 rfl (LeftS.cons (t := 13) rfl (Surv.freshVT (by decide)) (LeftS.cons (t := 35) rfl (Surv.tup3 (Surv.v _) (Surv.hd (Surv.own (by decide))) (Surv.v _)) (LeftS.cons (t := 36) rfl (Surv.old hb) (LeftS.cons (t := 37) rfl (Surv.old hb) (LV 38 rfl (LV 40 rfl (LV 41 rfl (LV 42 rfl (LV 43 rfl (LeftS.cons (t := 44) rfl (Surv.old hb) (LV 45 rfl (LV 46 rfl (LeftS.cons (t := 47) rfl (Surv.tup3 (Surv.v _) (Surv.hd (Surv.own (by decide))) (Surv.v _)) (LV 48 rfl (LeftS.cons (t := 49) rfl (Surv.hd (Surv.own (by decide))) (LV 50 rfl (LV 87 rfl (LeftS.cons (t := 1000005) rfl (Surv.old hb) (LeftS.cons (t := 1000008) rfl (Surv.old hb) (LeftS.cons (t := 1000205) rfl (Surv.old hb) (LeftS.cons (t := 1000208) rfl (Surv.old hb) LN)))))))))))))))))))))))))))) ?_ ?_
        ·refine AnyT.step 20 [] (by kernel_rfl) ?_
         refine NextT.pure (by kernel_rfl) rfl rfl rfl (ok_assign rfl) ?_ ?_
         ·refine AnyT.last (by kernel_rfl) ?_
          exact (SubL.cons (t := 1) rfl (Le.old _ _) (SubL.cons (t := 5) rfl (Le.refl _) (SubL.cons (t := 6) rfl (Le.old _ _) (SubL.cons (t := 7) rfl (Le.refl _) (SubL.cons (t := 8) rfl (Le.refl _) (SubL.cons (t := 13) rfl (Le.refl _) (SubL.cons (t := 14) rfl (Le.refl _) (SubL.cons (t := 15) rfl (Le.refl _) (SubL.cons (t := 1000005) rfl (Le.old _ _) (SubL.cons (t := 1000008) rfl (Le.old _ _) (SubL.cons (t := 1000205) rfl (Le.old _ _) (SubL.cons (t := 1000208) rfl (Le.old _ _) SubL.nil))))))))))))
         exact trivial
        exact trivial
       exact trivial
      ·refine ⟨4, Nat.le_of_ble_eq_true (by kernel_rfl), _, (KC 1 rfl (KC 5 rfl (KC 6 rfl (KC 7 rfl (KC 8 rfl (KC 13 rfl (KC 14 rfl (KC 35 rfl (KC 36 rfl (KC 37 rfl (KC 38 rfl (KC 39 rfl (KC 40 rfl (KC 41 rfl (KC 42 rfl (KC 43 rfl (KC 44 rfl (KC 45 rfl (KC 46 rfl (KC 47 rfl (KC 48 rfl (KC 87 rfl (KC 1000005 rfl (KC 1000008 rfl (KC 1000205 rfl (KC 1000208 rfl (KC 1000305 rfl KN))))))))))))))))))))))))))), by kernel_rfl, _, rfl, _, eff_storeFF (n := 118) (size25.of (rfl)) (Nat.le_refl _) rfl rfl (rfl) (rfl) (fun b hb => (LeftS.cons (t := 1) rfl (Surv.old hb) (LV 5 rfl (LeftS.cons (t := 6) rfl (Surv.old hb) (LV 7 rfl (LV 8 rfl (LeftS.cons (t := 14) rfl (Surv.freshVT (by decide)) (LeftS.cons (t := 35) rfl (Surv.tup3 (Surv.v _) (Surv.hd (Surv.own (by decide))) (Surv.v _)) (LeftS.cons (t := 36) rfl (Surv.old hb) (LeftS.cons (t := 37) rfl (Surv.old hb) (LV 38 rfl (LV 40 rfl (LV 41 rfl (LV 42 rfl (LV 43 rfl (LeftS.cons (t := 44) rfl (Surv.old hb) (LV 45 rfl (LV 46 rfl (LeftS.cons (t := 47) rfl (Surv.tup3 (Surv.v _) (Surv.hd (Surv.own (by decide))) (Surv.v _)) (LV 48 rfl (LV 87 rfl (LeftS.cons (t := 1000005) rfl (Surv.old hb) (LeftS.cons (t := 1000008) rfl (Surv.old hb) (LeftS.cons (t := 1000205) rfl (Surv.old hb) (LeftS.cons (t := 1000208) rfl (Surv.old hb) LN))))))))))))))))))))))))), ?_⟩
       refine AnyT.step 14 [15] (by kernel_rfl) ?_
       refine NextT.pure (by kernel_rfl) rfl rfl rfl (ok_extract rfl rfl) ?_ ?_
       ·refine AnyT.step 15 [19] (by kernel_rfl) ?_
        refine NextT.pure (by kernel_rfl) rfl rfl rfl (ok_extract rfl rfl) ?_ ?_
        ·refine AnyT.step 19 [] (by kernel_rfl) ?_
         refine NextT.eff rfl (eff_storeFA (n := 118) (size36.of rfl) (Nat.le_refl _) rfl rfl rfl rfl (fun b hb => Surv.own (by decide)) (fun b hb => (LeftS.cons (t := 1) rfl (Surv.old hb) (LV 5 rfl (LeftS.cons (t := 6) rfl (Surv.old hb) (LV 7 rfl (LV 8 rfl (LeftS.cons (t := 13) rfl (Surv.freshVT (by decide)) (LeftS.cons (t := 35) rfl (Surv.tup3 (Surv.v _) (Surv.hd (Surv.own (by decide))) (Surv.v _)) (LeftS.cons (t := 36) rfl (Surv.old hb) (LeftS.cons (t := 37) rfl (Surv.old hb) (LV 38 rfl (LV 40 rfl (LV 41 rfl (LV 42 rfl (LV 43 rfl (LeftS.cons (t := 44) rfl (Surv.old hb) (LV 45 rfl (LV 46 rfl (LeftS.cons (t := 47) rfl (Surv.tup3 (Surv.v _) (Surv.hd (Surv.own (by decide))) (Surv.v _)) (LV 48 rfl (LeftS.cons (t := 49) rfl (Surv.hd (Surv.own (by decide))) (LV 50 rfl (LV 87 rfl (LeftS.cons (t := 1000005) rfl (Surv.old hb) (LeftS.cons (t := 1000008) rfl (Surv.old hb) (LeftS.cons (t := 1000205) rfl (Surv.old hb) (LeftS.cons (t := 1000208) rfl (Surv.old hb) LN)))))))))))))))))))))))))))) ?_ ?_
         ·refine AnyT.step 20 [] (by kernel_rfl) ?_
          refine NextT.pure (by kernel_rfl) rfl rfl rfl (ok_assign rfl) ?_ ?_
          ·refine AnyT.last (by kernel_rfl) ?_
           exact (SubL.cons (t := 1) rfl (Le.old _ _) (SubL.cons (t := 5) rfl (Le.refl _) (SubL.cons (t := 6) rfl (Le.old _ _) (SubL.cons (t := 7) rfl (Le.refl _) (SubL.cons (t := 8) rfl (Le.refl _) (SubL.cons (t := 13) rfl (Le.refl _) (SubL.cons (t := 14) rfl (Le.refl _) (SubL.cons (t := 15) rfl (Le.refl _) (SubL.cons (t := 1000005) rfl (Le.old _ _) (SubL.cons (t := 1000008) rfl (Le.old _ _) (SubL.cons (t := 1000205) rfl (Le.old _ _) (SubL.cons (t := 1000208) rfl (Le.old _ _) SubL.nil))))))))))))
          exact trivial
         exact trivial
        refine NextT.eff rfl (eff_storeFA (n := 118) (size36.of rfl) (Nat.le_refl _) rfl rfl rfl rfl (fun b hb => Surv.own (by decide)) (fun b hb => (LeftS.cons (t := 1) rfl (Surv.old hb) (LV 5 rfl (LeftS.cons (t := 6) rfl (Surv.old hb) (LV 7 rfl (LV 8 rfl (LeftS.cons (t := 13) rfl (Surv.freshVT (by decide)) (LeftS.cons (t := 35) rfl (Surv.tup3 (Surv.v _) (Surv.hd (Surv.own (by decide))) (Surv.v _)) (LeftS.cons (t := 36) rfl (Surv.old hb) (LeftS.cons (t := 37) rfl (Surv.old hb) (LV 38 rfl (LV 40 rfl (LV 41 rfl (LV 42 rfl (LV 43 rfl (LeftS.cons (t := 44) rfl (Surv.old hb) (LV 45 rfl (LV 46 rfl (LeftS.cons (t := 47) rfl (Surv.tup3 (Surv.v _) (Surv.hd (Surv.own (by decide))) (Surv.v _)) (LV 48 rfl (LeftS.cons (t := 49) rfl (Surv.hd (Surv.own (by decide))) (LV 87 rfl (LeftS.cons (t := 1000005) rfl (Surv.old hb) (LeftS.cons (t := 1000008) rfl (Surv.old hb) (LeftS.cons (t := 1000205) rfl (Surv.old hb) (LeftS.cons (t := 1000208) rfl (Surv.old hb) LN))))))))))))))))))))))))))) ?_ ?_
        ·refine AnyT.step 15 [] (by kernel_rfl) ?_
         refine NextT.pure (by kernel_rfl) rfl rfl rfl (ok_extract rfl rfl) ?_ ?_
         ·refine AnyT.step 20 [] (by kernel_rfl) ?_
          refine NextT.pure (by kernel_rfl) rfl rfl rfl (ok_assign rfl) ?_ ?_
          ·refine AnyT.last (by kernel_rfl) ?_
           exact (SubL.cons (t := 1) rfl (Le.old _ _) (SubL.cons (t := 5) rfl (Le.refl _) (SubL.cons (t := 6) rfl (Le.old _ _) (SubL.cons (t := 7) rfl (Le.refl _) (SubL.cons (t := 8) rfl (Le.refl _) (SubL.cons (t := 13) rfl (Le.refl _) (SubL.cons (t := 14) rfl (Le.refl _) (SubL.cons (t := 15) rfl (Le.refl _) (SubL.cons (t := 1000005) rfl (Le.old _ _) (SubL.cons (t := 1000008) rfl (Le.old _ _) (SubL.cons (t := 1000205) rfl (Le.old _ _) (SubL.cons (t := 1000208) rfl (Le.old _ _) SubL.nil))))))))))))
          exact trivial
         exact trivial
        exact trivial
       refine NextT.pure (by kernel_rfl) rfl rfl rfl (ok_extract rfl rfl) ?_ ?_
       ·refine AnyT.step 14 [] (by kernel_rfl) ?_
        refine NextT.pure (by kernel_rfl) rfl rfl rfl (ok_extract rfl rfl) ?_ ?_
        ·refine AnyT.step 19 [] (by kernel_rfl) ?_
         refine NextT.eff rfl (eff_storeFA (n := 118) (size36.of rfl) (Nat.le_refl _) rfl rfl rfl rfl (fun b hb => Surv.own (by decide)) (fun b hb => (LeftS.cons (t := 1) rfl (Surv.old hb) (LV 5 rfl (LeftS.cons (t := 6) rfl (Surv.old hb) (LV 7 rfl (LV 8 rfl (LeftS.cons (t := 13) rfl (Surv.freshVT (by decide)) (LeftS.cons (t := 35) rfl (Surv.tup3 (Surv.v _) (Surv.hd (Surv.own (by decide))) (Surv.v _)) (LeftS.cons (t := 36) rfl (Surv.old hb) (LeftS.cons (t := 37) rfl (Surv.old hb) (LV 38 rfl (LV 40 rfl (LV 41 rfl (LV 42 rfl (LV 43 rfl (LeftS.cons (t := 44) rfl (Surv.old hb) (LV 45 rfl (LV 46 rfl (LeftS.cons (t := 47) rfl (Surv.tup3 (Surv.v _) (Surv.hd (Surv.own (by decide))) (Surv.v _)) (LV 48 rfl (LeftS.cons (t := 49) rfl (Surv.hd (Surv.own (by decide))) (LV 50 rfl (LV 87 rfl (LeftS.cons (t := 1000005) rfl (Surv.old hb) (LeftS.cons (t := 1000008) rfl (Surv.old hb) (LeftS.cons (t := 1000205) rfl (Surv.old hb) (LeftS.cons (t := 1000208) rfl (Surv.old hb) LN)))))))))))))))))))))))))))) ?_ ?_
         ·refine AnyT.step 20 [] (by kernel_rfl) ?_
          refine NextT.pure (by kernel_rfl) rfl rfl rfl (ok_assign rfl) ?_ ?_
          ·refine AnyT.last (by kernel_rfl) ?_
           exact (SubL.cons (t := 1) rfl (Le.old _ _) (SubL.cons (t := 5) rfl (Le.refl _) (SubL.cons (t := 6) rfl (Le.old _ _) (SubL.cons (t := 7) rfl (Le.refl _) (SubL.cons (t := 8) rfl (Le.refl _) (SubL.cons (t := 13) rfl (Le.refl _) (SubL.cons (t := 14) rfl (Le.refl _) (SubL.cons (t := 15) rfl (Le.refl _) (SubL.cons (t := 1000005) rfl (Le.old _ _) (SubL.cons (t := 1000008) rfl (Le.old _ _) (SubL.cons (t := 1000205) rfl (Le.old _ _) (SubL.cons (t := 1000208) rfl (Le.old _ _) SubL.nil))))))))))))
          exact trivial
         exact trivial
        exact trivial
       exact trivial
     ·refine A.openFresh (t := 13) (k := 1000013) rfl fun b13 hBr13 => ?_
      have hBb13 : w₀.heap.size ≤ b13 := by omega
      refine A.openFreshA (t := 14) (k := 1000014) rfl fun b14 hBr14 => ?_
      have hBb14 : w₀.heap.size ≤ b14 := by omega
      refine A.seq ?_
      refine GS ?_
      refine TL ?_
      refine RM rfl ?_
      refine RB rfl rfl rfl ?_
      refine RN ?_
      refine A.cond rfl (fun hc52 => ?_) (fun hc52 => ?_)
      ·have he : e = 10 := hAlt.resolve_left (fun h => by simp [h.1] at hc52)
       have hVX := hV
       obtain ⟨cs', hcs'⟩ : ∃ x, x = s.2.1 := ⟨_, rfl⟩
       obtain ⟨m', hm'⟩ : ∃ x, x = s.2.2.1 := ⟨_, rfl⟩
       obtain ⟨gv', hgv'⟩ : ∃ x, x = s.2.2.2 := ⟨_, rfl⟩
       have hV' : Valid cs' m' l r := by rw [hcs', hm']; exact hVX
       have hG' : ∀ p ∈ gv', p.2 < cs'.getD p.1 0 := by rw [hcs', hgv']; exact hG
       have hL' : gv'.length ≤ s.1 + 1 := by rw [hgv']; omega
       refine A.seq ?_
       refine GS ?_
       refine TL ?_
       refine RM rfl ?_
       refine RBS rfl rfl rfl (.bool false) (by rw [he]; rfl) ?_
       refine RN ?_
       refine A.no rfl ?_
       refine A.skip ?_
       refine EN ?_
       refine A.exit ?_
       refine End.exit_then ?_
       refine End.exit_past (by decide) ?_
       refine End.exit_then ?_
       refine End.exit_here ?_
       refine EN ?_
       refine A.closeA (k := 1000005) (k' := 1000205) (by assumption) rfl rfl ?_
       refine GE ?_
       refine TL ?_
       refine RM rfl ?_
       refine RBS rfl rfl rfl (nI (s.1 + 1)) (by rw [wrap_i64 (by omega) (by omega)]; exact congrArg (Value.int .i64) (by omega)) ?_
       refine RA rfl ?_
       refine RN ?_
       refine End.sub (KC 1 rfl (KC 5 rfl (KC 6 rfl (KC 7 rfl (KC 1000005 rfl (KC 1000008 rfl (KC 1000013 rfl (KC 1000014 rfl (KC 1000205 rfl (KC 1000208 rfl KN)))))))))) ?_
       refine End.normal_then ?_
       refine End.again (s.1 + 1, cs', m', gv') ?_ ?_ ?_
       ·exact ⟨by show s.1 + 1 ≤ _; omega, hV', hG', hL'⟩
       ·show L.length - (s.1 + 1) < L.length - s.1; omega
       ·exact (KC 1 rfl (KC 5 rfl (KE 6 rfl (by rw [hgv']; first | done | rfl | (rw [cellsN_snoc, List.length_append]; rfl)) (KC 7 rfl (KE 1000005 rfl (by rw [hcs', hm']; try rfl) KN)))))
      ·have he : e = 0 := by simpa using hc52
       obtain ⟨_, rfl, rfl, hcm, hC, rfl, rfl, rfl⟩ := hAlt.resolve_right (by omega)
       have hVX : Valid C s.2.2.1 l r := by rw [hC]; exact valid_take hV hcm
       have hlenX : C.length = s.2.1.length := by rw [hC, List.length_set]
       obtain ⟨cs', hcs'⟩ : ∃ x, x = C := ⟨_, rfl⟩
       obtain ⟨m', hm'⟩ : ∃ x, x = s.2.2.1 := ⟨_, rfl⟩
       obtain ⟨gv', hgv'⟩ : ∃ x, x = s.2.2.2 ++ [(q, s.2.1.getD q 0)] := ⟨_, rfl⟩
       have hV' : Valid cs' m' l r := by rw [hcs', hm']; exact hVX
       have hG' : ∀ p ∈ gv', p.2 < cs'.getD p.1 0 := by rw [hcs', hgv', hC]; exact take_inv hq1 hG
       have hL' : gv'.length ≤ s.1 + 1 := by rw [hgv']; simp; omega
       refine A.skip ?_
       refine EN ?_
       refine GS ?_
       refine TF 1 ?_
       refine RS (ok_loadH (s := 1000014) (by decide) Try.underlying36 rfl (size36.of rfl) rfl rfl) ?_
       refine RN ?_
       refine ⟨_, eff_storeH (n := 118) (s := 1000005) (size36.of rfl) rfl rfl rfl hBb5 rfl rfl (Surv.own (by decide)) (LO 1 rfl (LV 5 rfl (LeftS.cons (t := 6) rfl (Surv.ownP (by decide)) (LV 7 rfl (LV 8 rfl (LV 13 rfl (LB 1000008 rfl (LT 1000013 rfl (LeftS.cons (t := 1000205) rfl (Surv.valM (Surv.own (by decide))) (LeftS.cons (t := 1000208) rfl (Surv.valM (Surv.own (by decide))) LN)))))))))), ?_⟩
       refine TL ?_
       refine RN ?_
       refine A.seq ?_
       refine GS ?_
       refine TL ?_
       refine RA rfl ?_
       refine RN ?_
       refine A.block ?_
       refine A.loop (ι := Nat) (fun kk => kk ≤ s.2.2.2.length) (fun kk => [(1, old w₀.heap.size (byt L)), (5, .v (.pointer (some ⟨b5, 0, none⟩))), (6, ownP w₀.heap.size 25 2 s.2.2.2.length (cellsN s.2.2.2)), (7, .v (nI (s.1))), (8, .v (.pointer (some ⟨b8, 0, none⟩))), (13, .v (.pointer (some ⟨b13, 0, none⟩))), (16, .v (nI kk)), (1000005, varA b5 36 (own 0 23 C.length (rowQ C)) (alR s.2.2.1 l r)), (1000008, blk b8 36 (v5 :: alR s.2.2.1 l r)), (1000013, blk b13 25 [nW q, nQ (s.2.1.getD q 0)]), (1000208, valM v5 (own 0 23 s.2.1.length (rowQ s.2.1)))]) (fun kk => s.2.2.2.length - kk) 0 ?_ ?_ ?_
       ·exact Nat.zero_le _
       ·exact (KC 1 rfl (KC 5 rfl (KC 6 rfl (KC 7 rfl (KC 8 rfl (KC 13 rfl (KE 16 rfl (by rfl) (KC 1000005 rfl (KC 1000008 rfl (KC 1000013 rfl (KC 1000208 rfl KN)))))))))))
       intro kk hkk'
       refine A.seq ?_
       refine GS ?_
       refine TL ?_
       refine RM rfl ?_
       refine RM rfl ?_
       refine RS (ok_lenP Try.underlying55 rfl) ?_
       refine RB rfl rfl rfl ?_
       refine RN ?_
       refine A.cond rfl (fun hc59 => ?_) (fun hc59 => ?_)
       ·have hkk : kk < s.2.2.2.length := by simp at hc59; omega
        refine A.skip ?_
        refine EN ?_
        refine A.seq ?_
        refine A.block ?_
        refine GD ?_
        refine TL ?_
        refine RM rfl ?_
        refine RM rfl ?_
        refine RS ((ok_indexP kk Try.underlying55 infoN rfl rfl hkk).le (d' := elemP (nvP (s.2.2.2.getD kk (0, 0)))) (Le.eq (by rw [cellsN_get hkk]))) ?_
        refine RS (ok_loadElemP Try.underlying25 rfl (size25.of rfl) rfl) ?_
        refine RS (ok_loadA (s := 1000013) (by decide) Try.underlying25 rfl (size25.of (rfl)) rfl rfl) ?_
        refine RS (ok_eqlT (n := 3) false flatN (by decide) (by kernel_rfl) (by kernel_rfl) rfl rfl (kinN _ _) (kinN _ _) (neN (given_ne hkk hG))) ?_
        refine RN ?_
        refine A.no rfl ?_
        refine A.skip ?_
        refine End.normal_block ?_
        refine EN ?_
        refine GE ?_
        refine TL ?_
        refine RM rfl ?_
        refine RBS rfl rfl rfl (nI (kk + 1)) (by rw [wrap_i64 (by omega) (by omega)]; exact congrArg (Value.int .i64) (by omega)) ?_
        refine RA rfl ?_
        refine RN ?_
        refine End.normal_then ?_
        refine End.again (kk + 1) ?_ ?_ ?_
        ·show _ ≤ _; omega
        ·show _ - _ < _ - _; omega
        ·exact (KC 1 rfl (KC 5 rfl (KC 6 rfl (KC 7 rfl (KC 8 rfl (KC 13 rfl (KC 16 rfl (KC 1000005 rfl (KC 1000008 rfl (KC 1000013 rfl (KC 1000208 rfl KN)))))))))))
       ·refine A.exit ?_
        refine End.exit_then ?_
        refine End.exit_then ?_
        refine End.exit_here ?_
        refine EN ?_
        refine A.seq ?_
        refine A.openA (k := 1000005) (k' := 1000205) rfl fun v6 hv6 => ?_
        refine GS ?_
        refine TL ?_
        refine RS (ok_field field25_1 (by decide) rfl) ?_
        refine RS (ok_loadV (s := 1000013) (by decide) Try.underlying23 rfl rfl rfl (rfl)) ?_
        refine RS (ok_field field36_1 (by decide) rfl) ?_
        refine RS (ok_loadV (s := 1000005) (by decide) Try.underlying23 rfl rfl rfl (rfl)) ?_
        refine RBS rfl rfl rfl (.bool false) (congrArg Value.bool (decide_eq_false (by omega))) ?_
        refine RN ?_
        refine A.no rfl ?_
        refine A.skip ?_
        refine EN ?_
        refine GE ?_
        refine TF 3 ?_
        refine RM rfl ?_
        refine RS (ok_loadA (s := 1000013) (by decide) Try.underlying25 rfl (size25.of (rfl)) rfl rfl) ?_
        refine RS (ok_build1P Try.underlying55 infoN rfl rfl) ?_
        refine RN ?_
        refine ⟨_, eff_appendP (n := 118) Try.underlying55 infoN (by decide) (by decide) rfl rfl rfl rfl rfl (by omega) (by decide) (fun g hg => (LO 1 rfl (LV 5 rfl (LV 7 rfl (LV 8 rfl (LT 1000005 rfl (LT 1000008 rfl (LeftS.cons (t := 1000205) rfl (Surv.valM (Surv.own (by decide))) (LeftS.cons (t := 1000208) rfl (Surv.valM (Surv.own (by decide))) LN))))))))), ?_⟩
        refine TL ?_
        refine RA rfl ?_
        refine RN ?_
        refine End.normal_block ?_
        refine EN ?_
        refine GS ?_
        refine TL ?_
        refine RS (ok_field field36_1 (by decide) rfl) ?_
        refine RS (ok_loadV (s := 1000005) (by decide) Try.underlying23 rfl rfl rfl (rfl)) ?_
        refine RS (ok_field field36_1 (by decide) rfl) ?_
        refine RS (ok_loadV (s := 1000008) (by decide) Try.underlying23 rfl rfl rfl (rfl)) ?_
        refine RBS rfl rfl rfl (.bool false) (by first | (simp; done) | (simp; omega)) ?_
        refine RM rfl ?_
        refine RQ (ok_field field36_0 (by decide) rfl) ?_
        refine RQ (OpOk.valP (ok_loadV (s := 1000005) (by decide) Try.underlying34 rfl rfl rfl (rfl)) (k := 1000205) (by decide) rfl) ?_
        refine RQ (ok_lenU _ Try.underlying34 rfl (own_vlst (rowQ_length _).symm) (rowQ_length _)) ?_
        refine RQ (ok_field field36_0 (by decide) rfl) ?_
        refine RQ (OpOk.valP (ok_loadV (s := 1000008) (by decide) Try.underlying34 rfl rfl rfl (rfl)) (k := 1000208) (by decide) rfl) ?_
        refine RQ (ok_lenU _ Try.underlying34 rfl (own_vlst (rowQ_length _).symm) (rowQ_length _)) ?_
        refine RQ (ok_bin rfl rfl rfl) ?_; refine RZ (.bool false) (congrArg Value.bool (bne_eq_false_iff_eq.2 (by omega))) ?_
        refine RP rfl rfl ?_
        refine RM rfl ?_
        refine RQ (OpOk.hdP (ok_loadA (s := 1000005) (by decide) Try.underlying36 rfl (size36.of (rfl)) rfl rfl) (by assumption) (k := 1000205) (by decide) rfl) ?_
        refine RQ (ok_call (Check_ok _ _ _ _ hVX) (Args.cons rfl (hd_le (own_vlst (rowQ_length _).symm)) Args.nil)) ?_
        refine RQ (ok_bin rfl rfl rfl) ?_; refine RZ (.bool false) (by rfl) ?_
        refine RP rfl rfl ?_
        refine RN ?_
        refine A.sub (KC 1 rfl (KC 5 rfl (KC 6 rfl (KC 7 rfl (KC 116 rfl (KC 1000005 rfl (KC 1000008 rfl (KC 1000205 rfl (KC 1000208 rfl KN))))))))) ?_
        refine A.no rfl ?_
        refine A.skip ?_
        refine End.normal_block ?_
        refine EN ?_
        refine A.closeA (k := 1000005) (k' := 1000205) (by assumption) rfl rfl ?_
        refine GE ?_
        refine TL ?_
        refine RM rfl ?_
        refine RBS rfl rfl rfl (nI (s.1 + 1)) (by rw [wrap_i64 (by omega) (by omega)]; exact congrArg (Value.int .i64) (by omega)) ?_
        refine RA rfl ?_
        refine RN ?_
        refine End.normal_then ?_
        refine End.again (s.1 + 1, cs', m', gv') ?_ ?_ ?_
        ·exact ⟨by show s.1 + 1 ≤ _; omega, hV', hG', hL'⟩
        ·show L.length - (s.1 + 1) < L.length - s.1; omega
        ·exact (KC 1 rfl (KC 5 rfl (KE 6 rfl (by rw [hgv']; first | done | rfl | (rw [cellsN_snoc, List.length_append]; rfl)) (KC 7 rfl (KE 1000005 rfl (by rw [hcs', hm']; try rfl) KN)))))
 ·refine A.exit ?_
  refine End.exit_then ?_
  refine End.exit_then ?_
  refine End.exit_here ?_
  refine EN ?_
  refine GS ?_
  refine TL ?_
  refine RS (ok_call lives8_fn Args.nil) ?_
  refine RA rfl ?_
  refine RN ?_
  refine A.ret ?_
  exact End.ret1 rfl rfl (by first | exact Le.refl _ | exact Le.old _ _)
theorem NoncesOnce_fn (us : List Nat) (M R O : Nat) (L : List UInt8) (hu : ∀ a ∈ us, a < 65536) (hM : M < 256) (hR : R < 256) (hO : O < 65536) : Fn Try.prog 6 [hdD (vlst (us.map sV)) [nB M, nB R, .int .u16 ((O : Nat) : Int)], byt L] (.v (.bool true)) := by
 by_cases h60 : L.length ≤ 60
 ·obtain ⟨r, hr⟩ : ∃ r, r = R % 20 + 1 := ⟨_, rfl⟩
  obtain ⟨m, hm⟩ : ∃ m, m = r * (M % 10) := ⟨_, rfl⟩
  obtain ⟨l, hl⟩ : ∃ l, l = max m r + O % 100 := ⟨_, rfl⟩
  have hm2 : m ≤ 200 := by rw [hm]; exact Nat.le_trans (Nat.mul_le_mul (show r ≤ 20 by omega) (show M % 10 ≤ 10 by omega)) (by decide)
  exact NO_main us _ M R O m l r L h60 (Of_fnB us M R O r m l hu hM hR hO hr hm hl) ⟨ofC_length.1, ofC_length.2, ofC_le, by omega, by omega, by omega, by omega⟩ (by omega)
 ·exact NO_long us M R O L (by omega)
end Go.Proofs.Ytmedljdbamnoiaa
