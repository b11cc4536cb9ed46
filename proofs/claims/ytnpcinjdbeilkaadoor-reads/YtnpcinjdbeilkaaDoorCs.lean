/-
  WHAT IS CERTAIN (P6), plain: which drops count, which texts they fit, which blocks are the same in all of those; and that what Pour answers reads well and fits.
-/
import Derived.Test.YtnpcinjdbeilkaaDoorRd
namespace Go.Proofs.YtnpcinjdbeilkaaDoor.Dw
open Period

theorem deg_uniq {k r d d' : Nat} (h : Deg k r d) (h' : Deg k r d') : d = d' := by
  rcases Nat.lt_trichotomy d d' with e | e | e
  · have := tot_mono k d (d' - 1) (by omega); have := h.2.2.2; have := h'.2.2.1; omega
  · exact e
  · have := tot_mono k d' (d - 1) (by omega); have := h'.2.2.2; have := h.2.2.1; omega
theorem enough_uniq {k x d J J' : Nat} (h : Enough k x d J) (h' : Enough k x d J') : J = J' := by
  rcases Nat.lt_trichotomy J J' with e | e | e
  · have := h'.2 J e; have := h.1; omega
  · exact e
  · have := h.2 J' e; have := h'.1; omega
theorem drawn_uniq {k id m m' : Nat} (h : Drawn k id m) (h' : Drawn k id m') : m = m' := by
  obtain ⟨x, d, J, hx, hd, hJ, hm⟩ := h
  obtain ⟨x', d', J', hx', hd', hJ', hm'⟩ := h'
  have ex : x = x' := by rw [← hx, ← hx']
  subst ex
  have ed := deg_uniq hd hd'
  subst ed
  have eJ := enough_uniq hJ hJ'
  subst eJ
  rw [← hm, ← hm']

theorem body_len' (m size k id : Nat) (t : ByteArray) : (body m size k id t).length = size + 5 := by
  simp [body, head, pair, dataOf]
theorem drop_len (m size k id : Nat) (t : ByteArray) : (drop m size k id t).length = size + 7 := by
  unfold drop; rw [List.length_append, body_len']; simp [pair]
theorem body_lt (m size k id : Nat) (t : ByteArray) (hs : size < 256) (hid : id < 65536) (ht : t.size < 65536) : ∀ b ∈ body m size k id t, b < 256 := by
  intro b hb
  simp only [body, head, List.mem_append, List.mem_singleton] at hb
  rcases hb with ((hb | hb) | hb) | hb
  · exact pair_lt _ hid b hb
  · exact pair_lt _ ht b hb
  · omega
  · exact dataOf_lt _ _ _ _ _ b hb
theorem drop_lt (m size k id : Nat) (t : ByteArray) (hs : size < 256) (hid : id < 65536) (ht : t.size < 65536) : ∀ b ∈ drop m size k id t, b < 256 := by
  intro b hb
  unfold drop at hb
  rcases List.mem_append.mp hb with hb | hb
  · exact body_lt m size k id t hs hid ht b hb
  · exact pair_lt _ (crc_lt _ _) b hb

/-- the drop's byte, by its number -/
theorem drop_at (m size k id : Nat) (t : ByteArray) (hs : size < 256) (hid : id < 65536) (ht : t.size < 65536) (i : Nat) (hi : i < size + 7) :
    byteAt (str (drop m size k id t)) i = (drop m size k id t)[i]'(by rw [drop_len]; exact hi) :=
  byteAt_str _ _ _ (drop_lt m size k id t hs hid ht)
theorem drop_head (m size k id : Nat) (t : ByteArray) (hs : size < 256) (hid : id < 65536) (ht : t.size < 65536) :
    rid (str (drop m size k id t)) = id ∧ rlen (str (drop m size k id t)) = t.size ∧ rsz (str (drop m size k id t)) = size := by
  have h := fun i (hi : i < size + 7) => drop_at m size k id t hs hid ht i hi
  unfold rid rlen rsz
  rw [h 0 (by omega), h 1 (by omega), h 2 (by omega), h 3 (by omega), h 4 (by omega)]
  simp only [drop, body, head, pair, List.cons_append, List.nil_append, List.getElem_cons_zero, List.getElem_cons_succ]
  refine ⟨by omega, by omega, trivial⟩
theorem drop_data (m size k id : Nat) (t : ByteArray) (hs : size < 256) (hid : id < 65536) (ht : t.size < 65536) (p : Nat) (hp : p < size) :
    byteAt (str (drop m size k id t)) (5 + p) = datum m size k t p := by
  rw [drop_at m size k id t hs hid ht (5 + p) (by omega)]
  have e : (drop m size k id t)[5 + p]? = some (datum m size k t p) := by
    have h5 : (head id t.size size).length = 5 := rfl
    unfold drop body
    rw [List.append_assoc, List.getElem?_append_right (by rw [h5]; omega), h5, List.getElem?_append_left (by rw [dataOf_len]; omega)]
    simp [dataOf, show 5 + p - 5 = p by omega, hp]
  rw [List.getElem?_eq_getElem (by rw [drop_len]; omega)] at e
  exact Option.some.inj e
theorem drop_sum (m size k id : Nat) (t : ByteArray) (hs : size < 256) (hid : id < 65536) (ht : t.size < 65536) :
    256 * byteAt (str (drop m size k id t)) (size + 5) + byteAt (str (drop m size k id t)) (size + 6) = crc (str (drop m size k id t)) (size + 5) := by
  have hb := body_len' m size k id t
  have hc : crc (str (drop m size k id t)) (size + 5) = crc (str (body m size k id t)) (size + 5) := by
    apply crc_congr
    intro i hi
    rw [drop_at m size k id t hs hid ht i (by omega), byteAt_str _ i (by omega) (body_lt m size k id t hs hid ht)]
    unfold drop
    rw [List.getElem_append_left]
  obtain ⟨c, hcd⟩ : ∃ c, c = crc (str (body m size k id t)) (size + 5) := ⟨_, rfl⟩
  have hd : drop m size k id t = body m size k id t ++ pair c := by unfold drop; rw [str_size, hb, hcd]
  rw [hc, ← hcd]
  have h0 := drop_at m size k id t hs hid ht (size + 5) (by omega)
  have h1 := drop_at m size k id t hs hid ht (size + 6) (by omega)
  have e0 : (drop m size k id t)[size + 5]? = some (c / 256) := by
    rw [hd, List.getElem?_append_right (by omega), hb, Nat.sub_self]; rfl
  have e1 : (drop m size k id t)[size + 6]? = some (c % 256) := by
    rw [hd, List.getElem?_append_right (by omega), hb, show size + 6 - (size + 5) = 1 by omega]; rfl
  rw [List.getElem?_eq_getElem (by rw [drop_len]; omega)] at e0 e1
  rw [h0, h1, Option.some.inj e0, Option.some.inj e1]
  omega

theorem firstNZ_none (s : ByteArray) (p n : Nat) (h : ∀ j, j < n → byteAt s (5 + (p + j)) = 0) : firstNZ s p n = none := by
  induction n generalizing p with
  | zero => rfl
  | succ n ih =>
    simp only [firstNZ]
    rw [if_neg (by simpa using h 0 (by omega))]
    exact ih (p + 1) (fun j hj => by have := h (j + 1) (by omega); rw [show p + 1 + j = p + (j + 1) by omega]; exact this)
theorem lst_mem (m n i : Nat) : i ∈ lst m n ↔ i < n ∧ m.testBit i = true := by simp [lst]
theorem byteAt_past (t : ByteArray) (i : Nat) (h : t.size ≤ i) : byteAt t i = 0 := by unfold byteAt; rw [dif_neg (by omega)]
theorem cnt_last (n size : Nat) (hs : 0 < size) (hn : 0 < n) : (cnt n size - 1) * size < n ∧ n ≤ cnt n size * size := by
  unfold cnt
  have h1 := Nat.div_add_mod (n + size - 1) size
  have h2 := Nat.mod_lt (n + size - 1) hs
  have hq : 0 < (n + size - 1) / size := Nat.div_pos (by omega) hs
  generalize (n + size - 1) / size = q at *
  rw [Nat.mul_comm] at h1
  obtain ⟨q', rfl⟩ : ∃ q', q = q' + 1 := ⟨q - 1, by omega⟩
  rw [Nat.add_mul] at h1 ⊢
  simp only [Nat.add_sub_cancel]
  omega
theorem datum_past (m size k p : Nat) (t : ByteArray) (hl : lst m k = [k - 1]) (hp : t.size ≤ (k - 1) * size + p) : datum m size k t p = 0 := by
  unfold datum
  have h : ∀ n, n ≤ k → xr (blk m size t p) n = 0 := by
    intro n
    induction n with
    | zero => intro _; rfl
    | succ n ih =>
      intro hn
      simp only [xr]
      rw [ih (by omega), Nat.zero_xor]
      unfold blk
      by_cases hb : m.testBit n = true
      · rw [if_pos hb]
        have hmem : n ∈ lst m k := (lst_mem m k n).mpr ⟨by omega, hb⟩
        rw [hl] at hmem
        have e : n = k - 1 := by simpa using hmem
        rw [e]; exact byteAt_past t _ hp
      · rw [if_neg hb]
  exact h k (Nat.le_refl _)

/-- may it be poured? -/
def Right (t : ByteArray) (size : Nat) : Prop := 1 ≤ t.size ∧ t.size ≤ 400 ∧ 1 ≤ size ∧ size ≤ 16 ∧ cnt t.size size ≤ 80
/-- the drop of a text -/
noncomputable def dropOf (t : ByteArray) (size id : Nat) : ByteArray := str (drop (maskOf (cnt t.size size) id) size (cnt t.size size) id t)
theorem dropOf_good (t : ByteArray) (size id : Nat) (hr : Right t size) (hid : id ≤ 65535) :
    breaks (dropOf t size id) = none ∧ rid (dropOf t size id) = id ∧ rlen (dropOf t size id) = t.size ∧ rsz (dropOf t size id) = size := by
  obtain ⟨h1, h2, h3, h4, h5⟩ := hr
  have hh := drop_head (maskOf (cnt t.size size) id) size (cnt t.size size) id t (by omega) (by omega) (by omega)
  have hsum := drop_sum (maskOf (cnt t.size size) id) size (cnt t.size size) id t (by omega) (by omega) (by omega)
  have hdat := fun p (hp : p < size) => drop_data (maskOf (cnt t.size size) id) size (cnt t.size size) id t (by omega) (by omega) (by omega) p hp
  have hsz : (dropOf t size id).size = size + 7 := by unfold dropOf; rw [str_size, drop_len]
  unfold dropOf at hsz ⊢
  obtain ⟨s, hs⟩ : ∃ s, s = str (drop (maskOf (cnt t.size size) id) size (cnt t.size size) id t) := ⟨_, rfl⟩
  rw [← hs] at hsz hh hsum hdat ⊢
  refine ⟨?_, hh⟩
  obtain ⟨e1, e2, e3⟩ := hh
  unfold breaks
  rw [e2, e3, if_neg (by omega), if_neg (by omega), if_neg (by omega), if_neg (by omega), if_neg (by omega), if_neg (by rw [hsum]; simp)]
  by_cases hl : lone s
  · rw [if_pos hl]
    unfold lone at hl
    rw [e1, e2, e3] at hl
    have hlast := cnt_last t.size size h3 h1
    apply firstNZ_none
    intro j hj
    unfold endOf at hj ⊢
    rw [hdat _ (by omega)]
    exact datum_past _ _ _ _ _ hl (by omega)
  · rw [if_neg hl]

/-! which drops count; which texts they fit -/
def Good (d : ByteArray) : Prop := breaks d = none
def Counts (L S : Nat) (d : ByteArray) : Prop := Good d ∧ rlen d = L ∧ rsz d = S
/-- d is a drop of t -/
def Fits (L S : Nat) (t d : ByteArray) : Prop := ∀ p, p < S → byteAt d (5 + p) = datum (maskOf (cnt L S) (rid d)) S (cnt L S) t p
def AllFit (L S : Nat) (t : ByteArray) (ds : List ByteArray) : Prop := t.size = L ∧ ∀ d, d ∈ ds → Counts L S d → Fits L S t d
def Possible (L S : Nat) (ds : List ByteArray) : Prop := ∃ t, AllFit L S t ds
/-- block b is the same in all texts that fit -/
def Certain (L S : Nat) (ds : List ByteArray) (b : Nat) : Prop := ∀ t t', AllFit L S t ds → AllFit L S t' ds → ∀ p, p < S → b * S + p < L → byteAt t (b * S + p) = byteAt t' (b * S + p)

theorem dropOf_fits (t : ByteArray) (size id : Nat) (hr : Right t size) (hid : id ≤ 65535) : Counts t.size size (dropOf t size id) ∧ Fits t.size size t (dropOf t size id) := by
  obtain ⟨h1, h2, h3, h4⟩ := dropOf_good t size id hr hid
  refine ⟨⟨h1, h3, h4⟩, fun p hp => ?_⟩
  rw [h2]
  obtain ⟨g1, g2, g3, g4, g5⟩ := hr
  exact drop_data (maskOf (cnt t.size size) id) size (cnt t.size size) id t (by omega) (by omega) (by omega) p hp
theorem AllFit.sub {L S : Nat} {t : ByteArray} {ds ds' : List ByteArray} (h : AllFit L S t ds) (hs : ∀ d, d ∈ ds' → d ∈ ds) : AllFit L S t ds' := ⟨h.1, fun d hd hc => h.2 d (hs d hd) hc⟩
/-- more drops: what was certain stays so -/
theorem Certain.more {L S : Nat} {ds ds' : List ByteArray} {b : Nat} (h : Certain L S ds b) (hs : ∀ d, d ∈ ds → d ∈ ds') : Certain L S ds' b :=
  fun t t' ht ht' => h t t' (ht.sub hs) (ht'.sub hs)
/-- the order, and how often a drop comes, do not matter -/
theorem certain_same {L S : Nat} {ds ds' : List ByteArray} (h : ∀ d, d ∈ ds ↔ d ∈ ds') (b : Nat) : Certain L S ds b ↔ Certain L S ds' b :=
  ⟨fun hc => hc.more (fun d hd => (h d).mp hd), fun hc => hc.more (fun d hd => (h d).mpr hd)⟩
end Go.Proofs.YtnpcinjdbeilkaaDoor.Dw
