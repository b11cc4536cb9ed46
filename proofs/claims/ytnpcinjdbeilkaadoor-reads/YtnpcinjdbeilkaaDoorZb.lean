import Derived.Test.YtnpcinjdbeilkaaDoorZa
namespace Go.Proofs.YtnpcinjdbeilkaaDoor
open Go.RowKit Dw Period
set_option maxRecDepth 100000

theorem and_high (z : Nat) (hz : z < 65536) : bits BinOp.and IntKind.u16 (z : Int) 32768 = ((z / 32768 % 2 * 32768 : Nat) : Int) := by
  have h := u16_and_nat z 32768 hz (by decide)
  have e := nat_bit 15 z
  rw [show (2 : Nat) ^ 15 = 32768 from by decide] at e
  rw [e] at h; exact h

set_option maxHeartbeats 400000 in
theorem wturn_any (c : Nat) (hc : c < 65536) (w : World) :
    Calls Tryd.prog 84 #[.int .u16 (c : Int)] w fun e w' => e = .returned (.int .u16 (it cr1 8 c : Nat)) ∧ w' = w := by
  go_enter Tryd.func84, Tryd.ntmps84
  go_wp2
  go_loop [0, 3] (fun x i => ∃ j : Nat, j ≤ 8 ∧ i = .int .i64 (j : Int) ∧ x = .int .u16 (it cr1 j c : Nat)) (fun _ i => 8 - (intOf i).toNat)
  case atStart => exact ⟨0, by omega, rfl, rfl⟩
  case round =>
    obtain ⟨j, hj, rfl, rfl⟩ := hrel
    have hz := it_cr1_lt j c hc
    have HS : Hid (it cr1 (j + 1) c = cr1 (it cr1 j c)) := it_succ' cr1 j c
    by_cases hj8 : j < 8
    · obtain ⟨z, hzz⟩ : ∃ z, z = it cr1 j c := ⟨_, rfl⟩
      rw [← hzz] at hz HS ⊢
      clear hzz
      have ha := and_high z hz
      have hw : IntKind.u16.wrap ((z : Int) * 2) = ((z * 2 % 65536 : Nat) : Int) := by rw [IntKind.wrap_u16]; omega
      by_cases hbig : 32768 ≤ z
      · have hd : (bits BinOp.and IntKind.u16 (z : Int) 32768 != 0) = true := by
          rw [ha, show z / 32768 % 2 = 1 from by omega]; rfl
        have hx : bits BinOp.xor IntKind.u16 (IntKind.u16.wrap ((z : Int) * 2)) 4129 = ((cr1 z : Nat) : Int) := by
          have := u16_xor_nat (z * 2 % 65536) 4129 (by omega) (by omega)
          rw [hw]; unfold cr1; rw [if_pos hbig]; exact this
        clear ha hw hbig
        go_wp2
        go_round
        case rel => exact ⟨j + 1, by omega, by go_num, by rw [HS.out]⟩
        case measure => simp [intOf]; omega
      · have hd : (bits BinOp.and IntKind.u16 (z : Int) 32768 != 0) = false := by
          rw [ha, show z / 32768 % 2 = 0 from by omega]; rfl
        have hx : IntKind.u16.wrap ((z : Int) * 2) = ((cr1 z : Nat) : Int) := by rw [hw]; unfold cr1; rw [if_neg hbig]
        clear ha hw hbig
        go_wp2
        go_round
        case rel => exact ⟨j + 1, by omega, by go_num, by rw [HS.out]⟩
        case measure => simp [intOf]; omega
    · have hj' : j = 8 := by omega
      subst hj'
      go_wp2
      go_ret
      exact ⟨rfl, rfl⟩

set_option maxHeartbeats 400000 in
theorem sum_any (s : ByteArray) (hs : s.size ≤ 1000) (w : World) :
    Calls Tryd.prog 70 #[.string s] w fun e w' => e = .returned (.int .u16 (crc s s.size : Nat)) ∧ w' = w := by
  go_enter Tryd.func70, Tryd.ntmps70
  go_wp2
  go_loop [3, 7] (fun c i => ∃ n : Nat, n ≤ s.size ∧ i = .int .i64 (n : Int) ∧ c = .int .u16 (crc s n : Nat)) (fun _ i => s.size - (intOf i).toNat)
  case atStart => exact ⟨0, by omega, rfl, rfl⟩
  case round =>
    obtain ⟨n, hn, rfl, rfl⟩ := hrel
    have hc := crc_lt s n
    by_cases hlt : n < s.size
    · have hb := byteAt_lt s n
      have hg := byteAt_get s n hlt
      obtain ⟨c0, hc0⟩ : ∃ c0, c0 = crc s n ^^^ (byteAt s n * 256) := ⟨_, rfl⟩
      have hwr : IntKind.u16.wrap (((byteAt s n : Nat) : Int) * 256) = ((byteAt s n : Nat) : Int) * 256 := by rw [IntKind.wrap_u16]; omega
      have hx : bits .xor .u16 ((crc s n : Nat) : Int) (((byteAt s n : Nat) : Int) * 256) = (c0 : Int) := by
        have e : ((byteAt s n : Nat) : Int) * 256 = ((byteAt s n * 256 : Nat) : Int) := by omega
        rw [e, u16_xor_nat _ _ hc (by omega), hc0]
      have hl0 : c0 < 65536 := by rw [hc0]; exact crx_lt _ _ hc hb
      have HN : Hid (crc s (n + 1) = it cr1 8 c0) := by show _ = _; rw [hc0]; rfl
      clear hc0
      go_wp2_with (go_at_call 84; refine (wturn_any c0 hl0 _).mono ?_; rintro e w' ⟨rfl, hw'⟩; obtain rfl := hw'.symm)
      go_round
      case rel => exact ⟨n + 1, by omega, by go_num, by rw [HN.out]⟩
      case measure => simp [intOf]; omega
    · have hnk : n = s.size := by omega
      subst hnk
      go_wp2
      go_ret
      exact ⟨rfl, rfl⟩

theorem pair_cells (w : World) (x : Nat) : ∀ (j : Nat) (u : Value), (octs (pair x))[j]? = some u → (w.alloc (Obj.cells #[Value.int IntKind.u8 ((x : Int) / 256), Value.int IntKind.u8 ((x : Int) % 256)] 5)).cell? ((⟨w.heap.size, 0, none⟩ : Addr).add j) = some u := by
  intro j u hj
  match j, hj with
  | 0, hj => simp [octs, pair] at hj; subst hj; simp [Addr.add]
  | 1, hj => simp [octs, pair] at hj; subst hj; simp [Addr.add]
  | j + 2, hj => simp [octs, pair] at hj
set_option maxHeartbeats 400000 in
theorem appair_any (B : Nat) (v : Value) (l : List Nat) (x : Nat) (hx : x < 65536) (hl : l.length ≤ 100) (w : World) (ho : w.ownsRow B 5 1 v l.length (octs l)) (hB : B ≤ w.heap.size) :
    Calls Tryd.prog 82 #[v, .int .u16 (x : Int)] w fun e w' => ∃ v', e = .returned v' ∧ w'.ownsRow B 5 1 v' (l ++ pair x).length (octs (l ++ pair x)) ∧ Below B w w' := by
  obtain ⟨i0, hi0, hy0, hy1, hy2⟩ := info_parts Tryd.info5
  go_enter Tryd.func82, Tryd.ntmps82
  go_wp2_with (at_builtin; refine wpList_append_own _ rfl _ _ 59 rfl B 5 i0 (.int .u8 0) 1 1 Tryd.underlying59 hi0 hy0 hy1 hy2 rfl (by decide) _ _ _ rfl (ho.alloc _) ⟨w.heap.size, 0, none⟩ 2 2 (octs (pair x)) rfl rfl (pair_cells w x) (octs_one _) (by unfold maxLen; omega) (by omega) (by simp; omega) ?_; intro v' w2 ho2 hg2 _)
  go_ret
  exact ⟨_, rfl, by rw [octs_append, List.length_append]; exact ho2, ((Below.refl _ _).alloc hB _).grown hg2 (by simp; omega) (fun k hk => (ho.lt k hk).1)⟩

theorem conv_own {w : World} {B : Nat} {v : Value} {l : List Nat} {n : Nat} (h : w.ownsRow B 5 1 v n (octs l)) (hn : 1 ≤ n) : (convert 59 9 v).run Tryd.prog w = .ok (.string (str l)) w := by
  obtain ⟨g, cap, rfl⟩ := own_form h hn
  have hl : l.length = n := by have := h.1; rw [octs_len] at this; omega
  have h2 := run_convert_bytes_arg (P := Tryd.prog) w 59 5 Tryd.underlying59 Tryd.underlying5 g 0 n cap (l.map fun (b : Nat) => (b : Int)) (by simpa using hl) (by
    intro i hi
    rw [Nat.zero_add, h.cellAt i (by omega)]
    simp [octs, show i < l.length by omega]) 9 Tryd.underlying9
  rw [h2]
  have e : strOfNums (l.map fun (b : Nat) => (b : Int)) = str l := by
    simp [strOfNums, str, Function.comp_def]
  rw [e]

theorem pair_len (n : Nat) : (pair n).length = 2 := rfl
theorem head_len (id len size : Nat) : (head id len size).length = 5 := rfl
set_option maxHeartbeats 1000000 in
theorem write_any (id len size : Nat) (dat : List Nat) (g B0 c : Nat) (hid : id ≤ 65535) (hlen : len ≤ 65535) (hz1 : 1 ≤ size) (hz2 : size ≤ 16) (hd : dat.length = size) (w : World)
    (ho : w.ownsRow B0 5 1 (.slice (some ⟨g, 0, none⟩) size size) size (octs dat)) (hc : crc (str (head id len size ++ dat)) (str (head id len size ++ dat)).size = c) :
    Calls Tryd.prog 59 #[.int .i64 (id : Int), .int .i64 (len : Int), .slice (some ⟨g, 0, none⟩) size size] w fun e w' =>
      e = .returned (.string (str (head id len size ++ dat ++ pair c))) ∧ Below w.heap.size w w' := by
  obtain ⟨i0, hi0, hy0, hy1, hy2⟩ := info_parts Tryd.info5
  have hcl : c < 65536 := by rw [← hc]; exact crc_lt _ _
  have HC : Hid (crc (str (head id len size ++ dat)) (str (head id len size ++ dat)).size = c) := hc
  have HD : Hid (dat.length = size) := hd
  have hsl : (str (head id len size ++ dat)).size ≤ 1000 := by rw [str_size, List.length_append, head_len]; omega
  clear hc hd
  go_enter Tryd.func59, Tryd.ntmps59
  go_wp2_with (first | (go_at_call 82; have hq := ho4; refine (appair_any w.heap.size v4 (head id len size ++ dat) c hcl (by rw [List.length_append, head_len, HD.out]; omega) _ ho4 hz4).mono ?_; rintro e w5 ⟨v5, rfl, ho5, hb5⟩; have hcv5 := conv_own ho5 (by rw [List.length_append, pair_len]; omega)) | (go_at_call 82; have hq := ho1; refine (appair_any w.heap.size v1 (pair id) len (by omega) (by rw [pair_len]; omega) _ ho1 hb1.size).mono ?_; rintro e w2 ⟨v2, rfl, ho2, hb2⟩; have hz2' := Nat.le_trans hb1.size hb2.size) | (go_at_call 82; refine (appair_any w.heap.size (.slice none 0 0) [] id (by omega) (by decide) _ (World.ownsRow_nil _ _ _ _) (Nat.le_refl _)).mono ?_; rintro e w1 ⟨v1, rfl, ho1, hb1⟩; simp only [List.nil_append] at ho1) | (at_builtin; (refine wpList_append_own _ rfl (.tmp 15) (.tmp 19) 59 rfl w.heap.size 5 i0 (.int .u8 0) 1 1 Tryd.underlying59 hi0 hy0 hy1 hy2 rfl (by decide) _ _ _ rfl (ho2.alloc _) ⟨w2.heap.size, 0, none⟩ 1 1 (octs [size]) rfl rfl (cell_one_new _ _ _) (octs_one _) (by unfold maxLen; simp [pair]) (by simp [pair]) (by simp; omega) ?_); intro v3 w3 ho3' hg3 _; have ho3 := own_eq (n' := (head id len size).length) (xs' := octs (head id len size)) ho3' rfl rfl; have hb3 : Below w.heap.size w w3 := ((hb1.trans hb2).alloc hz2' _).grown hg3 (by simp; omega) (fun k hk => (ho2.lt k hk).1); have hcs := (own_below ho hb3 (Nat.le_refl _)).cells rfl) | (at_builtin; (refine wpList_append_own _ rfl (.tmp 21) (.tmp 22) 59 rfl w.heap.size 5 i0 (.int .u8 0) 1 1 Tryd.underlying59 hi0 hy0 hy1 hy2 rfl (by decide) _ _ _ rfl ho3 ⟨g, 0, none⟩ size size (octs dat) rfl (by rw [octs_len, HD.out, Nat.mul_one]) hcs (octs_one _) (by unfold maxLen; rw [head_len]; omega) (by rw [head_len]; omega) hb3.size ?_); intro v4 w4 ho4' hg4 _; have ho4 := own_eq (n' := (head id len size ++ dat).length) (xs' := octs (head id len size ++ dat)) ho4' (by rw [List.length_append, HD.out]) (octs_append _ _).symm; have hb4 := hb3.grown hg4 hb3.size (fun k hk => (ho3.lt k hk).1); have hz4 := hb4.size; have hcv4 := conv_own ho4 (by rw [List.length_append, head_len]; omega)) | (go_at_call 70; refine (sum_any _ hsl _).mono ?_; rintro e w' ⟨rfl, hw'⟩; obtain rfl := hw'.symm; rw [HC.out]))
  go_ret
  exact ⟨rfl, hb4.trans hb5⟩
end Go.Proofs.YtnpcinjdbeilkaaDoor
