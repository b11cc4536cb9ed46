/-
  The reference's Read, walked: a drop of the right length.
-/
import Derived.Test.YtnpcinjdbeilkaaDoorGf
import Derived.Test.YtnpcinjdbeilkaaDoorHf
import Derived.Test.YtnpcinjdbeilkaaDoorWc
import Derived.Deep.DeepCutAuto
import Derived.Handy
namespace Go.Proofs.YtnpcinjdbeilkaaDoor
open Go.RowKit Dw Period
set_option maxRecDepth 100000

set_option maxRecDepth 100000 in
set_option maxHeartbeats 4000000 in
theorem rread_lone (s : ByteArray) (hl1 : 1 ≤ rlen s) (hl4 : rlen s ≤ 400) (hz1 : 1 ≤ rsz s) (hz4 : rsz s ≤ 16) (hk2 : cnt (rlen s) (rsz s) ≤ 80) (hsz : s.size = rsz s + 7) (hcrc : 256 * byteAt s (rsz s + 5) + byteAt s (rsz s + 6) = crc s (rsz s + 5)) (hbk : breaks s = firstNZ s (endOf (rlen s) (rsz s)) (rsz s - endOf (rlen s) (rsz s))) (hnl : lst (maskOf (cnt (rlen s) (rsz s)) (rid s)) (cnt (rlen s) (rsz s)) = [cnt (rlen s) (rsz s) - 1]) (w : World) :
    Calls Tryd.prog 10 #[.string s] w fun e w' => e = .returned (readV s) ∧ Below w.heap.size w w' := by
  have h5 : 5 ≤ s.size := by omega
  have g0 := byteAt_get s 0 (by omega)
  have g1 := byteAt_get s 1 (by omega)
  have g2 := byteAt_get s 2 (by omega)
  have g3 := byteAt_get s 3 (by omega)
  have g4 := byteAt_get s 4 (by omega)
  have l0 := byteAt_lt s 0
  have l1 := byteAt_lt s 1
  have l2 := byteAt_lt s 2
  have l3 := byteAt_lt s 3
  have l4 := byteAt_lt s 4
  have e0 : IntKind.i64.wrap ((byteAt s 0 : Nat) : Int) = ((byteAt s 0 : Nat) : Int) := IntWalk.i64_in _ ⟨by omega, by omega⟩
  have e1 : IntKind.i64.wrap ((byteAt s 1 : Nat) : Int) = ((byteAt s 1 : Nat) : Int) := IntWalk.i64_in _ ⟨by omega, by omega⟩
  have e2 : IntKind.i64.wrap ((byteAt s 2 : Nat) : Int) = ((byteAt s 2 : Nat) : Int) := IntWalk.i64_in _ ⟨by omega, by omega⟩
  have e3 : IntKind.i64.wrap ((byteAt s 3 : Nat) : Int) = ((byteAt s 3 : Nat) : Int) := IntWalk.i64_in _ ⟨by omega, by omega⟩
  have e4 : IntKind.i64.wrap ((byteAt s 4 : Nat) : Int) = ((rsz s : Nat) : Int) := IntWalk.i64_in _ ⟨by omega, by omega⟩
  have e5 : IntKind.i64.wrap (256 * ((byteAt s 0 : Nat) : Int)) = 256 * ((byteAt s 0 : Nat) : Int) := IntWalk.i64_in _ ⟨by omega, by omega⟩
  have e6 : IntKind.i64.wrap (256 * ((byteAt s 2 : Nat) : Int)) = 256 * ((byteAt s 2 : Nat) : Int) := IntWalk.i64_in _ ⟨by omega, by omega⟩
  have e7 : IntKind.i64.wrap (256 * ((byteAt s 0 : Nat) : Int) + ((byteAt s 1 : Nat) : Int)) = ((rid s : Nat) : Int) := by
    rw [IntWalk.i64_in _ ⟨by omega, by omega⟩]; unfold rid; omega
  have e8 : IntKind.i64.wrap (256 * ((byteAt s 2 : Nat) : Int) + ((byteAt s 3 : Nat) : Int)) = ((rlen s : Nat) : Int) := by
    rw [IntWalk.i64_in _ ⟨by omega, by omega⟩]; unfold rlen; omega
  have hrl := rlen_le s
  have hrs := rsz_le s
  have hri := rid_le s
  go_enter Tryd.func10, Tryd.ntmps10
  go_wp2
  go_cut [5] (fun v wc => v = .pointer (some ⟨w.heap.size + 1, 0, none⟩) ∧ wc = ((w.alloc (Obj.cells #[Value.int IntKind.i64 0, Value.int IntKind.i64 0, Value.int IntKind.i64 0, Value.string { data := #[] }] 27)).alloc (Obj.cells #[Value.int IntKind.i64 (rid s : Nat), Value.int IntKind.i64 (rlen s : Nat), Value.int IntKind.i64 (rsz s : Nat), Value.string { data := #[] }] 27)).drew)
  case first =>
    go_region
    all_goals (go_wp2_with fail; go_meet; exact ⟨rfl, rfl⟩)
  clear g0 g1 g2 g3 g4 l0 l1 l2 l3 l4 e0 e1 e2 e3 e4 e5 e6 e7 e8
  obtain ⟨hv5, hwc⟩ := hcut
  subst hv5 hwc
  have hd1 : (((rlen s : Nat) : Int) == 0) = false := by simp; omega
  have hd2 : (((rsz s : Nat) : Int) == 0) = false := by simp; omega
  have hz7 : (s.size : Int) = ((rsz s : Nat) : Int) + 7 := by omega
  obtain ⟨z5, hz5⟩ : ∃ z5, z5 = rsz s + 5 := ⟨_, rfl⟩
  have i5 : ((rsz s : Nat) : Int) + 5 = (z5 : Int) := by omega
  have hz5s : z5 ≤ s.size := by omega
  have hx : (s.extract 0 z5).size ≤ 1000 := by simp; omega
  have HCR : Hid (crc (s.extract 0 z5) (s.extract 0 z5).size = crc s z5) := crc_extract s z5 hz5s
  have HSZ : Hid (s.size = rsz s + 7) := hsz
  have hlt1 : z5 < s.size := by omega
  obtain ⟨z6, hz6⟩ : ∃ z6, z6 = rsz s + 6 := ⟨_, rfl⟩
  have i6 : ((rsz s : Nat) : Int) + 6 = (z6 : Int) := by omega
  have hlt2 : z6 < s.size := by omega
  have f5 := byteAt_get s z5 hlt1
  have f6 := byteAt_get s z6 hlt2
  have l5 := byteAt_lt s z5
  have l6 := byteAt_lt s z6
  have e5 : IntKind.i64.wrap ((byteAt s z5 : Nat) : Int) = ((byteAt s z5 : Nat) : Int) := IntWalk.i64_in _ ⟨by omega, by omega⟩
  have e6 : IntKind.i64.wrap ((byteAt s z6 : Nat) : Int) = ((byteAt s z6 : Nat) : Int) := IntWalk.i64_in _ ⟨by omega, by omega⟩
  obtain ⟨sm, hsm⟩ : ∃ sm, sm = 256 * byteAt s z5 + byteAt s z6 := ⟨_, rfl⟩
  have e7 : IntKind.i64.wrap (256 * ((byteAt s z5 : Nat) : Int)) = 256 * ((byteAt s z5 : Nat) : Int) := IntWalk.i64_in _ ⟨by omega, by omega⟩
  have e8 : IntKind.i64.wrap (256 * ((byteAt s z5 : Nat) : Int) + ((byteAt s z6 : Nat) : Int)) = (sm : Int) := by
    rw [IntWalk.i64_in _ ⟨by omega, by omega⟩]; omega
  have e9 : IntKind.i64.wrap (z5 : Int) = (z5 : Int) := IntWalk.i64_in _ ⟨by omega, by omega⟩
  have e10 : IntKind.i64.wrap (z6 : Int) = (z6 : Int) := IntWalk.i64_in _ ⟨by omega, by omega⟩
  have HSM : Hid (256 * byteAt s z5 + byteAt s z6 = sm) := hsm.symm
  have HZ5 : Hid (z5 = rsz s + 5) := hz5
  have HZ6 : Hid (z6 = rsz s + 6) := hz6
  have hlt1' : (z5 : Int) < ((rsz s : Nat) : Int) + 7 := by omega
  have hlt2' : (z6 : Int) < ((rsz s : Nat) : Int) + 7 := by omega
  clear hsz hz5 hz6 hsm h5
  obtain ⟨hee, hep⟩ := endOf_le (rlen s) (rsz s) hz1 hl1
  obtain ⟨ed, hed⟩ : ∃ ed, ed = endOf (rlen s) (rsz s) := ⟨_, rfl⟩
  rw [← hed] at hee hep hbk
  clear hed
  have HBK : Hid (breaks s = firstNZ s ed (rsz s - ed)) := hbk
  clear hbk
  rw [← HZ5.out, ← HZ6.out, HSM.out] at hcrc
  have hd3 : ((sm : Int) != ((crc s z5 : Nat) : Int)) = false := by simp [hcrc]
  clear hcrc
  have hK1 : 1 ≤ cnt (rlen s) (rsz s) := cnt_pos _ _ hz1 hl1
  obtain ⟨K, hKe⟩ : ∃ K, K = cnt (rlen s) (rsz s) := ⟨_, rfl⟩
  have HKE : Hid (cnt (rlen s) (rsz s) = K) := hKe.symm
  rw [← hKe] at hk2 hK1 hnl hep
  have hms := maskOf_spec K (rid s) hK1 hk2 hri
  obtain ⟨m, hm⟩ : ∃ m, m = maskOf K (rid s) := ⟨_, rfl⟩
  rw [← hm] at hms hnl
  have HMS : Hid (Drawn K (rid s) m) := hms.1
  have hlen := hms.2.2
  have hll := lst_len m K
  clear hms hKe hm
  obtain ⟨q, hq⟩ : ∃ q, q = K - 1 := ⟨_, rfl⟩
  have iq : (K : Int) - 1 = (q : Int) := by omega
  rw [← hq] at hep hnl
  have hq80 : q < 80 := by omega
  clear hq
  obtain ⟨pr, hpr⟩ : ∃ pr, pr = q * rsz s := ⟨_, rfl⟩
  have ipr : (q : Int) * ((rsz s : Nat) : Int) = (pr : Int) := by rw [hpr]; norm_cast
  rw [← hpr] at hep
  clear hpr
  have ied : ((rlen s : Nat) : Int) - (pr : Int) = (ed : Int) := by omega
  have hprl : pr ≤ 400 := by omega
  clear hep
  have hd5 : (((lst m K).length : Int) == 1) = true := by rw [hnl]; rfl
  have hK1i : (1 : Int) ≤ (K : Int) := by omega
  have HB0 : Hid (lst m K = [q]) := hnl
  have hbl : (lst m K).length = 1 := by rw [hnl]; rfl
  clear hnl
  obtain ⟨d, hd⟩ : ∃ d, d = s.extract 5 z5 := ⟨_, rfl⟩
  have hde : s.extract 5 z5 = d := hd.symm
  have hds : d.size = rsz s := by rw [hd]; have := HSZ.out; have := HZ5.out; simp; omega
  have HDB : Hid (∀ i, i < rsz s → byteAt d i = byteAt s (5 + i)) := by
    show ∀ i, _
    intro i hi
    rw [hd]
    exact byteAt_extract s 5 z5 i hz5s (by have := HZ5.out; omega)
  have HDE : Hid (d = s.extract 5 (rsz s + 5)) := by show _ = _; rw [hd, HZ5.out]
  clear hd
  go_wp2_with (first | (go_at_call 22; refine (rcount_any (rlen s) (rsz s) hl4 hz1 hz4 _).mono ?_; rintro e w' ⟨rfl, hw'⟩; obtain rfl := hw'.symm; rw [HKE.out]) | (go_at_call 29; refine (rsum_any _ hx _).mono ?_; rintro e w' ⟨rfl, hw'⟩; obtain rfl := hw'.symm; rw [HCR.out]))
  go_quiet (fail)
  clear f5 f6 l5 l6 e5 e6 e7 e8 e9 e10 hd3
  go_wp2_with (first | (go_at_call 22; refine (rcount_any (rlen s) (rsz s) hl4 hz1 hz4 _).mono ?_; rintro e w' ⟨rfl, hw'⟩; obtain rfl := hw'.symm; rw [HKE.out]) | (go_at_call 26; refine (rblocks_ok K (rid s) m hK1 hk2 hri _ HMS.out).mono ?_; rintro e w1 ⟨v, rfl, ho, hb1⟩; obtain ⟨g, cp, hv⟩ := own_form ho hlen; subst hv; obtain ⟨hcc, hff⟩ := bcell hb1; have hc0 : w1.cell? ⟨g, 0, none⟩ = some (.int .i64 (q : Int)) := (ho.cellAt 0 (by omega)).trans (by rw [HB0.out]; rfl); have k0 := (hcc w.heap.size 0 (by simp <;> omega)).trans (old4 w _ _ _ _ _ _ _ _ _ (by simp) 0); have k1 := (hcc w.heap.size 1 (by simp <;> omega)).trans (old4 w _ _ _ _ _ _ _ _ _ (by simp) 1); have k2 := (hcc w.heap.size 2 (by simp <;> omega)).trans (old4 w _ _ _ _ _ _ _ _ _ (by simp) 2); have k3 := (hcc w.heap.size 3 (by simp <;> omega)).trans (old4 w _ _ _ _ _ _ _ _ _ (by simp) 3); have HO : Hid (Below w.heap.size w w1) := Below.trans (by go_grown; all_goals (try (refine below_drewN ?_ _; go_grown))) (hb1.mono (by simp; omega)); clear ho hb1))
  go_loop [10] (fun i => ∃ p : Nat, ed ≤ p ∧ p ≤ rsz s ∧ i = .int .i64 (p : Int) ∧ Hid (breaks s = firstNZ s p (rsz s - p))) (fun i => rsz s - (intOf i).toNat)
  case atStart => exact ⟨ed, Nat.le_refl _, hee, rfl, HBK.out⟩
  case round =>
    obtain ⟨p, hp1, hp2, rfl, HF⟩ := hrel
    by_cases hlt : p < rsz s
    · have hpd : p < d.size := by omega
      have hgp := byteAt_get d p hpd
      have hb := byteAt_lt d p
      have hbe := HDB.out p hlt
      have HBE : Hid (byteAt d p = byteAt s (5 + p)) := hbe
      clear hbe
      by_cases h0 : byteAt d p = 0
      · have hd0 : (((byteAt d p : Nat) : Int) != 0) = false := by simp [h0]
        have HN : Hid (firstNZ s p (rsz s - p) = firstNZ s (p + 1) (rsz s - (p + 1))) := by
          show _ = _
          rw [show rsz s - p = (rsz s - (p + 1)) + 1 by omega]
          simp [firstNZ, ← HBE.out, h0]
        clear h0
        go_wp2
        go_round
        case rel => exact ⟨p + 1, by omega, by omega, by go_num, HF.out.trans HN.out⟩
        case measure => simp [intOf]; omega
      · have hd0 : (((byteAt d p : Nat) : Int) != 0) = true := by simp [h0]
        have HN : Hid (firstNZ s p (rsz s - p) = some (5 + p)) := by
          show _ = _
          rw [show rsz s - p = (rsz s - (p + 1)) + 1 by omega]
          simp [firstNZ, ← HBE.out, h0]
        have HB : Hid (readV s = .tuple #[noDrop, .int .i64 3, .int .i64 (5 + (p : Int))]) := by
          show _ = _; unfold readV; rw [HF.out, HN.out]; simp
        clear h0
        go_wp2
        obtain ⟨s0, s1, s2, s3⟩ := set4 k0 k1 k2 k3 (Value.int IntKind.i64 0) (Value.int IntKind.i64 0) (Value.int IntKind.i64 0) (Value.string { data := #[] })
        exact bodyPost_ret (v := .tuple #[noDrop, .int .i64 3, .int .i64 (5 + (p : Int))]) (by simp [results, Tryd.results10, go_sem, noDrop, s0, s1, s2, s3]) rfl ⟨by rw [HB.out], by have := HO.out; go_grown⟩
    · have hpe : p = rsz s := by omega
      have HN : Hid (breaks s = none) := by show _ = _; rw [HF.out, hpe, Nat.sub_self]; rfl
      have HB : Hid (readV s = .tuple #[.agg #[.int .i64 (rid s : Nat), .int .i64 (rlen s : Nat), .int .i64 (rsz s : Nat), .string d], .int .i64 0, .int .i64 0]) := by
        show _ = _; unfold readV; rw [HN.out, HDE.out]
      have hdf : decide ((p : Int) < ((rsz s : Nat) : Int)) = false := decide_eq_false (by omega)
      clear hpe
      go_wp2
      obtain ⟨s0, s1, s2, s3⟩ := set4 k0 k1 k2 k3 (Value.int IntKind.i64 (rid s : Nat)) (Value.int IntKind.i64 (rlen s : Nat)) (Value.int IntKind.i64 (rsz s : Nat)) (Value.string d)
      exact bodyPost_ret (v := .tuple #[.agg #[.int .i64 (rid s : Nat), .int .i64 (rlen s : Nat), .int .i64 (rsz s : Nat), .string d], .int .i64 0, .int .i64 0]) (by simp [results, Tryd.results10, go_sem, s0, s1, s2, s3]) rfl ⟨by rw [HB.out], by have := HO.out; go_grown⟩
end Go.Proofs.YtnpcinjdbeilkaaDoor
