/-
  The program's Read, walked from below: block.DataOf, block.One.
-/
import Derived.Test.YtnpcinjdbeilkaaDoorHd
import Derived.Deep.DeepCutAuto
namespace Go.Proofs.YtnpcinjdbeilkaaDoor
open Go.RowKit Dw Period
set_option maxRecDepth 100000
set_option linter.unusedVariables false

/-- sixteen bytes as cells -/
def dcells (f : Nat → Nat) : Array Value := ((List.range 16).map fun i => Value.int .u8 (f i : Nat)).toArray
theorem dcells_size (f : Nat → Nat) : (dcells f).size = 16 := by simp [dcells]
theorem dcells_one (f : Nat → Nat) : (dcells f).all (·.oneCell') = true := by
  rw [Array.all_eq_true_iff_forall_mem]; intro v hv; simp [dcells] at hv; obtain ⟨i, _, rfl⟩ := hv; rfl
theorem dcells_get (f : Nat → Nat) (i : Nat) (h : i < 16) : (dcells f)[i]? = some (.int .u8 (f i : Nat)) := by simp [dcells, h]
theorem dcells_zero : dcells (fun _ => 0) = #[.int .u8 0, .int .u8 0, .int .u8 0, .int .u8 0, .int .u8 0, .int .u8 0, .int .u8 0, .int .u8 0, .int .u8 0, .int .u8 0, .int .u8 0, .int .u8 0, .int .u8 0, .int .u8 0, .int .u8 0, .int .u8 0] := rfl
theorem dcells_copy (s : ByteArray) (h : s.size ≤ 16) (Z : Array Value) (hZ : Z = dcells (fun _ => 0)) : (Z.toList.take 0 ++ Lib.byteCells s.data.toList ++ Z.toList.drop (0 + s.size)).toArray = dcells (byteAt s) := by
  subst hZ
  apply Array.ext'
  apply List.ext_getElem?
  intro i
  have hl : (Lib.byteCells s.data.toList).length = s.size := by rw [Lib.byteCells_length, ← Lib.size_eq]
  simp only [List.take_zero, List.nil_append, Nat.zero_add, List.getElem?_append, hl, List.getElem?_drop]
  by_cases h1 : i < s.size
  · rw [if_pos h1]
    have h3 : i < s.data.size := h1
    simp only [dcells, Lib.byteCells, List.getElem?_map]
    rw [List.getElem?_range (by omega), Array.getElem?_toList, Array.getElem?_eq_getElem h3]
    simp only [Option.map_some, Option.some.injEq]
    unfold byteAt
    rw [dif_pos h1]
    rfl
  · rw [if_neg h1]
    have e : s.size + (i - s.size) = i := by omega
    rw [e]
    simp only [dcells, List.getElem?_map]
    have hz : byteAt s i = 0 := by unfold byteAt; rw [dif_neg h1]
    by_cases h2 : i < 16
    · rw [List.getElem?_range h2]; simp [hz]
    · rw [List.getElem?_eq_none (by simp; omega)]; rfl
theorem Tryd.infoD : (Tryd.prog.info? 123).map (·.size) = some 16 := by kernel_rfl

set_option maxHeartbeats 4000000 in
theorem dataof_any (s : ByteArray) (w : World) (h2 : s.size ≤ 16) :
    Calls Tryd.prog 73 #[.string s] w fun e w' => e = .returned (.agg (dcells (byteAt s))) ∧ Below w.heap.size w w' := by
  obtain ⟨i0, hi, hz0, hz1, hz2⟩ := info_parts Tryd.info5
  have hinfo : (Tryd.prog.info? 5).map (·.size) = some 1 := by rw [hi]; simp [hz1]
  have hcp := Lib.run_copy_row_string (P := Tryd.prog) ((w.alloc (.cells (dcells (fun _ => 0)) 123)).alloc (.cells (dcells (fun _ => 0)) 123)) 59 9 3 5 (w.heap.size + 1) 0 16 16 s (dcells (fun _ => 0)) 123 Tryd.underlying59 hinfo (heap_alloc2_new w _ _) h2 (by rw [dcells_size]; omega)
  rw [dcells_copy s h2 _ rfl] at hcp
  obtain ⟨W, hW⟩ : ∃ W, W = ((w.alloc (.cells (dcells (fun _ => 0)) 123)).alloc (.cells (dcells (fun _ => 0)) 123)).setRow (w.heap.size + 1) (dcells (byteAt s)) := ⟨_, rfl⟩
  have hg1 : W.heap[w.heap.size + 1]? = some (.cells (dcells (byteAt s)) 123 (0, 0)) := by rw [hW]; exact setRow_heap _ _ _ _ _ _ (heap_alloc2_new w _ _)
  have hg0 : W.heap[w.heap.size]? = some (.cells (dcells (fun _ => 0)) 123 (0, 0)) := by
    rw [hW, setRow_other _ _ _ _ (by omega), heap_alloc_old _ _ (by simp)]; exact heap_alloc_new _ _
  have hB : Below w.heap.size w W := by
    rw [hW]
    exact (((Below.refl _ w).alloc (Nat.le_refl _) _).alloc (by simp) _).trans ⟨rfl, rfl, rfl, by simp, fun k hk => setRow_other _ _ _ _ (by omega)⟩
  rw [← hW] at hcp
  rw [dcells_zero] at hcp hg0
  have hi16 : (Tryd.prog.info? 123).map (·.size) = some (dcells (byteAt s)).size := by rw [dcells_size]; exact Tryd.infoD
  have hg2 : (W.setRow w.heap.size (dcells (byteAt s))).heap[w.heap.size]? = some (.cells (dcells (byteAt s)) 123 (0, 0)) := setRow_heap _ _ _ _ _ _ hg0
  have hB2 : Below w.heap.size w (W.setRow w.heap.size (dcells (byteAt s))) := hB.trans ⟨rfl, rfl, rfl, by simp, fun k hk => setRow_other _ _ _ _ (by omega)⟩
  have HG : Hid (W.heap[w.heap.size + 1]? = some (.cells (dcells (byteAt s)) 123 (0, 0))) := hg1
  have HG0 : Hid (W.heap[w.heap.size]? = some (.cells _ 123 (0, 0))) := hg0
  have HG2 : Hid ((W.setRow w.heap.size (dcells (byteAt s))).heap[w.heap.size]? = some (.cells (dcells (byteAt s)) 123 (0, 0))) := hg2
  clear hg0 hg1 hg2 hW
  go_enter Tryd.func73, Tryd.ntmps73
  go_upto_region 3 with fail
  go_step
  refine wpList_load_row rfl 123 (.tmp 3) rfl (w.heap.size + 1) rfl 123 (dcells (byteAt s)) (0, 0) _ HG.out Tryd.underlying123 rfl hi16 ?_
  refine wpList_store_row rfl 123 (.tmp 2) (.tmp 7) rfl w.heap.size (dcells (byteAt s)) rfl rfl 123 _ HG0.out hi16 (by rw [dcells_size]; rfl) (dcells_one _) ?_
  go_wp2
  refine bodyPost_ret (v := .agg (dcells (byteAt s))) ?_ rfl ⟨rfl, hB2⟩
  exact results_cell_row rfl _ _ w.heap.size 123 _ (0, 0) _ rfl HG2.out Tryd.underlying123 rfl hi16

theorem with_zero (n : Nat) (hn : n < 80) (w : World) :
    Calls Tryd.prog 66 #[.agg #[.int .u64 0, .int .u64 0], .int .i64 (n : Int)] w fun e w' => e = .returned (.agg #[.int .u64 (lo (2 ^ n) : Nat), .int .u64 (hi (2 ^ n) : Nat)]) ∧ Below w.heap.size w w' := by
  have h := with_at 0 n (by decide) hn w
  rw [Nat.zero_or] at h
  exact h

set_option maxHeartbeats 1000000 in
theorem one_any (n : Nat) (hn : n < 80) (w : World) :
    Calls Tryd.prog 53 #[.int .i64 (n : Int)] w fun e w' => e = .returned (.agg #[.int .u64 (lo (2 ^ n) : Nat), .int .u64 (hi (2 ^ n) : Nat)]) ∧ Below w.heap.size w w' := by
  obtain ⟨l, hl⟩ : ∃ l, l = lo (2 ^ n) := ⟨_, rfl⟩
  obtain ⟨h, hh⟩ : ∃ h, h = hi (2 ^ n) := ⟨_, rfl⟩
  have key : ∀ W : World, Calls Tryd.prog 66 #[.agg #[.int .u64 0, .int .u64 0], .int .i64 (n : Int)] W fun e w' => e = .returned (.agg #[.int .u64 (l : Int), .int .u64 (h : Int)]) ∧ Below W.heap.size W w' := by
    rw [hl, hh]; exact with_zero n hn
  rw [← hl, ← hh]
  clear hl hh
  go_enter Tryd.func53, Tryd.ntmps53
  go_wp2_with (go_at_call 66; refine (key _).mono ?_; rintro e w1 ⟨rfl, hb1⟩; obtain ⟨hcc, hff⟩ := bcell hb1)
  exact bodyPost_ret (v := .agg #[.int .u64 (l : Int), .int .u64 (h : Int)]) (by simp [results, Tryd.results53, go_sem, hcc]) rfl ⟨rfl, by
    have := (((Below.refl w.heap.size w).alloc (Nat.le_refl _) (.cells #[.int .u64 0, .int .u64 0] 70)).trans (hb1.mono (by simp)))
    go_grown⟩
end Go.Proofs.YtnpcinjdbeilkaaDoor
