/-
  WHAT THE LISTED VARIABLES HOLD, out of the rows' condition.
-/
import Derived.Test.YtnpcinjdbeilkaaDoorIa
import Derived.Test.YtnpcinjdbeilkaaDoorRows
import Derived.Stop.LaidTwo
import Derived.LaidSub
import Derived.LaidHandle
import Derived.LaidMore
import Derived.Stop.Joined
namespace Go.Proofs.YtnpcinjdbeilkaaDoor
open Go.RowKit Go.ChangeShapes

theorem Tryd.star : "*" ++ "errors.errorString" = "*errors.errorString" := by decide
theorem Tryd.rowES (u : TypeId) (h : Tryd.prog.typeName? 3 u = some "*errors.errorString") : u = 205 :=
  typeName_ptr_named (nm := "errors.errorString") (by rw [Tryd.star]; kernel_rfl) (by kernel_rfl) (by decide) u (by rw [Tryd.star]; exact h)
theorem Tryd.cellsES : Tryd.prog.cellsOf 223 = 1 := by kernel_rfl
theorem Tryd.cells9 : Tryd.prog.cellsOf 9 = 1 := by kernel_rfl
theorem Tryd.et : Tryd.prog.globalNamed "errors.errorType" = some 11 := by kernel_rfl
theorem Tryd.rt : (Tryd.prog.cutTypes.find? (·.1 == "internal/reflectlite.rtype")).map (·.2) = some 178 := by kernel_rfl
theorem Tryd.oneRow : ((List.range 233).filter fun t => Tryd.prog.rowNamed t [101, 114, 114, 111, 114]) = [74] := by kernel_rfl
theorem Tryd.typesSize : Tryd.prog.types.size = 233 := by kernel_rfl
theorem Tryd.g_contrary : Tryd.prog.globalNamed "spring/pool.ErrContrary" = some 1 := by kernel_rfl
theorem Tryd.gt_contrary : (Tryd.prog.globals[1]?).map (·.type) = some 74 := by kernel_rfl
theorem Tryd.g_head : Tryd.prog.globalNamed "spring/wire.ErrHead" = some 0 := by kernel_rfl
theorem Tryd.gt_head : (Tryd.prog.globals[0]?).map (·.type) = some 74 := by kernel_rfl
theorem Tryd.g_len : Tryd.prog.globalNamed "spring/wire.ErrLength" = some 6 := by kernel_rfl
theorem Tryd.gt_len : (Tryd.prog.globals[6]?).map (·.type) = some 74 := by kernel_rfl
theorem Tryd.g_sz : Tryd.prog.globalNamed "spring/wire.ErrSize" = some 7 := by kernel_rfl
theorem Tryd.gt_sz : (Tryd.prog.globals[7]?).map (·.type) = some 74 := by kernel_rfl
theorem Tryd.g_fin : Tryd.prog.globalNamed "spring/wire.ErrEnd" = some 8 := by kernel_rfl
theorem Tryd.gt_fin : (Tryd.prog.globals[8]?).map (·.type) = some 74 := by kernel_rfl
theorem Tryd.g_sum : Tryd.prog.globalNamed "spring/wire.ErrSum" = some 9 := by kernel_rfl
theorem Tryd.gt_sum : (Tryd.prog.globals[9]?).map (·.type) = some 74 := by kernel_rfl
theorem Tryd.g_stray : Tryd.prog.globalNamed "spring/wire.ErrStray" = some 10 := by kernel_rfl
theorem Tryd.gt_stray : (Tryd.prog.globals[10]?).map (·.type) = some 74 := by kernel_rfl
theorem Tryd.g_many : Tryd.prog.globalNamed "spring/gather.ErrMany" = some 2 := by kernel_rfl
theorem Tryd.gt_many : (Tryd.prog.globals[2]?).map (·.type) = some 74 := by kernel_rfl
theorem Tryd.g_nobody : Tryd.prog.globalNamed "spring/gather.ErrNone" = some 3 := by kernel_rfl
theorem Tryd.gt_nobody : (Tryd.prog.globals[3]?).map (·.type) = some 74 := by kernel_rfl

theorem cell_lt {W : World} {b : Nat} {v : Value} (h : W.cell? ⟨b, 0, none⟩ = some v) : b < W.heap.size := by
  rcases Nat.lt_or_ge b W.heap.size with h' | h'
  · exact h'
  · simp [World.cell?, Array.getElem?_eq_none h'] at h

/-- the variables of Reads' row -/
theorem handle_of {W : World} {l : List (String × DataW Unit)} (h : laidMetH Tryd.prog l W) (hm : ("errors.errorType", Rows.laid_errors_errorType) ∈ l) :
    W.cell? ⟨11, 0, none⟩ = some (.iface 178 (.agg #[.pointer (some ⟨13, 74, none⟩)])) := by
  have h2 := (laidMetH_iff.1 h).2
  obtain ⟨name, u, ty, e1, e2, e3, e4, e5⟩ := h2 _ (List.mem_filter.2 ⟨hm, rfl⟩)
  have en : name = [101, 114, 114, 111, 114] := (Option.some.inj e1).symm
  subst en
  obtain rfl := Option.some.inj (Tryd.rt.symm.trans e2)
  have hmm : ty ∈ (List.range 233).filter fun t => Tryd.prog.rowNamed t [101, 114, 114, 111, 114] := List.mem_filter.2 ⟨List.mem_range.2 (by rw [← Tryd.typesSize]; exact e3), e4⟩
  rw [Tryd.oneRow] at hmm
  obtain rfl := List.mem_singleton.1 hmm
  have hh : typeHandle Tryd.prog 74 = .pointer (some ⟨13, 74, none⟩) := by kernel_rfl
  rw [hh] at e5
  simpa using World.var?_cell Tryd.et e5 0

theorem laid_of_reads {W : World} (h : laidMetH Tryd.prog Rows.readsRow.laid W) : ∃ a, Laid a W := by
  have ht := handle_of h (by simp [Rows.readsRow])
  have h1 : laidMet Tryd.prog (Rows.readsRow.laid.filter fun x => x.2.handleName?.isNone) W := (laidMetH_iff.1 h).1
  have hL : laidMet Tryd.prog [("spring/pool.ErrContrary", Rows.laid_spring_pool_ErrContrary), ("spring/pool.ErrNoBlock", Rows.laid_spring_pool_ErrNoBlock), ("spring/pool.ErrCertain", Rows.laid_spring_pool_ErrCertain), ("spring/wire.ErrHead", Rows.laid_spring_wire_ErrHead), ("spring/wire.ErrLength", Rows.laid_spring_wire_ErrLength), ("spring/wire.ErrSize", Rows.laid_spring_wire_ErrSize), ("spring/wire.ErrEnd", Rows.laid_spring_wire_ErrEnd), ("spring/wire.ErrSum", Rows.laid_spring_wire_ErrSum), ("spring/wire.ErrStray", Rows.laid_spring_wire_ErrStray), ("spring/gather.ErrMany", Rows.laid_spring_gather_ErrMany), ("spring/gather.ErrNone", Rows.laid_spring_gather_ErrNone)] W := h1
  obtain ⟨a6, s6, hv6, _, _, _⟩ := laid_sentinel hL Tryd.g_contrary Tryd.gt_contrary Tryd.underlying74 Tryd.rowES Tryd.underlying205 Tryd.underlying223 rfl rfl Tryd.underlying9 Tryd.cellsES Tryd.cells9
  have c6 : W.cell? ⟨1, 0, none⟩ = some (.iface 205 (.pointer (some a6))) := by simpa using World.var?_cell Tryd.g_contrary hv6 0
  have hL0 := hL.tail.tail.tail
  obtain ⟨a0, s0, hv0, _, _, _⟩ := laid_sentinel hL0 Tryd.g_head Tryd.gt_head Tryd.underlying74 Tryd.rowES Tryd.underlying205 Tryd.underlying223 rfl rfl Tryd.underlying9 Tryd.cellsES Tryd.cells9
  have c0 : W.cell? ⟨0, 0, none⟩ = some (.iface 205 (.pointer (some a0))) := by simpa using World.var?_cell Tryd.g_head hv0 0
  have hL1 := hL0.tail
  obtain ⟨a1, s1, hv1, _, _, _⟩ := laid_sentinel hL1 Tryd.g_len Tryd.gt_len Tryd.underlying74 Tryd.rowES Tryd.underlying205 Tryd.underlying223 rfl rfl Tryd.underlying9 Tryd.cellsES Tryd.cells9
  have c1 : W.cell? ⟨6, 0, none⟩ = some (.iface 205 (.pointer (some a1))) := by simpa using World.var?_cell Tryd.g_len hv1 0
  have hL2 := hL1.tail
  obtain ⟨a2, s2, hv2, _, _, _⟩ := laid_sentinel hL2 Tryd.g_sz Tryd.gt_sz Tryd.underlying74 Tryd.rowES Tryd.underlying205 Tryd.underlying223 rfl rfl Tryd.underlying9 Tryd.cellsES Tryd.cells9
  have c2 : W.cell? ⟨7, 0, none⟩ = some (.iface 205 (.pointer (some a2))) := by simpa using World.var?_cell Tryd.g_sz hv2 0
  have hL3 := hL2.tail
  obtain ⟨a3, s3, hv3, _, _, _⟩ := laid_sentinel hL3 Tryd.g_fin Tryd.gt_fin Tryd.underlying74 Tryd.rowES Tryd.underlying205 Tryd.underlying223 rfl rfl Tryd.underlying9 Tryd.cellsES Tryd.cells9
  have c3 : W.cell? ⟨8, 0, none⟩ = some (.iface 205 (.pointer (some a3))) := by simpa using World.var?_cell Tryd.g_fin hv3 0
  have hL4 := hL3.tail
  obtain ⟨a4, s4, hv4, _, _, _⟩ := laid_sentinel hL4 Tryd.g_sum Tryd.gt_sum Tryd.underlying74 Tryd.rowES Tryd.underlying205 Tryd.underlying223 rfl rfl Tryd.underlying9 Tryd.cellsES Tryd.cells9
  have c4 : W.cell? ⟨9, 0, none⟩ = some (.iface 205 (.pointer (some a4))) := by simpa using World.var?_cell Tryd.g_sum hv4 0
  have hL5 := hL4.tail
  obtain ⟨a5, s5, hv5, _, _, _⟩ := laid_sentinel hL5 Tryd.g_stray Tryd.gt_stray Tryd.underlying74 Tryd.rowES Tryd.underlying205 Tryd.underlying223 rfl rfl Tryd.underlying9 Tryd.cellsES Tryd.cells9
  have c5 : W.cell? ⟨10, 0, none⟩ = some (.iface 205 (.pointer (some a5))) := by simpa using World.var?_cell Tryd.g_stray hv5 0
  have hL6 := hL5.tail
  obtain ⟨a7, s7, hv7, _, _, _⟩ := laid_sentinel hL6 Tryd.g_many Tryd.gt_many Tryd.underlying74 Tryd.rowES Tryd.underlying205 Tryd.underlying223 rfl rfl Tryd.underlying9 Tryd.cellsES Tryd.cells9
  have c7 : W.cell? ⟨2, 0, none⟩ = some (.iface 205 (.pointer (some a7))) := by simpa using World.var?_cell Tryd.g_many hv7 0
  have hL7 := hL6.tail
  obtain ⟨a8, s8, hv8, _, _, _⟩ := laid_sentinel hL7 Tryd.g_nobody Tryd.gt_nobody Tryd.underlying74 Tryd.rowES Tryd.underlying205 Tryd.underlying223 rfl rfl Tryd.underlying9 Tryd.cellsES Tryd.cells9
  have c8 : W.cell? ⟨3, 0, none⟩ = some (.iface 205 (.pointer (some a8))) := by simpa using World.var?_cell Tryd.g_nobody hv8 0
  refine ⟨fun i => match i with | 0 => a0 | 1 => a1 | 2 => a2 | 3 => a3 | 4 => a4 | 5 => a5 | 6 => a6 | 7 => a7 | _ => a8, ?_, c0, c1, c2, c3, c4, c5, c6, c7, c8, ht⟩
  have l0 := cell_lt c0
  have l1 := cell_lt c1
  have l2 := cell_lt c2
  have l3 := cell_lt c3
  have l4 := cell_lt c4
  have l5 := cell_lt c5
  have l6 := cell_lt c6
  have l7 := cell_lt c7
  have l8 := cell_lt c8
  have l9 := cell_lt ht
  omega
end Go.Proofs.YtnpcinjdbeilkaaDoor
