/-
  The program's Read, walked from below: what the package-level errors hold; wire.checkHead, wire.checkEnd.
-/
import Derived.Test.YtnpcinjdbeilkaaDoorHa
namespace Go.Proofs.YtnpcinjdbeilkaaDoor
open Go.RowKit Dw Period
set_option maxRecDepth 100000

/-- what the package-level variables hold -/
structure Laid (a : Nat → Addr) (w : World) : Prop where
  size : 12 ≤ w.heap.size
  head : w.cell? ⟨0, 0, none⟩ = some (.iface 205 (.pointer (some (a 0))))
  len : w.cell? ⟨6, 0, none⟩ = some (.iface 205 (.pointer (some (a 1))))
  sz : w.cell? ⟨7, 0, none⟩ = some (.iface 205 (.pointer (some (a 2))))
  fin : w.cell? ⟨8, 0, none⟩ = some (.iface 205 (.pointer (some (a 3))))
  sum : w.cell? ⟨9, 0, none⟩ = some (.iface 205 (.pointer (some (a 4))))
  stray : w.cell? ⟨10, 0, none⟩ = some (.iface 205 (.pointer (some (a 5))))
  contrary : w.cell? ⟨1, 0, none⟩ = some (.iface 205 (.pointer (some (a 6))))
  many : w.cell? ⟨2, 0, none⟩ = some (.iface 205 (.pointer (some (a 7))))
  nobody : w.cell? ⟨3, 0, none⟩ = some (.iface 205 (.pointer (some (a 8))))
  typ : w.cell? ⟨11, 0, none⟩ = some (.iface 178 (.agg #[.pointer (some ⟨13, 74, none⟩)]))
theorem Laid.below {a : Nat → Addr} {w w' : World} {B : Nat} (h : Laid a w) (hb : Below B w w') (hB : 12 ≤ B) : Laid a w' := by
  have q : ∀ b, b < 12 → w'.cell? ⟨b, 0, none⟩ = w.cell? ⟨b, 0, none⟩ := fun b hlt => hb.cell (p := ⟨b, 0, none⟩) (by show b < B; omega)
  exact ⟨Nat.le_trans h.size hb.size, by rw [q _ (by decide)]; exact h.head, by rw [q _ (by decide)]; exact h.len, by rw [q _ (by decide)]; exact h.sz, by rw [q _ (by decide)]; exact h.fin,
    by rw [q _ (by decide)]; exact h.sum, by rw [q _ (by decide)]; exact h.stray, by rw [q _ (by decide)]; exact h.contrary, by rw [q _ (by decide)]; exact h.many, by rw [q _ (by decide)]; exact h.nobody, by rw [q _ (by decide)]; exact h.typ⟩
theorem Laid.after {a : Nat → Addr} {w w' : World} (h : Laid a w) (hb : Below w.heap.size w w') : Laid a w' := h.below hb h.size
theorem Laid.alloc {a : Nat → Addr} {w : World} (h : Laid a w) (o : Obj) : Laid a (w.alloc o) := h.after ((Below.refl _ _).alloc (Nat.le_refl _) o)
/-- a fault as an error -/
def faultV (p : Int) (c : Addr) : Value := .iface 99 (.agg #[.int .i64 p, .iface 205 (.pointer (some c))])

set_option maxHeartbeats 1000000 in
theorem checkhead_len (a : Nat → Addr) (id len size : Nat) (hl : len = 0 ∨ 400 < len) (hl2 : len ≤ 65535) (w : World) (hw : Laid a w) :
    Calls Tryd.prog 43 #[.agg #[.int .i64 (id : Int), .int .i64 (len : Int), .int .i64 (size : Int), .int .u64 0, .int .u64 0, .string { data := #[] }]] w fun e w' => e = .returned (faultV 2 (a 1)) ∧ Below w.heap.size w w' := by
  have q1 := (hw.alloc (.cells #[.int .i64 (id : Int), .int .i64 (len : Int), .int .i64 (size : Int), .int .u64 0, .int .u64 0, .string { data := #[] }] 72)).len
  by_cases h : len = 0
  · have hd : ((len : Int) == 0) = true := by simp [h]
    clear hl h
    go_enter Tryd.func43, Tryd.ntmps43
    go_wp2
    go_ret
    exact ⟨rfl, by go_grown⟩
  · have hd : ((len : Int) == 0) = false := by simp [h]
    have h4 : 400 < len := by omega
    clear hl h
    go_enter Tryd.func43, Tryd.ntmps43
    go_wp2
    go_ret
    exact ⟨rfl, by go_grown⟩

set_option maxHeartbeats 1000000 in
theorem checkhead_size (a : Nat → Addr) (id len size : Nat) (hl1 : 1 ≤ len) (hl2 : len ≤ 400) (hz : size = 0 ∨ 16 < size ∨ 80 < cnt len size) (w : World) (hw : Laid a w) :
    Calls Tryd.prog 43 #[.agg #[.int .i64 (id : Int), .int .i64 (len : Int), .int .i64 (size : Int), .int .u64 0, .int .u64 0, .string { data := #[] }]] w fun e w' => e = .returned (faultV 4 (a 2)) ∧ Below w.heap.size w w' := by
  have q1 := (hw.alloc (.cells #[.int .i64 (id : Int), .int .i64 (len : Int), .int .i64 (size : Int), .int .u64 0, .int .u64 0, .string { data := #[] }] 72)).sz
  have hd : ((len : Int) == 0) = false := by simp; omega
  have HF : Hid (¬ (1 ≤ len ∧ (1 : Int) ≤ (size : Int) ∧ (size : Int) ≤ 16 ∧ cnt len (size : Int).toNat ≤ 80)) := by
    show ¬ _
    rw [Int.toNat_natCast]
    omega
  clear hz
  go_enter Tryd.func43, Tryd.ntmps43
  go_wp2_with (go_at_call 58; refine (fit_no len (size : Int) hl2 HF.out _).mono ?_; rintro e w' ⟨rfl, hw'⟩; obtain rfl := hw'.symm)
  go_ret
  exact ⟨rfl, by go_grown⟩

set_option maxHeartbeats 1000000 in
theorem checkhead_ok (id len size : Nat) (hl1 : 1 ≤ len) (hl2 : len ≤ 400) (hz1 : 1 ≤ size) (hz2 : size ≤ 16) (hk : cnt len size ≤ 80) (w : World) :
    Calls Tryd.prog 43 #[.agg #[.int .i64 (id : Int), .int .i64 (len : Int), .int .i64 (size : Int), .int .u64 0, .int .u64 0, .string { data := #[] }]] w fun e w' => e = .returned .nilIface ∧ Below w.heap.size w w' := by
  have hd : ((len : Int) == 0) = false := by simp; omega
  go_enter Tryd.func43, Tryd.ntmps43
  go_wp2_with (go_at_call 58; refine (fit_yes len size hl1 hl2 hz1 hz2 hk _).mono ?_; rintro e w' ⟨rfl, hw'⟩; obtain rfl := hw'.symm)
  go_ret
  exact ⟨rfl, by go_grown⟩
end Go.Proofs.YtnpcinjdbeilkaaDoor
