/- almonernum.Num: the number of an error. -/
import Derived.Test.YtjocjkfllicjdaaDoorOforms1
namespace Go.Proofs.YtjocjkfllicjdaaDoor
open Go.ChangeShapes Go.WideShapes Go.ChangeAt Go.RowKit
set_option maxRecDepth 100000

theorem Err.lt {w : World} {g : Nat} {s : List UInt8} {a : Addr} (h : Err w g s a) : a.block < w.heap.size := by
  obtain ⟨_, ⟨t, h2, _⟩, _⟩ := h
  exact World.block_lt_of_cell? w _ h2
theorem errnum_nil (w : World) : Calls Tryd.prog 11 #[.nilIface] w fun e w' => e = .returned (.int .i64 0) ∧ w' = w := by
  go_enter Tryd.func11, Tryd.ntmps11
  go_wp2
  go_ret
  exact ⟨rfl, rfl⟩
/-- All errors lie as laid. -/
def Errs (w : World) (a : Nat → Addr) : Prop := Err w 0 text0 (a 0) ∧ Err w 1 text1 (a 1) ∧ Err w 2 text2 (a 2) ∧ Err w 3 text3 (a 3) ∧ Err w 4 text4 (a 4) ∧ Err w 5 text5 (a 5) ∧ Err w 6 text6 (a 6) ∧ Err w 7 text7 (a 7) ∧ Err w 8 text8 (a 8) ∧ Err w 9 text9 (a 9) ∧ Err w 10 text10 (a 10) ∧ Err w 11 text11 (a 11) ∧ Err w 12 text12 (a 12) ∧ Err w 13 text13 (a 13) ∧ Err w 14 text14 (a 14) ∧ Err w 15 text15 (a 15)
theorem Errs.late {w w' : World} {a : Nat → Addr} (h : Errs w a) (hb : Below w.heap.size w w') : Errs w' a := by
  obtain ⟨e0, e1, e2, e3, e4, e5, e6, e7, e8, e9, e10, e11, e12, e13, e14, e15⟩ := h
  exact ⟨e0.late hb, e1.late hb, e2.late hb, e3.late hb, e4.late hb, e5.late hb, e6.late hb, e7.late hb, e8.late hb, e9.late hb, e10.late hb, e11.late hb, e12.late hb, e13.late hb, e14.late hb, e15.late hb⟩
theorem Errs.cell_state {w : World} {a : Nat → Addr} (h : Errs w a) : w.cell? ⟨0, 0, none⟩ = some (.iface 108 (.pointer (some (a 0)))) := h.1.1
theorem Errs.cell_number {w : World} {a : Nat → Addr} (h : Errs w a) : w.cell? ⟨1, 0, none⟩ = some (.iface 108 (.pointer (some (a 1)))) := h.2.1.1
theorem Errs.cell_over {w : World} {a : Nat → Addr} (h : Errs w a) : w.cell? ⟨2, 0, none⟩ = some (.iface 108 (.pointer (some (a 2)))) := h.2.2.1.1
theorem Errs.cell_bytes {w : World} {a : Nat → Addr} (h : Errs w a) : w.cell? ⟨3, 0, none⟩ = some (.iface 108 (.pointer (some (a 3)))) := h.2.2.2.1.1
theorem Errs.cell_sum {w : World} {a : Nat → Addr} (h : Errs w a) : w.cell? ⟨4, 0, none⟩ = some (.iface 108 (.pointer (some (a 4)))) := h.2.2.2.2.1.1
theorem Errs.cell_gone {w : World} {a : Nat → Addr} (h : Errs w a) : w.cell? ⟨5, 0, none⟩ = some (.iface 108 (.pointer (some (a 5)))) := h.2.2.2.2.2.1.1
theorem Errs.cell_there {w : World} {a : Nat → Addr} (h : Errs w a) : w.cell? ⟨6, 0, none⟩ = some (.iface 108 (.pointer (some (a 6)))) := h.2.2.2.2.2.2.1.1
theorem Errs.cell_full {w : World} {a : Nat → Addr} (h : Errs w a) : w.cell? ⟨7, 0, none⟩ = some (.iface 108 (.pointer (some (a 7)))) := h.2.2.2.2.2.2.2.1.1
theorem Errs.cell_large {w : World} {a : Nat → Addr} (h : Errs w a) : w.cell? ⟨8, 0, none⟩ = some (.iface 108 (.pointer (some (a 8)))) := h.2.2.2.2.2.2.2.2.1.1
theorem Errs.cell_lost {w : World} {a : Nat → Addr} (h : Errs w a) : w.cell? ⟨9, 0, none⟩ = some (.iface 108 (.pointer (some (a 9)))) := h.2.2.2.2.2.2.2.2.2.1.1
theorem Errs.cell_server {w : World} {a : Nat → Addr} (h : Errs w a) : w.cell? ⟨10, 0, none⟩ = some (.iface 108 (.pointer (some (a 10)))) := h.2.2.2.2.2.2.2.2.2.2.1.1
theorem Errs.cell_task {w : World} {a : Nat → Addr} (h : Errs w a) : w.cell? ⟨11, 0, none⟩ = some (.iface 108 (.pointer (some (a 11)))) := h.2.2.2.2.2.2.2.2.2.2.2.1.1
theorem Errs.cell_tight {w : World} {a : Nat → Addr} (h : Errs w a) : w.cell? ⟨12, 0, none⟩ = some (.iface 108 (.pointer (some (a 12)))) := h.2.2.2.2.2.2.2.2.2.2.2.2.1.1
theorem Errs.cell_deep {w : World} {a : Nat → Addr} (h : Errs w a) : w.cell? ⟨13, 0, none⟩ = some (.iface 108 (.pointer (some (a 13)))) := h.2.2.2.2.2.2.2.2.2.2.2.2.2.1.1
theorem Errs.cell_busy {w : World} {a : Nat → Addr} (h : Errs w a) : w.cell? ⟨14, 0, none⟩ = some (.iface 108 (.pointer (some (a 14)))) := h.2.2.2.2.2.2.2.2.2.2.2.2.2.2.1.1
theorem Errs.cell_ballot {w : World} {a : Nat → Addr} (h : Errs w a) : w.cell? ⟨15, 0, none⟩ = some (.iface 108 (.pointer (some (a 15)))) := h.2.2.2.2.2.2.2.2.2.2.2.2.2.2.2.1
set_option maxHeartbeats 6400000 in
theorem errnum_number (w : World) (a : Nat → Addr) (E : Errs w a) :
    Calls Tryd.prog 11 #[.iface 108 (.pointer (some (a 1)))] w fun e w' => e = .returned (.int .i64 1) ∧ Below w.heap.size w w' := by
  obtain ⟨E0, E1, E2, E3, E4, E5, E6, E7, E8, E9, E10, E11, E12, E13, E14, E15⟩ := E
  generalize a 0 = a0 at *
  generalize a 1 = a1 at *
  generalize a 2 = a2 at *
  generalize a 3 = a3 at *
  generalize a 4 = a4 at *
  generalize a 5 = a5 at *
  generalize a 6 = a6 at *
  generalize a 7 = a7 at *
  generalize a 8 = a8 at *
  generalize a 9 = a9 at *
  generalize a 10 = a10 at *
  generalize a 11 = a11 at *
  generalize a 12 = a12 at *
  generalize a 13 = a13 at *
  generalize a 14 = a14 at *
  generalize a 15 = a15 at *
  have c0 := E0.1
  have c1 := E1.1
  have c2 := E2.1
  have c3 := E3.1
  have c4 := E4.1
  have c5 := E5.1
  have c6 := E6.1
  have c7 := E7.1
  have c8 := E8.1
  have c9 := E9.1
  have c10 := E10.1
  have c11 := E11.1
  have c12 := E12.1
  have c13 := E13.1
  have c14 := E14.1
  have c15 := E15.1
  have q := E1.eq
  clear E0 E1 E2 E3 E4 E5 E6 E7 E8 E9 E10 E11 E12 E13 E14 E15
  go_enter Tryd.func11, Tryd.ntmps11
  go_wp2
  go_loop [27] (fun iv => iv = .int .i64 0) (fun iv => 16 - (intOf iv).toNat)
  case atStart => exact rfl
  case round =>
    rcases hrel with rfl
    · go_wp2
      go_ret
      exact ⟨rfl, (Below.refl _ _).alloc (Nat.le_refl _) _⟩
set_option maxHeartbeats 6400000 in
theorem errnum_ballot (w : World) (a : Nat → Addr) (E : Errs w a) :
    Calls Tryd.prog 11 #[.iface 108 (.pointer (some (a 15)))] w fun e w' => e = .returned (.int .i64 15) ∧ Below w.heap.size w w' := by
  obtain ⟨E0, E1, E2, E3, E4, E5, E6, E7, E8, E9, E10, E11, E12, E13, E14, E15⟩ := E
  generalize a 0 = a0 at *
  generalize a 1 = a1 at *
  generalize a 2 = a2 at *
  generalize a 3 = a3 at *
  generalize a 4 = a4 at *
  generalize a 5 = a5 at *
  generalize a 6 = a6 at *
  generalize a 7 = a7 at *
  generalize a 8 = a8 at *
  generalize a 9 = a9 at *
  generalize a 10 = a10 at *
  generalize a 11 = a11 at *
  generalize a 12 = a12 at *
  generalize a 13 = a13 at *
  generalize a 14 = a14 at *
  generalize a 15 = a15 at *
  have c0 := E0.1
  have c1 := E1.1
  have c2 := E2.1
  have c3 := E3.1
  have c4 := E4.1
  have c5 := E5.1
  have c6 := E6.1
  have c7 := E7.1
  have c8 := E8.1
  have c9 := E9.1
  have c10 := E10.1
  have c11 := E11.1
  have c12 := E12.1
  have c13 := E13.1
  have c14 := E14.1
  have c15 := E15.1
  have n1 : ∀ o, (binOp .eql 38 (.iface 108 (.pointer (some a15))) (.iface 108 (.pointer (some a1)))).run Tryd.prog (w.alloc o) = .ok (.bool false) (w.alloc o) := fun o => E15.neq E1 (by decide) (Below.heap_alloc w o _ E15.lt) (Below.heap_alloc w o _ E1.lt)
  have n2 : ∀ o, (binOp .eql 38 (.iface 108 (.pointer (some a15))) (.iface 108 (.pointer (some a2)))).run Tryd.prog (w.alloc o) = .ok (.bool false) (w.alloc o) := fun o => E15.neq E2 (by decide) (Below.heap_alloc w o _ E15.lt) (Below.heap_alloc w o _ E2.lt)
  have n3 : ∀ o, (binOp .eql 38 (.iface 108 (.pointer (some a15))) (.iface 108 (.pointer (some a3)))).run Tryd.prog (w.alloc o) = .ok (.bool false) (w.alloc o) := fun o => E15.neq E3 (by decide) (Below.heap_alloc w o _ E15.lt) (Below.heap_alloc w o _ E3.lt)
  have n4 : ∀ o, (binOp .eql 38 (.iface 108 (.pointer (some a15))) (.iface 108 (.pointer (some a4)))).run Tryd.prog (w.alloc o) = .ok (.bool false) (w.alloc o) := fun o => E15.neq E4 (by decide) (Below.heap_alloc w o _ E15.lt) (Below.heap_alloc w o _ E4.lt)
  have n5 : ∀ o, (binOp .eql 38 (.iface 108 (.pointer (some a15))) (.iface 108 (.pointer (some a5)))).run Tryd.prog (w.alloc o) = .ok (.bool false) (w.alloc o) := fun o => E15.neq E5 (by decide) (Below.heap_alloc w o _ E15.lt) (Below.heap_alloc w o _ E5.lt)
  have n6 : ∀ o, (binOp .eql 38 (.iface 108 (.pointer (some a15))) (.iface 108 (.pointer (some a6)))).run Tryd.prog (w.alloc o) = .ok (.bool false) (w.alloc o) := fun o => E15.neq E6 (by decide) (Below.heap_alloc w o _ E15.lt) (Below.heap_alloc w o _ E6.lt)
  have n7 : ∀ o, (binOp .eql 38 (.iface 108 (.pointer (some a15))) (.iface 108 (.pointer (some a7)))).run Tryd.prog (w.alloc o) = .ok (.bool false) (w.alloc o) := fun o => E15.neq E7 (by decide) (Below.heap_alloc w o _ E15.lt) (Below.heap_alloc w o _ E7.lt)
  have n8 : ∀ o, (binOp .eql 38 (.iface 108 (.pointer (some a15))) (.iface 108 (.pointer (some a8)))).run Tryd.prog (w.alloc o) = .ok (.bool false) (w.alloc o) := fun o => E15.neq E8 (by decide) (Below.heap_alloc w o _ E15.lt) (Below.heap_alloc w o _ E8.lt)
  have n9 : ∀ o, (binOp .eql 38 (.iface 108 (.pointer (some a15))) (.iface 108 (.pointer (some a9)))).run Tryd.prog (w.alloc o) = .ok (.bool false) (w.alloc o) := fun o => E15.neq E9 (by decide) (Below.heap_alloc w o _ E15.lt) (Below.heap_alloc w o _ E9.lt)
  have n10 : ∀ o, (binOp .eql 38 (.iface 108 (.pointer (some a15))) (.iface 108 (.pointer (some a10)))).run Tryd.prog (w.alloc o) = .ok (.bool false) (w.alloc o) := fun o => E15.neq E10 (by decide) (Below.heap_alloc w o _ E15.lt) (Below.heap_alloc w o _ E10.lt)
  have n11 : ∀ o, (binOp .eql 38 (.iface 108 (.pointer (some a15))) (.iface 108 (.pointer (some a11)))).run Tryd.prog (w.alloc o) = .ok (.bool false) (w.alloc o) := fun o => E15.neq E11 (by decide) (Below.heap_alloc w o _ E15.lt) (Below.heap_alloc w o _ E11.lt)
  have n12 : ∀ o, (binOp .eql 38 (.iface 108 (.pointer (some a15))) (.iface 108 (.pointer (some a12)))).run Tryd.prog (w.alloc o) = .ok (.bool false) (w.alloc o) := fun o => E15.neq E12 (by decide) (Below.heap_alloc w o _ E15.lt) (Below.heap_alloc w o _ E12.lt)
  have n13 : ∀ o, (binOp .eql 38 (.iface 108 (.pointer (some a15))) (.iface 108 (.pointer (some a13)))).run Tryd.prog (w.alloc o) = .ok (.bool false) (w.alloc o) := fun o => E15.neq E13 (by decide) (Below.heap_alloc w o _ E15.lt) (Below.heap_alloc w o _ E13.lt)
  have n14 : ∀ o, (binOp .eql 38 (.iface 108 (.pointer (some a15))) (.iface 108 (.pointer (some a14)))).run Tryd.prog (w.alloc o) = .ok (.bool false) (w.alloc o) := fun o => E15.neq E14 (by decide) (Below.heap_alloc w o _ E15.lt) (Below.heap_alloc w o _ E14.lt)
  have q := E15.eq
  clear E0 E1 E2 E3 E4 E5 E6 E7 E8 E9 E10 E11 E12 E13 E14 E15
  go_enter Tryd.func11, Tryd.ntmps11
  go_wp2
  go_loop [27] (fun iv => iv = .int .i64 0 ∨ iv = .int .i64 1 ∨ iv = .int .i64 2 ∨ iv = .int .i64 3 ∨ iv = .int .i64 4 ∨ iv = .int .i64 5 ∨ iv = .int .i64 6 ∨ iv = .int .i64 7 ∨ iv = .int .i64 8 ∨ iv = .int .i64 9 ∨ iv = .int .i64 10 ∨ iv = .int .i64 11 ∨ iv = .int .i64 12 ∨ iv = .int .i64 13 ∨ iv = .int .i64 14) (fun iv => 16 - (intOf iv).toNat)
  case atStart => exact .inl rfl
  case round =>
    rcases hrel with rfl | rfl | rfl | rfl | rfl | rfl | rfl | rfl | rfl | rfl | rfl | rfl | rfl | rfl | rfl
    · go_wp2
      go_round
      case rel => exact (.inr (.inl rfl))
      case measure => simp [intOf]
    · go_wp2
      go_round
      case rel => exact (.inr (.inr (.inl rfl)))
      case measure => simp [intOf]
    · go_wp2
      go_round
      case rel => exact (.inr (.inr (.inr (.inl rfl))))
      case measure => simp [intOf]
    · go_wp2
      go_round
      case rel => exact (.inr (.inr (.inr (.inr (.inl rfl)))))
      case measure => simp [intOf]
    · go_wp2
      go_round
      case rel => exact (.inr (.inr (.inr (.inr (.inr (.inl rfl))))))
      case measure => simp [intOf]
    · go_wp2
      go_round
      case rel => exact (.inr (.inr (.inr (.inr (.inr (.inr (.inl rfl)))))))
      case measure => simp [intOf]
    · go_wp2
      go_round
      case rel => exact (.inr (.inr (.inr (.inr (.inr (.inr (.inr (.inl rfl))))))))
      case measure => simp [intOf]
    · go_wp2
      go_round
      case rel => exact (.inr (.inr (.inr (.inr (.inr (.inr (.inr (.inr (.inl rfl)))))))))
      case measure => simp [intOf]
    · go_wp2
      go_round
      case rel => exact (.inr (.inr (.inr (.inr (.inr (.inr (.inr (.inr (.inr (.inl rfl))))))))))
      case measure => simp [intOf]
    · go_wp2
      go_round
      case rel => exact (.inr (.inr (.inr (.inr (.inr (.inr (.inr (.inr (.inr (.inr (.inl rfl)))))))))))
      case measure => simp [intOf]
    · go_wp2
      go_round
      case rel => exact (.inr (.inr (.inr (.inr (.inr (.inr (.inr (.inr (.inr (.inr (.inr (.inl rfl))))))))))))
      case measure => simp [intOf]
    · go_wp2
      go_round
      case rel => exact (.inr (.inr (.inr (.inr (.inr (.inr (.inr (.inr (.inr (.inr (.inr (.inr (.inl rfl)))))))))))))
      case measure => simp [intOf]
    · go_wp2
      go_round
      case rel => exact (.inr (.inr (.inr (.inr (.inr (.inr (.inr (.inr (.inr (.inr (.inr (.inr (.inr (.inl rfl))))))))))))))
      case measure => simp [intOf]
    · go_wp2
      go_round
      case rel => exact (.inr (.inr (.inr (.inr (.inr (.inr (.inr (.inr (.inr (.inr (.inr (.inr (.inr (.inr rfl))))))))))))))
      case measure => simp [intOf]
    · go_wp2
      go_ret
      exact ⟨rfl, (Below.refl _ _).alloc (Nat.le_refl _) _⟩
set_option maxHeartbeats 6400000 in
theorem errnum_state (w : World) (a : Nat → Addr) (E : Errs w a) :
    Calls Tryd.prog 11 #[.iface 108 (.pointer (some (a 0)))] w fun e w' => e = .returned (.int .i64 16) ∧ Below w.heap.size w w' := by
  obtain ⟨E0, E1, E2, E3, E4, E5, E6, E7, E8, E9, E10, E11, E12, E13, E14, E15⟩ := E
  generalize a 0 = a0 at *
  generalize a 1 = a1 at *
  generalize a 2 = a2 at *
  generalize a 3 = a3 at *
  generalize a 4 = a4 at *
  generalize a 5 = a5 at *
  generalize a 6 = a6 at *
  generalize a 7 = a7 at *
  generalize a 8 = a8 at *
  generalize a 9 = a9 at *
  generalize a 10 = a10 at *
  generalize a 11 = a11 at *
  generalize a 12 = a12 at *
  generalize a 13 = a13 at *
  generalize a 14 = a14 at *
  generalize a 15 = a15 at *
  have c0 := E0.1
  have c1 := E1.1
  have c2 := E2.1
  have c3 := E3.1
  have c4 := E4.1
  have c5 := E5.1
  have c6 := E6.1
  have c7 := E7.1
  have c8 := E8.1
  have c9 := E9.1
  have c10 := E10.1
  have c11 := E11.1
  have c12 := E12.1
  have c13 := E13.1
  have c14 := E14.1
  have c15 := E15.1
  have n1 : ∀ o, (binOp .eql 38 (.iface 108 (.pointer (some a0))) (.iface 108 (.pointer (some a1)))).run Tryd.prog (w.alloc o) = .ok (.bool false) (w.alloc o) := fun o => E0.neq E1 (by decide) (Below.heap_alloc w o _ E0.lt) (Below.heap_alloc w o _ E1.lt)
  have n2 : ∀ o, (binOp .eql 38 (.iface 108 (.pointer (some a0))) (.iface 108 (.pointer (some a2)))).run Tryd.prog (w.alloc o) = .ok (.bool false) (w.alloc o) := fun o => E0.neq E2 (by decide) (Below.heap_alloc w o _ E0.lt) (Below.heap_alloc w o _ E2.lt)
  have n3 : ∀ o, (binOp .eql 38 (.iface 108 (.pointer (some a0))) (.iface 108 (.pointer (some a3)))).run Tryd.prog (w.alloc o) = .ok (.bool false) (w.alloc o) := fun o => E0.neq E3 (by decide) (Below.heap_alloc w o _ E0.lt) (Below.heap_alloc w o _ E3.lt)
  have n4 : ∀ o, (binOp .eql 38 (.iface 108 (.pointer (some a0))) (.iface 108 (.pointer (some a4)))).run Tryd.prog (w.alloc o) = .ok (.bool false) (w.alloc o) := fun o => E0.neq E4 (by decide) (Below.heap_alloc w o _ E0.lt) (Below.heap_alloc w o _ E4.lt)
  have n5 : ∀ o, (binOp .eql 38 (.iface 108 (.pointer (some a0))) (.iface 108 (.pointer (some a5)))).run Tryd.prog (w.alloc o) = .ok (.bool false) (w.alloc o) := fun o => E0.neq E5 (by decide) (Below.heap_alloc w o _ E0.lt) (Below.heap_alloc w o _ E5.lt)
  have n6 : ∀ o, (binOp .eql 38 (.iface 108 (.pointer (some a0))) (.iface 108 (.pointer (some a6)))).run Tryd.prog (w.alloc o) = .ok (.bool false) (w.alloc o) := fun o => E0.neq E6 (by decide) (Below.heap_alloc w o _ E0.lt) (Below.heap_alloc w o _ E6.lt)
  have n7 : ∀ o, (binOp .eql 38 (.iface 108 (.pointer (some a0))) (.iface 108 (.pointer (some a7)))).run Tryd.prog (w.alloc o) = .ok (.bool false) (w.alloc o) := fun o => E0.neq E7 (by decide) (Below.heap_alloc w o _ E0.lt) (Below.heap_alloc w o _ E7.lt)
  have n8 : ∀ o, (binOp .eql 38 (.iface 108 (.pointer (some a0))) (.iface 108 (.pointer (some a8)))).run Tryd.prog (w.alloc o) = .ok (.bool false) (w.alloc o) := fun o => E0.neq E8 (by decide) (Below.heap_alloc w o _ E0.lt) (Below.heap_alloc w o _ E8.lt)
  have n9 : ∀ o, (binOp .eql 38 (.iface 108 (.pointer (some a0))) (.iface 108 (.pointer (some a9)))).run Tryd.prog (w.alloc o) = .ok (.bool false) (w.alloc o) := fun o => E0.neq E9 (by decide) (Below.heap_alloc w o _ E0.lt) (Below.heap_alloc w o _ E9.lt)
  have n10 : ∀ o, (binOp .eql 38 (.iface 108 (.pointer (some a0))) (.iface 108 (.pointer (some a10)))).run Tryd.prog (w.alloc o) = .ok (.bool false) (w.alloc o) := fun o => E0.neq E10 (by decide) (Below.heap_alloc w o _ E0.lt) (Below.heap_alloc w o _ E10.lt)
  have n11 : ∀ o, (binOp .eql 38 (.iface 108 (.pointer (some a0))) (.iface 108 (.pointer (some a11)))).run Tryd.prog (w.alloc o) = .ok (.bool false) (w.alloc o) := fun o => E0.neq E11 (by decide) (Below.heap_alloc w o _ E0.lt) (Below.heap_alloc w o _ E11.lt)
  have n12 : ∀ o, (binOp .eql 38 (.iface 108 (.pointer (some a0))) (.iface 108 (.pointer (some a12)))).run Tryd.prog (w.alloc o) = .ok (.bool false) (w.alloc o) := fun o => E0.neq E12 (by decide) (Below.heap_alloc w o _ E0.lt) (Below.heap_alloc w o _ E12.lt)
  have n13 : ∀ o, (binOp .eql 38 (.iface 108 (.pointer (some a0))) (.iface 108 (.pointer (some a13)))).run Tryd.prog (w.alloc o) = .ok (.bool false) (w.alloc o) := fun o => E0.neq E13 (by decide) (Below.heap_alloc w o _ E0.lt) (Below.heap_alloc w o _ E13.lt)
  have n14 : ∀ o, (binOp .eql 38 (.iface 108 (.pointer (some a0))) (.iface 108 (.pointer (some a14)))).run Tryd.prog (w.alloc o) = .ok (.bool false) (w.alloc o) := fun o => E0.neq E14 (by decide) (Below.heap_alloc w o _ E0.lt) (Below.heap_alloc w o _ E14.lt)
  have n15 : ∀ o, (binOp .eql 38 (.iface 108 (.pointer (some a0))) (.iface 108 (.pointer (some a15)))).run Tryd.prog (w.alloc o) = .ok (.bool false) (w.alloc o) := fun o => E0.neq E15 (by decide) (Below.heap_alloc w o _ E0.lt) (Below.heap_alloc w o _ E15.lt)
  have q := E0.eq
  clear E0 E1 E2 E3 E4 E5 E6 E7 E8 E9 E10 E11 E12 E13 E14 E15
  go_enter Tryd.func11, Tryd.ntmps11
  go_wp2
  go_loop [27] (fun iv => iv = .int .i64 0 ∨ iv = .int .i64 1 ∨ iv = .int .i64 2 ∨ iv = .int .i64 3 ∨ iv = .int .i64 4 ∨ iv = .int .i64 5 ∨ iv = .int .i64 6 ∨ iv = .int .i64 7 ∨ iv = .int .i64 8 ∨ iv = .int .i64 9 ∨ iv = .int .i64 10 ∨ iv = .int .i64 11 ∨ iv = .int .i64 12 ∨ iv = .int .i64 13 ∨ iv = .int .i64 14 ∨ iv = .int .i64 15) (fun iv => 16 - (intOf iv).toNat)
  case atStart => exact .inl rfl
  case round =>
    rcases hrel with rfl | rfl | rfl | rfl | rfl | rfl | rfl | rfl | rfl | rfl | rfl | rfl | rfl | rfl | rfl | rfl
    · go_wp2
      go_round
      case rel => exact (.inr (.inl rfl))
      case measure => simp [intOf]
    · go_wp2
      go_round
      case rel => exact (.inr (.inr (.inl rfl)))
      case measure => simp [intOf]
    · go_wp2
      go_round
      case rel => exact (.inr (.inr (.inr (.inl rfl))))
      case measure => simp [intOf]
    · go_wp2
      go_round
      case rel => exact (.inr (.inr (.inr (.inr (.inl rfl)))))
      case measure => simp [intOf]
    · go_wp2
      go_round
      case rel => exact (.inr (.inr (.inr (.inr (.inr (.inl rfl))))))
      case measure => simp [intOf]
    · go_wp2
      go_round
      case rel => exact (.inr (.inr (.inr (.inr (.inr (.inr (.inl rfl)))))))
      case measure => simp [intOf]
    · go_wp2
      go_round
      case rel => exact (.inr (.inr (.inr (.inr (.inr (.inr (.inr (.inl rfl))))))))
      case measure => simp [intOf]
    · go_wp2
      go_round
      case rel => exact (.inr (.inr (.inr (.inr (.inr (.inr (.inr (.inr (.inl rfl)))))))))
      case measure => simp [intOf]
    · go_wp2
      go_round
      case rel => exact (.inr (.inr (.inr (.inr (.inr (.inr (.inr (.inr (.inr (.inl rfl))))))))))
      case measure => simp [intOf]
    · go_wp2
      go_round
      case rel => exact (.inr (.inr (.inr (.inr (.inr (.inr (.inr (.inr (.inr (.inr (.inl rfl)))))))))))
      case measure => simp [intOf]
    · go_wp2
      go_round
      case rel => exact (.inr (.inr (.inr (.inr (.inr (.inr (.inr (.inr (.inr (.inr (.inr (.inl rfl))))))))))))
      case measure => simp [intOf]
    · go_wp2
      go_round
      case rel => exact (.inr (.inr (.inr (.inr (.inr (.inr (.inr (.inr (.inr (.inr (.inr (.inr (.inl rfl)))))))))))))
      case measure => simp [intOf]
    · go_wp2
      go_round
      case rel => exact (.inr (.inr (.inr (.inr (.inr (.inr (.inr (.inr (.inr (.inr (.inr (.inr (.inr (.inl rfl))))))))))))))
      case measure => simp [intOf]
    · go_wp2
      go_round
      case rel => exact (.inr (.inr (.inr (.inr (.inr (.inr (.inr (.inr (.inr (.inr (.inr (.inr (.inr (.inr (.inl rfl)))))))))))))))
      case measure => simp [intOf]
    · go_wp2
      go_round
      case rel => exact (.inr (.inr (.inr (.inr (.inr (.inr (.inr (.inr (.inr (.inr (.inr (.inr (.inr (.inr (.inr rfl)))))))))))))))
      case measure => simp [intOf]
    · go_wp2
      go_ret
      exact ⟨rfl, (Below.refl _ _).alloc (Nat.le_refl _) _⟩
set_option maxHeartbeats 6400000 in
theorem errnum_full (w : World) (a : Nat → Addr) (E : Errs w a) :
    Calls Tryd.prog 11 #[.iface 108 (.pointer (some (a 7)))] w fun e w' => e = .returned (.int .i64 7) ∧ Below w.heap.size w w' := by
  obtain ⟨E0, E1, E2, E3, E4, E5, E6, E7, E8, E9, E10, E11, E12, E13, E14, E15⟩ := E
  generalize a 0 = a0 at *
  generalize a 1 = a1 at *
  generalize a 2 = a2 at *
  generalize a 3 = a3 at *
  generalize a 4 = a4 at *
  generalize a 5 = a5 at *
  generalize a 6 = a6 at *
  generalize a 7 = a7 at *
  generalize a 8 = a8 at *
  generalize a 9 = a9 at *
  generalize a 10 = a10 at *
  generalize a 11 = a11 at *
  generalize a 12 = a12 at *
  generalize a 13 = a13 at *
  generalize a 14 = a14 at *
  generalize a 15 = a15 at *
  have c0 := E0.1
  have c1 := E1.1
  have c2 := E2.1
  have c3 := E3.1
  have c4 := E4.1
  have c5 := E5.1
  have c6 := E6.1
  have c7 := E7.1
  have c8 := E8.1
  have c9 := E9.1
  have c10 := E10.1
  have c11 := E11.1
  have c12 := E12.1
  have c13 := E13.1
  have c14 := E14.1
  have c15 := E15.1
  have n1 : ∀ o, (binOp .eql 38 (.iface 108 (.pointer (some a7))) (.iface 108 (.pointer (some a1)))).run Tryd.prog (w.alloc o) = .ok (.bool false) (w.alloc o) := fun o => E7.neq E1 (by decide) (Below.heap_alloc w o _ E7.lt) (Below.heap_alloc w o _ E1.lt)
  have n2 : ∀ o, (binOp .eql 38 (.iface 108 (.pointer (some a7))) (.iface 108 (.pointer (some a2)))).run Tryd.prog (w.alloc o) = .ok (.bool false) (w.alloc o) := fun o => E7.neq E2 (by decide) (Below.heap_alloc w o _ E7.lt) (Below.heap_alloc w o _ E2.lt)
  have n3 : ∀ o, (binOp .eql 38 (.iface 108 (.pointer (some a7))) (.iface 108 (.pointer (some a3)))).run Tryd.prog (w.alloc o) = .ok (.bool false) (w.alloc o) := fun o => E7.neq E3 (by decide) (Below.heap_alloc w o _ E7.lt) (Below.heap_alloc w o _ E3.lt)
  have n4 : ∀ o, (binOp .eql 38 (.iface 108 (.pointer (some a7))) (.iface 108 (.pointer (some a4)))).run Tryd.prog (w.alloc o) = .ok (.bool false) (w.alloc o) := fun o => E7.neq E4 (by decide) (Below.heap_alloc w o _ E7.lt) (Below.heap_alloc w o _ E4.lt)
  have n5 : ∀ o, (binOp .eql 38 (.iface 108 (.pointer (some a7))) (.iface 108 (.pointer (some a5)))).run Tryd.prog (w.alloc o) = .ok (.bool false) (w.alloc o) := fun o => E7.neq E5 (by decide) (Below.heap_alloc w o _ E7.lt) (Below.heap_alloc w o _ E5.lt)
  have n6 : ∀ o, (binOp .eql 38 (.iface 108 (.pointer (some a7))) (.iface 108 (.pointer (some a6)))).run Tryd.prog (w.alloc o) = .ok (.bool false) (w.alloc o) := fun o => E7.neq E6 (by decide) (Below.heap_alloc w o _ E7.lt) (Below.heap_alloc w o _ E6.lt)
  have q := E7.eq
  clear E0 E1 E2 E3 E4 E5 E6 E7 E8 E9 E10 E11 E12 E13 E14 E15
  go_enter Tryd.func11, Tryd.ntmps11
  go_wp2
  go_loop [27] (fun iv => iv = .int .i64 0 ∨ iv = .int .i64 1 ∨ iv = .int .i64 2 ∨ iv = .int .i64 3 ∨ iv = .int .i64 4 ∨ iv = .int .i64 5 ∨ iv = .int .i64 6) (fun iv => 16 - (intOf iv).toNat)
  case atStart => exact .inl rfl
  case round =>
    rcases hrel with rfl | rfl | rfl | rfl | rfl | rfl | rfl
    · go_wp2
      go_round
      case rel => exact (.inr (.inl rfl))
      case measure => simp [intOf]
    · go_wp2
      go_round
      case rel => exact (.inr (.inr (.inl rfl)))
      case measure => simp [intOf]
    · go_wp2
      go_round
      case rel => exact (.inr (.inr (.inr (.inl rfl))))
      case measure => simp [intOf]
    · go_wp2
      go_round
      case rel => exact (.inr (.inr (.inr (.inr (.inl rfl)))))
      case measure => simp [intOf]
    · go_wp2
      go_round
      case rel => exact (.inr (.inr (.inr (.inr (.inr (.inl rfl))))))
      case measure => simp [intOf]
    · go_wp2
      go_round
      case rel => exact (.inr (.inr (.inr (.inr (.inr (.inr rfl))))))
      case measure => simp [intOf]
    · go_wp2
      go_ret
      exact ⟨rfl, (Below.refl _ _).alloc (Nat.le_refl _) _⟩
end Go.Proofs.YtjocjkfllicjdaaDoor
