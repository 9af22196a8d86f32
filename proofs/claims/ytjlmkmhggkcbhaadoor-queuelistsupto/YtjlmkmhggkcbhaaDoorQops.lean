/- Push, Turn, Drop. -/
import Derived.Test.YtjlmkmhggkcbhaaDoorQpop
namespace Go.Proofs.YtjlmkmhggkcbhaaDoor
open Go.ChangeShapes Go.WideShapes Go.ChangeAt Go.RowKit
set_option maxRecDepth 100000

theorem push_there (F : Nat → Prop) (w : World) (p : Nat) (V : List Th) (i : Nat) (id r : Int) (ev : Value) (h : Qu F w p V) (hi : i < V.length) (hid : (gt V i).1 = id) (he : w.cell? ⟨1, 0, none⟩ = some ev) :
    Calls Tryd.prog 18 #[.pointer (some ⟨p, 0, none⟩), .int .i64 id, .int .i64 r] w fun e w' => e = .returned ev ∧ w' = w := by
  obtain ⟨m, ⟨hF, hp, mb, sv, hmb, hpm, hd, hM, hsv, ho⟩, _, hI⟩ := h
  have p1 : w.cell? ⟨p, 1, none⟩ = some (.map (some mb)) := cell_of_block hd rfl
  have hg := hM.get id
  rw [(hI id i).mpr ⟨hi, hid⟩] at hg
  simp only [Option.getD_some, Option.isSome_some] at hg
  clear hF hp hmb hpm hd hM hsv ho hI hi
  go_enter Tryd.func18, Tryd.ntmps18
  go_wp2
  go_ret
  exact ⟨rfl, rfl⟩
theorem none_of {V : List Th} {m : Int → Option Nat} (hI : Idx V m) {id : Int} (hn : ∀ y ∈ V, y.1 ≠ id) : m id = none := by
  cases hm : m id with
  | none => rfl
  | some j =>
    obtain ⟨h1, h2⟩ := (hI id j).mp hm
    exact absurd h2 (hn _ (mem_gt.mpr ⟨j, h1, rfl⟩))
theorem push_full (F : Nat → Prop) (w : World) (p : Nat) (V : List Th) (id r : Int) (ev : Value) (h : Qu F w p V) (hn : ∀ y ∈ V, y.1 ≠ id) (hl : 4096 ≤ V.length) (he : w.cell? ⟨2, 0, none⟩ = some ev) :
    Calls Tryd.prog 18 #[.pointer (some ⟨p, 0, none⟩), .int .i64 id, .int .i64 r] w fun e w' => e = .returned ev ∧ w' = w := by
  have hlen := len_is F w p V h
  obtain ⟨m, ⟨hF, hp, mb, sv, hmb, hpm, hd, hM, hsv, ho⟩, _, hI⟩ := h
  have p1 : w.cell? ⟨p, 1, none⟩ = some (.map (some mb)) := cell_of_block hd rfl
  have hg := hM.get id
  rw [none_of hI hn] at hg
  simp only [Option.getD_none, Option.isSome_none] at hg
  have hli : (4096 : Int) ≤ V.length := by omega
  clear hF hp hmb hpm hd hM hsv ho hI hl hn
  go_enter Tryd.func18, Tryd.ntmps18
  go_wp2_with (first | (go_at_call 23; refine hlen.mono ?_; rintro e w' ⟨rfl, rfl⟩))
  go_ret
  exact ⟨rfl, rfl⟩
theorem push_ok (F : Nat → Prop) (w : World) (p : Nat) (V : List Th) (id r : Int) (h : Qu F w p V) (hn : ∀ y ∈ V, y.1 ≠ id) (hl : V.length < 4096) :
    Calls Tryd.prog 18 #[.pointer (some ⟨p, 0, none⟩), .int .i64 id, .int .i64 r] w fun e w' => e = .returned .nilIface ∧ Hid (∃ F' V', Qu F' w' p V' ∧ (∀ y, y ∈ V' ↔ y ∈ V ∨ y = (id, r)) ∧ V'.length = V.length + 1 ∧ (∀ k, F' k → F k ∨ w.heap.size ≤ k) ∧ Kept F w w') := by
  have hlen := len_is F w p V h
  have hput := put_is F w p _ V (id, r) h hn (by omega)
  obtain ⟨m, ⟨hF, hp, mb, sv, hmb, hpm, hd, hM, hsv, ho⟩, _, hI⟩ := h
  have p1 : w.cell? ⟨p, 1, none⟩ = some (.map (some mb)) := cell_of_block hd rfl
  have hg := hM.get id
  rw [none_of hI hn] at hg
  simp only [Option.getD_none, Option.isSome_none] at hg
  have hli : ¬ (4096 : Int) ≤ V.length := by omega
  clear hF hp hmb hpm hd hM hsv ho hI hl hn
  go_enter Tryd.func18, Tryd.ntmps18
  go_wp2_with (first | (go_at_call 23; refine hlen.mono ?_; rintro e w' ⟨rfl, rfl⟩) | (go_at_call 37; refine hput.mono ?_; rintro e w2 ⟨rfl, hQ⟩; have HQ := mkHid hQ; clear hQ))
  go_ret
  exact ⟨rfl, HQ⟩
theorem turn_gone (F : Nat → Prop) (w : World) (p : Nat) (V : List Th) (id r : Int) (ev : Value) (h : Qu F w p V) (hn : ∀ y ∈ V, y.1 ≠ id) (he : w.cell? ⟨0, 0, none⟩ = some ev) :
    Calls Tryd.prog 20 #[.pointer (some ⟨p, 0, none⟩), .int .i64 id, .int .i64 r] w fun e w' => e = .returned ev ∧ w' = w := by
  obtain ⟨m, ⟨hF, hp, mb, sv, hmb, hpm, hd, hM, hsv, ho⟩, _, hI⟩ := h
  have p1 : w.cell? ⟨p, 1, none⟩ = some (.map (some mb)) := cell_of_block hd rfl
  have hg := hM.get id
  rw [none_of hI hn] at hg
  simp only [Option.getD_none, Option.isSome_none] at hg
  clear hF hp hmb hpm hd hM hsv ho hI hn
  go_enter Tryd.func20, Tryd.ntmps20
  go_wp2
  go_ret
  exact ⟨rfl, rfl⟩
theorem drop_gone (F : Nat → Prop) (w : World) (p : Nat) (V : List Th) (id : Int) (ev : Value) (h : Qu F w p V) (hn : ∀ y ∈ V, y.1 ≠ id) (he : w.cell? ⟨0, 0, none⟩ = some ev) :
    Calls Tryd.prog 19 #[.pointer (some ⟨p, 0, none⟩), .int .i64 id] w fun e w' => e = .returned ev ∧ w' = w := by
  obtain ⟨m, ⟨hF, hp, mb, sv, hmb, hpm, hd, hM, hsv, ho⟩, _, hI⟩ := h
  have p1 : w.cell? ⟨p, 1, none⟩ = some (.map (some mb)) := cell_of_block hd rfl
  have hg := hM.get id
  rw [none_of hI hn] at hg
  simp only [Option.getD_none, Option.isSome_none] at hg
  clear hF hp hmb hpm hd hM hsv ho hI hn
  go_enter Tryd.func19, Tryd.ntmps19
  go_wp2
  go_ret
  exact ⟨rfl, rfl⟩
theorem turn_ok (F : Nat → Prop) (w : World) (p : Nat) (V : List Th) (i : Nat) (id r : Int) (h : Qu F w p V) (hi : i < V.length) (hid : (gt V i).1 = id) (hl : V.length ≤ 4096) :
    Calls Tryd.prog 20 #[.pointer (some ⟨p, 0, none⟩), .int .i64 id, .int .i64 r] w fun e w' => e = .returned .nilIface ∧ Hid (∃ V', Qu F w' p V' ∧ (∀ y, y ∈ V' ↔ (y.1 ≠ id ∧ y ∈ V) ∨ y = (id, r)) ∧ V'.length = V.length ∧ Kept F w w') := by
  have hturn := turn_is F w p _ V i r h hi (by omega)
  rw [hid] at hturn
  obtain ⟨m, ⟨hF, hp, mb, sv, hmb, hpm, hd, hM, hsv, ho⟩, _, hI⟩ := h
  have p1 : w.cell? ⟨p, 1, none⟩ = some (.map (some mb)) := cell_of_block hd rfl
  have hg := hM.get id
  rw [(hI id i).mpr ⟨hi, hid⟩] at hg
  simp only [Option.getD_some, Option.isSome_some] at hg
  clear hF hp hmb hpm hd hM hsv ho hI hi hl hid
  go_enter Tryd.func20, Tryd.ntmps20
  go_wp2_with (first | (go_at_call 40; refine hturn.mono ?_; rintro e w2 ⟨rfl, hQ⟩; have HQ := mkHid hQ; clear hQ))
  go_ret
  exact ⟨rfl, HQ⟩
theorem drop_ok (F : Nat → Prop) (w : World) (p : Nat) (V : List Th) (i : Nat) (id : Int) (h : Qu F w p V) (hi : i < V.length) (hid : (gt V i).1 = id) (hl : V.length ≤ 4096) :
    Calls Tryd.prog 19 #[.pointer (some ⟨p, 0, none⟩), .int .i64 id] w fun e w' => e = .returned .nilIface ∧ Hid (∃ V', Qu F w' p V' ∧ (∀ y, y ∈ V' ↔ y ∈ V ∧ y.1 ≠ id) ∧ V'.length + 1 = V.length ∧ Kept F w w') := by
  have htake := take_is F w p _ V i h hi (by omega)
  rw [hid] at htake
  obtain ⟨m, ⟨hF, hp, mb, sv, hmb, hpm, hd, hM, hsv, ho⟩, _, hI⟩ := h
  have p1 : w.cell? ⟨p, 1, none⟩ = some (.map (some mb)) := cell_of_block hd rfl
  have hg := hM.get id
  rw [(hI id i).mpr ⟨hi, hid⟩] at hg
  simp only [Option.getD_some, Option.isSome_some] at hg
  clear hF hp hmb hpm hd hM hsv ho hI hi hl hid
  go_enter Tryd.func19, Tryd.ntmps19
  go_wp2_with (first | (go_at_call 39; refine htake.mono ?_; rintro e w2 ⟨rfl, hQ⟩; have HQ := mkHid hQ; clear hQ))
  go_ret
  exact ⟨rfl, HQ⟩
end Go.Proofs.YtjlmkmhggkcbhaaDoor
