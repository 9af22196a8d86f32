/- Records behind the first one. -/
import Derived.Test.YtcbimclgodkflaaDoorWck
namespace Go.Proofs.YtcbimclgodkflaaDoor
open Go.ChangeShapes Go.WideShapes Go.ChangeAt Go.RowKit
set_option maxRecDepth 100000

theorem sizeR4 (W : World) : (Go.sizeOf 92).run Tryd.prog W = .ok 4 W := by
  obtain ⟨i0, hi, hz0, hz1, hz2⟩ := info_parts infoRec
  simp [Go.sizeOf, typeInfo, hi, hz1]
theorem elemR : Tryd.prog.underlying 67 = some (.slice (Tryd.prog.elem 67)) ∧ Tryd.prog.elem 67 = 92 := by
  simp [Program.elem, Tryd.underlying67]
theorem Recs.at {F : Nat → Prop} {w : World} {v : Value} {ts : List Rp} (h : Recs F w v ts) (hp : 0 < ts.length) : ∃ g cap, v = .slice (some ⟨g, 0, none⟩) ts.length cap ∧ ts.length ≤ cap ∧ ∀ i t, ts[i]? = some t → w.cell? ⟨g, i * 4, none⟩ = some (.int .i64 (t.1.gen : Int)) ∧ w.cell? ⟨g, i * 4 + 1, none⟩ = some (.int .i64 (t.1.epoch : Int)) ∧ w.cell? ⟨g, i * 4 + 2, none⟩ = some (.int .i64 (t.1.index : Int)) ∧ w.cell? ⟨g, i * 4 + 3, none⟩ = some (dv t) := by
  have ho := h.own
  rcases ho.2 with ⟨_, h0⟩ | ⟨g, cap, cur, rfl, hr⟩
  · omega
  · have hc := ho.cells (g := g) rfl
    refine ⟨g, cap, rfl, ?_, fun i t hx => ?_⟩
    · have := ho.1
      simp_all
    · have e : ∀ r u, r < 4 → (rcl t)[r]? = some u → w.cell? ⟨g, i * 4 + r, none⟩ = some u := by
        intro r u hr hu
        have := hc (i * 4 + r) u (by rw [fl_get rcl 4 (fun _ => rfl) _ _ r t hx hr]; exact hu)
        rwa [add_none, Nat.zero_add] at this
      exact ⟨e 0 _ (by omega) rfl, e 1 _ (by omega) rfl, e 2 _ (by omega) rfl, e 3 _ (by omega) rfl⟩
/-- The slice of all records but the first. -/
theorem recs_tail (g m cap : Nat) (hc : m + 1 ≤ cap) : ∃ a c, (∀ W, (Instr.slice 67 (.slice (some ⟨g, 0, none⟩) (m + 1) cap) (some (.int .i64 1)) none none).run Tryd.prog W = .ok (.slice a m c) W) ∧ (0 < m → a = some ⟨g, 4, none⟩) := by
  refine ⟨if cap = 1 then some ⟨g, 0, none⟩ else some ⟨g, 4, none⟩, cap - 1, fun W => ?_, fun hm => if_neg (by omega)⟩
  rw [run_slice_l W 67 _ _ _ elemR.1 .i64 _ (by omega) (by omega), elemR.2, sizeR4]
  have e2 : Go.sliced (some ⟨g, 0, none⟩) 1 (m + 1) cap 4 = .slice (if cap = 1 then some ⟨g, 0, none⟩ else some ⟨g, 4, none⟩) m (cap - 1) := by
    unfold Go.sliced
    by_cases hp : cap = 1
    · simp [hp]
    · simp [hp, add_none]
  simp [Result.andThen, e2]
end Go.Proofs.YtcbimclgodkflaaDoor
