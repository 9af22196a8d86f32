/- WireReads: every call in every order on two readers of any bytes. -/
import Derived.Test.YtghpehgefbikeaaDoorReadsA
namespace Go.Proofs.YtghpehgefbikeaaDoor
open Go.ChangeShapes Go.WideShapes Go.ChangeAt Go.RowKit

theorem rs_more {w wr w2 w3 : World} {z : Nat} {zs : List Value} {rb mb n : Nat} {v : Nat → Value} {bs : Nat → List Int} {x y : Nat → Value} {p m : Nat → Nat} {F : Nat → Nat → Prop} {g cap P : Nat} {G : Nat → Prop}
    (h : RS w wr z zs rb mb n v bs x y p m (fun _ => 0) (fun _ => 0) F) (hn : n < 2) (hk : Mk w2 wr.heap.size g cap (bs n)) (hb2 : Below wr.heap.size wr w2) (hR : Rr G w3 P (bs n) 0) (hG : ∀ k, G k → w2.heap.size ≤ k) (hb3 : Below w2.heap.size w2 w3) (U : World)
    (hU : U = ((w3.setCell ⟨rb, n, none⟩ (.pointer (some ⟨P, 0, none⟩))).setCell ⟨mb, n, none⟩ (.pointer (some ⟨w3.heap.size, 0, none⟩))).alloc (.cells #[v n, .int .i64 0] 49)) :
    RS w U z zs rb mb (n + 1) v bs (upd x n (.pointer (some ⟨P, 0, none⟩))) (upd y n (.pointer (some ⟨w3.heap.size, 0, none⟩))) (upd p n P) (upd m n w3.heap.size) (fun _ => 0) (fun _ => 0) (upd F n G) ∧ Mk U wr.heap.size g cap (bs n) ∧ w.heap.size ≤ g ∧ ¬ Rv z rb mb g ∧ (∀ k, k < n + 1 → ¬ upd F n G k g) ∧ (∀ k, k < n + 1 → upd m n w3.heap.size k ≠ g) := by
  have hs2 := hb2.size
  have hs3 := hb3.size
  have hrb := h.lo rb (.inr (.inl rfl))
  have hmb := h.lo mb (.inr (.inr rfl))
  have hgl := hk.lt
  have h3 := (h.late hb2).late hb3
  have h4 := h3.setr hn (Nat.le_refl _) (.pointer (some ⟨P, 0, none⟩))
  have hsz4 : (w3.setCell ⟨rb, n, none⟩ (.pointer (some ⟨P, 0, none⟩))).heap.size = w3.heap.size := by simp
  have k4 : Kept (fun b => b = rb) w3 (w3.setCell ⟨rb, n, none⟩ (.pointer (some ⟨P, 0, none⟩))) := Kept.setCell (F := fun b => b = rb) w3 (p := ⟨rb, n, none⟩) rfl _
  generalize hw4 : w3.setCell ⟨rb, n, none⟩ (.pointer (some ⟨P, 0, none⟩)) = w4 at *
  have h5 := h4.setm hn (Nat.le_refl _) (.pointer (some ⟨w3.heap.size, 0, none⟩))
  have hsz5 : (w4.setCell ⟨mb, n, none⟩ (.pointer (some ⟨w3.heap.size, 0, none⟩))).heap.size = w3.heap.size := by rw [← hsz4]; simp
  have k5 : Kept (fun b => b = mb) w4 (w4.setCell ⟨mb, n, none⟩ (.pointer (some ⟨w3.heap.size, 0, none⟩))) := Kept.setCell (F := fun b => b = mb) w4 (p := ⟨mb, n, none⟩) rfl _
  generalize hw5 : w4.setCell ⟨mb, n, none⟩ (.pointer (some ⟨w3.heap.size, 0, none⟩)) = w5 at *
  have b6 : Below w5.heap.size w5 (w5.alloc (.cells #[v n, .int .i64 0] 49)) := (Below.refl _ _).alloc (Nat.le_refl _) _
  have h6 := h5.late b6
  have hM6 : MR (w5.alloc (.cells #[v n, .int .i64 0] 49)) w3.heap.size (v n) 0 := by
    have := heap_alloc_new w5 (.cells #[v n, .int .i64 0] 49)
    rw [hsz5] at this
    exact this
  have hR6 : Rr G (w5.alloc (.cells #[v n, .int .i64 0] 49)) P (bs n) 0 := ((hR.kept k4 (fun b hb e => by have := hG b hb; omega)).kept k5 (fun b hb e => by have := hG b hb; omega)).below b6
  have hk6 : Mk (w5.alloc (.cells #[v n, .int .i64 0] 49)) wr.heap.size g cap (bs n) := (((hk.kept (kept_of_below hb3) (by omega)).kept k4 (by omega)).kept k5 (by omega)).kept (kept_of_below b6) (by omega)
  rw [← hU] at h6 hM6 hR6 hk6
  have hgw := h.bel.size
  have hgR : ∀ b, wr.heap.size ≤ b → ¬ Rv z rb mb b := fun b hb hr => by have := (h.lo b hr).2; omega
  have hgF : ∀ b, wr.heap.size ≤ b → ∀ k, k < n → ¬ F k b ∧ m k ≠ b := fun b hb k hk => ⟨fun hf => by have := h.fl hk hf; omega, fun e => by have := (h.md k hk).lt; omega⟩
  have hGlt := hR.1
  refine ⟨?_, hk6, by omega, hgR g hgl.1, fun k hk => ?_, fun k hk => ?_⟩
  · have := h6.grow (P := P) (M := w3.heap.size) (G := G) (by rw [upd_same]) (by rw [upd_same]) hR6 hM6 (fun b hb => ⟨by have := hG b hb; omega, hgR b (by have := hG b hb; omega), by have := hGlt b hb; omega, hgF b (by have := hG b hb; omega)⟩) ⟨by omega, hgR _ (by omega)⟩ (hgF _ (by omega))
    rwa [upd_idf (fun _ => 0) n] at this
  · by_cases e : k = n
    · subst e; rw [upd_same]; exact fun hf => by have := hG g hf; omega
    · rw [upd_other _ _ e]; exact (hgF g hgl.1 k (by omega)).1
  · by_cases e : k = n
    · subst e; rw [upd_same]; omega
    · rw [upd_other _ _ e]; exact (hgF g hgl.1 k (by omega)).2
end Go.Proofs.YtghpehgefbikeaaDoor
