/- Read; alive. -/
import Derived.Test.YtcglonefifldnaaDoorSeen
import Derived.Test.YtcglonefifldnaaDoorWriter
namespace Go.Proofs.YtcglonefifldnaaDoor
open Go.ChangeShapes Go.WideShapes Go.ChangeAt Go.RowKit

theorem find_mem_sec {c : List (Int × List Int)} (hc : ∀ x ∈ c, Sec x.2) {f : Int → List Int} (hf : ∀ k, Sec (f k)) (i : Int) : Sec (seenOf f c i) := by
  unfold seenOf
  split
  · rename_i x hx
    exact hc x (by simpa using List.mem_of_find?_eq_some hx)
  · exact hf i
theorem Dk.seen_sec {F : Nat → Prop} {w : World} {p : Nat} {n : Int} {f : Int → List Int} {c : List (Int × List Int)} {nw : Int} {lost : Bool} (h : Dk F w p n f c nw lost) (i : Int) : Sec (seenOf f c i) := by
  obtain ⟨_, _, hc, mb, cv, _, _, _, hM, _⟩ := h
  exact find_mem_sec hc hM.1 i
theorem rd_sec (w : World) (s : List Int) (hs : Sec s) : Rd (w.alloc (.cells (scells s).toArray 65)) (.slice (some ⟨w.heap.size, 0, none⟩) 64 64) s := by
  refine ⟨hs.byts, some ⟨w.heap.size, 0, none⟩, 64, by rw [hs.len], by rw [hs.len]; exact Nat.le_refl _, fun e => by simp at e, fun _ => ⟨w.heap.size, 0, rfl, by simp, fun k hk => ?_⟩⟩
  rw [Nat.zero_add, cell_of_row _ w.heap.size k _ _ _ (heap_alloc_new w _)]
  simp [scells, List.getD, hk]
set_option maxHeartbeats 3200000 in
theorem read_ok (F : Nat → Prop) (w : World) (p : Nat) (n : Int) (f : Int → List Int) (c : List (Int × List Int)) (nw i : Int) (h : Dk F w p n f c nw false) (hcl : c.length ≤ 1000000000000) (h0 : 0 ≤ i) (hi : i < n) :
    Calls Tryd.prog 20 #[.pointer (some ⟨p, 0, none⟩), .int .i64 i] w fun e w' => ∃ z, e = .returned (.tuple #[z, .nilIface]) ∧ w'.ownsRow w.heap.size 5 1 z (seenOf f c i).length ((seenOf f c i).map (Value.int .u8)) ∧ Below w.heap.size w w' := by
  have hS := h.seen_sec i
  have HSE := mkHid (seen_any F w p n f c nw i false h hcl)
  obtain ⟨s, hs⟩ : ∃ s, s = seenOf f c i := ⟨_, rfl⟩
  rw [← hs] at hS HSE ⊢
  have HS := mkHid hS
  clear hs hS
  go_enter Tryd.func20, Tryd.ntmps20
  go_wp2_with (first | (go_at_call 28; refine (refused_ok F w p n f c nw i h h0 hi).mono ?_; rintro e w1 ⟨rfl, rfl⟩) | (go_at_call 30; refine (HSE.out).mono ?_; rintro e w2 ⟨rfl, hb2⟩) | (refine wpList_alloc_z rfl 65 rfl (scells zeros).toArray (zero65 _) ?_) | (refine wpList_store_new rfl 65 (.tmp 7) (.tmp 16) rfl _ (scells s) (by simp [Act.eval, Act.put]) (by simp [Act.eval, Act.put, sec]) (by rw [HS.out.slen]; exact size65) (by rw [List.size_toArray, zeros_sec.slen, HS.out.slen]) (scells_one _) ?_) | (go_at_call 31; refine (clone_any _ _ s (rd_sec w2 s HS.out) (by have := HS.out.len; omega)).mono ?_; rintro e w3 ⟨v3, rfl, ho3, hb3⟩))
  go_ret2
  have hs2 := hb2.size
  have hb23 : Below w1.heap.size w1 w3 := (hb2.alloc hb2.size _).trans (hb3.mono (by simp; omega))
  refine ⟨v3, rfl, ⟨ho3.1, ho3.2.imp id ?_⟩, hb23⟩
  rintro ⟨g, cap, cur, e, hg, rest⟩
  exact ⟨g, cap, cur, e, by simp at hg; omega, rest⟩
end Go.Proofs.YtcglonefifldnaaDoor
