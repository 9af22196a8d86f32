/- Seal and Open of package wire. -/
import Derived.Test.YtehnimafjgodeaaDoorAlive
import Derived.Lib.AppendZerosOnto
import Derived.Deep.RegionWith
namespace Go.Proofs.YtehnimafjgodeaaDoor
open Go.ChangeShapes Go.WideShapes Go.ChangeAt Go.RowKit
set_option maxRecDepth 100000

/-- The four bytes of a sum. -/
def sumb (s : Nat) : List Int := [((s / 16777216 % 256 : Nat) : Int), ((s / 65536 % 256 : Nat) : Int), ((s / 256 % 256 : Nat) : Int), ((s % 256 : Nat) : Int)]
theorem sumb_byts (s : Nat) : Byts (sumb s) := by
  intro b hb
  simp only [sumb, List.mem_cons, List.not_mem_nil, or_false] at hb
  omega
theorem sumb_len (s : Nat) : (sumb s).length = 4 := rfl
theorem sumb_inj (s t : Nat) (hs : s < 4294967296) (ht : t < 4294967296) (h : sumb s = sumb t) : s = t := by
  simp only [sumb, List.cons.injEq] at h
  omega
theorem rd_four (w : World) (a b c d : Int) (h : Byts [a, b, c, d]) : Rd (w.alloc (.cells #[.int .u8 a, .int .u8 b, .int .u8 c, .int .u8 d] 5)) (.slice (some ⟨w.heap.size, 0, none⟩) 4 4) [a, b, c, d] := by
  refine ⟨h, some ⟨w.heap.size, 0, none⟩, 4, rfl, by simp, fun e => by simp at e, fun _ => ⟨w.heap.size, 0, rfl, by simp, fun k hk => ?_⟩⟩
  have : k = 0 ∨ k = 1 ∨ k = 2 ∨ k = 3 := by simp at hk; omega
  rcases this with rfl | rfl | rfl | rfl <;> go_simp
theorem rd_sumb (w : World) (s : Nat) (a b c d : Int) (h : [a, b, c, d] = sumb s) : Rd (w.alloc (.cells #[.int .u8 a, .int .u8 b, .int .u8 c, .int .u8 d] 5)) (.slice (some ⟨w.heap.size, 0, none⟩) 4 4) (sumb s) := by
  have := rd_four w a b c d (by rw [h]; exact sumb_byts s)
  rwa [h] at this
theorem Rd.drop {w : World} {b off n m cap : Nat} {bs : List Int} (h : Rd w (.slice (some ⟨b, off, none⟩) bs.length cap) bs) (hn : n + m = bs.length) : Rd w (.slice (some ⟨b, off + n, none⟩) m (cap - n)) (bs.drop n) := by
  obtain ⟨hB, a', cap', e, hc, h0, hr⟩ := h
  simp at e
  obtain ⟨rfl, rfl⟩ := e
  have hl : (bs.drop n).length = m := by rw [List.length_drop]; omega
  refine ⟨hB.drop n, some ⟨b, off + n, none⟩, cap - n, by rw [hl], by omega, fun e => by simp at e, fun hp => ?_⟩
  obtain ⟨b', off', e, hlt, hcell⟩ := hr (by omega)
  simp at e
  obtain ⟨rfl, rfl⟩ := e
  refine ⟨b, off + n, rfl, hlt, fun k hk => ?_⟩
  rw [Nat.add_assoc, hcell (n + k) (by omega)]
  simp [List.getD, List.getElem?_drop]
theorem Rd.drewN {w : World} {v : Value} {bs : List Int} (h : Rd w v bs) (k : Nat) : Rd (w.drewN k) v bs := h.later ⟨rfl, rfl, rfl, Nat.le_refl _, fun _ _ => rfl⟩
theorem Rd.drew {w : World} {v : Value} {bs : List Int} (h : Rd w v bs) : Rd w.drew v bs := h.later ⟨rfl, rfl, rfl, Nat.le_refl _, fun _ _ => rfl⟩
theorem cell_later {w w' : World} {a : Addr} {v : Value} (hb : Below w.heap.size w w') (h : w.cell? a = some v) : w'.cell? a = some v :=
  (kept_of_below hb).cell h (by have := World.block_lt_of_cell? w _ h; omega)
end Go.Proofs.YtehnimafjgodeaaDoor
