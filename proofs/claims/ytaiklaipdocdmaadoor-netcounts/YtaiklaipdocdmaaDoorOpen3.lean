/- How arguments of bytes are opened. -/
import Derived.Test.YtaiklaipdocdmaaDoorRd
import Derived.OpenShut
import Derived.SizedLaws
import Derived.Below
namespace Go.Proofs.YtaiklaipdocdmaaDoor
open Go.ChangeShapes Go.WideShapes Go.ChangeAt Go.RowKit
set_option maxRecDepth 100000

theorem bytes5 : Tryd.prog.bytesOf 5 = 1 := by kernel_rfl
/-- A value of bytes reads as a list, as long as the datum says. -/
theorem open_cells {H : Type} {enc : TypeId × Value → H} {W : World} {base : Nat} {sp : Nat → Bool} {held : Bool} {fuel : Nat} {a : Option Addr} {len cap : Nat} {d : DataW H} {p : List MemPlace}
    (h : DataW.trod enc Tryd.prog W base sp held fuel 32 [.slice a len cap] = some (d, p)) :
    ∃ bs, Rd W (.slice a len cap) bs ∧ ((d = .nil ∧ bs = []) ∨ ∃ es ss, d = .slice es ss ∧ es.length = bs.length) := by
  rcases open_ints Tryd.underlying32 Tryd.underlying5 (by kernel_rfl) h with ⟨hcs, hd⟩ | ⟨x, l, c, zs, hcs, _, hl, hm, hz, hx, hcell, hwz⟩
  · simp at hcs
    obtain ⟨rfl, rfl, rfl⟩ := hcs
    exact ⟨[], ⟨Byts.nil, none, 0, rfl, by simp, fun _ => rfl, fun hp => by simp at hp⟩, .inl ⟨by simpa using congrArg Prod.fst hd, rfl⟩⟩
  · simp at hcs
    obtain ⟨rfl, rfl, rfl⟩ := hcs
    have hzl : len ≤ zs.length := by rw [hz]; split <;> omega
    have hlen : (zs.take len).length = len := by rw [List.length_take]; omega
    refine ⟨zs.take len, ⟨fun n hn => bounds_u8 (hwz n (List.mem_of_mem_take hn)), some x, cap, by rw [hlen], by omega, fun e => by simp at e, fun hp => ?_⟩, .inr ⟨_, _, congrArg Prod.fst hx, by simp [lits]⟩⟩
    obtain ⟨b, off, rfl, hc⟩ := ints_at hcell (by omega)
    refine ⟨b, off, rfl, ?_, fun k hk => ?_⟩
    · exact World.block_lt_of_cell? W _ (hc 0 (by omega))
    · rw [hc k (by omega)]
      have : k < len := by omega
      simp [List.getD, this]
/-- An argument of bytes. -/
theorem open_bytes {H : Type} {enc : TypeId × Value → H} {W : World} {base : Nat} {v : Value} {d : DataW H} {p : List MemPlace} {ts : List TypeId} {ds : List (DataW H)} {j : Nat}
    (hv : Value.okWide Tryd.prog W .any base 32 v) (h : DataW.Trod enc Tryd.prog W 0 (fun _ => true) true 32 v d p)
    (hs : (DataW.weightsEach Tryd.prog ts ds).all (· ≤ reachBytes) = true) (ht : ts[j]? = some 32) (hd : ds[j]? = some d) : ∃ bs, Rd W v bs ∧ (bs.length : Int) ≤ 140737488351232 := by
  obtain ⟨a, len, cap, rfl⟩ := okWide_slice Tryd.underlying32 hv
  obtain ⟨fuel, hf⟩ := h
  obtain ⟨bs, hr, hd'⟩ := open_cells (by simpa [Value.cells] using hf)
  refine ⟨bs, hr, ?_⟩
  rcases hd' with ⟨_, rfl⟩ | ⟨es, ss, rfl, hl⟩
  · simp
  · have hb := sized_slice hs ht hd Tryd.underlying32
    rw [bytes5] at hb
    simp only [reachBytes] at hb
    omega
end Go.Proofs.YtaiklaipdocdmaaDoor
