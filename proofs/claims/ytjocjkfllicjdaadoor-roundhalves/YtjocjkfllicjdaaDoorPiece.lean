/- The pieces that a reader of package wire hands out. -/
import Derived.Test.YtjocjkfllicjdaaDoorReader
namespace Go.Proofs.YtjocjkfllicjdaaDoor
open Go.ChangeShapes Go.WideShapes Go.ChangeAt Go.RowKit
set_option maxRecDepth 100000

def PieceYes (bs : List Int) (i : Nat) (most : Int) (N : Nat) (r : List Int) : Prop := bs.drop i = enc N ++ r ∧ (N : Int) ≤ most ∧ N ≤ r.length
def PieceNo (bs : List Int) (i : Nat) (most : Int) : Prop := ∀ (N : Nat) (r : List Int), ¬ PieceYes bs i most N r
theorem piece_parts {bs : List Int} {i N : Nat} {r : List Int} (hd : bs.drop i = enc N ++ r) (hi : i ≤ bs.length) : bs.length = i + (enc N).length + r.length ∧ bs.drop (i + (enc N).length) = r := by
  have hlen := congrArg List.length hd
  rw [List.length_drop, List.length_append] at hlen
  refine ⟨by omega, ?_⟩
  rw [← List.drop_drop, hd, List.drop_left]
theorem PieceYes.take_len {bs : List Int} {i : Nat} {most : Int} {N : Nat} {r : List Int} (h : PieceYes bs i most N r) : (r.take N).length = N ∧ N ≤ bs.length := by
  have hl := congrArg List.length h.1
  rw [List.length_drop, List.length_append] at hl
  have := h.2.2
  rw [List.length_take]
  omega
theorem own_up {w : World} {b c : Nat} {e : TypeId} {v : Value} {n : Nat} {xs : List Value} (h : w.ownsRow c e 1 v n xs) (hb : b ≤ c) : w.ownsRow b e 1 v n xs :=
  ⟨h.1, h.2.imp id fun ⟨g, cap, cur, e1, hg, rest⟩ => ⟨g, cap, cur, e1, Nat.le_trans hb hg, rest⟩⟩
theorem rd_nil (w : World) : Rd w (.slice none 0 0) [] := ⟨Byts.nil, none, 0, rfl, by simp, fun _ => rfl, fun hp => by simp at hp⟩
end Go.Proofs.YtjocjkfllicjdaaDoor
