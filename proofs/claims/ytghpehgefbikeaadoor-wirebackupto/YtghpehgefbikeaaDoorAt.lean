/- What the law's own reader does: all that was put is read back, and nothing that was cut. -/
import Derived.Test.YtghpehgefbikeaaDoorPiece2
import Derived.Test.YtghpehgefbikeaaDoorBackMath
import Derived.Test.YtghpehgefbikeaaDoorNumbers
namespace Go.Proofs.YtghpehgefbikeaaDoor
open Go.ChangeShapes Go.WideShapes Go.ChangeAt Go.RowKit

theorem and_mask (n : Int) : bits .and .i64 n 9223372036854775807 = (mask n : Int) := by
  rw [and63]
  unfold mask
  omega
/-- What a reader of the beginning of all bytes stands at. -/
def At (F : Nat → Prop) (w : World) (p : Nat) (bs : List Int) (xs : List OpD) (k : Nat) : Prop := Rr F w p bs (allb (xs.take k)).length
theorem at_num {F : Nat → Prop} {w w' : World} {p k n : Nat} {bs : List Int} {xs : List OpD} {ev : Value} {e : Ending} (hb : bs = (allb xs).take n) (hk : k < xs.length) (h1 : xs[k].kind = 1)
    (h : RnumPost F w p bs (allb (xs.take k)).length 9223372036854775807 ev e w') :
    (e = .returned (.tuple #[.int .i64 (mask xs[k].n : Int), .nilIface]) ∧ At F w' p bs xs (k + 1) ∧ Kept F w w') ∨ (n < (allb xs).length ∧ e = .returned (.tuple #[.int .i64 0, ev]) ∧ Kept F w w') := by
  have ht := allb_split xs k hk
  have ho : opb xs[k] = enc (mask xs[k].n) := by unfold opb; rw [if_pos h1]
  rw [ho] at ht
  rcases h with ⟨N, r, e1, e2, e3, rfl, hr, hkp⟩ | ⟨hno, rfl, hr, hkp⟩
  · obtain ⟨rfl, _⟩ := back_num hb ht e1
    left
    refine ⟨rfl, ?_, hkp⟩
    unfold At
    rw [allb_take xs k hk, List.length_append, ho]
    exact hr
  · right
    refine ⟨?_, rfl, hkp⟩
    rcases Nat.lt_or_ge n (allb xs).length with h | h
    · exact h
    · exfalso
      have : bs = allb xs := by rw [hb, List.take_of_length_le h]
      rw [this] at hno
      exact hno _ _ (mask_le _) (by have := mask_le xs[k].n; omega) ht
theorem at_yes {bs : List Int} {k n : Nat} {xs : List OpD} (hb : bs = (allb xs).take n) (hk : k < xs.length) (h1 : xs[k].kind = 2 ∨ xs[k].kind = 3) :
    opb xs[k] = enc xs[k].bs.length ++ xs[k].bs ∧ (∀ N r, PieceYes bs (allb (xs.take k)).length xs[k].bs.length N r → N = xs[k].bs.length ∧ r.take N = xs[k].bs) ∧ (PieceNo bs (allb (xs.take k)).length xs[k].bs.length → n < (allb xs).length) := by
  have ht := allb_split xs k hk
  have ho : opb xs[k] = enc xs[k].bs.length ++ xs[k].bs := by unfold opb; rw [if_neg (by omega), if_pos h1]
  rw [ho] at ht
  refine ⟨ho, fun N r hy => back_piece hb ht hy.1 hy.2.2, fun hno => ?_⟩
  rcases Nat.lt_or_ge n (allb xs).length with h | h
  · exact h
  · exfalso
    have : bs = allb xs := by rw [hb, List.take_of_length_le h]
    rw [this] at hno
    exact hno xs[k].bs.length (xs[k].bs ++ allb (xs.drop (k + 1))) ⟨by rw [ht, List.append_assoc], Int.le_refl _, by simp⟩
theorem at_text {F : Nat → Prop} {w w' : World} {p k n : Nat} {bs : List Int} {xs : List OpD} {ev : Value} {e : Ending} (hb : bs = (allb xs).take n) (hk : k < xs.length) (h1 : xs[k].kind = 2)
    (h : TextPost F w p bs (allb (xs.take k)).length xs[k].bs.length ev e w') :
    (e = .returned (.tuple #[.string (strOfNums xs[k].bs), .nilIface]) ∧ At F w' p bs xs (k + 1) ∧ Kept F w w') ∨ (n < (allb xs).length ∧ e = .returned (.tuple #[.string (strOfNums []), ev]) ∧ Kept F w w') := by
  obtain ⟨ho, hy, hn'⟩ := at_yes hb hk (.inl h1)
  rcases h with ⟨N, r, e1, rfl, hr, hkp⟩ | ⟨hno, rfl, hr, hkp⟩
  · obtain ⟨e2, e3⟩ := hy N r e1
    left
    refine ⟨by rw [e3], ?_, hkp⟩
    unfold At
    rw [allb_take xs k hk, List.length_append, ho, List.length_append, ← Nat.add_assoc, ← e2]
    exact hr
  · exact .inr ⟨hn' hno, rfl, hkp⟩
theorem at_bytes {F : Nat → Prop} {w w' : World} {p k n : Nat} {bs : List Int} {xs : List OpD} {ev : Value} {e : Ending} (hb : bs = (allb xs).take n) (hk : k < xs.length) (h1 : xs[k].kind = 3)
    (h : BytesPost F w p bs (allb (xs.take k)).length xs[k].bs.length ev e w') :
    (∃ v, e = .returned (.tuple #[v, .nilIface]) ∧ w'.ownsRow w.heap.size 5 1 v xs[k].bs.length (xs[k].bs.map (Value.int .u8)) ∧ At F w' p bs xs (k + 1) ∧ Kept F w w') ∨ (n < (allb xs).length ∧ ∃ v, e = .returned (.tuple #[v, ev]) ∧ Kept F w w') := by
  obtain ⟨ho, hy, hn'⟩ := at_yes hb hk (.inr h1)
  rcases h with ⟨N, r, v, e1, rfl, hv, hr, hkp⟩ | ⟨v, hno, rfl, _, hr, hkp⟩
  · obtain ⟨e2, e3⟩ := hy N r e1
    left
    refine ⟨v, rfl, by rw [e3] at hv; exact hv, ?_, hkp⟩
    unfold At
    rw [allb_take xs k hk, List.length_append, ho, List.length_append, ← Nat.add_assoc, ← e2]
    exact hr
  · exact .inr ⟨hn' hno, v, rfl, hkp⟩
theorem at_skip {F : Nat → Prop} {w : World} {p k : Nat} {bs : List Int} {xs : List OpD} (hk : k < xs.length) (h1 : ¬ xs[k].kind = 1) (h2 : ¬ xs[k].kind = 2) (h3 : ¬ xs[k].kind = 3) (h : At F w p bs xs k) : At F w p bs xs (k + 1) := by
  unfold At at *
  rw [allb_take xs k hk, List.length_append]
  have : opb xs[k] = [] := by unfold opb; rw [if_neg h1, if_neg (by omega)]
  rw [this]
  exact h
end Go.Proofs.YtghpehgefbikeaaDoor
