/- WireSums: its three cases. -/
import Derived.Test.YtghpehgefbikeaaDoorSums7
namespace Go.Proofs.YtghpehgefbikeaaDoor
open Go.ChangeShapes Go.WideShapes Go.ChangeAt Go.RowKit

theorem nilrd (w : World) : Rd w (.slice none 0 0) [] := ⟨Byts.nil, none, 0, rfl, by simp, fun _ => rfl, fun hp => by simp at hp⟩
theorem sums_all (w0 : World) (v0 : Value) (bs : List Int) (a : Nat → Addr) (h : Rd w0 v0 bs) (hl : (bs.length : Int) ≤ 140737488355200) (hE : Errs w0 a) :
    Calls Tryd.prog 5 #[v0] w0 fun e w' => e = .returned (.bool true) ∧ Below w0.heap.size w0 w' := by
  by_cases h4 : bs.length < 4
  · refine sums_walk w0 v0 bs [] (.iface 86 (.pointer (some (a 1)))) 3 h hl Byts.nil (Nat.zero_le _) ?_ ?_ ?_
    · intro W g cap hb hr
      refine (open_short W _ bs _ hr h4 (hE.late hb).cell_bytes).mono ?_
      rintro e w' ⟨rfl, hb'⟩
      exact ⟨_, rfl, World.ownsRow_nil _ _ _ _, hb'⟩
    · intro W hr
      refine (refopen_short W v0 bs hr h4).mono ?_
      rintro e w' ⟨rfl, rfl⟩
      exact ⟨_, rfl, nilrd _, Below.refl _ _⟩
    · intro W hb
      exact errnum_bytes W a (hE.late hb)
  · obtain ⟨n, hn⟩ : ∃ n, bs.length = n + 4 := ⟨bs.length - 4, by omega⟩
    obtain ⟨xs, ys, rfl, hx, hy⟩ : ∃ xs ys, bs = xs ++ ys ∧ xs.length = n ∧ ys.length = 4 := ⟨bs.take n, bs.drop n, (List.take_append_drop n bs).symm, by rw [List.length_take]; omega, by rw [List.length_drop]; omega⟩
    obtain ⟨a0, c0, rfl⟩ : ∃ a c, v0 = .slice a (xs ++ ys).length c := h.2.imp fun a h => h.imp fun c h => h.1
    obtain ⟨b, off, rfl, hc, _⟩ := h.spot (by omega)
    by_cases hs : ys = sumb (fnv xs)
    · refine sums_walk w0 _ (xs ++ ys) xs .nilIface 0 h hl h.1.left (by rw [List.length_append]; omega) ?_ ?_ ?_
      · intro W g cap hb hr
        rw [hn] at hr ⊢
        exact open_good W g 0 cap n xs ys hx hy hr (by omega) hs
      · intro W hr
        rw [hn] at hr ⊢
        subst hs
        exact refopen_good W b off c0 n xs hx hr (by omega)
      · intro W hb
        refine (errnum_nil W).mono ?_
        rintro e w' ⟨rfl, rfl⟩
        exact ⟨rfl, Below.refl _ _⟩
    · refine sums_walk w0 _ (xs ++ ys) [] (.iface 86 (.pointer (some (a 2)))) 4 h hl Byts.nil (Nat.zero_le _) ?_ ?_ ?_
      · intro W g cap hb hr
        rw [hn] at hr ⊢
        refine (open_bad W g 0 cap n xs ys _ hx hy hr (by omega) hs (hE.late hb).cell_sum).mono ?_
        rintro e w' ⟨rfl, hb'⟩
        exact ⟨_, rfl, World.ownsRow_nil _ _ _ _, hb'⟩
      · intro W hr
        rw [hn] at hr ⊢
        refine (refopen_bad W b off c0 n xs ys hx hy hr (by omega) hs).mono ?_
        rintro e w' ⟨rfl, hb'⟩
        exact ⟨_, rfl, nilrd _, hb'⟩
      · intro W hb
        exact errnum_sum W a (hE.late hb)
end Go.Proofs.YtghpehgefbikeaaDoor
