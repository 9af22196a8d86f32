/- How a pair of lists of bytes and a list of calls are opened, with their lengths. -/
import Derived.Test.YtghpehgefbikeaaDoorOpenOps
namespace Go.Proofs.YtghpehgefbikeaaDoor
open Go.ChangeShapes Go.WideShapes Go.ChangeAt Go.RowKit

theorem cellsAB : Tryd.prog.cellsOf 28 = 2 := by kernel_rfl
theorem bytesOp : Tryd.prog.bytesOf 31 = 48 := by kernel_rfl
theorem weights_mem_all {H : Type} {P : Program} {e : TypeId} {d : DataW H} {n : Nat} (hn : n ∈ d.weights P e) : ∀ {l : List (DataW H)}, d ∈ l → n ∈ DataW.weightsAll P e l
  | [], h => by cases h
  | x :: r, h => by
    simp only [DataW.weightsAll, List.mem_append]
    rcases List.mem_cons.1 h with rfl | h
    · exact .inl hn
    · exact .inr (weights_mem_all hn h)
theorem array2' {cs : Array Value} (h : cs.size = 2) : ∃ c0 c1, cs = #[c0, c1] := by
  obtain ⟨l⟩ := cs
  match l, h with
  | [a, b], _ => exact ⟨a, b, rfl⟩
/-- One of the pair. -/
theorem open_one {H : Type} {enc : TypeId × Value → H} {W : World} {fuel : Nat} {c : Value} {x : DataW H × List MemPlace} (h : DataW.trod enc Tryd.prog W 0 (fun _ => true) true fuel 27 [c] = some x) :
    ∃ bs, Rd W c bs ∧ ((∀ n ∈ x.1.weights Tryd.prog 27, n ≤ reachBytes) → (bs.length : Int) ≤ 140737488351232) := by
  obtain ⟨a, len, cap, rfl⟩ : ∃ a len cap, c = .slice a len cap := by
    rcases open_ints Tryd.underlying27 Tryd.underlying5 (by kernel_rfl) h with ⟨hcs, _⟩ | ⟨x, l, c, zs, hcs, _⟩
    · simp at hcs; exact ⟨_, _, _, hcs⟩
    · simp at hcs; exact ⟨_, _, _, hcs⟩
  obtain ⟨d, p⟩ := x
  obtain ⟨bs, hr, hd⟩ := open_cells h
  refine ⟨bs, hr, fun hw => ?_⟩
  rcases hd with ⟨_, rfl⟩ | ⟨es, ss, rfl, hl⟩
  · simp
  · have := hw ((es.length + ss.length) * Tryd.prog.bytesOf 5) (by simp [DataW.weights, Tryd.underlying27])
    rw [bytes5] at this
    simp only [reachBytes] at this
    omega
theorem open_pair {H : Type} {enc : TypeId × Value → H} {W : World} {base : Nat} {v : Value} {d : DataW H} {p : List MemPlace} {ts : List TypeId} {ds : List (DataW H)} {j : Nat}
    (hv : Value.okWide Tryd.prog W .any base 28 v) (h : DataW.Trod enc Tryd.prog W 0 (fun _ => true) true 28 v d p)
    (hs : (DataW.weightsEach Tryd.prog ts ds).all (· ≤ reachBytes) = true) (ht : ts[j]? = some 28) (hd : ds[j]? = some d) :
    ∃ S0 S1 b0 b1, v = .agg #[S0, S1] ∧ Rd W S0 b0 ∧ Rd W S1 b1 ∧ (b0.length : Int) ≤ 140737488351232 ∧ (b1.length : Int) ≤ 140737488351232 := by
  obtain ⟨fuel, hf⟩ := h
  obtain ⟨xs, m, rfl, hx, hl, hxl, hall⟩ := DataW.trod_array Tryd.underlying28 hf
  simp only [Value.okWide, Tryd.underlying28] at hv
  obtain ⟨cs, rfl, _⟩ := hv
  have hc2 : cs.size = 2 := by
    rw [cellsAB] at hl
    simpa [Value.cells] using hl
  obtain ⟨S0, S1, rfl⟩ := array2' hc2
  match xs, hxl with
  | [x0, x1], _ =>
    have h0 := hall 0 (by omega)
    have h1 := hall 1 (by omega)
    simp [Value.cells, cells27] at h0 h1
    obtain ⟨b0, r0, l0⟩ := open_one h0
    obtain ⟨b1, r1, l1⟩ := open_one h1
    have hdd : d = .agg [x0.1, x1.1] := by simpa using congrArg Prod.fst hx
    have hw : ∀ y ∈ [x0, x1], ∀ n ∈ y.1.weights Tryd.prog 27, n ≤ reachBytes := by
      intro y hy n hn
      have := List.all_eq_true.1 hs n (DataW.weights_mem_each ht hd n (by
        rw [hdd]
        simp only [DataW.weights, Tryd.underlying28]
        refine weights_mem_all hn ?_
        simp only [List.mem_cons, List.not_mem_nil, or_false] at hy ⊢
        rcases hy with rfl | rfl
        · exact .inl rfl
        · exact .inr rfl))
      simpa using this
    exact ⟨S0, S1, b0, b1, rfl, r0, r1, l0 (hw x0 (by simp)), l1 (hw x1 (by simp))⟩
theorem open_ops_len {H : Type} {enc : TypeId × Value → H} {W : World} {base : Nat} {v : Value} {d : DataW H} {p : List MemPlace} {ts : List TypeId} {ds : List (DataW H)} {j : Nat}
    (hv : Value.okWide Tryd.prog W .any base 22 v) (h : DataW.Trod enc Tryd.prog W 0 (fun _ => true) true 22 v d p)
    (hs : (DataW.weightsEach Tryd.prog ts ds).all (· ≤ reachBytes) = true) (ht : ts[j]? = some 22) (hd : ds[j]? = some d) :
    ∃ xs, Ops W v xs ∧ (xs.length + 2) * 48 ≤ 140737488355328 := by
  obtain ⟨xs, hr, _, hd'⟩ := open_ops hv h
  refine ⟨xs, hr, ?_⟩
  rcases hd' with ⟨_, rfl⟩ | ⟨es, ss, rfl, hl⟩
  · simp
  · have hb := sized_slice hs ht hd Tryd.underlying22
    rw [bytesOp] at hb
    simp only [reachBytes] at hb
    omega
end Go.Proofs.YtghpehgefbikeaaDoor
