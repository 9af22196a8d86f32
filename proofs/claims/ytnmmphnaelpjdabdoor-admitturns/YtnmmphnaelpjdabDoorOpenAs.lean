/- How a parent with servers, tasks and a number that come in is opened. -/
import Derived.Test.YtnmmphnaelpjdabDoorOpenPl
namespace Go.Proofs.YtnmmphnaelpjdabDoor
open Go.ChangeShapes Go.WideShapes Go.ChangeAt Go.RowKit Go.Joins
set_option maxRecDepth 100000

theorem cellsTasks : Tryd.prog.cellsOf 25 = 1 := by kernel_rfl
theorem cellsServers : Tryd.prog.cellsOf 24 = 1 := by kernel_rfl
theorem cellsAsked : Tryd.prog.cellsOf 27 = 6 := by kernel_rfl
theorem list6 {α : Type} {l : List α} (h : l.length = 6) : ∃ y0 y1 y2 y3 y4 y5, l = [y0, y1, y2, y3, y4, y5] := by
  match l, h with
  | [y0, y1, y2, y3, y4, y5], _ => exact ⟨_, _, _, _, _, _, rfl⟩
theorem open_tasks_c {H : Type} {enc : TypeId × Value → H} {W : World} {fuel : Nat} {c : Value} {x : DataW H × List MemPlace} (hf : DataW.trod enc Tryd.prog W 0 (fun _ => true) true fuel 25 [c] = some x) :
    ∃ (a : Option Addr) (xs : List Tk) (cap : Nat), c = .slice a xs.length cap ∧ Tks W (.slice a xs.length cap) xs ∧ xs.length ≤ cap ∧ ((∀ n ∈ x.1.weights Tryd.prog 25, n ≤ reachBytes) → xs.length * 32 ≤ 140737488355328) := by
  rcases Go.Deep.open_slice Tryd.underlying25 hf with ⟨hcs, hx⟩ | ⟨x0, l, cp, m, n, D, Pl, hcs, _, hl, hm, hme, hx, hall⟩
  · simp at hcs
    subst hcs
    exact ⟨none, [], 0, rfl, ⟨none, 0, rfl, by simp, fun hp => by simp at hp⟩, by simp, fun _ => by simp⟩
  · simp at hcs
    subst hcs
    have hlm : l ≤ m := by rw [hme]; simp; omega
    have each : ∀ i, i < l → ∃ y : Tk, ∃ b o, x0.add (i * 4) = ⟨b, o, none⟩ ∧ TkAt W b o y := by
      intro i hi
      obtain ⟨cs, hc, ht⟩ := hall i (by omega)
      rw [cellsTask] at hc
      obtain ⟨_, hlen, hcell⟩ := World.cells?_some hc
      obtain ⟨c0, c1, c2, c3, rfl⟩ := list4 (l := cs) (by omega)
      obtain ⟨k, q, t, s, rfl, rfl, rfl, rfl, _⟩ := trod_task ht
      generalize x0.add (i * 4) = z at hcell ⊢
      obtain ⟨b, o, spot⟩ := z
      have h0 := hcell 0 (by omega)
      have hspot : spot = none := by simpa [Addr.add] using World.cell?_spot h0
      subst hspot
      exact ⟨(k, q, t, s), b, o, rfl, by simpa [add_none] using hcell 0 (by omega), by simpa [add_none] using hcell 1 (by omega), by simpa [add_none] using hcell 2 (by omega), by simpa [add_none] using hcell 3 (by omega)⟩
    obtain ⟨f, hf'⟩ := Go.Deep.choose_lt each
    have hlen : ((List.range l).map f).length = l := by simp
    refine ⟨some x0, (List.range l).map f, cp, by rw [hlen], ⟨some x0, cp, rfl, by rw [hlen]; unfold maxLen at hm; omega, fun hp => ?_⟩, by rw [hlen]; omega, fun hw => ?_⟩
    · rw [hlen] at hp
      obtain ⟨b, o, he, hat⟩ := hf' 0 hp
      obtain ⟨xb, xo, xs⟩ := x0
      simp [Addr.add] at he
      obtain ⟨rfl, rfl, rfl⟩ := he
      refine ⟨xb, xo, rfl, fun k y hk => ?_⟩
      have hkl : k < l := by
        have := (List.getElem?_eq_some_iff.mp hk).1
        simpa using this
      obtain ⟨b, o, he, hat'⟩ := hf' k hkl
      rw [add_none] at he
      simp at he
      obtain ⟨rfl, rfl⟩ := he
      have : y = f k := by simpa [hkl] using hk.symm
      rw [this]
      exact hat'
    · rw [hx] at hw
      have h1 := hw _ (show (((List.range l).map D).length + ((List.range (m - l)).map fun j => D (l + j)).length) * 32 ∈ _ by simp [DataW.weights, Tryd.underlying25, bytesTask])
      simp only [List.length_map, List.length_range, reachBytes] at h1
      rw [hlen]
      omega
theorem open_servers_c {H : Type} {enc : TypeId × Value → H} {W : World} {fuel : Nat} {c : Value} {x : DataW H × List MemPlace} (hf : DataW.trod enc Tryd.prog W 0 (fun _ => true) true fuel 24 [c] = some x) :
    ∃ (a : Option Addr) (xs : List Sv) (cap : Nat), c = .slice a xs.length cap ∧ Svs W (.slice a xs.length cap) xs ∧ xs.length ≤ cap ∧ ((∀ n ∈ x.1.weights Tryd.prog 24, n ≤ reachBytes) → xs.length * 24 ≤ 140737488355328) := by
  rcases Go.Deep.open_slice Tryd.underlying24 hf with ⟨hcs, hx⟩ | ⟨x0, l, cp, m, n, D, Pl, hcs, _, hl, hm, hme, hx, hall⟩
  · simp at hcs
    subst hcs
    exact ⟨none, [], 0, rfl, ⟨none, 0, rfl, by simp, fun hp => by simp at hp⟩, by simp, fun _ => by simp⟩
  · simp at hcs
    subst hcs
    have hlm : l ≤ m := by rw [hme]; simp; omega
    have each : ∀ i, i < l → ∃ y : Sv, ∃ b o, x0.add (i * 3) = ⟨b, o, none⟩ ∧ SvAt W b o y := by
      intro i hi
      obtain ⟨cs, hc, ht⟩ := hall i (by omega)
      rw [cellsServer] at hc
      obtain ⟨_, hlen, hcell⟩ := World.cells?_some hc
      obtain ⟨c0, c1, c2, rfl⟩ := list3 (l := cs) (by omega)
      obtain ⟨k, q, t, rfl, rfl, rfl, _⟩ := trod_server ht
      generalize x0.add (i * 3) = z at hcell ⊢
      obtain ⟨b, o, spot⟩ := z
      have h0 := hcell 0 (by omega)
      have hspot : spot = none := by simpa [Addr.add] using World.cell?_spot h0
      subst hspot
      exact ⟨(k, q, t), b, o, rfl, by simpa [add_none] using hcell 0 (by omega), by simpa [add_none] using hcell 1 (by omega), by simpa [add_none] using hcell 2 (by omega)⟩
    obtain ⟨f, hf'⟩ := Go.Deep.choose_lt each
    have hlen : ((List.range l).map f).length = l := by simp
    refine ⟨some x0, (List.range l).map f, cp, by rw [hlen], ⟨some x0, cp, rfl, by rw [hlen]; unfold maxLen at hm; omega, fun hp => ?_⟩, by rw [hlen]; omega, fun hw => ?_⟩
    · rw [hlen] at hp
      obtain ⟨b, o, he, hat⟩ := hf' 0 hp
      obtain ⟨xb, xo, xs⟩ := x0
      simp [Addr.add] at he
      obtain ⟨rfl, rfl, rfl⟩ := he
      refine ⟨xb, xo, rfl, fun k y hk => ?_⟩
      have hkl : k < l := by
        have := (List.getElem?_eq_some_iff.mp hk).1
        simpa using this
      obtain ⟨b, o, he, hat'⟩ := hf' k hkl
      rw [add_none] at he
      simp at he
      obtain ⟨rfl, rfl⟩ := he
      have : y = f k := by simpa [hkl] using hk.symm
      rw [this]
      exact hat'
    · rw [hx] at hw
      have h1 := hw _ (show (((List.range l).map D).length + ((List.range (m - l)).map fun j => D (l + j)).length) * 24 ∈ _ by simp [DataW.weights, Tryd.underlying24, bytesServer])
      simp only [List.length_map, List.length_range, reachBytes] at h1
      rw [hlen]
      omega
theorem all_le {l : List Nat} (h : l.all (· ≤ reachBytes) = true) : ∀ n ∈ l, n ≤ reachBytes := fun n hn => by simpa using List.all_eq_true.1 h n hn
theorem open_asked {H : Type} {enc : TypeId × Value → H} {W : World} {base : Nat} {v : Value} {d : DataW H} {p : List MemPlace} {ts : List TypeId} {ds : List (DataW H)} {j : Nat} (hv : Value.okWide Tryd.prog W .any base 27 v) (h : DataW.Trod enc Tryd.prog W 0 (fun _ => true) true 27 v d p)
    (hs : (DataW.weightsEach Tryd.prog ts ds).all (· ≤ reachBytes) = true) (ht : ts[j]? = some 27) (hd : ds[j]? = some d) :
    ∃ (s : Sv) (al at2 : Option Addr) (cl ct : Nat) (xs : List Sv) (ys : List Tk) (n : Int), v = .agg #[.int .i64 s.1, .int .i64 s.2.1, .int .i64 s.2.2, .slice al xs.length cl, .slice at2 ys.length ct, .int .i64 n] ∧ I64 n ∧ Svs W (.slice al xs.length cl) xs ∧ xs.length ≤ cl ∧ Tks W (.slice at2 ys.length ct) ys ∧ ys.length ≤ ct ∧ xs.length * 24 ≤ 140737488355328 ∧ ys.length * 32 ≤ 140737488355328 := by
  obtain ⟨cs, rfl, hsz⟩ := okWide_struct Tryd.underlying27 hv
  obtain ⟨fuel, hf⟩ := h
  have hf2 : DataW.trod enc Tryd.prog W 0 (fun _ => true) true fuel 27 cs.toList = some (d, p) := by simpa [Value.cells] using hf
  obtain ⟨zs, n, _, hx, hc, hlen, hfs⟩ := DataW.trod_struct Tryd.underlying27 hf2
  rw [cellsAsked] at hc
  obtain ⟨c0, c1, c2, c3, c4, c5, hcs⟩ := list6 hc
  rw [hcs] at hfs
  obtain ⟨y0, y1, y2, y3, rfl⟩ := list4 hlen
  have h0 := hfs 0 _ rfl
  have h1 := hfs 1 _ rfl
  have h2 := hfs 2 _ rfl
  have h3 := hfs 3 _ rfl
  simp [cellsInt, cellsServer, cellsServers, cellsTasks] at h0 h1 h2 h3
  obtain ⟨k, q, t, rfl, rfl, rfl, _⟩ := trod_server h0
  obtain ⟨m, e3, _, wm⟩ := DataW.trod_int Tryd.underlying3 h3
  simp at e3
  subst e3
  obtain ⟨al, xs, cl, rfl, hx1, hx2, hx3⟩ := open_servers_c h1
  obtain ⟨at2, ys, ct, rfl, hy1, hy2, hy3⟩ := open_tasks_c h2
  have hd' : d = .agg [y0.1, y1.1, y2.1, y3.1] := congrArg Prod.fst hx
  have hw : ∀ i (y : DataW H × List MemPlace) ty, [y0, y1, y2, y3][i]? = some y → ([23, 24, 25, 3] : List TypeId)[i]? = some ty → ∀ k ∈ y.1.weights Tryd.prog ty, k ≤ reachBytes := fun i y ty hi hty k hk => all_le hs k (DataW.weights_mem_each ht hd k (by
    rw [hd']
    simp only [DataW.weights, Tryd.underlying27]
    refine DataW.weights_mem_each (j := i) hty ?_ k hk
    have := congrArg (Option.map Prod.fst) hi
    rw [← List.getElem?_map] at this
    exact this))
  refine ⟨(k, q, t), al, at2, cl, ct, xs, ys, m, ?_, i64_of_wf wm, hx1, hx2, hy1, hy2, hx3 (hw 1 y1 _ rfl rfl), hy3 (hw 2 y2 _ rfl rfl)⟩
  have : cs = #[.int .i64 k, .int .i64 q, .int .i64 t, .slice al xs.length cl, .slice at2 ys.length ct, .int .i64 m] := by
    have := congrArg List.toArray hcs
    simpa using this
  rw [this]
end Go.Proofs.YtnmmphnaelpjdabDoor
