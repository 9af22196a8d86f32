import Derived.Test.YtpdehdomilnmeaaGreatDoorTk
import Derived.OpenShut
import Derived.Deep.Slices
import Derived.SizedLaws
import Derived.Lib.SmallJoins
/- How servers, lists of servers and lists of tasks that come in are opened. -/
namespace Go.Proofs.YtpdehdomilnmeaaGreatDoor
open Go.ChangeShapes Go.WideShapes Go.ChangeAt Go.RowKit Go.Joins
set_option maxRecDepth 100000

theorem cellsServer : Tryz.prog.cellsOf 37 = 3 := by kernel_rfl
theorem cellsInt : Tryz.prog.cellsOf 3 = 1 := by kernel_rfl
theorem i64_of_wf {x : Int} (h : (Lit.int .i64 x).wf = true) : I64 x := ⟨(bounds_i64 h).1, (bounds_i64 h).2⟩
theorem array3 {cs : Array Value} (h : cs.size = 3) : ∃ c0 c1 c2, cs = #[c0, c1, c2] := by
  obtain ⟨l⟩ := cs
  match l, h with
  | [c0, c1, c2], _ => exact ⟨_, _, _, rfl⟩
theorem list3 {α : Type} {l : List α} (h : l.length = 3) : ∃ y0 y1 y2, l = [y0, y1, y2] := by
  match l, h with
  | [y0, y1, y2], _ => exact ⟨_, _, _, rfl⟩
theorem trod_server {H : Type} {enc : TypeId × Value → H} {w : World} {base : Nat} {sp : Nat → Bool} {held : Bool} {fuel : Nat} {c0 c1 c2 : Value} {x : DataW H × List MemPlace} (h : DataW.trod enc Tryz.prog w base sp held fuel 37 [c0, c1, c2] = some x) :
    ∃ k q t : Int, c0 = .int .i64 k ∧ c1 = .int .i64 q ∧ c2 = .int .i64 t ∧ I64 k ∧ I64 q ∧ I64 t := by
  obtain ⟨xs, n, _, hx, _, hlen, hfs⟩ := DataW.trod_struct Tryz.underlying37 h
  obtain ⟨y0, y1, y2, rfl⟩ := list3 hlen
  have h0 := hfs 0 _ rfl
  have h1 := hfs 1 _ rfl
  have h2 := hfs 2 _ rfl
  simp [cellsInt] at h0 h1 h2
  obtain ⟨k, e0, _, wk⟩ := DataW.trod_int Tryz.underlying3 h0
  obtain ⟨q, e1, _, wq⟩ := DataW.trod_int Tryz.underlying3 h1
  obtain ⟨t, e2, _, wt⟩ := DataW.trod_int Tryz.underlying3 h2
  simp at e0 e1 e2
  exact ⟨k, q, t, e0, e1, e2, i64_of_wf wk, i64_of_wf wq, i64_of_wf wt⟩
theorem open_server {H : Type} {enc : TypeId × Value → H} {w : World} {base : Nat} {sp : Nat → Bool} {held : Bool} {r : Reach} {b0 : Nat} {v : Value} {d : DataW H} {ps : List MemPlace} (hval : Value.okWide Tryz.prog w r b0 37 v) (hd : DataW.Trod enc Tryz.prog w base sp held 37 v d ps) :
    ∃ s : Sv, v = vS s ∧ I64 s.1 ∧ I64 s.2.1 ∧ I64 s.2.2 := by
  obtain ⟨cs, rfl, hsz⟩ := okWide_struct Tryz.underlying37 hval
  rw [cellsServer] at hsz
  obtain ⟨c0, c1, c2, rfl⟩ := array3 hsz
  obtain ⟨fuel, hf⟩ := hd
  obtain ⟨k, q, t, rfl, rfl, rfl, i0, i1, i2⟩ := trod_server (by simpa [Value.cells] using hf)
  exact ⟨(k, q, t), rfl, i0, i1, i2⟩
theorem add_plain3 (b off k : Nat) : (⟨b, off, none⟩ : Addr).add k = ⟨b, off + k, none⟩ := by cases k <;> simp [Addr.add]
theorem open_servers {H : Type} {enc : TypeId × Value → H} {W : World} {base : Nat} {v : Value} {d : DataW H} {p : List MemPlace}
    (hv : Value.okWide Tryz.prog W .any base 172 v) (h : DataW.Trod enc Tryz.prog W 0 (fun _ => true) true 172 v d p) :
    ∃ xs : List Sv, Svs W v xs ∧ (∀ x ∈ xs, I64 x.1 ∧ I64 x.2.1 ∧ I64 x.2.2) ∧ ((d = .nil ∧ xs = []) ∨ ∃ es ss, d = .slice es ss ∧ es.length = xs.length) := by
  obtain ⟨a, len, cap, rfl⟩ := okWide_slice Tryz.underlying172 hv
  obtain ⟨fuel, hf⟩ := h
  rcases Go.Deep.open_slice Tryz.underlying172 (by simpa [Value.cells] using hf) with ⟨hcs, hx⟩ | ⟨x, l, c, m, n, D, Pl, hcs, _, hl, hm, hme, hx, hall⟩
  · simp at hcs
    obtain ⟨rfl, rfl, rfl⟩ := hcs
    exact ⟨[], ⟨none, 0, rfl, by simp, fun hp => by simp at hp⟩, fun x hx => by simp at hx, .inl ⟨congrArg Prod.fst hx, rfl⟩⟩
  · simp at hcs
    obtain ⟨rfl, rfl, rfl⟩ := hcs
    have hlm : len ≤ m := by rw [hme]; simp; omega
    have each : ∀ i, i < len → ∃ y : Sv, ∃ b o, x.add (i * 3) = ⟨b, o, none⟩ ∧ SvAt W b o y ∧ I64 y.1 ∧ I64 y.2.1 ∧ I64 y.2.2 := by
      intro i hi
      obtain ⟨cs, hc, ht⟩ := hall i (by omega)
      rw [cellsServer] at hc
      obtain ⟨_, hlen, hcell⟩ := World.cells?_some hc
      obtain ⟨c0, c1, c2, rfl⟩ := list3 (l := cs) (by omega)
      obtain ⟨k, q, t, rfl, rfl, rfl, i0, i1, i2⟩ := trod_server ht
      generalize x.add (i * 3) = z at hcell ⊢
      obtain ⟨b, o, spot⟩ := z
      have h0 := hcell 0 (by omega)
      have hspot : spot = none := by simpa [Addr.add] using World.cell?_spot h0
      subst hspot
      exact ⟨(k, q, t), b, o, rfl, ⟨by simpa [add_plain3] using hcell 0 (by omega), by simpa [add_plain3] using hcell 1 (by omega), by simpa [add_plain3] using hcell 2 (by omega)⟩, i0, i1, i2⟩
    obtain ⟨f, hf'⟩ := Go.Deep.choose_lt each
    have hlen : ((List.range len).map f).length = len := by simp
    refine ⟨(List.range len).map f, ⟨some x, cap, by rw [hlen], by rw [hlen]; unfold maxLen at hm; omega, fun hp => ?_⟩, fun y hy => ?_, .inr ⟨_, _, congrArg Prod.fst hx, by simp⟩⟩
    · rw [hlen] at hp
      obtain ⟨b, o, he, hat, _⟩ := hf' 0 hp
      obtain ⟨xb, xo, xs⟩ := x
      simp [Addr.add] at he
      obtain ⟨rfl, rfl, rfl⟩ := he
      refine ⟨xb, xo, rfl, fun k y hk => ?_⟩
      have hkl : k < len := by
        have := (List.getElem?_eq_some_iff.mp hk).1
        simpa using this
      obtain ⟨b, o, he, hat', _⟩ := hf' k hkl
      rw [add_plain3] at he
      simp at he
      obtain ⟨rfl, rfl⟩ := he
      have : y = f k := by simpa [hkl] using hk.symm
      rw [this]
      exact hat'
    · obtain ⟨k, hk, rfl⟩ := List.mem_map.mp hy
      obtain ⟨b, o, _, _, hi⟩ := hf' k (by simpa using hk)
      exact hi
theorem bytesServer : Tryz.prog.bytesOf 37 = 24 := by kernel_rfl
theorem open_servers_len {H : Type} {enc : TypeId × Value → H} {W : World} {base : Nat} {v : Value} {d : DataW H} {p : List MemPlace} {ts : List TypeId} {ds : List (DataW H)} {j : Nat}
    (hv : Value.okWide Tryz.prog W .any base 172 v) (h : DataW.Trod enc Tryz.prog W 0 (fun _ => true) true 172 v d p)
    (hs : (DataW.weightsEach Tryz.prog ts ds).all (· ≤ reachBytes) = true) (ht : ts[j]? = some 172) (hd : ds[j]? = some d) :
    ∃ xs : List Sv, Svs W v xs ∧ (∀ x ∈ xs, I64 x.1 ∧ I64 x.2.1 ∧ I64 x.2.2) ∧ xs.length * 24 ≤ 140737488355328 := by
  obtain ⟨xs, hr, hi, hd'⟩ := open_servers hv h
  refine ⟨xs, hr, hi, ?_⟩
  rcases hd' with ⟨_, rfl⟩ | ⟨es, ss, rfl, hl⟩
  · simp
  · have hb := sized_slice hs ht hd Tryz.underlying172
    rw [bytesServer] at hb
    simp only [reachBytes] at hb
    omega
theorem cellsTask : Tryz.prog.cellsOf 45 = 4 := by kernel_rfl
theorem list4 {α : Type} {l : List α} (h : l.length = 4) : ∃ y0 y1 y2 y3, l = [y0, y1, y2, y3] := by
  match l, h with
  | [y0, y1, y2, y3], _ => exact ⟨_, _, _, _, rfl⟩
theorem trod_task {H : Type} {enc : TypeId × Value → H} {w : World} {base : Nat} {sp : Nat → Bool} {held : Bool} {fuel : Nat} {c0 c1 c2 c3 : Value} {x : DataW H × List MemPlace} (h : DataW.trod enc Tryz.prog w base sp held fuel 45 [c0, c1, c2, c3] = some x) :
    ∃ k q t s : Int, c0 = .int .i64 k ∧ c1 = .int .i64 q ∧ c2 = .int .i64 t ∧ c3 = .int .i64 s ∧ I64 k ∧ I64 q ∧ I64 t ∧ I64 s := by
  obtain ⟨xs, n, _, hx, _, hlen, hfs⟩ := DataW.trod_struct Tryz.underlying45 h
  obtain ⟨y0, y1, y2, y3, rfl⟩ := list4 hlen
  have h0 := hfs 0 _ rfl
  have h1 := hfs 1 _ rfl
  have h2 := hfs 2 _ rfl
  have h3 := hfs 3 _ rfl
  simp [cellsInt] at h0 h1 h2 h3
  obtain ⟨k, e0, _, wk⟩ := DataW.trod_int Tryz.underlying3 h0
  obtain ⟨q, e1, _, wq⟩ := DataW.trod_int Tryz.underlying3 h1
  obtain ⟨t, e2, _, wt⟩ := DataW.trod_int Tryz.underlying3 h2
  obtain ⟨s, e3, _, ws⟩ := DataW.trod_int Tryz.underlying3 h3
  simp at e0 e1 e2 e3
  exact ⟨k, q, t, s, e0, e1, e2, e3, i64_of_wf wk, i64_of_wf wq, i64_of_wf wt, i64_of_wf ws⟩
theorem open_tasks {H : Type} {enc : TypeId × Value → H} {W : World} {base : Nat} {v : Value} {d : DataW H} {p : List MemPlace}
    (hv : Value.okWide Tryz.prog W .any base 38 v) (h : DataW.Trod enc Tryz.prog W 0 (fun _ => true) true 38 v d p) :
    ∃ xs : List Tk, Tks W v xs ∧ (∀ x ∈ xs, I64 x.1 ∧ I64 x.2.1 ∧ I64 x.2.2.1 ∧ I64 x.2.2.2) ∧ ((d = .nil ∧ xs = []) ∨ ∃ es ss, d = .slice es ss ∧ es.length = xs.length) := by
  obtain ⟨a, len, cap, rfl⟩ := okWide_slice Tryz.underlying38 hv
  obtain ⟨fuel, hf⟩ := h
  rcases Go.Deep.open_slice Tryz.underlying38 (by simpa [Value.cells] using hf) with ⟨hcs, hx⟩ | ⟨x, l, c, m, n, D, Pl, hcs, _, hl, hm, hme, hx, hall⟩
  · simp at hcs
    obtain ⟨rfl, rfl, rfl⟩ := hcs
    exact ⟨[], ⟨none, 0, rfl, by simp, fun hp => by simp at hp⟩, fun x hx => by simp at hx, .inl ⟨congrArg Prod.fst hx, rfl⟩⟩
  · simp at hcs
    obtain ⟨rfl, rfl, rfl⟩ := hcs
    have hlm : len ≤ m := by rw [hme]; simp; omega
    have each : ∀ i, i < len → ∃ y : Tk, ∃ b o, x.add (i * 4) = ⟨b, o, none⟩ ∧ TkAt W b o y ∧ I64 y.1 ∧ I64 y.2.1 ∧ I64 y.2.2.1 ∧ I64 y.2.2.2 := by
      intro i hi
      obtain ⟨cs, hc, ht⟩ := hall i (by omega)
      rw [cellsTask] at hc
      obtain ⟨_, hlen, hcell⟩ := World.cells?_some hc
      obtain ⟨c0, c1, c2, c3, rfl⟩ := list4 (l := cs) (by omega)
      obtain ⟨k, q, t, s, rfl, rfl, rfl, rfl, i0, i1, i2, i3⟩ := trod_task ht
      generalize x.add (i * 4) = z at hcell ⊢
      obtain ⟨b, o, spot⟩ := z
      have h0 := hcell 0 (by omega)
      have hspot : spot = none := by simpa [Addr.add] using World.cell?_spot h0
      subst hspot
      exact ⟨(k, q, t, s), b, o, rfl, ⟨by simpa [add_plain3] using hcell 0 (by omega), by simpa [add_plain3] using hcell 1 (by omega), by simpa [add_plain3] using hcell 2 (by omega), by simpa [add_plain3] using hcell 3 (by omega)⟩, i0, i1, i2, i3⟩
    obtain ⟨f, hf'⟩ := Go.Deep.choose_lt each
    have hlen : ((List.range len).map f).length = len := by simp
    refine ⟨(List.range len).map f, ⟨some x, cap, by rw [hlen], by rw [hlen]; unfold maxLen at hm; omega, fun hp => ?_⟩, fun y hy => ?_, .inr ⟨_, _, congrArg Prod.fst hx, by simp⟩⟩
    · rw [hlen] at hp
      obtain ⟨b, o, he, hat, _⟩ := hf' 0 hp
      obtain ⟨xb, xo, xs⟩ := x
      simp [Addr.add] at he
      obtain ⟨rfl, rfl, rfl⟩ := he
      refine ⟨xb, xo, rfl, fun k y hk => ?_⟩
      have hkl : k < len := by
        have := (List.getElem?_eq_some_iff.mp hk).1
        simpa using this
      obtain ⟨b, o, he, hat', _⟩ := hf' k hkl
      rw [add_plain3] at he
      simp at he
      obtain ⟨rfl, rfl⟩ := he
      have : y = f k := by simpa [hkl] using hk.symm
      rw [this]
      exact hat'
    · obtain ⟨k, hk, rfl⟩ := List.mem_map.mp hy
      obtain ⟨b, o, _, _, hi⟩ := hf' k (by simpa using hk)
      exact hi
theorem bytesTask : Tryz.prog.bytesOf 45 = 32 := by kernel_rfl
theorem open_tasks_len {H : Type} {enc : TypeId × Value → H} {W : World} {base : Nat} {v : Value} {d : DataW H} {p : List MemPlace} {ts : List TypeId} {ds : List (DataW H)} {j : Nat}
    (hv : Value.okWide Tryz.prog W .any base 38 v) (h : DataW.Trod enc Tryz.prog W 0 (fun _ => true) true 38 v d p)
    (hs : (DataW.weightsEach Tryz.prog ts ds).all (· ≤ reachBytes) = true) (ht : ts[j]? = some 38) (hd : ds[j]? = some d) :
    ∃ xs : List Tk, Tks W v xs ∧ (∀ x ∈ xs, I64 x.1 ∧ I64 x.2.1 ∧ I64 x.2.2.1 ∧ I64 x.2.2.2) ∧ xs.length * 32 ≤ 140737488355328 := by
  obtain ⟨xs, hr, hi, hd'⟩ := open_tasks hv h
  refine ⟨xs, hr, hi, ?_⟩
  rcases hd' with ⟨_, rfl⟩ | ⟨es, ss, rfl, hl⟩
  · simp
  · have hb := sized_slice hs ht hd Tryz.underlying38
    rw [bytesTask] at hb
    simp only [reachBytes] at hb
    omega
theorem open_servers_cap {H : Type} {enc : TypeId × Value → H} {W : World} {base : Nat} {v : Value} {d : DataW H} {p : List MemPlace}
    (hv : Value.okWide Tryz.prog W .any base 172 v) (h : DataW.Trod enc Tryz.prog W 0 (fun _ => true) true 172 v d p) : ∀ a n c, v = .slice a n c → n ≤ c := by
  obtain ⟨a, len, cap, rfl⟩ := okWide_slice Tryz.underlying172 hv
  obtain ⟨fuel, hf⟩ := h
  intro a' n' c' e
  simp at e
  obtain ⟨rfl, rfl, rfl⟩ := e
  rcases Go.Deep.open_slice Tryz.underlying172 (by simpa [Value.cells] using hf) with ⟨hcs, hx⟩ | ⟨x, l, c, m, n, D, Pl, hcs, _, hl, hm, hme, hx, hall⟩
  · simp at hcs
    omega
  · simp at hcs
    omega
end Go.Proofs.YtpdehdomilnmeaaGreatDoor
