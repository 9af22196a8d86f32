/- The law GuestRuns: what it makes at first. -/
import Derived.Test.YthncfkeoephipaaDoorGr3
import Derived.Deep.DeepAppendWide
namespace Go.Proofs.YthncfkeoephipaaDoor
open Go.ChangeShapes Go.WideShapes Go.ChangeAt Go.RowKit
attribute [local go_sem] World.cell?_alloc_some frozen_alloc_some

theorem info_op : (Tryd.prog.info? 40).map (fun i => (i.zero, i.size, i.bytes)) = some (some (.agg #[.int .i64 0, .int .i64 0, .int .i64 0, .int .i64 0, .int .i64 0]), 5, 40) := by kernel_rfl
theorem info_int : (Tryd.prog.info? 3).map (fun i => (i.zero, i.size, i.bytes)) = some (some (.int .i64 0), 1, 8) := by kernel_rfl
theorem info_jobs : (Tryd.prog.info? 54).map (fun i => (i.zero, i.size, i.bytes)) = some (some (.slice none 0 0), 1, 24) := by kernel_rfl
theorem made_eq (z : Value) (n : Nat) : madeCells #[z] n = (List.replicate n z).toArray := by
  apply Array.toList_inj.mp
  rw [toList_madeCells_one]
theorem make_rn (n : Nat) (h : n ≤ 8) (W : World) : (Instr.makeSlice 53 (.int .i64 (n : Int)) (.int .i64 (n : Int))).run Tryd.prog W = .ok (.slice (some ⟨W.heap.size, 0, none⟩) n n) (W.alloc (.cells (rnC n (fun _ => 0)) 3)) := by
  obtain ⟨i, h1, h2, h3, h4⟩ := info_parts info_int
  have := run_makeSlice (P := Tryd.prog) W 53 3 i (.int .i64 0) Tryd.underlying53 h1 h2 .i64 .i64 (n : Int) (n : Int) (by omega) (by omega) (by rw [h3]; simp; omega) (by rw [h4]; omega) (by omega)
  rw [this, h3]
  have hr : rnC n (fun _ => 0) = (List.replicate n (Value.int .i64 0)).toArray := by
    unfold rnC
    congr 1
    apply List.ext_getElem?
    intro m
    simp [List.getElem?_replicate]
    by_cases hm : m < n
    · simp [hm]
    · simp [hm]
  rw [hr]
  simp [Value.cells, made_eq]
theorem make_rows (n : Nat) (h : n ≤ 8) (W : World) : (Instr.makeSlice 52 (.int .i64 (n : Int)) (.int .i64 (n : Int))).run Tryd.prog W = .ok (.slice (some ⟨W.heap.size, 0, none⟩) n n) (W.alloc (.cells (Array.replicate n (Value.slice none 0 0)) 54)) := by
  obtain ⟨i, h1, h2, h3, h4⟩ := info_parts info_jobs
  have := run_makeSlice (P := Tryd.prog) W 52 54 i (.slice none 0 0) Tryd.underlying52 h1 h2 .i64 .i64 (n : Int) (n : Int) (by omega) (by omega) (by rw [h3]; simp; omega) (by rw [h4]; omega) (by omega)
  rw [this, h3]
  simp [Value.cells, made_eq]
theorem ws_new {w : World} {bw br n : Nat} (h1 : w.heap[bw]? = some (.cells (List.replicate n (Value.slice none 0 0)).toArray 54 (0, 0))) (h2 : w.heap[br]? = some (.cells (rnC n (fun _ => 0)) 3 (0, 0))) (hn : ¬ bw = br) : WS w bw br (List.replicate n (.slice none 0 0)) (fun _ => []) (fun _ => 0) n := by
  have hv : ∀ (k : Nat) (v : Value), (List.replicate n (Value.slice none 0 0))[k]? = some v → v = .slice none 0 0 := fun k v h => by
    have := List.mem_of_getElem? h
    simp at this
    exact this.2
  refine ⟨h1, h2, by simp, fun k v h => ?_, hn, fun k v h => ?_, fun k l v u g _ h _ hg => ?_⟩
  · rw [hv k v h]; exact RJ.nil w
  · rw [hv k v h]; exact ⟨by simp [Value.ownBlock], by simp [Value.ownBlock]⟩
  · rw [hv k v h] at hg; cases hg
abbrev zo : Op5 := ⟨0, 0, 0, 0, 0⟩
theorem zeros_co (n : Nat) : (Builtin.zeroCells (Value.agg #[.int .i64 0, .int .i64 0, .int .i64 0, .int .i64 0, .int .i64 0]).cells n).toList = (List.replicate n zo).flatMap co := by
  have hz : ∀ m : Nat, m < 5 → (#[Value.int .i64 0, .int .i64 0, .int .i64 0, .int .i64 0, .int .i64 0] : Array Value)[m]! = .int .i64 0 := fun m h => by
    match m, h with
    | 0, _ => rfl
    | 1, _ => rfl
    | 2, _ => rfl
    | 3, _ => rfl
    | 4, _ => rfl
  have h1 : (Builtin.zeroCells (Value.agg #[.int .i64 0, .int .i64 0, .int .i64 0, .int .i64 0, .int .i64 0]).cells n).toList = List.replicate (n * 5) (.int .i64 0) := by
    rw [List.eq_replicate_iff]
    refine ⟨by rw [Array.length_toList, size_zeroCells]; rfl, fun b hb => ?_⟩
    simp only [Builtin.zeroCells, Value.cells, Array.toList_map, List.mem_map] at hb
    obtain ⟨k, _, rfl⟩ := hb
    exact hz _ (Nat.mod_lt _ (by decide))
  rw [h1]
  clear h1 hz
  induction n with
  | zero => rfl
  | succ n ih =>
    rw [List.replicate_succ, List.flatMap_cons, ← ih, show (n + 1) * 5 = 5 + n * 5 by omega, ← List.replicate_append_replicate]
    rfl
/-- 400 calls more, all zero. -/
theorem run_append_zeros (K : Nat) (h0 : 0 < K) (h400 : K ≤ 400) (w : World) (ty : TypeId) (base : Nat) (v : Value) (n : Nat) (xs : List Value) (hown : w.ownsRow base 40 5 v n xs) (hn : n * 40 ≤ 140737488355328) (hbase : base ≤ w.heap.size) :
    ∃ v' w', (Builtin.append_ #[23, 3] ty #[v, .int .i64 (K : Int)]).run Tryd.prog w = .ok v' w' ∧ w'.ownsRow base 40 5 v' (n + K) (xs ++ (List.replicate K zo).flatMap co) ∧ w.grownBy w' v.ownBlock ∧ (v'.ownBlock = v.ownBlock ∨ v'.ownBlock = some w.heap.size) := by
  obtain ⟨i, hi, hz, hsize, hby⟩ := info_parts info_op
  have hxl : xs.length = n * 5 := hown.1
  have hZ := zeros_co K
  have hnl : ((List.replicate K zo).flatMap co).length = K * 5 := by rw [fl_len co 5 co_len, List.length_replicate]
  obtain ⟨news, hnews⟩ : ∃ l, l = (List.replicate K zo).flatMap co := ⟨_, rfl⟩
  have hone : ∀ u ∈ news, u.oneCell' = true := by
    intro u hu
    rw [hnews, List.mem_flatMap] at hu
    obtain ⟨o, _, hu⟩ := hu
    exact oneo o u hu
  rw [← hnews] at hnl hZ ⊢
  have hZa : Builtin.zeroCells (Value.agg #[.int .i64 0, .int .i64 0, .int .i64 0, .int .i64 0, .int .i64 0]).cells K = news.toArray := by
    apply Array.toList_inj.mp
    rw [hZ]
  clear hnews hZ
  have hlen : (xs ++ news).length = (n + K) * 5 := by rw [List.length_append, hxl, hnl]; omega
  have hgrow : ∀ a cap, v = .slice a n cap → cap < n + K → (Builtin.firstCells i.size n (.slice a n cap)).run Tryd.prog w.drew = .ok xs.toArray w.drew → ∃ v' w', (Builtin.append_ #[23, 3] ty #[v, .int .i64 (K : Int)]).run Tryd.prog w = .ok v' w' ∧ w'.ownsRow base 40 5 v' (n + K) (xs ++ news) ∧ w.grownBy w' v.ownBlock ∧ (v'.ownBlock = v.ownBlock ∨ v'.ownBlock = some w.heap.size) := by
    rintro a cap rfl hc hf
    have hr := Lib.run_append_grow_zeros w 23 3 ty 40 i _ .i64 .i64 Tryd.underlying23 Tryd.underlying3 hi hz a n cap xs hf K (by omega) (by omega) hc (by omega) (by rw [hby]; omega) (by rw [hby]; exact growslice_fits_wide hc (by omega))
    have hge := grownCap_ge w (n + K) cap 40
    have hcm : grownCap w (n + K) cap 40 ≤ maxLen := grownCap_le_maxLen w (n + K) cap 40 (by unfold maxLen; omega)
    rw [hZa] at hr
    refine ⟨_, _, hr, ⟨hlen, .inr ⟨w.heap.size, _, _, rfl, hbase, heap_alloc_new w.drew _, hge, hcm, ?_, ?_⟩⟩, ⟨rfl, rfl, rfl, by simp, fun k hk _ => (Kept.alloc (fun _ => False) w.drew _).block k hk (fun f => f)⟩, .inr rfl⟩
    · simp only [Array.size_append, List.size_toArray, size_zeroCells, hxl, hnl]
      simp only [Value.cells, List.size_toArray, List.length_cons, List.length_nil]
      omega
    · simp only [Array.toList_append]
      rw [← hlen]
      exact List.take_left
  rcases hown.2 with ⟨rfl, rfl⟩ | ⟨g, cap, cur, rfl, hbg, hg, hnc, hcm, hcs, htake⟩
  · have hx : xs = [] := List.eq_nil_of_length_eq_zero (by omega)
    subst hx
    exact hgrow none 0 rfl (by omega) (run_firstCells_none (P := Tryd.prog) w.drew i.size 0 0 0)
  · by_cases hroom : n + K ≤ cap
    · have hst := run_storeCells_at Tryd.prog g (n * 5) 40 news 0 cur w hg (by rw [hnl]; omega) hone
      simp only [Nat.add_zero, hnl] at hst
      have hr : (Builtin.append_ #[23, 3] ty #[.slice (some ⟨g, 0, none⟩) n cap, .int .i64 (K : Int)]).run Tryd.prog w = .ok (.slice (some ⟨g, 0, none⟩) (n + K) cap) (w.setRow g (cur.toList.take (n * 5) ++ news ++ cur.toList.drop (n * 5 + K * 5)).toArray) := by
        have hw : IntKind.i64.wrap (K : Int) = K := wfit (by omega) (by omega)
        have h4 : ¬ ((K : Int) < 0) := by omega
        have h5 : ¬ (281474976710656 < (K : Int) * 40) := by omega
        have h6 : ¬ K * 5 = 0 := by omega
        simp [Builtin.append_, run_underlying Tryd.underlying23, run_underlying Tryd.underlying3, sizeOf, typeInfo, zeroValue, asInt, asIntOf, hw, hi, hz, hsize, hby, hroom, Addr.add_lit, hZa, hst, h4, h5, h6]
      refine ⟨_, _, hr, ⟨hlen, .inr ⟨g, cap, _, rfl, hbg, setRow_heap w g cur _ 40 _ hg, hroom, hcm, ?_, ?_⟩⟩, ⟨rfl, rfl, rfl, by simp, fun k _ hk => setRow_other w g k _ (fun e => hk (by simp [Value.ownBlock, e]))⟩, .inl rfl⟩
      · simp only [List.size_toArray, List.length_append, List.length_take, List.length_drop, Array.length_toList, hnl]
        omega
      · have ht' : cur.toList.take (n * 5) = xs := htake
        rw [ht', ← hlen]
        exact List.take_left
    · have holds : ∀ j u, xs[j]? = some u → w.cell? ((⟨g, 0, none⟩ : Addr).add j) = some u := hown.cells (g := g) rfl
      exact hgrow _ cap rfl (by omega) (run_firstCells_some (P := Tryd.prog) w.drew i.size n ⟨g, 0, none⟩ n cap xs (by rw [hsize]; exact hxl) (by simpa using holds))
end Go.Proofs.YthncfkeoephipaaDoor
