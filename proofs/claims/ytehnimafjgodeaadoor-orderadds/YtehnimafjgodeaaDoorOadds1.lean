/- Entries added one by one: what is in memory. -/
import Derived.Test.YtehnimafjgodeaaDoorMpair
import Derived.Test.YtehnimafjgodeaaDoorObegins
import Derived.Test.YtehnimafjgodeaaDoorOrows
namespace Go.Proofs.YtehnimafjgodeaaDoor
open Go.ChangeMaps Go.ChangeShapes Go.WideShapes Go.ChangeAt Go.RowKit
set_option maxRecDepth 100000

/-- The places of all entries. -/
def AddRel (R : List En) (mp : Pr → Option Int) : Prop := ∀ c n k, PlIs R c n k → mp (c, n) = if k = 0 then none else some (k : Int)
theorem rel_nil : AddRel [] (fun _ => none) := by
  intro c n k h
  have := h.le
  simp at this
  simp [this]
theorem rel_there {R : List En} {mp : Pr → Option Int} {c n : Int} {k : Nat} (h : AddRel R mp) (hk : PlIs R c n (k + 1)) : AddRel R (upP mp (c, n) ((k : Int) + 1)) := by
  intro c' n' k' h'
  unfold upP
  by_cases e : (c', n') = (c, n)
  · simp only [Prod.mk.injEq] at e
    obtain ⟨rfl, rfl⟩ := e
    have := plis_one h' hk
    subst this
    simp
  · rw [if_neg e]; exact h c' n' k' h'
theorem plis_more {R : List En} {c n : Int} {k : Nat} (e : En) (h : PlIs R c n k) (hne : ¬ atP c n e) : PlIs (R ++ [e]) c n k := by
  rcases h with ⟨rfl, h⟩ | ⟨j, x, rfl, hx, hm, ha⟩
  · refine .inl ⟨rfl, fun i y hy => ?_⟩
    by_cases hi : i < R.length
    · rw [List.getElem?_append_left hi] at hy; exact h i y hy
    · rw [List.getElem?_append_right (by omega)] at hy
      have : i - R.length = 0 := by have := (List.getElem?_eq_some_iff.mp hy).1; simp at this; omega
      rw [this] at hy
      simp at hy
      rw [← hy]; exact hne
  · have hj := (List.getElem?_eq_some_iff.mp hx).1
    refine .inr ⟨j, x, rfl, by rw [List.getElem?_append_left hj]; exact hx, hm, fun i y hi hy => ?_⟩
    rw [List.getElem?_append_left (by omega)] at hy
    exact ha i y hi hy
theorem plis_last {R : List En} {e : En} (h : PlIs R e.cl e.nu 0) : PlIs (R ++ [e]) e.cl e.nu (R.length + 1) := by
  rcases h with ⟨_, h⟩ | ⟨j, x, e0, _⟩
  · refine .inr ⟨R.length, e, rfl, by simp, ⟨rfl, rfl⟩, fun i y hi hy => ?_⟩
    rw [List.getElem?_append_left hi] at hy
    exact h i y hy
  · omega
theorem rel_new {R : List En} {mp : Pr → Option Int} {e : En} (h : AddRel R mp) (hk : PlIs R e.cl e.nu 0) : AddRel (R ++ [e]) (upP mp (e.cl, e.nu) ((R.length : Int) + 1)) := by
  intro c n k h'
  unfold upP
  by_cases he : (c, n) = (e.cl, e.nu)
  · simp only [Prod.mk.injEq] at he
    obtain ⟨rfl, rfl⟩ := he
    have := plis_one h' (plis_last hk)
    subst this
    simp
  · rw [if_neg he]
    obtain ⟨k', hk'⟩ := plis_ex R c n
    have := plis_one h' (plis_more e hk' (fun ha => he (by rw [ha.1, ha.2])))
    subst this
    exact h c n k hk'
theorem last_there {R : List En} {e : En} {k : Nat} (hk : PlIs R e.cl e.nu (k + 1)) : (∃ n, lastOf R e.cl = some n ∧ ¬ n < e.nu) ∧ lastF (lastOf R) e = lastOf R := by
  have : ∃ n, lastOf R e.cl = some n ∧ ¬ n < e.nu := by
    rcases hk with ⟨h, _⟩ | ⟨j, x, _, hx, ⟨h1, h2⟩, _⟩
    · omega
    · obtain ⟨n, hn, hge⟩ := lastOf_ge R x (List.mem_of_getElem? hx)
      rw [h1] at hn
      exact ⟨n, hn, by omega⟩
  refine ⟨this, ?_⟩
  obtain ⟨n, hn, hlt⟩ := this
  unfold lastF
  rw [hn]
  simp [hlt]
theorem cell_map {w : World} {b : Nat} {es : Array MapEntry} {c : Nat} (hb : w.heap[b]? = some (.map es c)) {a : Addr} {v : Value} (h : w.cell? a = some v) : a.block ≠ b := by
  intro e
  unfold World.cell? at h
  rw [e] at h
  simp [hb] at h
theorem ens_map {w w' : World} {b : Nat} {es : Array MapEntry} {c : Nat} {v : Value} {ps : List Ep} (h : Ens w v ps) (hb : w.heap[b]? = some (.map es c)) (hk : Kept (fun j => j = b) w w') : Ens w' v ps := by
  have q : ∀ {a : Addr} {u : Value}, w.cell? a = some u → w'.cell? a = some u := fun h => hk.cell h (cell_map hb h)
  obtain ⟨a, cap, rfl, hl, hr, ht⟩ := h
  refine ⟨a, cap, rfl, hl, fun hp => ?_, fun t hm => ?_⟩
  · obtain ⟨g, off, rfl, hc⟩ := hr hp
    exact ⟨g, off, rfl, fun i x hi => EnAt.of fun r u hr2 hu => q ((hc i x hi).cell r hr2 hu)⟩
  · obtain ⟨a2, c2, e2, hl2, hr2⟩ := ht t hm
    refine ⟨a2, c2, e2, hl2, fun hp => ?_⟩
    obtain ⟨g, off, hg, hc⟩ := hr2 hp
    exact ⟨g, off, hg, fun i x hi => ⟨q (hc i x hi).1, q (hc i x hi).2.1, q (hc i x hi).2.2.1, q (hc i x hi).2.2.2⟩⟩
/-- The maps and the ledger behind some entries. -/
structure AS (w wr : World) (pb lb : Nat) (lv : Value) (rs : List Ep) (mp : Pr → Option Int) : Prop where
  bel : Below w.heap.size w wr
  ens : Ens wr lv rs
  sm : ∀ t ∈ rs, small t
  le : rs.length ≤ 64
  mpp : Mp wr pb mp
  mjj : Mj wr lb (lastOf (fs1 rs))
  rel : AddRel (fs1 rs) mp
theorem AS.below {w wr w' : World} {pb lb : Nat} {lv : Value} {rs : List Ep} {mp : Pr → Option Int} (h : AS w wr pb lb lv rs mp) (hb : Below wr.heap.size wr w') : AS w w' pb lb lv rs mp :=
  ⟨bt h.bel hb, h.ens.below hb, h.sm, h.le, h.mpp.below hb, h.mjj.below hb, h.rel⟩
/-- A round: the ledger goes on to qs, the places are told, the greatest numbers are still the old ones. -/
structure AM (w wr : World) (pb lb : Nat) (lv : Value) (qs : List Ep) (mp : Pr → Option Int) (m : Int → Option Int) : Prop where
  bel : Below w.heap.size w wr
  ens : Ens wr lv qs
  mpp : Mp wr pb mp
  mjj : Mj wr lb m
theorem AM.below {w wr w' : World} {pb lb : Nat} {lv : Value} {rs : List Ep} {mp : Pr → Option Int} {m : Int → Option Int} (h : AM w wr pb lb lv rs mp m) (hb : Below wr.heap.size wr w') : AM w w' pb lb lv rs mp m :=
  ⟨bt h.bel hb, h.ens.below hb, h.mpp.below hb, h.mjj.below hb⟩
theorem AM.putP {w wr : World} {pb lb : Nat} {lv : Value} {rs : List Ep} {mp : Pr → Option Int} {m : Int → Option Int} (h : AM w wr pb lb lv rs mp m) (hne : lb ≠ pb) (hge : w.heap.size ≤ pb) (k : Pr) (hi : I2 k) (i : Int) : ∃ w', (Instr.mapUpdate 70 (.map (some pb)) (vK k) (.int .i64 i)).run Tryd.prog wr = .ok () w' ∧ AM w w' pb lb lv rs (upP mp k i) m ∧ Kept (fun j => j = pb) wr w' := by
  obtain ⟨w', h1, h2, h3⟩ := h.mpp.put k hi i
  obtain ⟨es, ck, hb, _⟩ := h.mpp
  exact ⟨w', h1, ⟨h.bel.trans (h3.below (fun k e => by omega) h.bel.size), ens_map h.ens hb h3, h2, h.mjj.kept h3 hne⟩, h3⟩
theorem AM.putJ {w wr : World} {pb lb : Nat} {lv : Value} {rs : List Ep} {mp : Pr → Option Int} {m : Int → Option Int} (h : AM w wr pb lb lv rs mp m) (hne : lb ≠ pb) (hge : w.heap.size ≤ lb) (k i : Int) : ∃ w', (Instr.mapUpdate 65 (.map (some lb)) (.int .i64 k) (.int .i64 i)).run Tryd.prog wr = .ok () w' ∧ AM w w' pb lb lv rs mp (upn m k i) ∧ wr.heap.size ≤ w'.heap.size := by
  obtain ⟨w', h1, h2, h3⟩ := h.mjj.put k i
  obtain ⟨es, ck, hb, _⟩ := h.mjj
  exact ⟨w', h1, ⟨h.bel.trans (h3.below (fun k e => by omega) h.bel.size), ens_map h.ens hb h3, h.mpp.kept h3 (fun e => hne e.symm), h2⟩, h3.size⟩
theorem fs_lenA (qs : List Ep) : (fs1 qs).length = qs.length := by simp
theorem lastF_ge {m : Int → Option Int} {e : En} {n : Int} (h : m e.cl = some n) (hn : ¬ n < e.nu) : lastF m e = m := by
  unfold lastF
  rw [h]
  simp [hn]
theorem nodup_le {α : Type} : ∀ (l m : List α), l.Nodup → (∀ x ∈ l, x ∈ m) → l.length ≤ m.length
  | [], _, _, _ => Nat.zero_le _
  | a :: l, m, hd, hs => by
    obtain ⟨s, t, rfl⟩ := List.append_of_mem (hs a (by simp))
    rw [List.nodup_cons] at hd
    have := nodup_le l (s ++ t) hd.2 (fun x hx => by
      have h1 := hs x (by simp [hx])
      have h2 : ¬ x = a := fun e => hd.1 (e ▸ hx)
      simp [h2] at h1
      simpa using h1)
    simp at this ⊢
    omega
theorem keys_len {l m : List MapEntry} (hl : IntKeys l) (hdl : (l.map (·.key)).Nodup) (hm : IntKeys m) (hdm : (m.map (·.key)).Nodup) (h : ∀ k, look l k = look m k) : l.length = m.length := by
  have sub : ∀ {l m : List MapEntry}, IntKeys l → (l.map (·.key)).Nodup → (∀ k, look l k = look m k) → ∀ x ∈ l.map (·.key), x ∈ m.map (·.key) := by
    intro l m hl hd h x hx
    obtain ⟨e, he, rfl⟩ := List.mem_map.mp hx
    obtain ⟨k, hk⟩ := hl e he
    have h1 := look_mem hl hd he hk
    rw [h k] at h1
    by_cases hn : ∃ e' ∈ m, e'.key = .int .i64 k
    · obtain ⟨e', he', hk'⟩ := hn
      exact List.mem_map.mpr ⟨e', he', by rw [hk', hk]⟩
    · exfalso
      have : look m k = none := by
        clear h1 h
        induction m with
        | nil => rfl
        | cons a r ih =>
          have ha : ¬ keyNum a.key = some k := fun e2 => by
            refine hn ⟨a, by simp, ?_⟩
            unfold keyNum at e2
            split at e2
            · rename_i y hy; simp at e2; rw [hy, e2]
            · cases e2
          simp only [look, ha, if_false]
          exact ih (fun ⟨e', he', h2⟩ => hn ⟨e', by simp [he'], h2⟩)
      rw [this] at h1
      cases h1
  have h1 := nodup_le _ _ hdl (sub hl hdl h)
  have h2 := nodup_le _ _ hdm (sub hm hdm (fun k => (h k).symm))
  simp at h1 h2
  omega
theorem run_lenM (b : Nat) (es : Array MapEntry) (clock : Nat) (w : World) (hb : w.heap[b]? = some (.map es clock)) (ty : TypeId) : (Builtin.len_ #[65] ty #[.map (some b)]).run Tryd.prog w = .ok (.int .i64 es.size) w := by
  simp [Builtin.len_, run_underlying Tryd.underlying65, MapKept.run_getObj_map hb, goInt]
end Go.Proofs.YtehnimafjgodeaaDoor
