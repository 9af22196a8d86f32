import Derived.Test.YtaiklaipdocdmaaDoorNpMath
import Derived.Test.YtaiklaipdocdmaaDoorOcX
import Derived.Test.YtaiklaipdocdmaaDoorOled
import Derived.Test.YtaiklaipdocdmaaDoorOunlike
/- Which messages are in form: net.Check. -/
namespace Go.Proofs.YtaiklaipdocdmaaDoor
open Go.ChangeShapes Go.WideShapes Go.ChangeAt Go.RowKit
set_option maxRecDepth 100000
attribute [local go_sem] World.cell?_alloc_some frozen_alloc_some

def nodeB (n : Int) : Bool := decide (0 ≤ n) && decide (n ≤ 6)
theorem nodeB_iff {n : Int} : nodeB n = true ↔ nodeF n := by simp [nodeB, nodeF]
def balB (r n : Int) : Bool := (decide (1 ≤ r) && decide (r ≤ 1099511627776)) && nodeB n
theorem balB_iff {r n : Int} : balB r n = true ↔ balF r n := by simp [balB, balF, nodeB_iff]
theorem isNode_any (w : World) (n : Int) : Calls Tryd.prog 37 #[.int .i64 n] w fun e w' => e = .returned (.bool (nodeB n)) ∧ w' = w := by
  obtain ⟨b, hb⟩ : ∃ b, b = nodeB n := ⟨_, rfl⟩
  rw [← hb]
  have HB := mkHid hb
  clear hb
  by_cases h0 : n < 0
  · go_enter Tryd.func37, Tryd.ntmps37
    go_wp2
    go_ret
    exact ⟨by rw [HB.out]; unfold nodeB; rw [decide_eq_false (by omega)]; first | rfl | simp, rfl⟩
  · have h0' : 0 ≤ n := by omega
    by_cases h1 : n < 7
    · go_enter Tryd.func37, Tryd.ntmps37
      go_wp2
      go_ret
      exact ⟨by rw [HB.out]; unfold nodeB; rw [decide_eq_true h0', decide_eq_true (show n ≤ 6 by omega)]; first | rfl | simp, rfl⟩
    · go_enter Tryd.func37, Tryd.ntmps37
      go_wp2
      go_ret
      exact ⟨by rw [HB.out]; unfold nodeB; rw [decide_eq_true h0', decide_eq_false (show ¬ n ≤ 6 by omega)]; first | rfl | simp, rfl⟩
theorem isLegal_any (w : World) (r n : Int) : Calls Tryd.prog 41 #[.agg #[.int .i64 r, .int .i64 n]] w fun e w' => e = .returned (.bool (balB r n)) ∧ Below w.heap.size w w' := by
  obtain ⟨b, hb⟩ : ∃ b, b = balB r n := ⟨_, rfl⟩
  rw [← hb]
  have HB := mkHid hb
  clear hb
  obtain ⟨nb, hnb⟩ : ∃ b, b = nodeB n := ⟨_, rfl⟩
  have HC := fun W => mkHid (isNode_any W n)
  rw [← hnb] at HC
  have HN := mkHid hnb
  clear hnb
  by_cases h0 : r < 1
  · go_enter Tryd.func41, Tryd.ntmps41
    go_wp2
    go_ret
    exact ⟨by rw [HB.out]; unfold balB; rw [decide_eq_false (by omega)]; first | rfl | simp, ba (Below.refl _ _) _⟩
  · have h0' : 1 ≤ r := by omega
    by_cases h1 : r ≤ 1099511627776
    · go_enter Tryd.func41, Tryd.ntmps41
      go_wp2_with (go_at_call 37; refine (HC _).out.mono ?_; rintro e w' ⟨rfl, rfl⟩)
      go_ret
      exact ⟨by rw [HB.out]; unfold balB; rw [decide_eq_true h0', decide_eq_true h1, ← HN.out]; first | rfl | simp, ba (Below.refl _ _) _⟩
    · go_enter Tryd.func41, Tryd.ntmps41
      go_wp2
      go_ret
      exact ⟨by rw [HB.out]; unfold balB; rw [decide_eq_true h0', decide_eq_false (show ¬ r ≤ 1099511627776 by omega)]; first | rfl | simp, ba (Below.refl _ _) _⟩
theorem outForm_any (w : World) (t : Ep) (ea : Addr) (h : EnW w t) (he : w.cell? ⟨0, 0, none⟩ = some (vErr ea)) (b : Bool) (hb : b = true ↔ ¬ inF t.1) : Calls Tryd.prog 92 #[vP t] w fun e w' => e = .returned (.bool b) ∧ Below w.heap.size w w' := by
  obtain ⟨e, a, cap⟩ := t
  have HB := mkHid hb
  clear hb
  by_cases hf : inF e
  · have HC := mkHid (fun W (hW : Below w.heap.size w W) => check_yes W (e, a, cap) (h.below hW) hf)
    have hbf : b = false := by rw [← Bool.not_eq_true, HB.out]; simpa using hf
    subst hbf
    clear h HB he
    simp only [vP, vN, tv] at HC ⊢
    go_enter Tryd.func92, Tryd.ntmps92
    go_wp2_with (go_at_call 93; refine (HC.out _ (by first | exact Below.refl _ _ | exact ba (Below.refl _ _) _)).mono ?_; rintro r w' ⟨rfl, hb⟩; have HB2 := mkHid hb; clear hb)
    go_ret
    exact ⟨rfl, by first | exact HB2.out | exact bt (ba (Below.refl _ _) _) HB2.out⟩
  · have HC := mkHid (fun W (hW : Below w.heap.size w W) => check_no W (e, a, cap) ea (h.below hW) hf (kc he hW))
    have hbf : b = true := HB.out.mpr hf
    subst hbf
    clear h HB he
    simp only [vP, vN, tv] at HC ⊢
    go_enter Tryd.func92, Tryd.ntmps92
    go_wp2_with (go_at_call 93; refine (HC.out _ (by first | exact Below.refl _ _ | exact ba (Below.refl _ _) _)).mono ?_; rintro r w' ⟨rfl, hb⟩; have HB2 := mkHid hb; clear hb)
    go_ret
    exact ⟨rfl, by first | exact HB2.out | exact bt (ba (Below.refl _ _) _) HB2.out⟩
abbrev fnOut : Value := .func (.func 92) #[] #[]
set_option maxHeartbeats 6400000 in
theorem idxE_any (w : World) (v : Value) (ps : List Ep) (ea : Addr) (h : Ens w v ps) (he : w.cell? ⟨0, 0, none⟩ = some (vErr ea)) : ∃ k : Int, (0 ≤ k ↔ ∃ x ∈ ps, ¬ inF x.1) ∧
    Calls Tryd.prog 104 #[v, fnOut] w fun e w' => e = .returned (.int .i64 k) ∧ Below w.heap.size w w' := by
  obtain ⟨k, hk⟩ : ∃ k : Int, (k = -1 ∧ ∀ x ∈ ps, inF x.1) ∨ (∃ j : Nat, k = j ∧ j < ps.length ∧ (∃ x, ps[j]? = some x ∧ ¬ inF x.1) ∧ ∀ i x, i < j → ps[i]? = some x → inF x.1) := by
    clear h
    induction ps with
    | nil => exact ⟨-1, .inl ⟨rfl, by simp⟩⟩
    | cons y l ih =>
      by_cases hy : inF y.1
      · obtain ⟨k, ⟨rfl, h⟩ | ⟨j, rfl, hj, ⟨x, hx, hn⟩, ha⟩⟩ := ih
        · exact ⟨-1, .inl ⟨rfl, fun x hx => by rcases List.mem_cons.mp hx with rfl | hm; exact hy; exact h x hm⟩⟩
        · refine ⟨((j + 1 : Nat) : Int), .inr ⟨j + 1, rfl, by simp; omega, ⟨x, by simpa using hx, hn⟩, fun i z hi hz => ?_⟩⟩
          cases i with
          | zero => simp at hz; rw [← hz]; exact hy
          | succ i => exact ha i z (by omega) (by simpa using hz)
      · exact ⟨((0 : Nat) : Int), .inr ⟨0, rfl, by simp, ⟨y, rfl, hy⟩, fun i z hi => by omega⟩⟩
  refine ⟨k, ?_, ?_⟩
  · rcases hk with ⟨rfl, h⟩ | ⟨j, rfl, hj, ⟨x, hx, hn⟩, ha⟩
    · constructor
      · intro h; omega
      · rintro ⟨x, hx, hn⟩; exact absurd (h x hx) hn
    · exact ⟨fun _ => ⟨x, List.mem_of_getElem? hx, hn⟩, fun _ => by omega⟩
  have HK := mkHid hk
  clear hk
  have hl9 : (ps.length : Int) ≤ 9223372036854775807 := by obtain ⟨_, _, _, hl, _⟩ := h; exact hl
  obtain ⟨a, cap, rfl⟩ : ∃ a cap, v = .slice a ps.length cap := by obtain ⟨a, cap, e, _⟩ := h; exact ⟨a, cap, e⟩
  have HE := mkHid h
  have HG := mkHid he
  clear h he
  simp only [fnOut]
  go_enter Tryd.func104, Tryd.ntmps104
  go_wp2
  go_loopw [5, 8] (fun _ iv wr => ∃ j : Nat, iv = .int .i64 (j : Int) ∧ j ≤ ps.length ∧ Hid (Below w.heap.size w wr) ∧ Hid (∀ i x, i < j → ps[i]? = some x → inF x.1)) (fun _ iv _ => ps.length - (intOf iv).toNat)
  case atStart => exact ⟨0, rfl, Nat.zero_le _, mkHid (Below.refl _ _), mkHid (fun i x hi => by omega)⟩
  case round =>
    obtain ⟨j, rfl, hj, HB, HO⟩ := hrel
    by_cases hlt : j < ps.length
    · obtain ⟨g, off, t, rfl, hy, hat, hew⟩ := HE.out.at HB.out j hlt
      obtain ⟨e, ta, tc⟩ := t
      obtain ⟨q0, q1, q2, q3, q4, q5, q6, q7, q8, q9⟩ := hat.ten
      simp only [tv] at q8
      have hji : (j : Int) < ps.length := by omega
      obtain ⟨bb, hbb⟩ := ex_bool (¬ inF e)
      have HC := mkHid (fun W (hW : Below wr.heap.size wr W) => outForm_any W (e, ta, tc) ea (hew.below hW) (kc (kc HG.out HB.out) hW) bb hbb)
      simp only [vP, vN, tv] at HC
      have HY := mkHid (And.intro hy hbb)
      clear hy hbb hat hew
      cases bb with
      | true =>
        go_wp2_with (go_at_call 92; refine (HC.out _ (by first | exact Below.refl _ _ | exact ba (Below.refl _ _) _)).mono ?_; rintro r w' ⟨rfl, hb⟩; have HB2 := mkHid hb; clear hb)
        go_ret
        refine ⟨?_, bt HB.out (by first | exact HB2.out | exact bt (ba (Below.refl _ _) _) HB2.out)⟩
        obtain ⟨hy, hbb⟩ := HY.out
        have hn := hbb.mp (by first | rfl | trivial)
        rcases HK.out with ⟨_, h⟩ | ⟨j', rfl, hj', ⟨x, hx, hn'⟩, ha⟩
        · exact absurd (h _ (List.mem_of_getElem? hy)) hn
        · have : j' = j := by
            rcases Nat.lt_trichotomy j' j with h1 | h1 | h1
            · exact absurd (HO.out j' x h1 hx) hn'
            · exact h1
            · exact absurd (ha j _ h1 hy) hn
          subst this
          rfl
      | false =>
        go_wp2_with (go_at_call 92; refine (HC.out _ (by first | exact Below.refl _ _ | exact ba (Below.refl _ _) _)).mono ?_; rintro r w' ⟨rfl, hb⟩; have HB2 := mkHid hb; clear hb)
        go_roundw
        case rel =>
          refine ⟨j + 1, by go_num, by omega, mkHid (bt HB.out (by first | exact HB2.out | exact bt (ba (Below.refl _ _) _) HB2.out)), mkHid (fun i x hi hx => ?_)⟩
          by_cases e : i = j
          · subst e
            obtain ⟨hy, hbb⟩ := HY.out
            rw [hy] at hx
            simp at hx
            rw [← hx]
            exact Classical.byContradiction fun hn => by have := hbb.mpr hn; simp at this
          · exact HO.out i x (by omega) hx
        case measure => simp [intOf]; omega
    · obtain rfl : j = ps.length := by omega
      go_wp2
      go_ret
      refine ⟨?_, HB.out⟩
      rcases HK.out with ⟨rfl, h⟩ | ⟨j', rfl, hj', ⟨x, hx, hn'⟩, ha⟩
      · rfl
      · exact absurd (HO.out j' x hj' hx) hn'
theorem contE_any (w : World) (v : Value) (ps : List Ep) (ea : Addr) (h : Ens w v ps) (he : w.cell? ⟨0, 0, none⟩ = some (vErr ea)) (b : Bool) (hb : b = true ↔ ∃ x ∈ ps, ¬ inF x.1) :
    Calls Tryd.prog 91 #[v, fnOut] w fun e w' => e = .returned (.bool b) ∧ Below w.heap.size w w' := by
  obtain ⟨k, hk, hc⟩ := idxE_any w v ps ea h he
  have hbe : b = decide (0 ≤ k) := by rw [Bool.eq_iff_iff, hb, ← hk]; simp
  obtain ⟨a, cap, rfl⟩ : ∃ a cap, v = .slice a ps.length cap := by obtain ⟨a, cap, e, _⟩ := h; exact ⟨a, cap, e⟩
  have HC := mkHid hc
  clear hc hk hb h he
  have HBE := mkHid hbe
  clear hbe
  simp only [fnOut] at HC ⊢
  go_enter Tryd.func91, Tryd.ntmps91
  go_wp2_with (go_at_call 104; refine HC.out.mono ?_; rintro e w' ⟨rfl, hb⟩; have HB2 := mkHid hb; clear hb)
  go_ret
  exact ⟨by rw [HBE.out]; first | rfl | simp, HB2.out⟩
theorem ledger_any (w : World) (v : Value) (ps : List Ep) (ea : Addr) (h : Ens w v ps) (he : w.cell? ⟨0, 0, none⟩ = some (vErr ea)) (b : Bool) (hb : b = true ↔ ledF (fs1 ps)) :
    Calls Tryd.prog 73 #[v] w fun e w' => e = .returned (.bool b) ∧ Below w.heap.size w w' := by
  obtain ⟨cb, hcb⟩ := ex_bool (∃ x ∈ ps, ¬ inF x.1)
  have HC := mkHid (contE_any w v ps ea h he cb hcb)
  obtain ⟨a, cap, rfl⟩ : ∃ a cap, v = .slice a ps.length cap := by obtain ⟨a, cap, e, _⟩ := h; exact ⟨a, cap, e⟩
  have hlen : ((ps.length : Int) ≤ 64 ∧ b = !cb) ∨ ((64 : Int) < ps.length ∧ b = false) := by
    by_cases hl : ps.length ≤ 64
    · refine .inl ⟨by omega, ?_⟩
      rw [Bool.eq_iff_iff, hb]
      unfold ledF fs1
      simp only [List.length_map, hl, true_and, Bool.not_eq_true', ← Bool.not_eq_true, hcb]
      simp
    · refine .inr ⟨by omega, ?_⟩
      rw [← Bool.not_eq_true, hb]
      unfold ledF fs1
      simp only [List.length_map]
      omega
  clear hb hcb h he
  simp only [fnOut] at HC
  rcases hlen with ⟨hl, hbe⟩ | ⟨hl, hbe⟩
  · have HBE := mkHid hbe
    clear hbe
    go_enter Tryd.func73, Tryd.ntmps73
    go_wp2_with (go_at_call 91; refine HC.out.mono ?_; rintro e w' ⟨rfl, hb⟩; have HB2 := mkHid hb; clear hb)
    go_ret
    exact ⟨by rw [HBE.out]; first | rfl | simp, HB2.out⟩
  · subst hbe
    go_enter Tryd.func73, Tryd.ntmps73
    go_wp2
    go_ret
    exact ⟨rfl, Below.refl _ _⟩
/-- A message as a value, its ledger a slice. -/
abbrev vM (m : Mg) (lv : Value) : Value := .agg #[.int .i64 m.kd, .int .i64 m.fr, .int .i64 m.to, .int .i64 m.jb, .int .i64 m.br, .int .i64 m.bn, .int .i64 m.ar, .int .i64 m.an, lv]
abbrev cM (m : Mg) (lv : Value) : Obj := .cells #[.int .i64 m.kd, .int .i64 m.fr, .int .i64 m.to, .int .i64 m.jb, .int .i64 m.br, .int .i64 m.bn, .int .i64 m.ar, .int .i64 m.an, lv] 60
end Go.Proofs.YtaiklaipdocdmaaDoor

/- Check and Put of a message. -/
namespace Go.Proofs.YtaiklaipdocdmaaDoor
open Go.ChangeShapes Go.WideShapes Go.ChangeAt Go.RowKit
set_option maxRecDepth 100000
attribute [local go_sem] World.cell?_alloc_some frozen_alloc_some

theorem msg_cells {w : World} {b : Nat} {c0 c1 c2 c3 c4 c5 c6 c7 c8 : Value} (h : w.heap[b]? = some (.cells #[c0, c1, c2, c3, c4, c5, c6, c7, c8] 60 (0, 0))) : w.cell? ⟨b, 0, none⟩ = some c0 ∧ w.cell? ⟨b, 1, none⟩ = some c1 ∧ w.cell? ⟨b, 2, none⟩ = some c2 ∧ w.cell? ⟨b, 3, none⟩ = some c3 ∧ w.cell? ⟨b, 4, none⟩ = some c4 ∧ w.cell? ⟨b, 5, none⟩ = some c5 ∧ w.cell? ⟨b, 6, none⟩ = some c6 ∧ w.cell? ⟨b, 7, none⟩ = some c7 ∧ w.cell? ⟨b, 8, none⟩ = some c8 :=
  ⟨cell_of_block h rfl, cell_of_block h rfl, cell_of_block h rfl, cell_of_block h rfl, cell_of_block h rfl, cell_of_block h rfl, cell_of_block h rfl, cell_of_block h rfl, cell_of_block h rfl⟩
theorem msgO (w : World) (m : Mg) (lv : Value) : (w.alloc (cM m lv)).heap[w.heap.size]? = some (.cells #[.int .i64 m.kd, .int .i64 m.fr, .int .i64 m.to, .int .i64 m.jb, .int .i64 m.br, .int .i64 m.bn, .int .i64 m.ar, .int .i64 m.an, lv] 60 (0, 0)) := heap_alloc_new w _
theorem msg_late {w w1 : World} (m : Mg) (lv : Value) (hb : Below (w.alloc (cM m lv)).heap.size (w.alloc (cM m lv)) w1) : w1.heap[w.heap.size]? = some (.cells #[.int .i64 m.kd, .int .i64 m.fr, .int .i64 m.to, .int .i64 m.jb, .int .i64 m.br, .int .i64 m.bn, .int .i64 m.ar, .int .i64 m.an, lv] 60 (0, 0)) := (hb.block w.heap.size (by simp)).trans (msgO w m lv)
set_option maxHeartbeats 12800000 in
theorem kindM_any (w : World) (m : Mg) (v : Value) (ps : List Ep) (ea : Addr) (h : Ens w v ps) (hls : fs1 ps = m.ls) (he : w.cell? ⟨0, 0, none⟩ = some (vErr ea)) (b : Bool) (hb : b = true ↔ kindM m) :
    Calls Tryd.prog 42 #[vM m v] w fun e w' => e = .returned (.bool b) ∧ Below w.heap.size w w' := by
  obtain ⟨lf, hlf⟩ := ex_bool (ledF (fs1 ps))
  obtain ⟨lb, hlb⟩ : ∃ lb, lb = balB m.ar m.an := ⟨_, rfl⟩
  have HL := mkHid (fun W (hW : Below w.heap.size w W) => ledger_any W v ps ea (h.below hW) (kc he hW) lf hlf)
  have HI := fun W => mkHid (isLegal_any W m.ar m.an)
  rw [← hlb] at HI
  have hlb2 : lb = true ↔ balF m.ar m.an := by rw [hlb, balB_iff]
  have hps : (((ps.length : Int) == 0) = true) ↔ m.ls = [] := by rw [← hls]; simp [fs1]
  rw [hls] at hlf
  have HB := mkHid (And.intro hb (And.intro hlf (And.intro hlb2 hps)))
  obtain ⟨a, cap, rfl⟩ : ∃ a cap, v = .slice a ps.length cap := by obtain ⟨a, cap, e, _⟩ := h; exact ⟨a, cap, e⟩
  clear hb hlf hlb2 hps hlb h he hls
  obtain ⟨kd, fr, to, jb, br, bn, ar, an, ls⟩ := m
  simp only [vM] at HI ⊢
  simp only at HB HI
  have hk : kd = 1 ∨ kd = 2 ∨ kd = 3 ∨ kd = 4 ∨ kd = 5 ∨ ((kd == 1) = false ∧ (kd == 2) = false ∧ (kd == 3) = false ∧ (kd == 4) = false ∧ (kd == 5) = false) := by simp; omega
  have hn : (ar = 0 ∧ an = 0) ∨ (ar = 0 ∧ (an == 0) = false) ∨ (ar == 0) = false := by simp; omega
  obtain ⟨le, hle⟩ : ∃ le, le = ((ps.length : Int) == 0) := ⟨_, rfl⟩
  have HLE := mkHid hle
  rw [← hle] at HB
  have hle' : ((ps.length : Int) == 0) = le := hle.symm
  clear hle
  rcases hk with rfl | rfl | rfl | rfl | rfl | ⟨h1, h2, h3, h4, h5⟩
  all_goals rcases hn with ⟨rfl, rfl⟩ | ⟨rfl, hn1⟩ | hn1
  all_goals cases le
  all_goals cases lb
  all_goals
    go_enter Tryd.func42, Tryd.ntmps42
    go_wp2_with (first
      | (go_at_call 41; refine (HI _).out.mono ?_; rintro r w1 ⟨rfl, b1⟩; have HB1 := mkHid (bt (ba (Below.refl _ w) _) b1); have hcl := (msg_cells (msg_late ⟨_, _, _, _, _, _, _, _, ls⟩ _ b1)).2.2.2.2.2.2.2.2; clear b1)
      | (go_at_call 73; refine (HL.out _ (by first | exact HB1.out | exact ba (Below.refl _ _) _)).mono ?_; rintro r w2 ⟨rfl, b2⟩; have HB2 := mkHid (bt (by first | exact HB1.out | exact ba (Below.refl w.heap.size w) _) b2); clear b2))
  all_goals go_ret
  all_goals refine ⟨?_, by first | exact HB2.out | exact HB1.out | exact ba (Below.refl _ _) _⟩
  all_goals
    obtain ⟨hb, hlf, hlb, hle⟩ := HB.out
    refine ret_bool ?_
    rw [Bool.eq_iff_iff, hb]
    clear HB HL HI HLE
    unfold kindM noB
    simp only at hlf hlb hle ⊢
    first
    | (exfalso; obtain ⟨⟨hz, _⟩, _⟩ := (true_iff _).mp hlb; omega)
    | (simp only [← hlf, ← hlb, ← hle]; clear hlf hlb hle hb hle'; (try clear HB1); (try clear HB2); (try clear hcl); simp_all)
end Go.Proofs.YtaiklaipdocdmaaDoor

/- Check of a message; its numbers. -/
namespace Go.Proofs.YtaiklaipdocdmaaDoor
open Go.ChangeShapes Go.WideShapes Go.ChangeAt Go.RowKit
set_option maxRecDepth 100000
attribute [local go_sem] World.cell?_alloc_some frozen_alloc_some

theorem size8 : (Tryd.prog.info? 101).map (·.size) = some 8 := by kernel_rfl
abbrev a8 (m : Mg) : Array Value := #[.int .i64 m.kd, .int .i64 m.fr, .int .i64 m.to, .int .i64 m.jb, .int .i64 m.br, .int .i64 m.bn, .int .i64 m.ar, .int .i64 m.an]
theorem headM_any (w : World) (m : Mg) (a : Option Addr) (n c : Nat) : Calls Tryd.prog 45 #[vM m (.slice a n c)] w fun r w' => r = .returned (.agg (a8 m)) ∧ Below w.heap.size w w' := by
  obtain ⟨kd, fr, to, jb, br, bn, ar, an, ls⟩ := m
  simp only [vM, a8]
  go_enter Tryd.func45, Tryd.ntmps45
  go_wp2
  refine bodyPost_ret (arr_leaves (p := 2) rfl (run_loadVar_row _ _ _ 101 _ _ _ (two_of_two w _ _) Tryd.underlying101 rfl ?_) _ rfl) rfl ⟨rfl, ba (ba (Below.refl _ _) _) _⟩
  exact size8
set_option maxHeartbeats 6400000 in
/-- Check, whatever it is asked. -/
theorem checkM_any (w : World) (m : Mg) (v : Value) (ps : List Ep) (ea : Addr) (h : Ens w v ps) (hls : fs1 ps = m.ls) (he : w.cell? ⟨0, 0, none⟩ = some (vErr ea)) (ev : Value) (hev : (inM m ∧ ev = .nilIface) ∨ (¬ inM m ∧ ev = vErr ea)) :
    Calls Tryd.prog 22 #[vM m v] w fun e w' => e = .returned ev ∧ Below w.heap.size w w' := by
  obtain ⟨kb, hkb⟩ := ex_bool (kindM m)
  have HK := mkHid (fun W (hW : Below w.heap.size w W) => kindM_any W m v ps ea (h.below hW) hls (kc he hW) kb hkb)
  obtain ⟨lb, hlb⟩ : ∃ lb, lb = balB m.br m.bn := ⟨_, rfl⟩
  have HI := fun W => mkHid (isLegal_any W m.br m.bn)
  rw [← hlb] at HI
  obtain ⟨nf, hnf⟩ : ∃ b, b = nodeB m.fr := ⟨_, rfl⟩
  have HF := fun W => mkHid (isNode_any W m.fr)
  rw [← hnf] at HF
  obtain ⟨nt, hnt⟩ : ∃ b, b = nodeB m.to := ⟨_, rfl⟩
  have HT := fun W => mkHid (isNode_any W m.to)
  rw [← hnt] at HT
  have hin : inM m ↔ nf = true ∧ nt = true ∧ (0 ≤ m.jb ∧ m.jb ≤ 1099511627776) ∧ lb = true ∧ kb = true := by
    rw [hnf, hnt, hlb, hkb, nodeB_iff, nodeB_iff, balB_iff]
    unfold inM headM amt
    simp only [and_assoc]
  rw [hin] at hev
  have HG := mkHid he
  have hg := kl he (cM m v)
  obtain ⟨a, cap, rfl⟩ : ∃ a cap, v = .slice a ps.length cap := by obtain ⟨a, cap, e, _⟩ := h; exact ⟨a, cap, e⟩
  clear hin hkb hlb hnf hnt h he hls
  obtain ⟨kd, fr, to, jb, br, bn, ar, an, ls⟩ := m
  simp only [vM, cM] at HK HI HF HT hg ⊢
  simp only at hev
  have hjb : (jb < 0 ∧ ev = vErr ea) ∨ (¬ jb < 0 ∧ 1099511627776 < jb ∧ ev = vErr ea) ∨ (¬ jb < 0 ∧ ¬ 1099511627776 < jb) := by
    by_cases h1 : jb < 0
    · exact .inl ⟨h1, by rcases hev with ⟨q, _⟩ | ⟨_, q⟩; exact absurd q.2.2.1.1 (by omega); exact q⟩
    · by_cases h2 : 1099511627776 < jb
      · exact .inr (.inl ⟨h1, h2, by rcases hev with ⟨q, _⟩ | ⟨_, q⟩; exact absurd q.2.2.1.2 (by omega); exact q⟩)
      · exact .inr (.inr ⟨h1, h2⟩)
  have HEV := mkHid hev
  clear hev
  cases nf
  case false =>
    go_enter Tryd.func22, Tryd.ntmps22
    go_wp2_with (go_at_call 37; refine (HF _).out.mono ?_; rintro e w' ⟨rfl, rfl⟩)
    go_ret
    exact ⟨by rcases HEV.out with ⟨q, _⟩ | ⟨_, q⟩; (exact absurd q.1 (by simp)); (rw [q]; rfl), ba (Below.refl _ _) _⟩
  cases nt
  case false =>
    go_enter Tryd.func22, Tryd.ntmps22
    go_wp2_with (first | (go_at_call 37; (with_reducible refine (HF _).out.mono ?_); rintro e w' ⟨rfl, rfl⟩) | (go_at_call 37; (with_reducible refine (HT _).out.mono ?_); rintro e w' ⟨rfl, rfl⟩))
    go_ret
    exact ⟨by rcases HEV.out with ⟨q, _⟩ | ⟨_, q⟩; (exact absurd q.2.1 (by simp)); (rw [q]; rfl), ba (Below.refl _ _) _⟩
  rcases hjb with ⟨h1, rfl⟩ | ⟨h1, h2, rfl⟩ | ⟨h1, h2⟩
  · go_enter Tryd.func22, Tryd.ntmps22
    go_wp2_with (first | (go_at_call 37; (with_reducible refine (HF _).out.mono ?_); rintro e w' ⟨rfl, rfl⟩) | (go_at_call 37; (with_reducible refine (HT _).out.mono ?_); rintro e w' ⟨rfl, rfl⟩))
    go_ret
    exact ⟨rfl, ba (Below.refl _ _) _⟩
  · go_enter Tryd.func22, Tryd.ntmps22
    go_wp2_with (first | (go_at_call 37; (with_reducible refine (HF _).out.mono ?_); rintro e w' ⟨rfl, rfl⟩) | (go_at_call 37; (with_reducible refine (HT _).out.mono ?_); rintro e w' ⟨rfl, rfl⟩))
    go_ret
    exact ⟨rfl, ba (Below.refl _ _) _⟩
  · cases lb
    case false =>
      go_enter Tryd.func22, Tryd.ntmps22
      go_wp2_with (first | (go_at_call 37; (with_reducible refine (HF _).out.mono ?_); rintro e w' ⟨rfl, rfl⟩) | (go_at_call 37; (with_reducible refine (HT _).out.mono ?_); rintro e w' ⟨rfl, rfl⟩) | (go_at_call 41; refine (HI _).out.mono ?_; rintro r w1 ⟨rfl, b1⟩; have hg1 := kc hg b1; have HB1 := mkHid (bt (ba (Below.refl _ w) _) b1); clear b1))
      go_ret
      exact ⟨by rcases HEV.out with ⟨q, _⟩ | ⟨_, q⟩; (exact absurd q.2.2.2.1 (by simp)); (rw [q]; rfl), HB1.out⟩
    cases kb
    all_goals
      go_enter Tryd.func22, Tryd.ntmps22
      go_wp2_with (first | (go_at_call 37; (with_reducible refine (HF _).out.mono ?_); rintro e w' ⟨rfl, rfl⟩) | (go_at_call 37; (with_reducible refine (HT _).out.mono ?_); rintro e w' ⟨rfl, rfl⟩) | (go_at_call 41; refine (HI _).out.mono ?_; rintro r w1 ⟨rfl, b1⟩; obtain ⟨q0, q1, q2, q3, q4, q5, q6, q7, q8⟩ := msg_cells (msg_late ⟨_, _, _, _, _, _, _, _, ls⟩ _ b1); have HB1 := mkHid (bt (ba (Below.refl _ w) _) b1); clear b1) | (go_at_call 42; refine (HK.out _ HB1.out).mono ?_; rintro r w2 ⟨rfl, b2⟩; have hg2 := kc HG.out (bt HB1.out b2); have HB2 := mkHid (bt HB1.out b2); clear b2))
      go_ret
    · exact ⟨by rcases HEV.out with ⟨q, _⟩ | ⟨_, q⟩; (exact absurd q.2.2.2.2 (by simp)); (rw [q]; rfl), HB2.out⟩
    · exact ⟨by rcases HEV.out with ⟨_, q⟩ | ⟨q, _⟩; (rw [q]; rfl); exact absurd ⟨by first | rfl | trivial, by first | rfl | trivial, ⟨by omega, by omega⟩, by first | rfl | trivial, by first | rfl | trivial⟩ q, HB2.out⟩
end Go.Proofs.YtaiklaipdocdmaaDoor

