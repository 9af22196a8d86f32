import Derived.Test.YtpdehdomilnmeaaGreatDoorMath
import Derived.Laws.Bits64b
import Derived.Test.YtpdehdomilnmeaaGreatDoorTick
import Derived.OwnWalk
import Derived.WalkSmall
/- Plain arithmetic of lists of digits of base 65536, lowest first. -/
namespace Go.Proofs.YtpdehdomilnmeaaGreatDoor

/-- The number that a list of digits stands for. -/
def val : List Int → Int
  | [] => 0
  | d :: ds => d + 65536 * val ds
/-- All digits lie below 65536. -/
def Digs (ds : List Int) : Prop := ∀ d ∈ ds, 0 ≤ d ∧ d ≤ 65535
/-- 65536 to the power i. -/
def pw (i : Nat) : Int := 65536 ^ i
theorem pw_succ (i : Nat) : pw (i + 1) = 65536 * pw i := by unfold pw; rw [Int.pow_succ, Int.mul_comm]
theorem pw_zero : pw 0 = 1 := rfl
theorem pw_pos (i : Nat) : 0 < pw i := by
  induction i with
  | zero => decide
  | succ i ih => rw [pw_succ]; omega
theorem pw_le {i j : Nat} (h : i ≤ j) : pw i ≤ pw j := by
  induction h with
  | refl => exact Int.le_refl _
  | step _ ih => rename_i k _; have := pw_succ k; have := pw_pos k; show _ ≤ pw (k + 1); omega
theorem val_append (xs : List Int) (d : Int) : val (xs ++ [d]) = val xs + d * pw xs.length := by
  induction xs with
  | nil => simp [val, pw]
  | cons x xs ih =>
    simp only [List.cons_append, val, ih, List.length_cons, pw_succ]
    grind
theorem val_append2 (xs ys : List Int) : val (xs ++ ys) = val xs + val ys * pw xs.length := by
  induction xs with
  | nil => simp [val, pw]
  | cons x xs ih =>
    simp only [List.cons_append, val, ih, List.length_cons, pw_succ]
    grind
theorem val_take (xs : List Int) (i : Nat) : val (xs.take (i + 1)) = val (xs.take i) + xs.getD i 0 * pw i := by
  by_cases h : i < xs.length
  · rw [List.take_succ_eq_append_getElem h, val_append]
    have : (xs.take i).length = i := by simp; omega
    rw [this]
    simp [List.getD, h]
  · rw [List.take_of_length_le (by omega), List.take_of_length_le (by omega)]
    have : xs.getD i 0 = 0 := by simp [List.getD, List.getElem?_eq_none (by omega : xs.length ≤ i)]
    rw [this]; simp
theorem val_nonneg {ds : List Int} (h : Digs ds) : 0 ≤ val ds := by
  induction ds with
  | nil => simp [val]
  | cons d ds ih =>
    have h1 := h d (by simp)
    have h2 := ih (fun x hx => h x (by simp [hx]))
    simp only [val]; omega
theorem val_lt {ds : List Int} (h : Digs ds) : val ds < pw ds.length := by
  induction ds with
  | nil => simp [val, pw]
  | cons d ds ih =>
    have h1 := h d (by simp)
    have h2 := ih (fun x hx => h x (by simp [hx]))
    simp only [val, List.length_cons, pw_succ]; omega
theorem Digs.snoc {ds : List Int} (h : Digs ds) {d : Int} (h0 : 0 ≤ d) (h1 : d ≤ 65535) : Digs (ds ++ [d]) := by
  intro x hx
  rcases List.mem_append.mp hx with h2 | h2
  · exact h x h2
  · simp at h2; subst h2; exact ⟨h0, h1⟩
theorem Digs.at {ds : List Int} (h : Digs ds) (i : Nat) : 0 ≤ ds.getD i 0 ∧ ds.getD i 0 ≤ 65535 := by
  by_cases hi : i < ds.length
  · have : ds.getD i 0 ∈ ds := by simp [List.getD, hi]
    exact h _ this
  · have : ds.getD i 0 = 0 := by simp [List.getD, List.getElem?_eq_none (by omega : ds.length ≤ i)]
    rw [this]; omega
theorem getD_past (ds : List Int) (i : Nat) (h : ds.length ≤ i) : ds.getD i 0 = 0 := by simp [List.getD, List.getElem?_eq_none h]
/-- One round of the sum of two numbers, digit by digit. -/
theorem plus_round (xs ps qs : List Int) (i : Nat) (c : Int) (hl : xs.length = i) (h : val xs + c * pw i = val (ps.take i) + val (qs.take i)) :
    val (xs ++ [(c + ps.getD i 0 + qs.getD i 0) % 65536]) + (c + ps.getD i 0 + qs.getD i 0) / 65536 * pw (i + 1) = val (ps.take (i + 1)) + val (qs.take (i + 1)) := by
  rw [val_append, hl, val_take, val_take, pw_succ]
  have e : (c + ps.getD i 0 + qs.getD i 0) % 65536 + 65536 * ((c + ps.getD i 0 + qs.getD i 0) / 65536) = c + ps.getD i 0 + qs.getD i 0 := by omega
  generalize (c + ps.getD i 0 + qs.getD i 0) % 65536 = d at *
  generalize (c + ps.getD i 0 + qs.getD i 0) / 65536 = q at *
  grind
theorem and16_u32 (z : Int) (h0 : 0 ≤ z) (h1 : z < 4294967296) : bits .and .u32 z 65535 = z % 65536 := by go_bits2
theorem and16_u64 (z : Int) (h0 : 0 ≤ z) (h1 : z < 18446744073709551616) : bits .and .u64 z 65535 = z % 65536 := by go_bits2
theorem Digs.take {ds : List Int} (h : Digs ds) (k : Nat) : Digs (ds.take k) := fun d hd => h d (List.mem_of_mem_take hd)
theorem Digs.drop {ds : List Int} (h : Digs ds) (k : Nat) : Digs (ds.drop k) := fun d hd => h d (List.mem_of_mem_drop hd)
theorem take_nonneg {ds : List Int} (h : Digs ds) (k : Nat) : 0 ≤ val (ds.take k) := val_nonneg (h.take k)
theorem take_lt {ds : List Int} (h : Digs ds) (k : Nat) : val (ds.take k) < pw k := by
  have h1 := val_lt (h.take k)
  have h2 : pw (ds.take k).length ≤ pw k := pw_le (List.length_take_le _ _)
  omega
theorem take_le {ds : List Int} (h : Digs ds) (k : Nat) : val (ds.take k) ≤ val ds := by
  have e : val (ds.take k ++ ds.drop k) = val (ds.take k) + val (ds.drop k) * pw (ds.take k).length := val_append2 _ _
  rw [List.take_append_drop] at e
  have := Int.mul_nonneg (val_nonneg (h.drop k)) (Int.le_of_lt (pw_pos (ds.take k).length))
  omega
theorem take_all (ds : List Int) (k : Nat) (h : ds.length ≤ k) : val (ds.take k) = val ds := by rw [List.take_of_length_le h]
/-- The highest digit in which two numbers part tells which is less. -/
theorem less_at {ps qs : List Int} (dp : Digs ps) (dq : Digs qs) (k : Nat) (hlt : ps.getD k 0 < qs.getD k 0) (h : val ps - val qs = val (ps.take (k + 1)) - val (qs.take (k + 1))) : val ps < val qs := by
  rw [val_take, val_take] at h
  have h1 := take_lt dp k
  have h2 := take_nonneg dq k
  have h3 : (ps.getD k 0 + 1) * pw k ≤ qs.getD k 0 * pw k := Int.mul_le_mul_of_nonneg_right (by omega) (Int.le_of_lt (pw_pos k))
  rw [Int.add_mul] at h3
  omega
theorem less_step {ps qs : List Int} (k : Nat) (he : ps.getD k 0 = qs.getD k 0) (h : val ps - val qs = val (ps.take (k + 1)) - val (qs.take (k + 1))) : val ps - val qs = val (ps.take k) - val (qs.take k) := by
  rw [val_take, val_take, he] at h
  omega
/-- One round of the difference of two numbers, digit by digit: x is the digit and 65536 more than the next borrow takes. -/
theorem minus_round (xs ps qs : List Int) (i : Nat) (r x : Int) (hl : xs.length = i) (hx : x = ps.getD i 0 + 65536 - qs.getD i 0 - r) (h : val xs - r * pw i = val (ps.take i) - val (qs.take i)) :
    val (xs ++ [x % 65536]) - (1 - x / 65536) * pw (i + 1) = val (ps.take (i + 1)) - val (qs.take (i + 1)) := by
  rw [val_append, hl, val_take, val_take, pw_succ]
  have e : x % 65536 + 65536 * (x / 65536) = x := by omega
  generalize x % 65536 = d at *
  generalize x / 65536 = q at *
  grind
/-- One round of a row of the product. -/
theorem times_round (zs ps : List Int) (i j : Nat) (x c : Int) (hl : zs.length = i + j) (h : val zs + c * pw (i + j) = x * val (ps.take j) * pw i) :
    val (zs ++ [(x * ps.getD j 0 + c) % 65536]) + (x * ps.getD j 0 + c) / 65536 * pw (i + (j + 1)) = x * val (ps.take (j + 1)) * pw i := by
  rw [val_append, hl, val_take, ← Nat.add_assoc, pw_succ]
  have e : (x * ps.getD j 0 + c) % 65536 + 65536 * ((x * ps.getD j 0 + c) / 65536) = x * ps.getD j 0 + c := by omega
  have p2 : pw (i + j) = pw i * pw j := by unfold pw; rw [Int.pow_add]
  generalize (x * ps.getD j 0 + c) % 65536 = d at *
  generalize (x * ps.getD j 0 + c) / 65536 = q at *
  rw [p2] at h ⊢
  generalize val zs = V at *
  generalize val (ps.take j) = T at *
  generalize ps.getD j 0 = y at *
  generalize pw i = A at *
  generalize pw j = B at *
  clear p2 hl
  grind
theorem val_zeros (i : Nat) : val (List.replicate i 0) = 0 := by
  induction i with
  | zero => rfl
  | succ i ih => simp [List.replicate_succ, val, ih]
theorem digs_zeros (i : Nat) : Digs (List.replicate i 0) := by
  intro d hd
  have := List.eq_of_mem_replicate hd
  omega
theorem take4 {ds : List Int} : val (ds.take 4) = ds.getD 0 0 + ds.getD 1 0 * 65536 + ds.getD 2 0 * 4294967296 + ds.getD 3 0 * 281474976710656 := by
  rw [val_take, val_take, val_take, val_take]
  have p0 : pw 0 = 1 := rfl
  have p1 : pw 1 = 65536 := rfl
  have p2 : pw 2 = 4294967296 := rfl
  have p3 : pw 3 = 281474976710656 := rfl
  rw [p0, p1, p2, p3]
  simp [val]
theorem or_u64 (a b : Nat) (k : Nat) (ha : a < 2 ^ k) (hb : b * 2 ^ k < 18446744073709551616) (h64 : 2 ^ k < 18446744073709551616) : bits .or .u64 (a : Int) ((b * 2 ^ k : Nat) : Int) = ((a + b * 2 ^ k : Nat) : Int) := by
  rw [bits_or_u64_nat a (b * 2 ^ k) (by omega) hb]
  have := Nat.two_pow_add_eq_or_of_lt ha b
  rw [Nat.mul_comm b, Nat.or_comm, ← this, Nat.add_comm]
theorem or16 (a b : Int) (a0 : 0 ≤ a) (a1 : a < 65536) (b0 : 0 ≤ b) (b1 : b ≤ 65535) : bits .or .u64 a (b * 65536) = a + b * 65536 := by
  obtain ⟨a, rfl⟩ := Int.eq_ofNat_of_zero_le a0
  obtain ⟨b, rfl⟩ := Int.eq_ofNat_of_zero_le b0
  have := or_u64 a b 16 (by omega) (by omega) (by decide)
  simpa using this
theorem or32 (a b : Int) (a0 : 0 ≤ a) (a1 : a < 4294967296) (b0 : 0 ≤ b) (b1 : b ≤ 65535) : bits .or .u64 a (b * 4294967296) = a + b * 4294967296 := by
  obtain ⟨a, rfl⟩ := Int.eq_ofNat_of_zero_le a0
  obtain ⟨b, rfl⟩ := Int.eq_ofNat_of_zero_le b0
  have := or_u64 a b 32 (by omega) (by omega) (by decide)
  simpa using this
theorem or48 (a b : Int) (a0 : 0 ≤ a) (a1 : a < 281474976710656) (b0 : 0 ≤ b) (b1 : b ≤ 65535) : bits .or .u64 a (b * 281474976710656) = a + b * 281474976710656 := by
  obtain ⟨a, rfl⟩ := Int.eq_ofNat_of_zero_le a0
  obtain ⟨b, rfl⟩ := Int.eq_ofNat_of_zero_le b0
  have := or_u64 a b 48 (by omega) (by omega) (by decide)
  simpa using this
end Go.Proofs.YtpdehdomilnmeaaGreatDoor

/- What the document's numbers (lists of digits) do: Of, Plus, at, Less, Minus, Fits, Times, Whole. -/
namespace Go.Proofs.YtpdehdomilnmeaaGreatDoor
open Go.ChangeShapes Go.WideShapes Go.ChangeAt Go.RowKit
set_option maxRecDepth 100000

theorem Tryz.info237 : (Tryz.prog.info? 237).map (fun i => (i.zero, i.size, i.bytes)) = some (some (.int .u32 0), 1, 4) := by kernel_rfl
/-- A slice of digits that lies in memory and reads as the list ds. -/
def Num (w : World) (v : Value) (ds : List Int) : Prop :=
  Digs ds ∧ ∃ a cap, v = .slice a ds.length (ds.length + cap) ∧
    (0 < ds.length → ∃ b off, a = some ⟨b, off, none⟩ ∧ b < w.heap.size ∧ ∀ k, k < ds.length → w.cell? ⟨b, off + k, none⟩ = some (.int .u32 (ds.getD k 0)))
theorem Num.later {w w' : World} {v : Value} {ds : List Int} (h : Num w v ds) (hb : Below w.heap.size w w') : Num w' v ds := by
  obtain ⟨hd, a, cap, rfl, hr⟩ := h
  refine ⟨hd, a, cap, rfl, fun h0 => ?_⟩
  obtain ⟨b, off, rfl, hlt, hc⟩ := hr h0
  refine ⟨b, off, rfl, Nat.lt_of_lt_of_le hlt hb.size, fun k hk => ?_⟩
  rw [hb.cell (p := ⟨b, off + k, none⟩) hlt]
  exact hc k hk
theorem Num.of_owns {w : World} {base : Nat} {e : TypeId} {v : Value} {ds : List Int} (hd : Digs ds) (h : w.ownsRow base e 1 v ds.length (ds.map (Value.int .u32))) : Num w v ds := by
  refine ⟨hd, ?_⟩
  have hc := @World.ownsRow.cells
  rcases h.2 with ⟨rfl, h0⟩ | ⟨g, cap, cur, rfl, hg, hh, hcap, hm, hs, ht⟩
  · exact ⟨none, 0, by rw [h0], fun hp => by omega⟩
  · refine ⟨some ⟨g, 0, none⟩, cap - ds.length, by rw [Nat.add_sub_cancel' hcap], fun hp => ⟨g, 0, rfl, ?_, fun k hk => ?_⟩⟩
    · exact (h.lt g rfl).2
    · have := h.cells (g := g) rfl k (.int .u32 (ds.getD k 0)) (by simp [List.getD, hk])
      have e : (⟨g, 0, none⟩ : Addr).add k = ⟨g, 0 + k, none⟩ := by cases k <;> simp [Addr.add]
      rwa [e] at this
theorem num_empty (w : World) (a : Option Addr) (cap : Nat) : Num w (.slice a 0 cap) [] := ⟨by simp [Digs], a, cap, by simp, fun h => by simp at h⟩
theorem of_any (n : Int) (w : World) (h0 : 0 ≤ n) (h1 : n < 18446744073709551616) :
    Calls Tryz.prog 163 #[.int .u64 n] w fun e w' => ∃ v ds, e = .returned v ∧ Num w' v ds ∧ val ds = n ∧ ds.length = 4 ∧ Below w.heap.size w w' := by
  have e1 := and16_u64 n h0 h1
  have e2 := and16_u64 (n / 65536) (by omega) (by omega)
  have e3 := and16_u64 (n / 4294967296) (by omega) (by omega)
  go_enter Tryz.func163, Tryz.ntmps163
  go_wp2
  go_ret
  refine ⟨_, [n % 65536, n / 65536 % 65536, n / 4294967296 % 65536, n / 281474976710656], rfl, ⟨?_, some ⟨w.heap.size, 0, none⟩, 0, rfl, fun _ => ⟨w.heap.size, 0, rfl, by simp, ?_⟩⟩, ?_, rfl, (Below.refl _ _).alloc (Nat.le_refl _) _⟩
  · intro d hd
    simp at hd
    omega
  · intro k hk
    have : k = 0 ∨ k = 1 ∨ k = 2 ∨ k = 3 := by simp at hk; omega
    rcases this with rfl | rfl | rfl | rfl <;> go_simp
  · simp only [val]; omega
theorem plus_rel {ps qs xs : List Int} {i : Nat} {c s : Int} {w wr w1 : World} {o : Obj} {ov v' : Value} (hs : s = c + ps.getD i 0 + qs.getD i 0) (dp : Digs ps) (dq : Digs qs) (hc0 : 0 ≤ c) (hc1 : c ≤ 1) (hlen : xs.length = i) (hdx : Digs xs)
    (hown : wr.ownsRow w.heap.size 237 1 ov i (xs.map (Value.int .u32))) (HV : Hid (val xs + c * pw i = val (ps.take i) + val (qs.take i))) (hbel : Below w.heap.size w wr)
    (hown' : w1.ownsRow w.heap.size 237 1 v' (i + 1) (xs.map (Value.int .u32) ++ [.int .u32 (s % 65536)])) (hgrow : (wr.alloc o).grownBy w1 ov.ownBlock) :
    (0 ≤ s / 65536 ∧ s / 65536 ≤ 1) ∧ (xs ++ [s % 65536]).length = i + 1 ∧ Digs (xs ++ [s % 65536]) ∧ w1.ownsRow w.heap.size 237 1 v' (i + 1) ((xs ++ [s % 65536]).map (Value.int .u32)) ∧
      Hid (val (xs ++ [s % 65536]) + s / 65536 * pw (i + 1) = val (ps.take (i + 1)) + val (qs.take (i + 1))) ∧ Below w.heap.size w w1 := by
  have h1 := dp.at i
  have h2 := dq.at i
  have hsz := hbel.size
  refine ⟨by omega, by simp [hlen], hdx.snoc (by omega) (by omega), by simpa using hown', ?_, ?_⟩
  · have := plus_round xs ps qs i c hlen HV.out
    rw [← hs] at this
    exact this
  · exact (hbel.alloc hsz _).grown hgrow (by simp; omega) (fun k hk => (hown.lt k hk).1)
set_option maxHeartbeats 1600000 in
theorem plus_any (ps qs : List Int) (va vb : Value) (w : World) (ha : Num w va ps) (hb : Num w vb qs) (la : ps.length ≤ 30000000000000) (lb : qs.length ≤ 30000000000000) :
    Calls Tryz.prog 142 #[va, vb] w fun e w' => ∃ v ds, e = .returned v ∧ Num w' v ds ∧ val ds = val ps + val qs ∧ (ds.length ≤ max ps.length qs.length + 1 ∧ max ps.length qs.length ≤ ds.length) ∧ Below w.heap.size w w' := by
  obtain ⟨da, a, ca, rfl, ra⟩ := ha
  obtain ⟨db, b, cb, rfl, rb⟩ := hb
  obtain ⟨i0, hi, hz0, hz1, hz2⟩ := info_parts Tryz.info237
  go_enter Tryz.func142, Tryz.ntmps142
  go_wp2
  go_loopw [5, 6, 7] (fun ov cv iv wr => ∃ (i : Nat) (c : Int) (xs : List Int), iv = .int .i64 i ∧ cv = .int .u32 c ∧ 0 ≤ c ∧ c ≤ 1 ∧ xs.length = i ∧ Digs xs ∧ wr.ownsRow w.heap.size 237 1 ov i (xs.map (Value.int .u32)) ∧
      (i ≤ ps.length ∨ i ≤ qs.length ∨ (i ≤ max ps.length qs.length + 1 ∧ c = 0)) ∧ Hid (val xs + c * pw i = val (ps.take i) + val (qs.take i)) ∧ Below w.heap.size w wr)
    (fun _ cv iv _ => max ps.length qs.length + 1 - (intOf iv).toNat)
  case atStart =>
    refine ⟨0, 0, [], rfl, rfl, by omega, by omega, rfl, by simp [Digs], ?_, by omega, ?_, (Below.refl _ _).alloc (Nat.le_refl _) _⟩
    · exact World.ownsRow_made w #[] 0 (Nat.le_refl _) (by unfold maxLen; omega) rfl
    · show val [] + 0 * pw 0 = val (ps.take 0) + val (qs.take 0)
      simp [val]
  case round =>
    obtain ⟨i, c, xs, rfl, rfl, hc0, hc1, hlen, hdx, hown, hst, HV, hbel⟩ := hrel
    obtain ⟨x, hx⟩ : ∃ x, x = ps.getD i 0 := ⟨_, rfl⟩
    obtain ⟨y, hy⟩ : ∃ y, y = qs.getD i 0 := ⟨_, rfl⟩
    have bx := da.at i
    rw [← hx] at bx
    have bY := db.at i
    rw [← hy] at bY
    by_cases hia : i < ps.length
    · by_cases hib : i < qs.length
      · obtain ⟨ba, offa, rfl, hlta, hca⟩ := ra (by omega)
        obtain ⟨bb, offb, rfl, hltb, hcb⟩ := rb (by omega)
        have cx : wr.cell? ⟨ba, offa + i, none⟩ = some (.int .u32 x) := by rw [hbel.cell (p := ⟨ba, offa + i, none⟩) hlta, hx]; exact hca i hia
        have cy : wr.cell? ⟨bb, offb + i, none⟩ = some (.int .u32 y) := by rw [hbel.cell (p := ⟨bb, offb + i, none⟩) hltb, hy]; exact hcb i hib
        clear hca hcb ra rb
        have hs : c + x + y = c + ps.getD i 0 + qs.getD i 0 := by rw [hx, hy]
        have HS : Hid (c + x + y = c + ps.getD i 0 + qs.getD i 0) := hs
        have hb1 : 0 ≤ c + x + y := by omega
        have hb2 : c + x + y ≤ 131071 := by omega
        have e1 := and16_u32 (c + x + y) (by omega) (by omega)
        clear hs hx hy
        go_wp2_with (at_builtin; refine wpList_append_own _ rfl _ _ 219 rfl w.heap.size 237 i0 (.int .u32 0) 1 4 Tryz.underlying219 hi hz0 hz1 hz2 rfl (by decide) _ _ _ rfl (hown.alloc _) ⟨wr.heap.size, 0, none⟩ 1 1 [.int .u32 ((c + x + y) % 65536)] rfl rfl ?c1 ?c2 ?c3 ?c4 ?c5 ?_)
        case c1 =>
          intro j u hj
          match j, hj with
          | 0, hj => simp at hj; subst hj; simp [Addr.add]
        case c2 => intro u hu; simp at hu; subst hu; rfl
        case c3 => unfold maxLen; omega
        case c4 => omega
        case c5 => have := hbel.size; simp; omega
        intro v' w1 hown' hgrow _
        obtain ⟨⟨r0, r1⟩, r2, r3, r4, r5, r6⟩ := plus_rel HS.out da db hc0 hc1 hlen hdx hown HV hbel hown' hgrow
        clear hown' hgrow hown hbel
        go_wp2
        go_roundw
        case rel => exact ⟨i + 1, _, _, by go_num, rfl, r0, r1, r2, r3, r4, by omega, r5, r6⟩
        case measure => simp [intOf]; omega
      · obtain ⟨ba, offa, rfl, hlta, hca⟩ := ra (by omega)
        have cx : wr.cell? ⟨ba, offa + i, none⟩ = some (.int .u32 x) := by rw [hbel.cell (p := ⟨ba, offa + i, none⟩) hlta, hx]; exact hca i hia
        clear hca ra rb
        have hs : c + x = c + ps.getD i 0 + qs.getD i 0 := by rw [hx, getD_past qs i (by omega)]; omega
        have HS : Hid (c + x = c + ps.getD i 0 + qs.getD i 0) := hs
        have hb1 : 0 ≤ c + x := by omega
        have hb2 : c + x ≤ 131071 := by omega
        have e1 := and16_u32 (c + x) (by omega) (by omega)
        clear hs hx hy
        go_wp2_with (at_builtin; refine wpList_append_own _ rfl _ _ 219 rfl w.heap.size 237 i0 (.int .u32 0) 1 4 Tryz.underlying219 hi hz0 hz1 hz2 rfl (by decide) _ _ _ rfl (hown.alloc _) ⟨wr.heap.size, 0, none⟩ 1 1 [.int .u32 ((c + x) % 65536)] rfl rfl ?c1 ?c2 ?c3 ?c4 ?c5 ?_)
        case c1 =>
          intro j u hj
          match j, hj with
          | 0, hj => simp at hj; subst hj; simp [Addr.add]
        case c2 => intro u hu; simp at hu; subst hu; rfl
        case c3 => unfold maxLen; omega
        case c4 => omega
        case c5 => have := hbel.size; simp; omega
        intro v' w1 hown' hgrow _
        obtain ⟨⟨r0, r1⟩, r2, r3, r4, r5, r6⟩ := plus_rel HS.out da db hc0 hc1 hlen hdx hown HV hbel hown' hgrow
        clear hown' hgrow hown hbel
        go_wp2
        go_roundw
        case rel => exact ⟨i + 1, _, _, by go_num, rfl, r0, r1, r2, r3, r4, by omega, r5, r6⟩
        case measure => simp [intOf]; omega
    · by_cases hib : i < qs.length
      · obtain ⟨bb, offb, rfl, hltb, hcb⟩ := rb (by omega)
        have cy : wr.cell? ⟨bb, offb + i, none⟩ = some (.int .u32 y) := by rw [hbel.cell (p := ⟨bb, offb + i, none⟩) hltb, hy]; exact hcb i hib
        clear hcb ra rb
        have hs : c + y = c + ps.getD i 0 + qs.getD i 0 := by rw [hy, getD_past ps i (by omega)]; omega
        have HS : Hid (c + y = c + ps.getD i 0 + qs.getD i 0) := hs
        have hb1 : 0 ≤ c + y := by omega
        have hb2 : c + y ≤ 131071 := by omega
        have e1 := and16_u32 (c + y) (by omega) (by omega)
        clear hs hx hy
        go_wp2_with (at_builtin; refine wpList_append_own _ rfl _ _ 219 rfl w.heap.size 237 i0 (.int .u32 0) 1 4 Tryz.underlying219 hi hz0 hz1 hz2 rfl (by decide) _ _ _ rfl (hown.alloc _) ⟨wr.heap.size, 0, none⟩ 1 1 [.int .u32 ((c + y) % 65536)] rfl rfl ?c1 ?c2 ?c3 ?c4 ?c5 ?_)
        case c1 =>
          intro j u hj
          match j, hj with
          | 0, hj => simp at hj; subst hj; simp [Addr.add]
        case c2 => intro u hu; simp at hu; subst hu; rfl
        case c3 => unfold maxLen; omega
        case c4 => omega
        case c5 => have := hbel.size; simp; omega
        intro v' w1 hown' hgrow _
        obtain ⟨⟨r0, r1⟩, r2, r3, r4, r5, r6⟩ := plus_rel HS.out da db hc0 hc1 hlen hdx hown HV hbel hown' hgrow
        clear hown' hgrow hown hbel
        go_wp2
        go_roundw
        case rel => exact ⟨i + 1, _, _, by go_num, rfl, r0, r1, r2, r3, r4, by omega, r5, r6⟩
        case measure => simp [intOf]; omega
      · by_cases hcz : c = 1
        · clear ra rb
          have hcp : 0 < c := by omega
          have hst' : i ≤ ps.length ∨ i ≤ qs.length := by omega
          clear hcz
          have hs : c = c + ps.getD i 0 + qs.getD i 0 := by rw [getD_past ps i (by omega), getD_past qs i (by omega)]; omega
          have HS : Hid (c = c + ps.getD i 0 + qs.getD i 0) := hs
          have hb1 : 0 ≤ c := by omega
          have hb2 : c ≤ 131071 := by omega
          have e1 := and16_u32 (c) (by omega) (by omega)
          clear hs hx hy
          go_wp2_with (at_builtin; refine wpList_append_own _ rfl _ _ 219 rfl w.heap.size 237 i0 (.int .u32 0) 1 4 Tryz.underlying219 hi hz0 hz1 hz2 rfl (by decide) _ _ _ rfl (hown.alloc _) ⟨wr.heap.size, 0, none⟩ 1 1 [.int .u32 ((c) % 65536)] rfl rfl ?c1 ?c2 ?c3 ?c4 ?c5 ?_)
          case c1 =>
            intro j u hj
            match j, hj with
            | 0, hj => simp at hj; subst hj; simp [Addr.add]
          case c2 => intro u hu; simp at hu; subst hu; rfl
          case c3 => unfold maxLen; omega
          case c4 => omega
          case c5 => have := hbel.size; simp; omega
          intro v' w1 hown' hgrow _
          obtain ⟨⟨r0, r1⟩, r2, r3, r4, r5, r6⟩ := plus_rel HS.out da db hc0 hc1 hlen hdx hown HV hbel hown' hgrow
          clear hown' hgrow hown hbel
          go_wp2
          go_roundw
          case rel => exact ⟨i + 1, _, _, by go_num, rfl, r0, r1, r2, r3, r4, by omega, r5, r6⟩
          case measure => simp [intOf]; omega
        · have hc2 : c = 0 := by omega
          subst hc2
          clear ra rb hx hy
          go_wp2
          go_ret
          refine ⟨_, rfl, xs, Num.of_owns hdx (hlen ▸ hown), ?_, by omega, hbel⟩
          have := HV.out
          rw [List.take_of_length_le (by omega), List.take_of_length_le (by omega)] at this
          omega
end Go.Proofs.YtpdehdomilnmeaaGreatDoor

/- What the document's numbers do: at, Less, Minus, Fits, Whole, Amount. -/
namespace Go.Proofs.YtpdehdomilnmeaaGreatDoor
open Go.ChangeShapes Go.WideShapes Go.ChangeAt Go.RowKit
set_option maxRecDepth 100000

theorem at_any (ds : List Int) (v : Value) (i : Nat) (w : World) (h : Num w v ds) (hi : i ≤ 9223372036854775807) (hl : ds.length ≤ 9223372036854775807) :
    Calls Tryz.prog 164 #[v, .int .i64 i] w fun e w' => e = .returned (.int .u32 (ds.getD i 0)) ∧ w' = w := by
  obtain ⟨hd, a, cap, rfl, hr⟩ := h
  by_cases hlt : i < ds.length
  · obtain ⟨b, off, rfl, hb, hc⟩ := hr (by omega)
    have hcell := hc i hlt
    clear hc hr
    generalize ds.getD i 0 = x at *
    go_enter Tryz.func164, Tryz.ntmps164
    go_wp2
    go_ret
    exact ⟨rfl, rfl⟩
  · have e : ds.getD i 0 = 0 := getD_past ds i (by omega)
    rw [e]
    clear hr
    go_enter Tryz.func164, Tryz.ntmps164
    go_wp2
    go_ret
    exact ⟨rfl, rfl⟩
theorem at_eq {ds : List Int} {v : Value} {i : Nat} {w : World} {x : Int} (h : Num w v ds) (hx : Hid (x = ds.getD i 0)) (hi : i ≤ 9223372036854775807) (hl : ds.length ≤ 9223372036854775807) :
    Calls Tryz.prog 164 #[v, .int .i64 i] w fun e w' => e = .returned (.int .u32 x) ∧ w' = w := by
  rw [hx.out]
  exact at_any ds v i w h hi hl
theorem at_lit {ds : List Int} {v : Value} {w : World} {x : Int} (n : Int) (i : Nat) (hn : n = i) (h : Num w v ds) (hx : Hid (x = ds.getD i 0)) (hi : i ≤ 9223372036854775807) (hl : ds.length ≤ 9223372036854775807) :
    Calls Tryz.prog 164 #[v, .int .i64 n] w fun e w' => e = .returned (.int .u32 x) ∧ w' = w := by
  subst hn
  exact at_eq h hx hi hl
theorem retb {p q : Bool} (h : p = q) : Ending.returned (.bool p) = .returned (.bool q) := by rw [h]
set_option maxHeartbeats 800000 in
theorem less_any (ps qs : List Int) (va vb : Value) (w : World) (ha : Num w va ps) (hb : Num w vb qs) (la : ps.length ≤ 30000000000000) (lb : qs.length ≤ 30000000000000) :
    Calls Tryz.prog 139 #[va, vb] w fun e w' => e = .returned (.bool (decide (val ps < val qs))) ∧ w' = w := by
  have da := ha.1
  have db := hb.1
  obtain ⟨_, a, ca, ea, _⟩ := id ha
  obtain ⟨_, b, cb, eb, _⟩ := id hb
  subst ea eb
  by_cases hm : ps.length < qs.length
  all_goals
    go_enter Tryz.func139, Tryz.ntmps139
    go_wp2
    go_loop [5] (fun iv => ∃ j : Nat, j ≤ max ps.length qs.length ∧ iv = .int .i64 ((j : Int) - 1) ∧ Hid (val ps - val qs = val (ps.take j) - val (qs.take j))) (fun iv => (intOf iv + 1).toNat)
    case atStart => exact ⟨max ps.length qs.length, Nat.le_refl _, by congr 1; omega, by show val ps - val qs = _ - _; rw [take_all ps _ (by omega), take_all qs _ (by omega)]⟩
    case round =>
      obtain ⟨j, hj, rfl, HD⟩ := hrel
      by_cases h0 : j = 0
      · subst h0
        have hz : decide (val ps < val qs) = false := by
          have := HD.out
          simp only [List.take_zero, val] at this
          exact decide_eq_false (by omega)
        go_wp2
        go_ret
        exact ⟨rfl, rfl⟩
      · obtain ⟨k, rfl⟩ : ∃ k, j = k + 1 := ⟨j - 1, by omega⟩
        have ek : ((k + 1 : Nat) : Int) - 1 = (k : Int) := by omega
        rw [ek]
        have n1 := da.at k
        have n2 := db.at k
        obtain ⟨x, hx⟩ : ∃ x, x = ps.getD k 0 := ⟨_, rfl⟩
        obtain ⟨y, hy⟩ : ∃ y, y = qs.getD k 0 := ⟨_, rfl⟩
        have HX : Hid (x = ps.getD k 0) := hx
        have HY : Hid (y = qs.getD k 0) := hy
        rw [← hx] at n1
        rw [← hy] at n2
        by_cases he : x = y
        · have HE : Hid (val ps - val qs = val (ps.take k) - val (qs.take k)) := less_step k (by rw [← hx, ← hy]; exact he) HD.out
          clear HD hx hy
          subst he
          go_wp2_with (go_at_call 164; first | (with_reducible refine (at_eq ha HX (by omega) (by omega)).mono ?_; rintro e wx ⟨rfl, hw⟩; rw [hw]; clear hw) | (with_reducible refine (at_eq hb HY (by omega) (by omega)).mono ?_; rintro e wx ⟨rfl, hw⟩; rw [hw]; clear hw))
          go_round
          case rel => exact ⟨k, by omega, rfl, HE⟩
          case measure => simp [intOf]
        · have HZ : Hid (decide (x < y) = decide (val ps < val qs)) := by
            show decide (x < y) = decide (val ps < val qs)
            rw [hx, hy] at he ⊢
            by_cases hl : ps.getD k 0 < qs.getD k 0
            · rw [decide_eq_true hl, decide_eq_true (less_at da db k hl HD.out)]
            · have := less_at db da k (by omega) (by have := HD.out; omega)
              rw [decide_eq_false hl, decide_eq_false (by omega)]
          clear HD hx hy
          go_wp2_with (go_at_call 164; first | (with_reducible refine (at_eq ha HX (by omega) (by omega)).mono ?_; rintro e wx ⟨rfl, hw⟩; rw [hw]; clear hw) | (with_reducible refine (at_eq hb HY (by omega) (by omega)).mono ?_; rintro e wx ⟨rfl, hw⟩; rw [hw]; clear hw))
          go_ret
          exact ⟨retb HZ.out, rfl⟩
theorem minus_rel {ps qs xs : List Int} {i : Nat} {r x : Int} {w wr w1 : World} {o : Obj} {ov v' : Value} (hx : x = ps.getD i 0 + 65536 - qs.getD i 0 - r) (dp : Digs ps) (dq : Digs qs) (hr0 : 0 ≤ r) (hr1 : r ≤ 1) (hlen : xs.length = i) (hdx : Digs xs)
    (hown : wr.ownsRow w.heap.size 237 1 ov i (xs.map (Value.int .u32))) (HV : Hid (val xs - r * pw i = val (ps.take i) - val (qs.take i))) (hbel : Below w.heap.size w wr)
    (hown' : w1.ownsRow w.heap.size 237 1 v' (i + 1) (xs.map (Value.int .u32) ++ [.int .u32 (x % 65536)])) (hgrow : (wr.alloc o).grownBy w1 ov.ownBlock) :
    (0 ≤ 1 - x / 65536 ∧ 1 - x / 65536 ≤ 1) ∧ (xs ++ [x % 65536]).length = i + 1 ∧ Digs (xs ++ [x % 65536]) ∧ w1.ownsRow w.heap.size 237 1 v' (i + 1) ((xs ++ [x % 65536]).map (Value.int .u32)) ∧
      Hid (val (xs ++ [x % 65536]) - (1 - x / 65536) * pw (i + 1) = val (ps.take (i + 1)) - val (qs.take (i + 1))) ∧ Below w.heap.size w w1 := by
  have h1 := dp.at i
  have h2 := dq.at i
  have hsz := hbel.size
  refine ⟨by omega, by simp [hlen], hdx.snoc (by omega) (by omega), by simpa using hown', ?_, ?_⟩
  · exact minus_round xs ps qs i r x hlen hx HV.out
  · exact (hbel.alloc hsz _).grown hgrow (by simp; omega) (fun k hk => (hown.lt k hk).1)
theorem fits_head (ds : List Int) (i : Nat) (hz : ds.getD i 0 = 0) (h : val (ds.take i) = val (ds.take 4)) : val (ds.take (i + 1)) = val (ds.take 4) := by
  rw [val_take, hz, h]; omega
theorem fits_great (ds : List Int) (hd : Digs ds) (i : Nat) (h4 : 4 ≤ i) (hz : ds.getD i 0 ≠ 0) : 18446744073709551616 ≤ val ds := by
  have h1 := take_le hd (i + 1)
  rw [val_take] at h1
  have h2 := take_nonneg hd i
  have h3 := (hd.at i).1
  have h5 : 1 * pw i ≤ ds.getD i 0 * pw i := Int.mul_le_mul_of_nonneg_right (by omega) (Int.le_of_lt (pw_pos i))
  have h6 := pw_le h4
  have h7 : pw 4 = 18446744073709551616 := rfl
  omega
theorem fits_less (ds : List Int) (hd : Digs ds) : val (ds.take 4) < 18446744073709551616 := take_lt hd 4
def fitU (n : Int) : Int := if n < 18446744073709551616 then n else 0
set_option maxHeartbeats 1600000 in
theorem fits_any (ds : List Int) (v : Value) (w : World) (h : Num w v ds) (hl : ds.length ≤ 30000000000000) :
    Calls Tryz.prog 188 #[v] w fun e w' => e = .returned (.tuple #[.int .u64 (fitU (val ds)), .bool (decide (val ds < 18446744073709551616))]) ∧ w' = w := by
  have hd := h.1
  obtain ⟨_, a, ca, ea, hr⟩ := id h
  subst ea
  go_enter Tryz.func188, Tryz.ntmps188
  go_wp2
  go_loop [4] (fun iv => ∃ i : Nat, 4 ≤ i ∧ i ≤ max 4 ds.length ∧ iv = .int .i64 i ∧ Hid (val (ds.take i) = val (ds.take 4))) (fun iv => max 4 ds.length - (intOf iv).toNat)
  case atStart => exact ⟨4, by omega, by omega, rfl, rfl⟩
  case round =>
    obtain ⟨i, h4, hm, rfl, HV⟩ := hrel
    by_cases hlt : i < ds.length
    · obtain ⟨b, off, rfl, hb, hc⟩ := hr (by omega)
      have hcell := hc i hlt
      clear hc hr
      by_cases hz : ds.getD i 0 = 0
      · have HV' : Hid (val (ds.take (i + 1)) = val (ds.take 4)) := fits_head ds i hz HV.out
        rw [hz] at hcell
        clear hz
        go_wp2
        go_round
        case rel => exact ⟨i + 1, by omega, by omega, by go_num, HV'⟩
        case measure => simp [intOf]; omega
      · have hg := fits_great ds hd i h4 hz
        have hx := hd.at i
        generalize ds.getD i 0 = x at *
        have hz' : (x != 0) = true := by simpa using hz
        go_wp2
        go_ret2
        exact ⟨by unfold fitU; rw [if_neg (by omega), decide_eq_false (by omega)]; rfl, rfl⟩
    · have e0 : val ds = val (ds.take 4) := by rw [← HV.out, take_all ds i (by omega)]
      have e1 := @take4 ds
      have n0 := hd.at 0
      have n1 := hd.at 1
      have n2 := hd.at 2
      have n3 := hd.at 3
      obtain ⟨d0, h0⟩ : ∃ x, x = ds.getD 0 0 := ⟨_, rfl⟩
      obtain ⟨d1, h1⟩ : ∃ x, x = ds.getD 1 0 := ⟨_, rfl⟩
      obtain ⟨d2, h2⟩ : ∃ x, x = ds.getD 2 0 := ⟨_, rfl⟩
      obtain ⟨d3, h3⟩ : ∃ x, x = ds.getD 3 0 := ⟨_, rfl⟩
      rw [← h0, ← h1, ← h2, ← h3] at e1
      rw [← h0] at n0
      rw [← h1] at n1
      rw [← h2] at n2
      rw [← h3] at n3
      have H0 : Hid (d0 = ds.getD 0 0) := h0
      have H1 : Hid (d1 = ds.getD 1 0) := h1
      have H2 : Hid (d2 = ds.getD 2 0) := h2
      have H3 : Hid (d3 = ds.getD 3 0) := h3
      have HE : Hid (val ds = d0 + d1 * 65536 + d2 * 4294967296 + d3 * 281474976710656) := by rw [e0, e1]; exact rfl
      clear h0 h1 h2 h3 e0 e1 hr
      have o1 := or16 d0 d1 (by omega) (by omega) (by omega) (by omega)
      have o2 := or32 (d0 + d1 * 65536) d2 (by omega) (by omega) (by omega) (by omega)
      have o3 := or48 (d0 + d1 * 65536 + d2 * 4294967296) d3 (by omega) (by omega) (by omega) (by omega)
      go_wp2_with (go_at_call 164; first | (with_reducible refine (at_lit 0 0 rfl h H0 (by omega) (by omega)).mono ?_; rintro e wx ⟨rfl, hw⟩; rw [hw]; clear hw) | (with_reducible refine (at_lit 1 1 rfl h H1 (by omega) (by omega)).mono ?_; rintro e wx ⟨rfl, hw⟩; rw [hw]; clear hw) | (with_reducible refine (at_lit 2 2 rfl h H2 (by omega) (by omega)).mono ?_; rintro e wx ⟨rfl, hw⟩; rw [hw]; clear hw) | (with_reducible refine (at_lit 3 3 rfl h H3 (by omega) (by omega)).mono ?_; rintro e wx ⟨rfl, hw⟩; rw [hw]; clear hw))
      go_ret2
      have := HE.out
      exact ⟨by unfold fitU; rw [if_pos (by omega), decide_eq_true (by omega), this]; rfl, rfl⟩
theorem fits_yes {ds : List Int} {v : Value} {w : World} {n : Int} (h : Num w v ds) (hn : Hid (n = val ds)) (hl : ds.length ≤ 30000000000000) (hv : n < 18446744073709551616) :
    Calls Tryz.prog 188 #[v] w fun e w' => e = .returned (.tuple #[.int .u64 n, .bool true]) ∧ w' = w := by
  have := fits_any ds v w h hl
  rw [← hn.out] at this
  unfold fitU at this
  rwa [if_pos hv, decide_eq_true hv] at this
theorem fits_no {ds : List Int} {v : Value} {w : World} {n : Int} (h : Num w v ds) (hn : Hid (n = val ds)) (hl : ds.length ≤ 30000000000000) (hv : ¬ n < 18446744073709551616) :
    Calls Tryz.prog 188 #[v] w fun e w' => e = .returned (.tuple #[.int .u64 0, .bool false]) ∧ w' = w := by
  have := fits_any ds v w h hl
  rw [← hn.out] at this
  unfold fitU at this
  rwa [if_neg hv, decide_eq_false hv] at this
end Go.Proofs.YtpdehdomilnmeaaGreatDoor

