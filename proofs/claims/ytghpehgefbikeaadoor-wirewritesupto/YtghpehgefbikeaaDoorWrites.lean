/- WireWrites: every call in every order on two writers. -/
import Derived.Test.YtghpehgefbikeaaDoorWSt
import Derived.Test.YtghpehgefbikeaaDoorRefNum
import Derived.Test.YtghpehgefbikeaaDoorMarked
import Derived.Test.YtghpehgefbikeaaDoorLaid
import Derived.Deep.RegionLaw
namespace Go.Proofs.YtghpehgefbikeaaDoor
open Go.ChangeShapes Go.WideShapes Go.ChangeAt Go.RowKit

theorem step_append_src {P : Program} {ops : Array Oper} {o : Oper} {a : Act} {w : World} {K : Act → World → Prop} {Q : Exit → Act → World → Prop} {E : Prop} (hgd : o.guard = none) (sl x : Operand) (t tx : TypeId)
    (hop : o.op = .call { callee := .builtin .append, args := #[sl, x], argTypes := #[t, tx] })
    (base : Nat) (e : TypeId) (i : TypeInfo) (ht : P.underlying t = some (.slice e)) (hi : P.info? e = some i) (hz : i.zero = some (.int .u8 0)) (hsize : i.size = 1) (hby : i.bytes = 1)
    (v : Value) (n : Nat) (xs : List Value) (hs : a.eval sl = v) (hown : w.ownsRow base e 1 v n xs) (xv : Value) (m : Nat) (news : List Value) (hx : a.eval x = xv) (hsrc : Src P 1 tx xv m news w)
    (h63 : n + m ≤ maxLen) (hbytes : n + m ≤ 140737488355328) (hbase : base ≤ w.heap.size)
    (h : ∀ v' w', w'.ownsRow base e 1 v' (n + m) (xs ++ news) → w.grownBy w' v.ownBlock → (v'.ownBlock = v.ownBlock ∨ v'.ownBlock = some w.heap.size) → K (a.put o.dst v') w') :
    if Region.wanted o (yielded ops a.tmps) = true then Oper.wp P o a w K Q else E := by
  have hw : Region.wanted o (yielded ops a.tmps) = true := by simp [Region.wanted, hgd]
  rw [if_pos hw]
  obtain ⟨v', w', hr, h2, h3, h4⟩ := run_append_own_src (P := P) w base t tx o.type e i ht hi hz hsize hby v n xs hown xv m news hsrc h63 hbytes hbase
  unfold Oper.wp execOp
  simp only [hop, resolve, invoke, builtin, Sem.run_bind, Sem.run_pure, Result.andThen_ok, List.map_toArray, List.map_cons, List.map_nil, hs, hx, hr]
  exact h v' w' h2 h3 h4
theorem upd_id {α : Type} (f : Nat → α) (k : Nat) : upd f k (f k) = f := by
  funext j
  by_cases h : j = k
  · subst h; rw [upd_same]
  · rw [upd_other _ _ h]
/-- A block that is none of theirs was written. -/
theorem WS.other {w wr w1 : World} {pw pp ps q g : Nat} {ys : List OpD} {p : Nat → Nat} {b c : Nat → List Int} {s t : Nat → Bool} {v : Nat → Value} {F : Nat → Nat → Prop} (h : WS w wr pw pp ps q ys p b c s t v F) (hk : Kept (fun j => j = g) wr w1) (hg : w.heap.size ≤ g) (hR : ¬ Rsv pw pp ps q g) (hF : ∀ j, j < 2 → ¬ F j g) (hv : ∀ j, j < 2 → (v j).ownBlock ≠ some g) : WS w w1 pw pp ps q ys p b c s t v F := by
  have hpp := h.lo pp (.inr (.inl rfl))
  have hps := h.lo ps (.inr (.inr (.inl rfl)))
  refine ⟨h.bel.trans (hk.below (fun j hj => by subst hj; exact hg) h.bel.size), fun j hj => hk.cell (h.hw j hj) (fun e => hR (.inl e.symm)), by rw [hk.block pp hpp.2 (fun e => hR (.inr (.inl e.symm)))]; exact h.hp, by rw [hk.block ps hps.2 (fun e => hR (.inr (.inr (.inl e.symm))))]; exact h.hs, fun j u hj => hk.cell (h.hq j u hj) (fun e => hR (.inr (.inr (.inr e.symm)))), fun j hj => (h.wk j hj).kept hk (fun x hf e => by subst e; exact hF j hj hf), fun j hj => ⟨own_keep0 (h.ok j hj).1 hk (fun x hx e => by subst e; exact hv j hj hx), (h.ok j hj).2⟩, fun j hj => ⟨(h.lo j hj).1, Nat.lt_of_lt_of_le (h.lo j hj).2 hk.size⟩, h.dj, h.fr, h.ff, h.vr, h.vv⟩
theorem Err.cells0 {w w' : World} {g : Nat} {t : List UInt8} {a : Addr} (h : Err w g t a) (hb : Below w.heap.size w w') : w'.cell? ⟨g, 0, none⟩ = some (.iface 86 (.pointer (some a))) :=
  (hb.cell (World.block_lt_of_cell? w _ h.1)).trans h.1
theorem rd_three (w : World) : Rd (w.alloc (.cells #[.int .u8 1, .int .u8 2, .int .u8 3] 5)) (.slice (some ⟨w.heap.size, 0, none⟩) 3 3) [1, 2, 3] := by
  refine ⟨by intro b hb; simp at hb; omega, some ⟨w.heap.size, 0, none⟩, 3, rfl, by simp, fun e => by simp at e, fun _ => ⟨w.heap.size, 0, rfl, by simp, fun k hk => ?_⟩⟩
  have : k = 0 ∨ k = 1 ∨ k = 2 := by simp at hk; omega
  rcases this with rfl | rfl | rfl <;> (simp; try go_simp)
theorem xor99 (z : Int) (h : 0 ≤ z ∧ z ≤ 255) : ∃ y : Int, bits .xor .u8 z 99 = y ∧ 0 ≤ y ∧ y ≤ 255 := by
  have e := u8_xor z 99 h.1 (by omega) (by omega) (by omega)
  have hlt : z.toNat ^^^ (99 : Int).toNat < 2 ^ 8 := Nat.xor_lt_two_pow (by omega) (by decide)
  exact ⟨_, e, by omega, by omega⟩
theorem and1_ex (n : Int) : ∃ k : Nat, k < 2 ∧ bits .and .i64 n 1 = (k : Int) := by
  have h1 : (BitVec.ofInt 64 1).toNat = 2 ^ 1 - 1 := by decide
  have key : (BitVec.ofInt 64 n &&& BitVec.ofInt 64 1).toNat = (n % ((2 ^ 64 : Nat) : Int)).toNat % 2 ^ 1 := by
    rw [BitVec.toNat_and, BitVec.toNat_ofInt, h1, Nat.and_two_pow_sub_one_eq_mod]
  refine ⟨(n % ((2 ^ 64 : Nat) : Int)).toNat % 2 ^ 1, by omega, ?_⟩
  show IntKind.i64.wrap ((BitVec.ofInt 64 n &&& BitVec.ofInt 64 1).toNat : Nat) = _
  rw [key, IntKind.wrap_i64]
  omega
theorem ws_start {w w3 U w8 : World} {p0 p1 q : Nat} {ys : List OpD} (hU : U = ((w3.alloc (.cells #[.pointer (some ⟨p0, 0, none⟩), .pointer (some ⟨p1, 0, none⟩)] 26)).alloc (.cells #[.slice none 0 0, .slice none 0 0] 28)).alloc (.cells #[.bool false, .bool false] 29)) (hb3 : Below w.heap.size w w3) (h0 : Wr (fun j => j = p0) w3 p0 [] false) (h1 : Wr (fun j => j = p1) w3 p1 [] false) (hne : p0 ≠ p1) (hp0 : w.heap.size ≤ p0) (hp1 : w.heap.size ≤ p1) (hb8 : Below U.heap.size U w8) (hq : U.heap.size ≤ q) (hql : q < w8.heap.size)
    (hcells : ∀ j u, (opcells ys)[j]? = some u → w8.cell? ⟨q, j, none⟩ = some u) :
    WS w w8 w3.heap.size (w3.heap.size + 1) (w3.heap.size + 2) q ys (fun k => if k = 0 then p0 else p1) (fun _ => []) (fun _ => []) (fun _ => false) (fun _ => false) (fun _ => .slice none 0 0) (fun k j => j = if k = 0 then p0 else p1) := by
  have l0 := h0.1 p0 rfl
  have l1 := h1.1 p1 rfl
  have hsz : U.heap.size = w3.heap.size + 3 := by rw [hU]; simp
  have hbU : Below w3.heap.size w3 U := by
    rw [hU]
    exact (((Below.refl _ _).alloc (Nat.le_refl _) _).alloc (by simp) _).alloc (by simp; omega) _
  have hb38 : Below w3.heap.size w3 w8 := hbU.trans (hb8.mono (by omega))
  have hs3 := hb3.size
  have hpw : U.heap[w3.heap.size]? = some (.cells #[.pointer (some ⟨p0, 0, none⟩), .pointer (some ⟨p1, 0, none⟩)] 26 (0, 0)) := by
    rw [hU, heap_alloc_old _ _ (by simp; omega), heap_alloc_old _ _ (by simp)]
    exact heap_alloc_new w3 _
  have hpp : U.heap[w3.heap.size + 1]? = some (.cells #[.slice none 0 0, .slice none 0 0] 28 (0, 0)) := by
    rw [hU, heap_alloc_old _ _ (by simp)]
    have := heap_alloc_new (w3.alloc (.cells #[.pointer (some ⟨p0, 0, none⟩), .pointer (some ⟨p1, 0, none⟩)] 26)) (.cells #[.slice none 0 0, .slice none 0 0] 28)
    simpa using this
  have hps : U.heap[w3.heap.size + 2]? = some (.cells #[.bool false, .bool false] 29 (0, 0)) := by
    rw [hU]
    have := heap_alloc_new ((w3.alloc (.cells #[.pointer (some ⟨p0, 0, none⟩), .pointer (some ⟨p1, 0, none⟩)] 26)).alloc (.cells #[.slice none 0 0, .slice none 0 0] 28)) (.cells #[.bool false, .bool false] 29)
    simpa using this
  have e8 : ∀ j, j < U.heap.size → w8.heap[j]? = U.heap[j]? := fun j hj => hb8.block j hj
  have hpw8 := (e8 w3.heap.size (by omega)).trans hpw
  refine ⟨hb3.trans (hb38.mono hs3), fun k hk => ?_, (e8 _ (by omega)).trans hpp, (e8 _ (by omega)).trans hps, hcells, fun k hk => ?_, fun k hk => ⟨World.ownsRow_nil _ _ _ _, Byts.nil⟩, fun j hj => ?_, ⟨by omega, by omega, by omega, by omega, by omega⟩, fun k j hk hj => ?_, fun j ha hb => ?_, fun k j hk hj => by simp [Value.ownBlock] at hj, fun j hj => by simp [Value.ownBlock] at hj⟩
  · have : k = 0 ∨ k = 1 := by omega
    rcases this with rfl | rfl
    · exact cell_of_block hpw8 rfl
    · exact cell_of_block hpw8 rfl
  · have : k = 0 ∨ k = 1 := by omega
    rcases this with rfl | rfl
    · exact h0.below hb38
    · exact h1.below hb38
  · have := hb8.size
    rcases hj with rfl | rfl | rfl | rfl <;> omega
  · have : k = 0 ∨ k = 1 := by omega
    rcases this with rfl | rfl
    · simp at hj; subst hj; exact ⟨hp0, fun hr => by rcases hr with e | e | e | e <;> omega⟩
    · simp at hj; subst hj; exact ⟨hp1, fun hr => by rcases hr with e | e | e | e <;> omega⟩
  · simp at ha hb
    omega
theorem own_spotN {w : World} {base : Nat} {e : TypeId} {v : Value} {n : Nat} {xs : List Value} (h : w.ownsRow base e 4 v n xs) (hn : 1 ≤ n) : ∃ g cap, v = .slice (some ⟨g, 0, none⟩) n cap ∧ base ≤ g ∧ g < w.heap.size ∧ ∀ j u, xs[j]? = some u → w.cell? ⟨g, j, none⟩ = some u := by
  rcases h.2 with ⟨_, h0⟩ | ⟨g, cap, cur, hv, hb, hg, hc, _⟩
  · omega
  · refine ⟨g, cap, hv, hb, (Array.getElem?_eq_some_iff.1 hg).1, fun j u hj => ?_⟩
    subst hv
    have := h.cells (g := g) rfl j u hj
    rwa [add_none, Nat.zero_add] at this
def extra : List OpD := [⟨4, 0, 0, .slice none 0 0, []⟩, ⟨4, 1, 0, .slice none 0 0, []⟩, ⟨1, 0, 5, .slice none 0 0, []⟩, ⟨4, 0, 0, .slice none 0 0, []⟩]
theorem src_extra (w : World) : Src Tryd.prog 4 22 (.slice (some ⟨w.heap.size, 0, none⟩) 4 4) 4 (opcells extra) (w.alloc (.cells #[.int .i64 4, .int .i64 0, .int .i64 0, .slice none 0 0, .int .i64 4, .int .i64 1, .int .i64 0, .slice none 0 0, .int .i64 1, .int .i64 0, .int .i64 5, .slice none 0 0, .int .i64 4, .int .i64 0, .int .i64 0, .slice none 0 0] 31)) := by
  refine Src.ofSlice _ Tryd.underlying22 _ 4 4 _ rfl (fun j u hj => ?_) (opcells_one extra (fun x hx => by simp [extra] at hx; rcases hx with rfl | rfl | rfl | rfl <;> rfl))
  have hjl : j < 16 := (List.getElem?_eq_some_iff.mp hj).1
  rw [add_none]
  have hb : (w.alloc (.cells #[.int .i64 4, .int .i64 0, .int .i64 0, .slice none 0 0, .int .i64 4, .int .i64 1, .int .i64 0, .slice none 0 0, .int .i64 1, .int .i64 0, .int .i64 5, .slice none 0 0, .int .i64 4, .int .i64 0, .int .i64 0, .slice none 0 0] 31)).heap[w.heap.size]? = _ := heap_alloc_new w _
  rw [Nat.zero_add, cell_of_row _ w.heap.size j _ _ _ hb]
  rw [← hj]
  have : j = 0 ∨ j = 1 ∨ j = 2 ∨ j = 3 ∨ j = 4 ∨ j = 5 ∨ j = 6 ∨ j = 7 ∨ j = 8 ∨ j = 9 ∨ j = 10 ∨ j = 11 ∨ j = 12 ∨ j = 13 ∨ j = 14 ∨ j = 15 := by omega
  rcases this with rfl | rfl | rfl | rfl | rfl | rfl | rfl | rfl | rfl | rfl | rfl | rfl | rfl | rfl | rfl | rfl <;> rfl
theorem Tryd.info31 : (Tryd.prog.info? 31).map (fun i => (i.zero, i.size, i.bytes)) = some (some (.agg #[.int .i64 0, .int .i64 0, .int .i64 0, .slice none 0 0]), 4, 48) := by kernel_rfl
set_option maxRecDepth 5000 in
set_option maxHeartbeats 25600000 in
theorem writes_walk (w : World) (v0 : Value) (xs : List OpD) (a : Addr) (h' : Ops w v0 xs) (hsz : opsz xs ≤ 2097152) (hE : Err w 0 text0 a) :
    Calls Tryd.prog 3 #[v0] w fun e w' => e = .returned (.bool true) ∧ Below w.heap.size w w' := by
  obtain ⟨i0, hi, hz0, hz1, hz2⟩ := info_parts Tryd.info5
  obtain ⟨i1, hj, hy0, hy1, hy2⟩ := info_parts Tryd.info31
  have hxl : xs.length * 10 ≤ opsz xs := by
    clear h' hsz
    induction xs with
    | nil => simp
    | cons x r ih => simp only [opsz, List.map_cons, List.sum_cons, List.length_cons] at ih ⊢; omega
  have HL : Hid ((0 + xs.length ≤ maxLen ∧ (0 + xs.length) * 48 ≤ 140737488355328) ∧ xs.length + 4 ≤ maxLen ∧ (xs.length + 4) * 48 ≤ 140737488355328) := mkHid ⟨⟨by unfold maxLen; omega, by omega⟩, by unfold maxLen; omega, by omega⟩
  have HE := mkHid hE
  have HSZ := mkHid hsz
  have HGd := mkHid h'.good
  have hxb : (xs.length : Int) ≤ 250000 := by omega
  clear hE hsz hxl
  have M1 : Hid True := trivial
  have M2 : Hid True := trivial
  go_enter Tryd.func3, Tryd.ntmps3
  go_wp2_with (first | (go_at_call 9; refine (alive_any _).mono ?_; rintro e w1 ⟨rfl, hb1⟩) | (go_at_call 10; clear M1; refine (new_any _).mono ?_; rintro e w2 ⟨rfl, hw2, hb2⟩; have hb2' := hb1.trans (hb2.mono hb1.size); obtain ⟨P0, hP0⟩ : ∃ P, P = w1.heap.size := ⟨_, rfl⟩; have hp0 : w.heap.size ≤ P0 := (by rw [hP0]; exact hb1.size); rw [← hP0] at hw2 ⊢; clear hP0 hb1 hb2) | (go_at_call 10; refine (new_any _).mono ?_; rintro e w3 ⟨rfl, hw3, hb3⟩; have hb3' := hb2'.trans (hb3.mono hb2'.size); have hw23 := hw2.below hb3; have hlt0 := hw2.1 P0 rfl; obtain ⟨P1, hP1⟩ : ∃ P, P = w2.heap.size := ⟨_, rfl⟩; have hp1 : w.heap.size ≤ P1 := (by rw [hP1]; exact hb2'.size); rw [← hP1] at hw3 hlt0 ⊢; clear hP1 hb2' hb3 hw2) | (at_builtin; clear M2; obtain ⟨U, hU⟩ : ∃ U, U = ((w3.alloc (.cells #[.pointer (some ⟨P0, 0, none⟩), .pointer (some ⟨P1, 0, none⟩)] 26)).alloc (.cells #[.slice none 0 0, .slice none 0 0] 28)).alloc (.cells #[.bool false, .bool false] 29) := ⟨_, rfl⟩; rw [← hU]; have HU := mkHid hU; have hbU : Below w.heap.size w U := (by rw [hU]; have := hb3'.size; exact ((hb3'.alloc this _).alloc (by simp; omega) _).alloc (by simp; omega) _); have hzz : U.heap.size = w3.heap.size + 3 := (by rw [hU]; simp); have hm0 := World.ownsRow_made (base := U.heap.size) (e := 31) (size := 4) U #[] 0 (Nat.le_refl _) (by unfold maxLen; omega) rfl; have hm : (U.alloc (.cells #[] 31)).ownsRow U.heap.size 31 4 (.slice (some ⟨w3.heap.size + 3, 0, none⟩) 0 0) 0 [] := (by rw [← hzz]; exact hm0); clear hU hm0 hzz; refine wpList_append_src4 _ rfl (.tmp 28) (.tmp 29) 22 22 rfl U.heap.size 31 i1 Tryd.underlying22 hj _ 48 hy0 rfl hy1 hy2 _ _ _ rfl hm _ _ _ rfl (h'.later (hbU.alloc hbU.size _)).src HL.out.1.1 HL.out.1.2 (by simp) ?_; intro v7 w7 ho7 hg7 _; have hb7 := ((Below.refl U.heap.size U).alloc (Nat.le_refl _) _).grown hg7 (by simp) (fun k hk => (hm.lt k hk).1); rw [Nat.zero_add, List.nil_append] at ho7; clear hg7 hm) | (at_builtin; refine wpList_append_src4 _ rfl (.tmp 30) (.tmp 35) 22 22 rfl U.heap.size 31 i1 Tryd.underlying22 hj _ 48 hy0 rfl hy1 hy2 _ _ _ rfl (ho7.alloc _) _ _ _ rfl (src_extra w7) HL.out.2.1 HL.out.2.2 (by have := hb7.size; simp; omega) ?_; intro v8 w8 ho8 hg8 _; have hb8 := (hb7.alloc hb7.size _).grown hg8 (by have := hb7.size; simp; omega) (fun k hk => (ho7.lt k hk).1); rw [← opcells_append] at ho8; obtain ⟨q, qc, rfl, hq1, hq2, hqc⟩ := own_spotN ho8 (by omega); have HWS := mkHid (ws_start HU.out hb3' hw23 hw3 (by omega) hp0 hp1 hb8 hq1 hq2 hqc); clear hg8 ho8 ho7 hb7 hb8 hqc HU hw23 hw3 hb3'))
  clear HL
  obtain ⟨ys, hys⟩ : ∃ ys, ys = xs ++ extra := ⟨_, rfl⟩
  have hyl : ys.length = xs.length + 4 := by rw [hys]; simp [extra]
  have HYG : Hid (∀ x ∈ ys, Good w x) := mkHid (fun x hx => by
    rw [hys] at hx
    rcases List.mem_append.mp hx with hx | hx
    · exact HGd.out x hx
    · simp only [extra, List.mem_cons, List.not_mem_nil, or_false] at hx
      rcases hx with rfl | rfl | rfl | rfl <;> exact ⟨⟨Byts.nil, none, 0, rfl, by simp, fun _ => rfl, fun hp => by simp at hp⟩, by simp, by simp, by simp⟩)
  have hyb : (ys.length : Int) ≤ 300000 := by rw [hyl]; omega
  have HYS : Hid (opsz ys ≤ 2097200) := mkHid (by rw [hys]; have := HSZ.out; simp only [opsz, List.map_append, List.sum_append, extra] at this ⊢; simp; omega)
  rw [← hys] at HWS
  have hyi : (xs.length : Int) + 4 = (ys.length : Int) := by omega
  rw [← hyl, hyi]
  generalize w3.heap.size = N at *
  clear hyi
  clear hys HGd HSZ h' hq1 hq2 hlt0 hp0 hp1 hbU
  clear hyl
  go_loopw [38] (fun iv wr => ∃ (i : Nat) (b : Nat → List Int) (s : Nat → Bool) (v : Nat → Value) (F : Nat → Nat → Prop), iv = .int .i64 (i : Int) ∧ i ≤ ys.length ∧ Hid (∀ k, k < 2 → (b k).length + opsz (ys.drop i) ≤ 2097200) ∧ WS w wr N (N + 1) (N + 1 + 1) q ys (fun k => if k = 0 then P0 else P1) b b s s v F) (fun iv _ => ys.length - (intOf iv).toNat)
  case atStart => exact ⟨0, _, _, _, _, rfl, Nat.zero_le _, mkHid (fun k _ => by simpa using HYS.out), HWS.out⟩
  case round =>
    clear HWS HYS
    obtain ⟨i, b, s, v, F, rfl, hi', HB, hWS⟩ := hrel
    have HWS := mkHid hWS
    clear hWS
    by_cases hlt : i < ys.length
    · have hxx : ys[i]? = some ys[i] := by simp [hlt]
      obtain ⟨c0, c1, c2, c3⟩ := HWS.out.at hxx
      obtain ⟨hrd, hbk, hbw, hbn⟩ := HYG.out ys[i] (by simp)
      have hop : (ys[i].bs.length + 10) + opsz (ys.drop (i + 1)) = opsz (ys.drop i) := by
        rw [List.drop_eq_getElem_cons hlt]
        simp only [opsz, List.map_cons, List.sum_cons]
      generalize ys[i] = x at *
      obtain ⟨xk, xw, xn, xv, xbs⟩ := x
      simp only at c0 c1 c2 c3 hrd hbk hbw hbn hop
      obtain ⟨xa, xc, rfl⟩ : ∃ a c, xv = .slice a xbs.length c := hrd.2.imp fun a h => h.imp fun c h => h.1
      obtain ⟨k, hk2, ek⟩ := and1_ex xw
      have hki : (k : Int) < 2 := by omega
      have hii : (i : Int) < ys.length := by omega
      obtain ⟨pk, hpk⟩ : ∃ pk, pk = (if k = 0 then P0 else P1) := ⟨_, rfl⟩
      have HB2 : Hid (∀ j, j < 2 → (b j).length + (xbs.length + 10) + opsz (ys.drop (i + 1)) ≤ 2097200) := mkHid (fun j hj => by have := HB.out j hj; omega)
      have hbl := HB2.out k hk2
      obtain ⟨W, hW⟩ : ∃ W, W = wr.alloc (.cells #[.int .i64 xk, .int .i64 xw, .int .i64 xn, .slice xa xbs.length xc] 31) := ⟨_, rfl⟩
      have hbW : Below wr.heap.size wr W := by rw [hW]; exact (Below.refl _ _).alloc (Nat.le_refl _) _
      have HW := mkHid (HWS.out.late hbW)
      have hoW : W.heap[wr.heap.size]? = some (.cells #[.int .i64 xk, .int .i64 xw, .int .i64 xn, .slice xa xbs.length xc] 31 (0, 0)) := by rw [hW]; exact heap_alloc_new wr _
      have hpc := HW.out.hw k hk2
      have hWr := HW.out.wk k hk2
      simp only [← hpk] at hpc hWr
      have hrW := hrd.later HW.out.bel
      have hnF : ∀ j, j < 2 → ¬ F j wr.heap.size := fun j hj hf => by have := HWS.out.fl hj hf; omega
      have HNF := mkHid hnF
      have HPK := mkHid hpk
      have q0 : W.cell? ⟨wr.heap.size, 0, none⟩ = some (.int .i64 xk) := cell_of_block hoW rfl
      have q1 : W.cell? ⟨wr.heap.size, 1, none⟩ = some (.int .i64 xw) := cell_of_block hoW rfl
      have q2 : W.cell? ⟨wr.heap.size, 2, none⟩ = some (.int .i64 xn) := cell_of_block hoW rfl
      have q3 : W.cell? ⟨wr.heap.size, 3, none⟩ = some (.slice xa xbs.length xc) := cell_of_block hoW rfl
      have hW2 := hW.symm
      clear hxx hop hnF hpk hoW hbk hbw hW
      by_cases k1 : xk = 1
      · subst k1
        by_cases hn0 : xn < 0
        · go_wp2_with (go_at_call 11; refine (num_spoil (F k) W pk (b k) (s k) xn hWr hn0).mono ?_; rintro e w4 ⟨rfl, hw4, hk4⟩; rw [HPK.out] at hw4; have HW4 := mkHid (HW.out.writer hk2 hk4 hw4 (fun j hj => .inl hj)); have q24 := hk4.cell q2 (HNF.out k hk2); obtain ⟨⟨f1, f2⟩, hW5⟩ := HW4.out.flag hk2; rw [upd_id, upd_id] at hW5; have HW5 := mkHid hW5; clear hw4 hk4 hW5 q0 q1 q2 q3)
          go_roundw
          case rel => exact ⟨i + 1, b, upd s k true, v, F, by go_num, by omega, mkHid (fun j hj => by have := HB2.out j hj; omega), HW5.out⟩
          case measure => simp [intOf]; omega
        · obtain ⟨m, rfl⟩ : ∃ m : Nat, xn = m := ⟨xn.toNat, by omega⟩
          have hm1 : (m : Int) ≤ 9223372036854775807 := hbn.2
          have hE9 := enc_len9 m (by omega)
          have HLn : Hid ((b k).length + (enc m).length ≤ maxLen ∧ (b k).length + (enc m).length ≤ 140737488355328) := mkHid ⟨by unfold maxLen; omega, by omega⟩
          have HB3 : Hid (∀ j, j < 2 → (upd b k (b k ++ enc m) j).length + opsz (ys.drop (i + 1)) ≤ 2097200) := mkHid (fun j hj => by
            have := HB2.out j hj
            by_cases e : j = k
            · subst e; rw [upd_same, List.length_append]; omega
            · rw [upd_other _ _ e]; omega)
          clear hE9
          go_wp2_with (go_at_call 11; refine (num_any (F k) W pk (b k) (s k) m hWr hm1 (by omega)).mono ?_; rintro e w4 ⟨rfl, F4, hw4, hF4, hk4⟩; rw [HPK.out] at hw4; have hW4 := HW.out.writer hk2 hk4 hw4 hF4; rw [upd_id s k] at hW4; have HW4 := mkHid hW4; have q24 := hk4.cell q2 (HNF.out k hk2); obtain ⟨pc4, _⟩ := HW4.out.pcell hk2; clear hw4 hk4 hF4 hW4 q0 q1 q2 q3)
          go_region_law (first | (refine step_append_src rfl (.tmp 64) (.tmp 67) 27 27 rfl w.heap.size 5 i0 Tryd.underlying27 hi hz0 hz1 hz2 (v k) _ _ (by simp [Act.eval]) (HW5.out.ok k hk2).1 v5 _ _ (by simp [Act.eval]) HR5.out HLn.out.1 HLn.out.2 HW5.out.bel.size ?_; intro v6 w6 ho6 hg6 hat6; rw [← List.map_append, ← List.length_append] at ho6; obtain ⟨⟨f1, f2⟩, hW6⟩ := HW5.out.put hk2 (Below.refl _ _) hg6 ho6 ((HW5.out.ok k hk2).2.append (enc_byts m)) hat6; obtain ⟨a6, c6, rfl⟩ := own_shape ho6; simp only [List.length_append] at hW6; have HW6 := mkHid hW6; clear ho6 hg6 hat6 hW6) | (go_simp; go_at_call 12; refine (refnum_any _ m hm1).mono ?_; rintro e w5 ⟨v5, rfl, ho5, hb5⟩; have HR5 := mkHid (Rd.of_owns (enc_byts m) ho5).src; have HW5 := mkHid ((HW4.out.late (Below.refl _ _).drew).late hb5); obtain ⟨pc5, _⟩ := HW5.out.pcell hk2; clear ho5 hb5))
          all_goals go_wp2
          all_goals go_roundw
          all_goals first | exact ⟨i + 1, _, s, _, _, by go_num, by omega, HB3, HW6.out⟩ | (simp [intOf]; omega)
      · by_cases k2 : xk = 2
        · subst k2
          have hE9 := enc_len9 xbs.length (by omega)
          have HLn : Hid ((b k).length + (enc xbs.length ++ xbs).length ≤ maxLen ∧ (b k).length + (enc xbs.length ++ xbs).length ≤ 140737488355328) := mkHid (by rw [List.length_append]; exact ⟨by unfold maxLen; omega, by omega⟩)
          have HB3 : Hid (∀ j, j < 2 → (upd b k (b k ++ (enc xbs.length ++ xbs)) j).length + opsz (ys.drop (i + 1)) ≤ 2097200) := mkHid (fun j hj => by
            have := HB2.out j hj
            by_cases e : j = k
            · subst e; rw [upd_same, List.length_append, List.length_append]; omega
            · rw [upd_other _ _ e]; omega)
          have hcvW := hrW.conv
          clear hE9
          go_wp2_with (go_at_call 13; refine (text_any (F k) W pk (b k) xbs (s k) hWr hrd.1 (by omega)).mono ?_; rintro e w4 ⟨rfl, F4, hw4, hF4, hk4⟩; rw [HPK.out] at hw4; have hW4 := HW.out.writer hk2 hk4 hw4 hF4; rw [upd_id s k] at hW4; have HW4 := mkHid hW4; have q34 := hk4.cell q3 (HNF.out k hk2); obtain ⟨pc4, _⟩ := HW4.out.pcell hk2; have HRd := mkHid (hrd.later (HW4.out.bel.trans ((Below.refl _ w4).drew.mono HW4.out.bel.size))); clear hw4 hk4 hF4 hW4 q0 q1 q2 q3 hcvW)
          go_region_law (first | (refine step_append_src rfl (.tmp 80) (.tmp 83) 27 27 rfl w.heap.size 5 i0 Tryd.underlying27 hi hz0 hz1 hz2 (v k) _ _ (by simp [Act.eval]) (HW5.out.ok k hk2).1 v5 _ _ (by simp [Act.eval]) HR5.out HLn.out.1 HLn.out.2 HW5.out.bel.size ?_; intro v6 w6 ho6 hg6 hat6; rw [← List.map_append, ← List.length_append] at ho6; obtain ⟨⟨f1, f2⟩, hW6⟩ := HW5.out.put hk2 (Below.refl _ _) hg6 ho6 ((HW5.out.ok k hk2).2.append ((enc_byts _).append hrd.1)) hat6; obtain ⟨a6, c6, rfl⟩ := own_shape ho6; simp only [List.length_append] at hW6; have HW6 := mkHid hW6; clear ho6 hg6 hat6 hW6) | (go_simp; go_at_call 14; refine (refbytes_any _ _ xbs HRd.out (by omega)).mono ?_; rintro e w5 ⟨v5, rfl, ho5, hb5⟩; have HR5 := mkHid (Rd.of_owns ((enc_byts _).append hrd.1) ho5).src; have HW5 := mkHid ((HW4.out.late (Below.refl _ _).drew).late hb5); obtain ⟨pc5, _⟩ := HW5.out.pcell hk2; clear ho5 hb5))
          all_goals go_wp2
          all_goals go_roundw
          all_goals first | exact ⟨i + 1, _, s, _, _, by go_num, by omega, HB3, HW6.out⟩ | (simp [intOf]; omega)
        · by_cases k3 : xk = 3
          · subst k3
            have hE9 := enc_len9 xbs.length (by omega)
            have HLn : Hid ((b k).length + (enc xbs.length ++ xbs).length ≤ maxLen ∧ (b k).length + (enc xbs.length ++ xbs).length ≤ 140737488355328) := mkHid (by rw [List.length_append]; exact ⟨by unfold maxLen; omega, by omega⟩)
            have HB3 : Hid (∀ j, j < 2 → (upd b k (b k ++ (enc xbs.length ++ xbs)) j).length + opsz (ys.drop (i + 1)) ≤ 2097200) := mkHid (fun j hj => by
              have := HB2.out j hj
              by_cases e : j = k
              · subst e; rw [upd_same, List.length_append, List.length_append]; omega
              · rw [upd_other _ _ e]; omega)
            have hxl : (xbs.length : Int) ≤ 140737488355300 := by omega
            have HRd0 := mkHid hrd
            have hoB : Hid (wr.heap.size < W.heap.size ∧ N + 1 < wr.heap.size ∧ (∀ j, Rsv N (N + 1) (N + 1 + 1) q j → j < wr.heap.size) ∧ ∀ j x, j < 2 → (v j).ownBlock = some x → x < wr.heap.size) := mkHid ⟨by have := World.block_lt_of_cell? W _ q0; exact this, (HWS.out.lo _ (.inr (.inl rfl))).2, fun j hj => (HWS.out.lo j hj).2, fun j x hj hx => ((HWS.out.ok j hj).1.lt x hx).2⟩
            clear hE9
            go_wp2_with (first | (go_at_call 15; refine (nbytes_any _ _ xbs hrW hxl).mono ?_; rintro e w3 ⟨g, cap, rfl, hmk, hb3⟩; have HW3 := mkHid (HW.out.late hb3); have hWr3 := hWr.below hb3; have q33 := cell_later hb3 q3; have hgl := hmk.lt; have HMK := mkHid hmk; have hgF : Hid (∀ j, j < 2 → ¬ F j g) := mkHid (fun j hj hf => by have := HW.out.fl hj hf; omega); clear hb3 hmk) | (go_at_call 16; refine (bytes_any (F k) w3 pk (b k) xbs (s k) _ hWr3 HRd0.out.1 (by omega) (fun w' hk => (HMK.out.kept hk (hgF.out k hk2)).rd HRd0.out.1)).mono ?_; rintro e w4 ⟨rfl, F4, hw4, hF4, hk4⟩; rw [HPK.out] at hw4; have hW4 := HW3.out.writer hk2 hk4 hw4 hF4; rw [upd_id s k] at hW4; have HW4 := mkHid hW4; have q34 := hk4.cell q33 (HNF.out k hk2); obtain ⟨pc4, _⟩ := HW4.out.pcell hk2; have HMK4 := mkHid (HMK.out.kept hk4 (hgF.out k hk2)); have HF4 : Hid (∀ j, j < 2 → ¬ upd F k F4 j g) := mkHid (fun j hj hf => by by_cases e : j = k; (subst e; rw [upd_same] at hf; exact (hF4 g hf).elim (hgF.out j hj) (fun h => by omega)); (rw [upd_other _ _ e] at hf; exact hgF.out j hj hf)); have HRd := mkHid (HRd0.out.later (HW4.out.bel.trans ((Below.refl _ w4).drew.mono HW4.out.bel.size))); clear hw4 hk4 hF4 hW4 q0 q1 q2 q3 q33 hWr3))
            go_region_law (first | (refine step_append_src rfl (.tmp 97) (.tmp 100) 27 27 rfl w.heap.size 5 i0 Tryd.underlying27 hi hz0 hz1 hz2 (v k) _ _ (by simp [Act.eval]) (HW5.out.ok k hk2).1 v5 _ _ (by simp [Act.eval]) HR5.out HLn.out.1 HLn.out.2 HW5.out.bel.size ?_; intro v6 w6 ho6 hg6 hat6; rw [← List.map_append, ← List.length_append] at ho6; obtain ⟨⟨f1, f2⟩, hW6⟩ := HW5.out.put hk2 (Below.refl _ _) hg6 ho6 ((HW5.out.ok k hk2).2.append ((enc_byts _).append hrd.1)) hat6; obtain ⟨a6, c6, rfl⟩ := own_shape ho6; have hk67 : Kept (fun j => (v k).ownBlock = some j ∨ j = N + 1) w5 (w6.setCell ⟨N + 1, k, none⟩ (.slice a6 (b k ++ (enc xbs.length ++ xbs)).length c6)) := ((Kept.grown hg6 (fun j hj => hj)).mono (fun j hj => .inl hj)).trans (Kept.setCell (F := fun j => j = N + 1) w6 rfl _) (fun j hj => .inl (.inr hj)); have hM7 := HM5.out.kept hk67 (fun hf => hf.elim (fun h => by have := hoB.out.2.2.2 k g hk2 h; have := HM5.out.lt; have := hoB.out.1; omega) (fun h => by have := HM5.out.lt; have := hoB.out; omega)); have hq7 := hk67.cell q35 (fun hf => hf.elim (fun h => by have := hoB.out.2.2.2 k _ hk2 h; simp at this) (fun h => by have := hoB.out; simp at h; omega)); have hV7 : ∀ j, j < 2 → (upd v k (.slice a6 (b k ++ (enc xbs.length ++ xbs)).length c6) j).ownBlock ≠ some g := (fun j hj hv => by have hg5 := HM5.out.lt; have := hoB.out.1; by_cases e : j = k; (subst e; rw [upd_same] at hv; exact hat6.elim (fun h => by rw [h] at hv; have := hoB.out.2.2.2 j g hj hv; omega) (fun h => by rw [h] at hv; simp at hv; omega)); (rw [upd_other _ _ e] at hv; have := hoB.out.2.2.2 j g hj hv; omega)); simp only [List.length_append] at hW6 hM7 hq7 hV7; have HW6 := mkHid hW6; have HM7 := mkHid hM7; have HV7 := mkHid hV7; clear ho6 hg6 hat6 hW6 hM7 hk67 hV7) | (go_simp; go_at_call 14; refine (refbytes_any _ _ xbs HRd.out (by omega)).mono ?_; rintro e w5 ⟨v5, rfl, ho5, hb5⟩; have HR5 := mkHid (Rd.of_owns ((enc_byts _).append hrd.1) ho5).src; have hb45 : Below w4.heap.size w4 w5 := ((Below.refl _ w4).drew).trans hb5; have HW5 := mkHid (HW4.out.late hb45); obtain ⟨pc5, _⟩ := HW5.out.pcell hk2; have HM5 := mkHid (HMK4.out.kept (kept_of_below hb45) (by have := HMK4.out.lt; omega)); have q35 := cell_later hb45 q34; clear ho5 hb5 hb45))
            all_goals
              have HG : Hid (w.heap.size ≤ g ∧ ¬ Rsv N (N + 1) (N + 1 + 1) q g) := mkHid ⟨by have := HW.out.bel.size; omega, fun hr => by have := hoB.out.2.2.1 g hr; have := hoB.out.1; omega⟩
              go_wp2_with (go_at_call 17; refine (nkept_any _ _ g cap _ xbs HM7.out (HRd0.out.later HW6.out.bel) hxl).mono ?_; rintro e w8 ⟨rfl, hk8⟩; have HW8 := mkHid (HW6.out.late (w1 := w8) (by obtain ⟨n, rfl⟩ := hk8; exact ⟨rfl, rfl, rfl, Nat.le_refl _, fun _ _ => rfl⟩)); have HM8 := mkHid (HM7.out.kept (F := fun _ => False) (w' := w8) (by obtain ⟨n, rfl⟩ := hk8; exact ⟨rfl, rfl, rfl, Nat.le_refl _, fun _ _ _ => rfl⟩) (fun h => h)); clear hk8)
              go_loopw [110] (fun jv wq => ∃ (j : Nat) (zs : List Int), jv = .int .i64 (j : Int) ∧ j ≤ xbs.length ∧ Byts zs ∧ wq.ownsRow W.heap.size 5 1 (.slice (some ⟨g, 0, none⟩) (xbs.length + 6) cap) (xbs.length + 6) (zs.map (Value.int .u8)) ∧ WS w wq N (N + 1) (N + 1 + 1) q ys (fun k => if k = 0 then P0 else P1) (upd b k (b k ++ (enc xbs.length ++ xbs))) (upd b k (b k ++ (enc xbs.length ++ xbs))) s s (upd v k (.slice a6 ((b k).length + ((enc xbs.length).length + xbs.length)) c6)) (upd F k F4)) (fun jv _ => xbs.length - (intOf jv).toNat)
              case atStart => exact ⟨0, xbs ++ marks, rfl, Nat.zero_le _, HRd0.out.1.append marks_byts, HM8.out, HW8.out⟩
              case round =>
                clear HW8 HM8
                obtain ⟨j, zs, rfl, hj3, hZ, ho, hWz⟩ := hrel
                by_cases hjl : j < xbs.length
                · have hji : (j : Int) < xbs.length := by omega
                  obtain ⟨y, ey, hy⟩ := xor99 (zs.getD j 0) (hZ.at j)
                  obtain ⟨r1, r2, r3⟩ := own_set y ho (show j < xbs.length + 6 by omega)
                  have HQ := mkHid (And.intro r1 (hWz.other (Kept.setCell (F := fun j => j = g) wr (p := ⟨g, j, none⟩) rfl (.int .u8 y)) HG.out.1 HG.out.2 HF4.out HV7.out))
                  generalize zs.getD j 0 = z at *
                  clear r1 hWz
                  go_wp2
                  go_roundw
                  case rel => exact ⟨j + 1, zs.set j y, by go_num, by omega, hZ.set j hy, HQ.out.1, HQ.out.2⟩
                  case measure => simp [intOf]; omega
                · have HWz := mkHid hWz
                  obtain rfl : j = xbs.length := by omega
                  clear hWz
                  go_wp2
                  go_roundw
                  case rel => exact ⟨i + 1, _, s, _, _, by go_num, by omega, HB3, HWz.out⟩
                  case measure => simp [intOf]; omega
          · by_cases k4 : xk = 4
            · subst k4
              have hbi : ((b k).length : Int) ≤ 2097200 := by omega
              cases hsk : s k with
              | true =>
                rw [hsk] at hWr
                have hEW := HE.out.cells0 HW.out.bel
                obtain ⟨_, ts, _⟩ := HW.out.pcell hk2
                rw [hsk] at ts
                have hsm := HE.out.same
                go_wp2_with (go_at_call 18; refine (done_spoilt (F k) W pk (b k) _ hWr hEW).mono ?_; rintro e w4 ⟨rfl, hb4⟩; have HW4 := mkHid (HW.out.late hb4); have ts4 := cell_later hb4 ts; have hE4 := cell_later hb4 hEW; clear hb4 ts hEW)
                go_roundw
                case rel => exact ⟨i + 1, b, s, v, F, by go_num, by omega, mkHid (fun j hj => by have := HB2.out j hj; omega), HW4.out⟩
                case measure => simp [intOf]; omega
              | false =>
                rw [hsk] at hWr
                obtain ⟨_, ts, _⟩ := HW.out.pcell hk2
                rw [hsk] at ts
                have HBk := mkHid (HW.out.ok k hk2).2
                have HLn : Hid ((b k).length + 3 ≤ maxLen ∧ (b k).length + 3 ≤ 140737488355328) := mkHid ⟨by unfold maxLen; omega, by omega⟩
                have HsW := mkHid (Nat.le_refl W.heap.size)
                go_wp2_with (go_at_call 18; refine (done_ok (F k) W pk (b k) hWr (by omega)).mono ?_; rintro e w4 ⟨v4, rfl, ho4, hb4⟩; have HW4 := mkHid (HW.out.late hb4); have ts4 := cell_later hb4 ts; obtain ⟨pc4, _⟩ := HW4.out.pcell hk2; have cv4 := (Rd.of_owns HBk.out ho4).convs; have cvp := (Rd.of_owns HBk.out (HW4.out.ok k hk2).1).convs; have HO4 := mkHid ho4; have HB4 := mkHid hb4; clear hb4 ts ho4)
                go_quiet (fail)
                clear cv4 cvp
                go_wp2_with (at_builtin; have ho4' := own_late0 HO4.out (show Below w4.heap.size w4 (w4.drewN nq) from ⟨rfl, rfl, rfl, Nat.le_refl _, fun _ _ => rfl⟩); have hbq : Below W.heap.size W (w4.drewN nq) := HB4.out.trans ⟨rfl, rfl, rfl, Nat.le_refl _, fun _ _ => rfl⟩; refine wpList_append_src _ rfl (.tmp 149) (.tmp 150) 27 27 rfl W.heap.size 5 i0 Tryd.underlying27 hi hz0 hz1 hz2 _ _ _ rfl (ho4'.alloc _) _ _ _ rfl (rd_three (w4.drewN nq)).src HLn.out.1 HLn.out.2 (by have := hbq.size; simp at this ⊢ <;> omega) ?_; intro v5 w5 ho5 hg5 _; have hb5 := (hbq.alloc hbq.size _).grown hg5 (by have := hbq.size; simp at this ⊢ <;> omega) (fun j hj => (ho4'.lt j hj).1); rw [← List.map_append] at ho5; obtain ⟨g5, c5, rfl, hg51, hg52, hg53⟩ := own_spot ho5 (by simp <;> omega); clear hg5 ho4')
                have HZB : Hid (Byts (b k ++ [1, 2, 3])) := mkHid (HBk.out.append (by intro z hz; simp at hz; omega))
                have HN5 : Hid (W.heap.size ≤ g5) := mkHid hg51
                have HO5 := mkHid ho5
                have HB5 := mkHid hb5
                clear ho5 hb5 hg51 hg52 hg53
                go_loopw [154] (fun jv wq => ∃ (j : Nat) (zs : List Int), jv = .int .i64 (j : Int) ∧ j ≤ (b k).length + 3 ∧ Byts zs ∧ wq.ownsRow W.heap.size 5 1 (.slice (some ⟨g5, 0, none⟩) ((b k).length + 3) c5) ((b k).length + 3) (zs.map (Value.int .u8)) ∧ Below W.heap.size W wq) (fun jv _ => (b k).length + 3 - (intOf jv).toNat)
                case atStart => exact ⟨0, _, rfl, Nat.zero_le _, HZB.out, HO5.out, HB5.out⟩
                case round =>
                  clear HO5 HB5
                  obtain ⟨j, zs, rfl, hj3, hZ, ho, hbz⟩ := hrel
                  by_cases hjl : j < (b k).length + 3
                  · have hji : (j : Int) < (b k).length + 3 := by omega
                    obtain ⟨y, ey, hy⟩ := xor99 (zs.getD j 0) (hZ.at j)
                    obtain ⟨r1, r2, r3⟩ := own_set y ho hjl
                    have HQ : Hid ((wr.setCell ⟨g5, j, none⟩ (.int .u8 y)).ownsRow W.heap.size 5 1 (.slice (some ⟨g5, 0, none⟩) ((b k).length + 3) c5) ((b k).length + 3) ((zs.set j y).map (Value.int .u8)) ∧ Below W.heap.size W (wr.setCell ⟨g5, j, none⟩ (.int .u8 y))) := ⟨r1, hbz.setCell (p := ⟨g5, j, none⟩) HN5.out _⟩
                    generalize zs.getD j 0 = z at *
                    clear r1
                    go_wp2
                    go_roundw
                    case rel => exact ⟨j + 1, zs.set j y, by go_num, by omega, hZ.set j hy, HQ.out.1, HQ.out.2⟩
                    case measure => simp [intOf]; omega
                  · have HWz := mkHid (HW.out.late hbz)
                    obtain rfl : j = (b k).length + 3 := by omega
                    go_wp2
                    go_roundw
                    case rel => exact ⟨i + 1, b, s, v, F, by go_num, by omega, mkHid (fun j hj => by have := HB2.out j hj; omega), HWz.out⟩
                    case measure => simp [intOf]; omega
            · go_wp2
              go_roundw
              case rel => exact ⟨i + 1, b, s, v, F, by go_num, by omega, mkHid (fun j hj => by have := HB2.out j hj; omega), HW.out⟩
              case measure => simp [intOf]; omega
    · obtain rfl : i = ys.length := by omega
      have hbl := HWS.out.bel
      go_wp2
      go_ret
      exact ⟨rfl, hbl⟩
end Go.Proofs.YtghpehgefbikeaaDoor
