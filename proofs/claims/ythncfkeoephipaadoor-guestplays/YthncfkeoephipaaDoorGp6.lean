/- Two guests and two of the document's, side by side. -/
import Derived.Test.YthncfkeoephipaaDoorGp5
import Derived.Test.YthncfkeoephipaaDoorErrNum15
namespace Go.Proofs.YthncfkeoephipaaDoor
open Go.ChangeShapes Go.WideShapes Go.ChangeAt Go.RowKit
attribute [local go_sem] World.cell?_alloc_some frozen_alloc_some

/-- A guest and the document's, in blocks of F. -/
def Pr (w : World) (p : Int) (F : Nat → Prop) (b d : Nat) (sg sd : Gt) : Prop :=
  ∃ B0 D0 xv jv tv lv jv' ls, GB B0 w b p xv jv sg ∧ DG D0 w d p tv lv jv' ls sd ∧ (∀ k, Ft xv jv b k → F k) ∧ (∀ k, Fd tv lv jv' d k → F k) ∧ (∀ k, Ft xv jv b k → Fd tv lv jv' d k → False) ∧ (∀ k, F k → k < w.heap.size)
theorem Pr.frame {G : Nat → Prop} {w w' : World} {p : Int} {F : Nat → Prop} {b d : Nat} {sg sd : Gt} (h : Pr w p F b d sg sd) (hk : Kept G w w') (hG : ∀ k, G k → F k → False) : Pr w' p F b d sg sd := by
  obtain ⟨B0, D0, xv, jv, tv, lv, jv', ls, hg, hd, h1, h2, h3, h4⟩ := h
  exact ⟨B0, D0, xv, jv, tv, lv, jv', ls, hg.kept hk (fun k g f => hG k g (h1 k f)), hd.kept hk (fun k g f => hG k g (h2 k f)), h1, h2, h3, fun k f => Nat.lt_of_lt_of_le (h4 k f) hk.size⟩
/-- What a step may write, and what it makes. -/
def Stp (F F' : Nat → Prop) (w w' : World) : Prop := Kept F w w' ∧ ∀ k, F' k → F k ∨ w.heap.size ≤ k
theorem Pr.callG {w w' : World} {p : Int} {F : Nat → Prop} {b d B0 D0 : Nat} {xv jv tv lv jv' : Value} {ls : List Int} {sg sd s' : Gt} (_ : GB B0 w b p xv jv sg) (hd : DG D0 w d p tv lv jv' ls sd) (h1 : ∀ k, Ft xv jv b k → F k) (h2 : ∀ k, Fd tv lv jv' d k → F k) (h3 : ∀ k, Ft xv jv b k → Fd tv lv jv' d k → False) (h4 : ∀ k, F k → k < w.heap.size) (hc : GC B0 w b p xv jv s' w') : ∃ F', Pr w' p F' b d s' sd ∧ Stp F F' w w' := by
  obtain ⟨jv2, hg2, hk, hn⟩ := hc
  refine ⟨fun k => (F k ∨ w.heap.size ≤ k) ∧ k < w'.heap.size, ⟨B0, D0, xv, jv2, tv, lv, jv', ls, hg2, hd.kept hk (fun k e f => h3 k e f), fun k f => ?_, fun k f => ⟨.inl (h2 k f), Nat.lt_of_lt_of_le (h4 k (h2 k f)) hk.size⟩, fun k f f2 => ?_, fun k f => f.2⟩, hk.mono (fun k e => h1 k e), fun k f => f.1⟩
  · refine ⟨?_, (hg2.foot f).2⟩
    rcases f with f | f | f
    · exact .inl (h1 k (.inl f))
    · exact .inl (h1 k (.inr (.inl f)))
    · rcases hn k f with q | q
      · exact .inl (h1 k (.inr (.inr q)))
      · exact .inr q
  · rcases f with f | f | f
    · exact h3 k (.inl f) f2
    · exact h3 k (.inr (.inl f)) f2
    · rcases hn k f with q | q
      · exact h3 k (.inr (.inr q)) f2
      · have := (hd.foot f2).2; omega
theorem Pr.callD {w w' : World} {p : Int} {F : Nat → Prop} {b d B0 D0 : Nat} {xv jv tv lv jv' : Value} {ls : List Int} {sg sd s' : Gt} (hg : GB B0 w b p xv jv sg) (_ : DG D0 w d p tv lv jv' ls sd) (h1 : ∀ k, Ft xv jv b k → F k) (h2 : ∀ k, Fd tv lv jv' d k → F k) (h3 : ∀ k, Ft xv jv b k → Fd tv lv jv' d k → False) (h4 : ∀ k, F k → k < w.heap.size) (hc : DC D0 w d p tv lv jv' s' w') : ∃ F', Pr w' p F' b d sg s' ∧ Stp F F' w w' := by
  obtain ⟨jv2, ls2, hd2, hk, hn⟩ := hc
  refine ⟨fun k => (F k ∨ w.heap.size ≤ k) ∧ k < w'.heap.size, ⟨B0, D0, xv, jv, tv, lv, jv2, ls2, hg.kept hk (fun k e f => h3 k f e), hd2, fun k f => ⟨.inl (h1 k f), Nat.lt_of_lt_of_le (h4 k (h1 k f)) hk.size⟩, fun k f => ?_, fun k f f2 => ?_, fun k f => f.2⟩, hk.mono (fun k e => h2 k e), fun k f => f.1⟩
  · refine ⟨?_, (hd2.foot f).2⟩
    rcases f with f | f | f | f
    · exact .inl (h2 k (.inl f))
    · exact .inl (h2 k (.inr (.inl f)))
    · exact .inl (h2 k (.inr (.inr (.inl f))))
    · rcases hn k f with q | q
      · exact .inl (h2 k (.inr (.inr (.inr q))))
      · exact .inr q
  · rcases f2 with f2 | f2 | f2 | f2
    · exact h3 k f (.inl f2)
    · exact h3 k f (.inr (.inl f2))
    · exact h3 k f (.inr (.inr (.inl f2)))
    · rcases hn k f2 with q | q
      · exact h3 k f (.inr (.inr (.inr q)))
      · have := (hg.foot f).2; omega
theorem Pr.idle {w w' : World} {p : Int} {F : Nat → Prop} {b d : Nat} {sg sd : Gt} (h : Pr w p F b d sg sd) (hb : Below w.heap.size w w') : ∃ F', Pr w' p F' b d sg sd ∧ Stp F F' w w' := ⟨F, h.frame (kept_new (F := fun _ => False) hb) (fun _ f _ => f), kept_new hb, fun _ f => .inl f⟩
def up {α : Type} (f : Nat → α) (i : Nat) (x : α) : Nat → α := fun k => if k = i then x else f k
theorem up_at {α : Type} (f : Nat → α) (i : Nat) (x : α) : up f i x i = x := if_pos rfl
theorem up_ne {α : Type} (f : Nat → α) {i k : Nat} (x : α) (h : ¬ k = i) : up f i x k = f k := if_neg h
/-- A case, two arrays and the first n pairs in a law's memory. -/
structure LP (W w : World) (R GS MS : Nat) (p : Int) (tv sv : Value) (n : Nat) (bs ds : Nat → Nat) (Fs : Nat → Nat → Prop) (sg sd : Nat → Gt) (ts : List Tk) : Prop where
  bel : Below W.heap.size W w
  rw : W.heap.size ≤ R
  gw : R < GS
  mw : GS < MS
  cb : CB w R p tv sv
  gs : w.heap[GS]? = some (.cells #[if 0 < n then .pointer (some ⟨bs 0, 0, none⟩) else .pointer none, if 1 < n then .pointer (some ⟨bs 1, 0, none⟩) else .pointer none] 28 (0, 0))
  ms : w.heap[MS]? = some (.cells #[if 0 < n then .pointer (some ⟨ds 0, 0, none⟩) else .pointer none, if 1 < n then .pointer (some ⟨ds 1, 0, none⟩) else .pointer none] 30 (0, 0))
  pr : ∀ i, i < n → Pr w p (Fs i) (bs i) (ds i) (sg i) (sd i)
  ok : ∀ i, i < n → (sg i).Ok p ∧ (sd i).Ok p ∧ (sg i).ts = ts ∧ (sd i).ts = ts
  lo : ∀ i, i < n → ∀ k, Fs i k → MS < k
  dis : ∀ i j, i < n → j < n → ¬ i = j → ∀ k, Fs i k → Fs j k → False
theorem LP.late {W w w' : World} {R GS MS : Nat} {p : Int} {tv sv : Value} {n : Nat} {bs ds : Nat → Nat} {Fs : Nat → Nat → Prop} {sg sd : Nat → Gt} {ts : List Tk} (h : LP W w R GS MS p tv sv n bs ds Fs sg sd ts) (hb : Below w.heap.size w w') : LP W w' R GS MS p tv sv n bs ds Fs sg sd ts :=
  ⟨bt h.bel hb, h.rw, h.gw, h.mw, h.cb.late hb, blk_late h.gs hb, blk_late h.ms hb, fun i hi => (h.pr i hi).frame (kept_new (F := fun _ => False) hb) (fun _ f _ => f), h.ok, h.lo, h.dis⟩
theorem LP.alloc {W w : World} {R GS MS : Nat} {p : Int} {tv sv : Value} {n : Nat} {bs ds : Nat → Nat} {Fs : Nat → Nat → Prop} {sg sd : Nat → Gt} {ts : List Tk} (h : LP W w R GS MS p tv sv n bs ds Fs sg sd ts) (o : Obj) : LP W (w.alloc o) R GS MS p tv sv n bs ds Fs sg sd ts := h.late (ba (Below.refl _ _) o)
theorem LP.drew {W w : World} {R GS MS : Nat} {p : Int} {tv sv : Value} {n : Nat} {bs ds : Nat → Nat} {Fs : Nat → Nat → Prop} {sg sd : Nat → Gt} {ts : List Tk} (h : LP W w R GS MS p tv sv n bs ds Fs sg sd ts) : LP W w.drew R GS MS p tv sv n bs ds Fs sg sd ts := h.late (Below.refl _ w).drew
/-- A step of one of the pairs. -/
theorem LP.step {W w w' : World} {R GS MS : Nat} {p : Int} {tv sv : Value} {n : Nat} {bs ds : Nat → Nat} {Fs : Nat → Nat → Prop} {sg sd : Nat → Gt} {ts : List Tk} (h : LP W w R GS MS p tv sv n bs ds Fs sg sd ts) {i : Nat} (hi : i < n) {F' : Nat → Prop} {s1 s2 : Gt} (hp : Pr w' p F' (bs i) (ds i) s1 s2) (hs : Stp (Fs i) F' w w') (o1 : s1.Ok p) (o2 : s2.Ok p) (t1 : s1.ts = ts) (t2 : s2.ts = ts) :
    LP W w' R GS MS p tv sv n bs ds (up Fs i F') (up sg i s1) (up sd i s2) ts := by
  obtain ⟨hk, hF⟩ := hs
  have lG : GS < w.heap.size := lt_of_heap h.gs
  have lM : MS < w.heap.size := lt_of_heap h.ms
  have h1 := h.rw
  have h2 := h.gw
  have h3 := h.mw
  have nF : ∀ k, k ≤ MS → ¬ Fs i k := fun k hk f => by have := h.lo i hi k f; omega
  refine ⟨h.bel.trans (hk.below (fun k f => by have := h.lo i hi k f; omega) h.bel.size), h1, h2, h3, (hk.block R h.cb.lt (nF R (by omega))).trans h.cb, (hk.block GS lG (nF GS (by omega))).trans h.gs, (hk.block MS lM (nF MS (by omega))).trans h.ms, fun j hj => ?_, fun j hj => ?_, fun j hj k f => ?_, fun j l hj hl hne k f f2 => ?_⟩
  · by_cases e : j = i
    · subst e; rw [up_at, up_at, up_at]; exact hp
    · rw [up_ne _ _ e, up_ne _ _ e, up_ne _ _ e]
      exact (h.pr j hj).frame hk (fun k f f2 => h.dis i j hi hj (fun q => e q.symm) k f f2)
  · by_cases e : j = i
    · subst e; rw [up_at, up_at]; exact ⟨o1, o2, t1, t2⟩
    · rw [up_ne _ _ e, up_ne _ _ e]; exact h.ok j hj
  · by_cases e : j = i
    · subst e
      rw [up_at] at f
      rcases hF k f with q | q
      · exact h.lo j hj k q
      · omega
    · rw [up_ne _ _ e] at f; exact h.lo j hj k f
  · have hlt : ∀ q, q < n → ∀ k, Fs q k → k < w.heap.size := fun q hq k f => by
      obtain ⟨_, _, _, _, _, _, _, _, _, _, _, _, _, h4⟩ := h.pr q hq
      exact h4 k f
    by_cases e : j = i
    · have el : ¬ l = i := fun q => hne (e.trans q.symm)
      subst e
      rw [up_at] at f
      rw [up_ne _ _ el] at f2
      rcases hF k f with q | q
      · exact h.dis j l hj hl hne k q f2
      · have := hlt l hl k f2; omega
    · rw [up_ne _ _ e] at f
      by_cases e2 : l = i
      · subst e2
        rw [up_at] at f2
        rcases hF k f2 with q | q
        · exact h.dis j l hj hl hne k f q
        · have := hlt j hj k f; omega
      · rw [up_ne _ _ e2] at f2; exact h.dis j l hj hl hne k f f2
theorem LP.off {W w w' : World} {R GS MS K : Nat} {p : Int} {tv sv : Value} {n : Nat} {bs ds : Nat → Nat} {Fs : Nat → Nat → Prop} {sg sd : Nat → Gt} {ts : List Tk} (h : LP W w R GS MS p tv sv n bs ds Fs sg sd ts) (hk : Kept (fun k => k = K) w w') (hK : MS < K) (hn : ∀ i, i < n → ¬ Fs i K) : LP W w' R GS MS p tv sv n bs ds Fs sg sd ts := by
  have h1 := h.rw
  have h2 := h.gw
  have h3 := h.mw
  exact ⟨h.bel.trans (hk.below (fun k e => by omega) h.bel.size), h1, h2, h3, (hk.block R h.cb.lt (by omega)).trans h.cb, (hk.block GS (lt_of_heap h.gs) (by omega)).trans h.gs, (hk.block MS (lt_of_heap h.ms) (by omega)).trans h.ms, fun i hi => (h.pr i hi).frame hk (fun k e f => hn i hi (e ▸ f)), h.ok, h.lo, h.dis⟩
theorem LP.flt {W w : World} {R GS MS : Nat} {p : Int} {tv sv : Value} {n : Nat} {bs ds : Nat → Nat} {Fs : Nat → Nat → Prop} {sg sd : Nat → Gt} {ts : List Tk} (h : LP W w R GS MS p tv sv n bs ds Fs sg sd ts) {i k : Nat} (hi : i < n) (f : Fs i k) : k < w.heap.size := by
  obtain ⟨_, _, _, _, _, _, _, _, _, _, _, _, _, h4⟩ := h.pr i hi
  exact h4 k f
/-- A pair more. -/
theorem LP.grow {W w : World} {R GS MS : Nat} {p : Int} {tv sv : Value} {n : Nat} {bs ds : Nat → Nat} {Fs : Nat → Nat → Prop} {st : Gt} {ts : List Tk} (h : LP W w R GS MS p tv sv n bs ds Fs (fun _ => st) (fun _ => st) ts) (hn : n = 0 ∨ n = 1) {F : Nat → Prop} {b d : Nat} (hp : Pr w p F b d st st) (hF : ∀ k, F k → MS < k ∧ ∀ i, i < n → ¬ Fs i k) (ok : st.Ok p) (e : st.ts = ts) :
    LP W ((w.setCell ⟨GS, n, none⟩ (.pointer (some ⟨b, 0, none⟩))).setCell ⟨MS, n, none⟩ (.pointer (some ⟨d, 0, none⟩))) R GS MS p tv sv (n + 1) (up bs n b) (up ds n d) (up Fs n F) (fun _ => st) (fun _ => st) ts := by
  have h1 := h.rw
  have h2 := h.gw
  have h3 := h.mw
  have k1 := Kept.setCell (F := fun k => k = GS) w (p := ⟨GS, n, none⟩) rfl (.pointer (some ⟨b, 0, none⟩))
  have k2 := Kept.setCell (F := fun k => k = MS) (w.setCell ⟨GS, n, none⟩ (.pointer (some ⟨b, 0, none⟩))) (p := ⟨MS, n, none⟩) rfl (.pointer (some ⟨d, 0, none⟩))
  have k3 : Kept (fun k => k = GS ∨ k = MS) w _ := (k1.mono (fun k e => .inl e)).trans k2 (fun k e => .inl (.inr e))
  have hg1 := heap_set (i := n) (v := .pointer (some ⟨b, 0, none⟩)) h.gs
  have hg2 := (k2.block GS (lt_of_heap hg1) (by omega)).trans hg1
  have hm1 := (k1.block MS (lt_of_heap h.ms) (by omega)).trans h.ms
  have hm2 := heap_set (i := n) (v := .pointer (some ⟨d, 0, none⟩)) hm1
  refine ⟨h.bel.trans (k3.below (fun k e => by omega) h.bel.size), h1, h2, h3, (k3.block R h.cb.lt (by omega)).trans h.cb, ?_, ?_, fun i hi => ?_, fun i hi => ⟨ok, ok, e, e⟩, fun i hi k f => ?_, fun i j hi hj hne k f f2 => ?_⟩
  · rw [hg2]
    rcases hn with rfl | rfl <;> simp [up]
  · rw [hm2]
    rcases hn with rfl | rfl <;> simp [up]
  · by_cases q : i = n
    · subst q
      rw [up_at, up_at, up_at]
      exact hp.frame k3 (fun k e f => by have := (hF k f).1; omega)
    · rw [up_ne _ _ q, up_ne _ _ q, up_ne _ _ q]
      exact (h.pr i (by omega)).frame k3 (fun k e f => by have := h.lo i (by omega) k f; omega)
  · by_cases q : i = n
    · subst q; rw [up_at] at f; exact (hF k f).1
    · rw [up_ne _ _ q] at f; exact h.lo i (by omega) k f
  · by_cases q : i = n
    · have q2 : ¬ j = n := fun z => hne (q.trans z.symm)
      subst q
      rw [up_at] at f
      rw [up_ne _ _ q2] at f2
      exact (hF k f).2 j (by omega) f2
    · rw [up_ne _ _ q] at f
      by_cases q2 : j = n
      · subst q2
        rw [up_at] at f2
        exact (hF k f2).2 i (by omega) f
      · rw [up_ne _ _ q2] at f2; exact h.dis i j (by omega) (by omega) hne k f f2
theorem up_same {α : Type} (f : Nat → α) (i : Nat) : up f i (f i) = f := by
  funext k
  unfold up
  split
  · rename_i e; rw [e]
  · rfl
/-- What lies beside the pairs stays there. -/
def Kx (n : Nat) (Fs Fs' : Nat → Nat → Prop) (w w' : World) : Prop := ∀ K o, w.heap[K]? = some o → (∀ i, i < n → ¬ Fs i K) → w'.heap[K]? = some o ∧ ∀ i, i < n → ¬ Fs' i K
theorem Kx.step {n : Nat} {Fs : Nat → Nat → Prop} {w w' : World} {i : Nat} (hi : i < n) {F' : Nat → Prop} (hs : Stp (Fs i) F' w w') : Kx n Fs (up Fs i F') w w' := by
  intro K o hK hn
  have hl := lt_of_heap hK
  refine ⟨(hs.1.block K hl (hn i hi)).trans hK, fun j hj f => ?_⟩
  by_cases e : j = i
  · subst e
    rw [up_at] at f
    rcases hs.2 K f with q | q
    · exact hn j hj q
    · omega
  · rw [up_ne _ _ e] at f; exact hn j hj f
theorem Kx.late {n : Nat} {Fs : Nat → Nat → Prop} {w w' : World} (hb : Below w.heap.size w w') : Kx n Fs Fs w w' := fun _ _ hK hn => ⟨blk_late hK hb, hn⟩
theorem lp_release {W w : World} {R GS MS : Nat} {p : Int} {tv sv : Value} {n : Nat} {bs ds : Nat → Nat} {Fs : Nat → Nat → Prop} {sg sd : Nat → Gt} {ts : List Tk} (h : LP W w R GS MS p tv sv n bs ds Fs sg sd ts) {i : Nat} (hi : i < n) (k now ticks : Int) {a : Nat → Addr} (E : Eg w a) : Calls Tryd.prog 13 #[.pointer (some ⟨bs i, 0, none⟩), .int .i64 k, .int .i64 now, .int .i64 ticks] w fun e w' => e = .returned (eg a (relC (sg i) k now)) ∧ ∃ Fs', LP W w' R GS MS p tv sv n bs ds Fs' (up sg i ((sg i).rel k now ticks)) sd ts ∧ Kx n Fs Fs' w w' := by
  obtain ⟨B0, D0, xv, jv, tv1, lv, jv', ls, hg, hd, h1, h2, h3, h4⟩ := h.pr i hi
  obtain ⟨o1, o2, t1, t2⟩ := h.ok i hi
  refine (release_is B0 w (bs i) p xv jv (sg i) k now ticks a hg o1 E).mono ?_
  rintro e w' ⟨rfl, hc⟩
  obtain ⟨F', hp, hs⟩ := Pr.callG hg hd h1 h2 h3 h4 hc
  have := h.step hi hp hs (o1.rel _ _ _) o2 ((rel_ts _ _ _ _).trans t1) t2
  rw [up_same sd] at this
  exact ⟨rfl, _, this, Kx.step hi hs⟩
theorem lp_drelease {W w : World} {R GS MS : Nat} {p : Int} {tv sv : Value} {n : Nat} {bs ds : Nat → Nat} {Fs : Nat → Nat → Prop} {sg sd : Nat → Gt} {ts : List Tk} (h : LP W w R GS MS p tv sv n bs ds Fs sg sd ts) {i : Nat} (hi : i < n) (k now ticks : Int) : Calls Tryd.prog 14 #[.pointer (some ⟨ds i, 0, none⟩), .int .i64 k, .int .i64 now, .int .i64 ticks] w fun e w' => e = .returned (.int .i64 (relC (sd i) k now)) ∧ ∃ Fs', LP W w' R GS MS p tv sv n bs ds Fs' sg (up sd i ((sd i).rel k now ticks)) ts ∧ Kx n Fs Fs' w w' := by
  obtain ⟨B0, D0, xv, jv, tv1, lv, jv', ls, hg, hd, h1, h2, h3, h4⟩ := h.pr i hi
  obtain ⟨o1, o2, t1, t2⟩ := h.ok i hi
  refine (drelease_is D0 w (ds i) p tv1 lv jv' ls (sd i) k now ticks hd o2).mono ?_
  rintro e w' ⟨rfl, hc⟩
  obtain ⟨F', hp, hs⟩ := Pr.callD hg hd h1 h2 h3 h4 hc
  have := h.step hi hp hs o1 (o2.rel _ _ _) t1 ((rel_ts _ _ _ _).trans t2)
  rw [up_same sg] at this
  exact ⟨rfl, _, this, Kx.step hi hs⟩
/-- What a run answers. -/
def runR (p : Int) (s : Gt) (r : Jb) (e : Bool) (n : Int) (s' : Gt) : Prop := (s.js.length = 0 ∧ r = j0 ∧ e = false ∧ n = 16 ∧ s' = s) ∨ ∃ j, s.js[nx p s.ts s.js]? = some j ∧ r = j.ran ∧ e = decide (j.lf = 1) ∧ n = 0 ∧ s' = ⟨s.xs, runL (nx p s.ts s.js) j s.js⟩
theorem runR_ex (p : Int) (s : Gt) : ∃ r e n s', runR p s r e n s' := by
  by_cases hz : s.js.length = 0
  · exact ⟨_, _, _, _, .inl ⟨hz, rfl, rfl, rfl, rfl⟩⟩
  · exact ⟨_, _, _, _, .inr ⟨_, List.getElem?_eq_getElem (nx_lt p s.ts s.js (by omega)), rfl, rfl, rfl, rfl⟩⟩
/-- The error of a run. -/
def er (a : Nat → Addr) (n : Int) : Value := if n = 16 then vE (a 15) else .nilIface
theorem runR.ok {p : Int} {s : Gt} {r : Jb} {e : Bool} {n : Int} {s' : Gt} (h : runR p s r e n s') (o : s.Ok p) : s'.Ok p ∧ s'.ts = s.ts := by
  rcases h with ⟨_, _, _, _, rfl⟩ | ⟨j, hj, _, _, _, rfl⟩
  · exact ⟨o, rfl⟩
  · exact ⟨o.run hj, rfl⟩
theorem lp_run {W w : World} {R GS MS : Nat} {p : Int} {tv sv : Value} {n : Nat} {bs ds : Nat → Nat} {Fs : Nat → Nat → Prop} {sg sd : Nat → Gt} {ts : List Tk} (h : LP W w R GS MS p tv sv n bs ds Fs sg sd ts) {i : Nat} (hi : i < n) {a : Nat → Addr} (E : Es w a) {r : Jb} {en : Bool} {nn : Int} {s' : Gt} (hr : runR p (sg i) r en nn s') : Calls Tryd.prog 15 #[.pointer (some ⟨bs i, 0, none⟩)] w fun e w' => e = .returned (.tuple #[vJ r, .bool en, er a nn]) ∧ ∃ Fs', LP W w' R GS MS p tv sv n bs ds Fs' (up sg i s') sd ts ∧ Kx n Fs Fs' w w' := by
  obtain ⟨o1, o2, t1, t2⟩ := h.ok i hi
  obtain ⟨o', t'⟩ := hr.ok o1
  have hpr := h.pr i hi
  obtain ⟨B0, D0, xv, jv, tv1, lv, jv', ls, hg, hd, h1, h2, h3, h4⟩ := id hpr
  rcases hr with ⟨hz, rfl, rfl, rfl, rfl⟩ | ⟨j, hj, rfl, rfl, rfl, rfl⟩
  · refine (run_none B0 w (bs i) p xv jv (sg i) _ hg hz E.state).mono ?_
    rintro e w' ⟨rfl, hb⟩
    have := h.late hb
    exact ⟨rfl, Fs, by rw [up_same]; exact this, Kx.late hb⟩
  · by_cases hlf : j.lf = 1
    · rw [decide_eq_true hlf]
      refine (run_end B0 w (bs i) p xv jv (sg i) j hg o1 hj hlf).mono ?_
      rintro e w' ⟨rfl, hc⟩
      obtain ⟨F', hp, hs⟩ := Pr.callG hg hd h1 h2 h3 h4 hc
      have := h.step hi hp hs o' o2 (t'.trans t1) t2
      rw [up_same sd] at this
      exact ⟨rfl, _, this, Kx.step hi hs⟩
    · rw [decide_eq_false hlf]
      refine (run_on B0 w (bs i) p xv jv (sg i) j hg o1 hj hlf).mono ?_
      rintro e w' ⟨rfl, hc⟩
      obtain ⟨F', hp, hs⟩ := Pr.callG hg hd h1 h2 h3 h4 hc
      have := h.step hi hp hs o' o2 (t'.trans t1) t2
      rw [up_same sd] at this
      exact ⟨rfl, _, this, Kx.step hi hs⟩
theorem lp_drun {W w : World} {R GS MS : Nat} {p : Int} {tv sv : Value} {n : Nat} {bs ds : Nat → Nat} {Fs : Nat → Nat → Prop} {sg sd : Nat → Gt} {ts : List Tk} (h : LP W w R GS MS p tv sv n bs ds Fs sg sd ts) {i : Nat} (hi : i < n) {r : Jb} {en : Bool} {nn : Int} {s' : Gt} (hr : runR p (sd i) r en nn s') : Calls Tryd.prog 16 #[.pointer (some ⟨ds i, 0, none⟩)] w fun e w' => e = .returned (.tuple #[vJ r, .bool en, .int .i64 nn]) ∧ ∃ Fs', LP W w' R GS MS p tv sv n bs ds Fs' sg (up sd i s') ts ∧ Kx n Fs Fs' w w' := by
  obtain ⟨o1, o2, t1, t2⟩ := h.ok i hi
  obtain ⟨o', t'⟩ := hr.ok o2
  obtain ⟨B0, D0, xv, jv, tv1, lv, jv', ls, hg, hd, h1, h2, h3, h4⟩ := h.pr i hi
  rcases hr with ⟨hz, rfl, rfl, rfl, rfl⟩ | ⟨j, hj, rfl, rfl, rfl, rfl⟩
  · refine (drun_none D0 w (ds i) p tv1 lv jv' ls (sd i) hd o2 hz).mono ?_
    rintro e w' ⟨rfl, hb⟩
    have := h.late hb
    exact ⟨rfl, Fs, by rw [up_same]; exact this, Kx.late hb⟩
  · by_cases hlf : j.lf = 1
    · rw [decide_eq_true hlf]
      refine (drun_end D0 w (ds i) p tv1 lv jv' ls (sd i) j hd o2 hj hlf).mono ?_
      rintro e w' ⟨rfl, hc⟩
      obtain ⟨F', hp, hs⟩ := Pr.callD hg hd h1 h2 h3 h4 hc
      have := h.step hi hp hs o1 o' t1 (t'.trans t2)
      rw [up_same sg] at this
      exact ⟨rfl, _, this, Kx.step hi hs⟩
    · rw [decide_eq_false hlf]
      refine (drun_on D0 w (ds i) p tv1 lv jv' ls (sd i) j hd o2 hj hlf).mono ?_
      rintro e w' ⟨rfl, hc⟩
      obtain ⟨F', hp, hs⟩ := Pr.callD hg hd h1 h2 h3 h4 hc
      have := h.step hi hp hs o1 o' t1 (t'.trans t2)
      rw [up_same sg] at this
      exact ⟨rfl, _, this, Kx.step hi hs⟩
theorem lp_asks {W w : World} {R GS MS : Nat} {p : Int} {tv sv : Value} {n : Nat} {bs ds : Nat → Nat} {Fs : Nat → Nat → Prop} {sg sd : Nat → Gt} {ts : List Tk} (h : LP W w R GS MS p tv sv n bs ds Fs sg sd ts) {i : Nat} (hi : i < n) (he : sg i = sd i) (now : Int) : Calls Tryd.prog 17 #[.pointer (some ⟨bs i, 0, none⟩), .pointer (some ⟨ds i, 0, none⟩), .int .i64 now] w fun e w' => e = .returned (.bool true) ∧ Below w.heap.size w w' := by
  obtain ⟨o1, o2, t1, t2⟩ := h.ok i hi
  obtain ⟨B0, D0, xv, jv, tv1, lv, jv', ls, hg, hd, h1, h2, h3, h4⟩ := h.pr i hi
  rw [he] at hg o1
  exact asks_is B0 D0 w (bs i) (ds i) p xv jv tv1 lv jv' ls (sd i) now hg hd o1
theorem and1i (n : Int) : bits .and .i64 n 1 = 0 ∨ bits .and .i64 n 1 = 1 := by
  have h : bits .and .i64 n 1 = n % 2 := by
    have h : (BitVec.ofInt 64 1).toNat = 2 ^ 1 - 1 := by decide
    have key : (BitVec.ofInt 64 n &&& BitVec.ofInt 64 1).toNat = (n % ((2 ^ 64 : Nat) : Int)).toNat % 2 ^ 1 := by
      rw [BitVec.toNat_and, BitVec.toNat_ofInt, h, Nat.and_two_pow_sub_one_eq_mod]
    show IntKind.i64.wrap ((BitVec.ofInt 64 n &&& BitVec.ofInt 64 1).toNat : Nat) = _
    rw [key, IntKind.wrap_i64]
    omega
  omega
/-- The number of an error that a guest answers. -/
theorem num_eg (w : World) (a : Nat → Addr) (E : Errs w a) (n : Int) (hn : n = 0 ∨ n = 1 ∨ n = 7 ∨ n = 14) : Calls Tryd.prog 12 #[eg a n] w fun e w' => e = .returned (.int .i64 n) ∧ Below w.heap.size w w' := by
  rcases hn with rfl | rfl | rfl | rfl
  · refine (errnum_nil w).mono ?_
    rintro e w' ⟨h, rfl⟩
    exact ⟨h, Below.refl _ _⟩
  · exact errnum_number w a E
  · exact errnum_full w a E
  · exact errnum_busy w a E
theorem num_er (w : World) (a : Nat → Addr) (E : Errs w a) (n : Int) (hn : n = 0 ∨ n = 16) : Calls Tryd.prog 12 #[er a n] w fun e w' => e = .returned (.int .i64 n) ∧ Below w.heap.size w w' := by
  rcases hn with rfl | rfl
  · refine (errnum_nil w).mono ?_
    rintro e w' ⟨h, rfl⟩
    exact ⟨h, Below.refl _ _⟩
  · exact errnum_state w a E
theorem Errs.es {w : World} {a : Nat → Addr} (h : Errs w a) : Es w a := ⟨⟨h.cell_number, h.cell_busy, h.cell_full, h.cell_task⟩, h.cell_state⟩
theorem relC_num (s : Gt) (k now : Int) : relC s k now = 0 ∨ relC s k now = 1 ∨ relC s k now = 7 ∨ relC s k now = 14 := by
  rcases relC_cases s k now with ⟨e, _⟩ | ⟨_, _, i, x, _, _, _, ⟨e, _⟩ | ⟨e, _⟩ | ⟨e, _⟩⟩ <;> omega
theorem runR.num {p : Int} {s : Gt} {r : Jb} {e : Bool} {n : Int} {s' : Gt} (h : runR p s r e n s') : n = 0 ∨ n = 16 := by
  rcases h with ⟨_, _, _, h, _⟩ | ⟨_, _, _, _, h, _⟩
  · exact .inr h
  · exact .inl h
end Go.Proofs.YthncfkeoephipaaDoor
