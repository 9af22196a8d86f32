/- Entries: their numbers, their form, their bytes. -/
import Derived.Test.YtjocjkfllicjdaaDoorEnc
namespace Go.Proofs.YtjocjkfllicjdaaDoor

abbrev Tk := Int × Int × Int × Int
structure En where
  cl : Int
  nu : Int
  ki : Int
  id : Int
  sk : Int
  sq : Int
  st : Int
  po : Int
  ts : List Tk
  tm : Int
def amt (n : Int) : Prop := 0 ≤ n ∧ n ≤ 1099511627776
def tnum (t : Tk) : List Int := [t.1, t.2.1, t.2.2.1, t.2.2.2]
def hnum (e : En) : List Int := [e.cl, e.nu, e.ki, e.tm, e.id, e.sk, e.sq, e.st, e.po]
def okT (t : Tk) : Prop := amt t.1 ∧ amt t.2.1 ∧ amt t.2.2.1 ∧ amt t.2.2.2
def kindF (e : En) : Prop :=
  ((e.ki = 1 ∨ e.ki = 2) ∧ e.po = 0 ∧ e.ts = []) ∨ (e.ki = 3 ∧ (e.sk = 0 ∧ e.sq = 0 ∧ e.st = 0) ∧ e.po = 0 ∧ e.ts = []) ∨ (e.ki = 4 ∧ e.sk = 0 ∧ e.sq = 0 ∧ e.st = 0)
/-- An entry in form. -/
def inF (e : En) : Prop := (e.cl < 16 ∧ 1 ≤ e.nu) ∧ (e.ts.length ≤ 8 ∧ (∀ n ∈ hnum e, amt n) ∧ ∀ t ∈ e.ts, okT t) ∧ kindF e
/-- An entry's numbers, in the order of its bytes. -/
def nums (e : En) : List Int := hnum e ++ ((e.ts.length : Int) :: e.ts.flatMap tnum)
def encL (l : List Int) : List Int := l.flatMap (fun n => enc n.toNat)
def bytesE (e : En) : List Int := encL (nums e)
theorem encL_nil : encL [] = [] := rfl
theorem encL_cons (n : Int) (l : List Int) : encL (n :: l) = enc n.toNat ++ encL l := rfl
theorem encL_append (a b : List Int) : encL (a ++ b) = encL a ++ encL b := by simp [encL]
theorem encL_byts (l : List Int) : Byts (encL l) := by
  induction l with
  | nil => exact Byts.nil
  | cons n l ih => exact Byts.append (enc_byts _) ih
theorem encL_len (l : List Int) (h : ∀ n ∈ l, n ≤ 9223372036854775807) : (encL l).length ≤ 9 * l.length := by
  induction l with
  | nil => simp [encL_nil]
  | cons n l ih =>
    have h1 := enc_len9 n.toNat (by have := h n (by simp); omega)
    have h2 := ih (fun m hm => h m (by simp [hm]))
    rw [encL_cons, List.length_append, List.length_cons]
    omega
theorem encL_free : ∀ (l m : List Int) (r s : List Int), (∀ n ∈ l, 0 ≤ n) → (∀ n ∈ m, 0 ≤ n) → l.length = m.length → encL l ++ r = encL m ++ s → l = m ∧ r = s
  | [], [], r, s, _, _, _, h => ⟨rfl, by simpa [encL_nil] using h⟩
  | [], _ :: _, _, _, _, _, h, _ => by simp at h
  | _ :: _, [], _, _, _, _, h, _ => by simp at h
  | a :: l, b :: m, r, s, hl, hm, hlen, h => by
    rw [encL_cons, encL_cons, List.append_assoc, List.append_assoc] at h
    obtain ⟨h1, h2⟩ := enc_free _ _ _ _ h
    obtain ⟨h3, h4⟩ := encL_free l m r s (fun n hn => hl n (by simp [hn])) (fun n hn => hm n (by simp [hn])) (by simpa using hlen) h2
    have ha := hl a (by simp)
    have hb := hm b (by simp)
    exact ⟨by rw [h3, show a = b by omega], h4⟩
theorem tnum_len (ts : List Tk) : (ts.flatMap tnum).length = 4 * ts.length := by
  induction ts with
  | nil => rfl
  | cons t ts ih => rw [List.flatMap_cons, List.length_append, ih, List.length_cons]; simp [tnum]; omega
theorem nums_len (e : En) : (nums e).length = 10 + 4 * e.ts.length := by simp only [nums, List.length_append, List.length_cons, tnum_len]; simp [hnum]; omega
theorem tnum_inj : ∀ (a b : List Tk), a.flatMap tnum = b.flatMap tnum → a = b
  | [], [], _ => rfl
  | [], b :: l, h => by simp [List.flatMap_cons, tnum] at h
  | a :: l, [], h => by simp [List.flatMap_cons, tnum] at h
  | (a0, a1, a2, a3) :: l, (b0, b1, b2, b3) :: m, h => by
    simp only [List.flatMap_cons, tnum, List.cons_append, List.nil_append, List.cons.injEq] at h
    obtain ⟨rfl, rfl, rfl, rfl, h⟩ := h
    rw [tnum_inj l m h]
theorem nums_inj {a b : En} (h : nums a = nums b) : a = b := by
  obtain ⟨a0, a1, a2, a3, a4, a5, a6, a7, a8, a9⟩ := a
  obtain ⟨b0, b1, b2, b3, b4, b5, b6, b7, b8, b9⟩ := b
  simp only [nums, hnum, List.cons_append, List.nil_append, List.cons.injEq] at h
  obtain ⟨rfl, rfl, rfl, rfl, rfl, rfl, rfl, rfl, rfl, _, h⟩ := h
  rw [tnum_inj _ _ h]
theorem inF.all {e : En} (h : inF e) : ∀ n ∈ nums e, amt n := by
  obtain ⟨_, ⟨h8, hh, ht⟩, _⟩ := h
  intro n hn
  simp only [nums, List.mem_append, List.mem_cons, List.mem_flatMap] at hn
  rcases hn with hn | rfl | ⟨t, hm, hn⟩
  · exact hh n hn
  · exact ⟨by omega, by omega⟩
  · obtain ⟨t0, t1, t2, t3⟩ := ht t hm
    simp only [tnum, List.mem_cons, List.not_mem_nil, or_false] at hn
    rcases hn with rfl | rfl | rfl | rfl <;> assumption
theorem inF.pos {e : En} (h : inF e) : ∀ n ∈ nums e, 0 ≤ n := fun n hn => (h.all n hn).1
theorem inF.len {e : En} (h : inF e) : (nums e).length ≤ 42 := by rw [nums_len]; have := h.2.1.1; omega
theorem inF.blen {e : En} (h : inF e) : (bytesE e).length ≤ 378 := by
  have := encL_len (nums e) (fun n hn => by have := (h.all n hn).2; omega)
  have := h.len
  unfold bytesE
  omega
/-- The first ten numbers tell how many there are. -/
theorem nums_ten {a : En} : (nums a)[9]? = some (a.ts.length : Int) := by simp [nums, hnum]
theorem bytesE_pre {e f : En} (he : inF e) (hf : inF f) {s : List Int} (h : bytesE e = bytesE f ++ s) : e = f ∧ s = [] := by
  have hle := nums_len e
  have hlf := nums_len f
  have p10 : ∀ {g : En}, nums g = (nums g).take 10 ++ (nums g).drop 10 := fun {g} => (List.take_append_drop 10 _).symm
  unfold bytesE at h
  have h' := h
  rw [p10 (g := e), p10 (g := f), encL_append, encL_append, List.append_assoc] at h
  obtain ⟨h1, h2⟩ := encL_free _ _ _ _ (fun n hn => he.pos n (List.mem_of_mem_take hn)) (fun n hn => hf.pos n (List.mem_of_mem_take hn)) (by simp [hle, hlf]) h
  have h9 : (e.ts.length : Int) = f.ts.length := by
    have e9 := nums_ten (a := e)
    have f9 := nums_ten (a := f)
    have x := congrArg (fun l => l[9]?) h1
    simp only [List.getElem?_take] at x
    rw [if_pos (by omega), if_pos (by omega), e9, f9] at x
    simpa using x
  have := encL_free (nums e) (nums f) [] s he.pos hf.pos (by rw [hle, hlf]; omega) (by simpa using h')
  exact ⟨nums_inj this.1, this.2.symm⟩
theorem bytesE_inj {e f : En} (he : inF e) (hf : inF f) (h : bytesE e = bytesE f) : e = f := (bytesE_pre he hf (s := []) (by simpa using h)).1
/-- Numbers that were read, and one that isn't there. -/
theorem encL_no {L M : List Int} {rest : List Int} {x : Int} (hL : ∀ n ∈ L, 0 ≤ n) (hM : ∀ n ∈ M, 0 ≤ n) (hx : M[L.length]? = some x) (h : encL L ++ rest = encL M) : ∃ r, rest = enc x.toNat ++ r := by
  have hlt : L.length < M.length := (List.getElem?_eq_some_iff.mp hx).1
  have e : M = M.take L.length ++ M.drop L.length := (List.take_append_drop _ _).symm
  rw [e, encL_append] at h
  obtain ⟨h1, h2⟩ := encL_free L (M.take L.length) rest _ hL (fun n hn => hM n (List.mem_of_mem_take hn)) (by simp; omega) h
  have e2 : M.drop L.length = x :: M.drop (L.length + 1) := by
    rw [List.drop_eq_getElem_cons hlt]
    congr 1
    have := (List.getElem?_eq_some_iff.mp hx).2
    exact this
  rw [e2, encL_cons] at h2
  exact ⟨_, h2⟩
/-- Two entries that are the same. -/
def sameT (a b : Tk) : Bool := a.1 == b.1 && a.2.1 == b.2.1 && a.2.2.1 == b.2.2.1 && a.2.2.2 == b.2.2.2
theorem sameT_iff {a b : Tk} : sameT a b = true ↔ a = b := by
  obtain ⟨a0, a1, a2, a3⟩ := a
  obtain ⟨b0, b1, b2, b3⟩ := b
  simp [sameT, and_assoc]
theorem same_iff {a b : En} : a = b ↔ (a.cl = b.cl ∧ a.nu = b.nu) ∧ ((a.ki = b.ki ∧ a.id = b.id ∧ (a.sk = b.sk ∧ a.sq = b.sq ∧ a.st = b.st) ∧ a.po = b.po ∧ a.tm = b.tm) ∧ a.ts = b.ts) := by
  cases a; cases b
  simp only [En.mk.injEq]
  constructor
  · rintro ⟨rfl, rfl, rfl, rfl, rfl, rfl, rfl, rfl, rfl, rfl⟩; simp
  · rintro ⟨⟨rfl, rfl⟩, ⟨rfl, rfl, ⟨rfl, rfl, rfl⟩, rfl, rfl⟩, rfl⟩; simp
theorem ex_bool (p : Prop) : ∃ b : Bool, b = true ↔ p := by
  by_cases h : p
  · exact ⟨true, by simp [h]⟩
  · exact ⟨false, by simp [h]⟩
/-- The bytes of a ledger. -/
def bytesL (l : List En) : List Int := enc l.length ++ l.flatMap (fun e => enc (bytesE e).length ++ bytesE e)
end Go.Proofs.YtjocjkfllicjdaaDoor
