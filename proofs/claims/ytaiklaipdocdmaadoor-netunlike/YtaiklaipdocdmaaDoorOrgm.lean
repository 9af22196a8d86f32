import Derived.Test.YtaiklaipdocdmaaDoorOgX
/- Numbers that stand one behind the other: when their bytes are an entry's. -/
namespace Go.Proofs.YtaiklaipdocdmaaDoor

theorem enc_ne (n : Nat) : enc n ≠ [] := fun e => by have := enc_len_pos n; rw [e] at this; simp at this
theorem encL_one {L : List Int} (h : encL L = []) : L = [] := by
  cases L with
  | nil => rfl
  | cons a l =>
    rw [encL_cons] at h
    exact absurd (List.append_eq_nil_iff.mp h).1 (enc_ne _)
theorem encL_inj : ∀ (L M : List Int), (∀ n ∈ L, 0 ≤ n) → (∀ n ∈ M, 0 ≤ n) → encL L = encL M → L = M
  | [], M, _, _, h => (encL_one h.symm).symm
  | L, [], _, _, h => encL_one h
  | a :: l, b :: m, hl, hm, h => by
    rw [encL_cons, encL_cons] at h
    obtain ⟨h1, h2⟩ := enc_free _ _ _ _ h
    have h3 := encL_inj l m (fun n hn => hl n (by simp [hn])) (fun n hn => hm n (by simp [hn])) h2
    have ha := hl a (by simp)
    have hb := hm b (by simp)
    rw [h3, show a = b by omega]
/-- Bytes that begin with numbers: an entry's numbers go on behind them, or are the first of them and nothing is left. -/
theorem nums_split {L rest : List Int} {e : En} (hL : ∀ n ∈ L, amt n) (he : inF e) (h : encL L ++ rest = encL (nums e)) : (∃ x r, amt x ∧ rest = enc x.toNat ++ r) ∨ (L = nums e ∧ rest = []) := by
  have hn : ∀ n ∈ nums e, 0 ≤ n := he.pos
  have hl : ∀ n ∈ L, 0 ≤ n := fun n m => (hL n m).1
  by_cases hlt : L.length < (nums e).length
  · obtain ⟨r, hr⟩ := encL_no (x := (nums e)[L.length]) hl hn (List.getElem?_eq_getElem hlt) h
    exact .inl ⟨_, r, he.all _ (List.getElem_mem hlt), hr⟩
  · have hk : L = L.take (nums e).length ++ L.drop (nums e).length := (List.take_append_drop _ _).symm
    rw [hk, encL_append, List.append_assoc] at h
    obtain ⟨h1, h2⟩ := encL_free (L.take (nums e).length) (nums e) (encL (L.drop (nums e).length) ++ rest) [] (fun n m => hl n (List.mem_of_mem_take m)) hn (by simp; omega) (by simpa using h)
    obtain ⟨h3, h4⟩ := List.append_eq_nil_iff.mp h2
    refine .inr ⟨?_, h4⟩
    rw [hk, h1, encL_one h3, List.append_nil]
theorem none_err {bs L rest : List Int} (hL : ∀ n ∈ L, amt n) (hb : bs = encL L ++ rest) (hne : rest ≠ []) (hno : ∀ (N : Nat) (r : List Int), (N : Int) ≤ 1099511627776 → rest ≠ enc N ++ r) : ∀ e, inF e → bs ≠ bytesE e := by
  intro e he h
  rcases nums_split hL he (hb.symm.trans h) with ⟨x, r, hx, hr⟩ | ⟨_, hr⟩
  · exact hno x.toNat r (by have := hx.1; have := hx.2; omega) hr
  · exact hne hr
theorem none_long {bs L rest : List Int} (hL : ∀ n ∈ L, amt n) (hb : bs = encL L ++ rest) (hl : 42 < L.length) : ∀ e, inF e → bs ≠ bytesE e := by
  intro e he h
  have hle := he.len
  have hk : L = L.take (nums e).length ++ L.drop (nums e).length := (List.take_append_drop _ _).symm
  have h' : encL L ++ rest = encL (nums e) := hb.symm.trans h
  rw [hk, encL_append, List.append_assoc] at h'
  obtain ⟨h1, h2⟩ := encL_free (L.take (nums e).length) (nums e) (encL (L.drop (nums e).length) ++ rest) [] (fun n m => (hL n (List.mem_of_mem_take m)).1) he.pos (by simp; omega) (by simpa using h')
  have h3 := encL_one (List.append_eq_nil_iff.mp h2).1
  have := congrArg List.length h3
  simp at this
  omega
theorem none_form {bs L : List Int} (hL : ∀ n ∈ L, amt n) (hb : bs = encL L) (hl : ∀ k : Nat, L[9]? = some (k : Int) → k ≤ 8 → L.length ≠ 10 + 4 * k) : ∀ e, inF e → bs ≠ bytesE e := by
  intro e he h
  have := encL_inj L (nums e) (fun n m => (hL n m).1) he.pos (hb.symm.trans h)
  exact hl e.ts.length (by rw [this]; exact nums_ten) he.2.1.1 (by rw [this, nums_len])
theorem form_of {L : List Int} {k : Nat} (h9 : L[9]? = some (k : Int)) (hl : L.length = 10 + 4 * k) : ∃ e : En, nums e = L ∧ e.ts.length = k := by
  have hk : L = L.take 9 ++ ((k : Int) :: L.drop 10) := by
    have h1 : L = L.take 9 ++ L.drop 9 := (List.take_append_drop 9 _).symm
    have h2 : L.drop 9 = (k : Int) :: L.drop 10 := by
      rw [List.drop_eq_getElem_cons (by omega : 9 < L.length)]
      congr 1
      exact (List.getElem?_eq_some_iff.mp h9).2
    rw [← h2]; exact h1
  obtain ⟨cl, nu, ki, tm, id, sk, sq, st, po, hh⟩ := head_of (L.take 9) (by simp; omega)
  obtain ⟨ts, hn, ht⟩ := tasks_of k (L.drop 10) (by simp; omega)
  refine ⟨⟨cl, nu, ki, id, sk, sq, st, po, ts, tm⟩, ?_, hn⟩
  rw [hk, hh, ← ht, ← hn]
  rfl
end Go.Proofs.YtaiklaipdocdmaaDoor
