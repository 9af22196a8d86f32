import Derived.Test.YtaiklaipdocdmaaDoorOunlike
import Derived.Test.YtaiklaipdocdmaaDoorSlX
/- Messages: their numbers, their form, their bytes. -/
namespace Go.Proofs.YtaiklaipdocdmaaDoor

structure Mg where
  kd : Int
  fr : Int
  to : Int
  jb : Int
  br : Int
  bn : Int
  ar : Int
  an : Int
  ls : List En
def nodeF (n : Int) : Prop := 0 ≤ n ∧ n ≤ 6
def balF (r n : Int) : Prop := (1 ≤ r ∧ r ≤ 1099511627776) ∧ nodeF n
def ledF (l : List En) : Prop := l.length ≤ 64 ∧ ∀ e ∈ l, inF e
def noB (r n : Int) : Prop := r = 0 ∧ n = 0
def kindM (m : Mg) : Prop :=
  ((m.kd = 1 ∨ m.kd = 4) ∧ noB m.ar m.an ∧ m.ls = []) ∨ (m.kd = 2 ∧ ((noB m.ar m.an ∧ m.ls = []) ∨ (balF m.ar m.an ∧ ledF m.ls))) ∨ (m.kd = 3 ∧ noB m.ar m.an ∧ ledF m.ls) ∨ (m.kd = 5 ∧ balF m.ar m.an ∧ m.ls = [])
def headM (m : Mg) : Prop := nodeF m.fr ∧ nodeF m.to ∧ amt m.jb ∧ balF m.br m.bn
/-- A message in form. -/
def inM (m : Mg) : Prop := headM m ∧ kindM m
def mnum (m : Mg) : List Int := [m.kd, m.fr, m.to, m.jb, m.br, m.bn, m.ar, m.an]
def bytesM (m : Mg) : List Int := encL (mnum m) ++ (enc (bytesL m.ls).length ++ bytesL m.ls)
def sealM (m : Mg) : List Int := bytesM m ++ sumb (fnv (bytesM m))
theorem ledF_nil : ledF [] := ⟨by simp, by simp⟩
theorem inM.led {m : Mg} (h : inM m) : ledF m.ls := by
  rcases h.2 with ⟨_, _, e⟩ | ⟨_, ⟨_, e⟩ | ⟨_, e⟩⟩ | ⟨_, _, e⟩ | ⟨_, _, e⟩
  · rw [e]; exact ledF_nil
  · rw [e]; exact ledF_nil
  · exact e
  · exact e
  · rw [e]; exact ledF_nil
theorem inM.amts {m : Mg} (h : inM m) : ∀ n ∈ mnum m, amt n := by
  obtain ⟨⟨⟨a0, a1⟩, ⟨b0, b1⟩, ⟨c0, c1⟩, ⟨⟨d0, d1⟩, d2, d3⟩⟩, hk⟩ := h
  have hkd : (0 ≤ m.kd ∧ m.kd ≤ 5) ∧ amt m.ar ∧ amt m.an := by
    rcases hk with ⟨_, ⟨_, _⟩, _⟩ | ⟨_, ⟨⟨_, _⟩, _⟩ | ⟨⟨⟨_, _⟩, _, _⟩, _⟩⟩ | ⟨_, ⟨_, _⟩, _⟩ | ⟨_, ⟨⟨_, _⟩, _, _⟩, _⟩ <;> unfold amt <;> omega
  intro n hn
  simp only [mnum, List.mem_cons, List.not_mem_nil, or_false] at hn
  obtain ⟨hk1, h1, h2⟩ := hkd
  unfold amt at *
  rcases hn with rfl | rfl | rfl | rfl | rfl | rfl | rfl | rfl <;> omega
theorem inM.pos {m : Mg} (h : inM m) : ∀ n ∈ mnum m, 0 ≤ n := fun n hn => (h.amts n hn).1
theorem bytesM_byts (m : Mg) : Byts (bytesM m) := (encL_byts _).append ((enc_byts _).append (bytesL_byts _))
theorem sealM_byts (m : Mg) : Byts (sealM m) := sealed_byts (bytesM_byts m)
theorem mnum_inj {a b : Mg} (h : mnum a = mnum b) (hl : a.ls = b.ls) : a = b := by
  cases a; cases b
  simp only [mnum, List.cons.injEq, and_true] at h
  obtain ⟨rfl, rfl, rfl, rfl, rfl, rfl, rfl, rfl⟩ := h
  simp only at hl
  subst hl
  rfl
theorem bytesM_len {m : Mg} (h : inM m) : (bytesM m).length ≤ 40000 := by
  have h1 := encL_len (mnum m) (fun n hn => by have := (h.amts n hn).2; omega)
  have h2 := bytesL_len h.led.1 h.led.2
  have h3 := enc_len9 (bytesL m.ls).length (by omega)
  have h4 : (mnum m).length = 8 := rfl
  unfold bytesM
  rw [List.length_append, List.length_append]
  omega
theorem bytesM_inj {a b : Mg} (ha : inM a) (hb : inM b) (h : bytesM a = bytesM b) : a = b := by
  unfold bytesM at h
  obtain ⟨h1, h2⟩ := encL_free _ _ _ _ ha.pos hb.pos rfl h
  obtain ⟨_, h3⟩ := enc_free _ _ _ _ h2
  exact mnum_inj h1 (bytesL_inj ha.led.2 hb.led.2 h3)
theorem sealM_inj {a b : Mg} (ha : inM a) (hb : inM b) (h : sealM a = sealM b) : a = b := by
  unfold sealM at h
  have hl : (bytesM a).length = (bytesM b).length := by
    have := congrArg List.length h
    rw [sealed_len, sealed_len] at this
    omega
  exact bytesM_inj ha hb (List.append_inj h hl).1
theorem sealM_len {m : Mg} : (sealM m).length = (bytesM m).length + 4 := sealed_len _
theorem bytesM_pos (m : Mg) : 8 ≤ (bytesM m).length := by
  have e : encL (mnum m) = enc m.kd.toNat ++ (enc m.fr.toNat ++ (enc m.to.toNat ++ (enc m.jb.toNat ++ (enc m.br.toNat ++ (enc m.bn.toNat ++ (enc m.ar.toNat ++ (enc m.an.toNat ++ []))))))) := rfl
  unfold bytesM
  rw [e]
  have := enc_len_pos m.kd.toNat
  have := enc_len_pos m.fr.toNat
  have := enc_len_pos m.to.toNat
  have := enc_len_pos m.jb.toNat
  have := enc_len_pos m.br.toNat
  have := enc_len_pos m.bn.toNat
  have := enc_len_pos m.ar.toNat
  have := enc_len_pos m.an.toNat
  simp only [List.length_append]
  omega
/-- Bytes that no message in form has. -/
def NoM (bs : List Int) : Prop := ∀ m, inM m → bs ≠ bytesM m
end Go.Proofs.YtaiklaipdocdmaaDoor
