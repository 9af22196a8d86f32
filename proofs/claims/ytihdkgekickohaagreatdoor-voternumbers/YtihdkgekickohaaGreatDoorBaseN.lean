import Derived.Test.YtihdkgekickohaaGreatDoorBaseM
namespace Go.Proofs.YtihdkgekickohaaGreatDoor
def sh (x:Nat):Nat:=if x % 2 = 1 then (x / 2) ^^^ 3988292384 else x / 2
theorem sh_lt {x:Nat} (h:x < 4294967296):sh x < 4294967296:=by
 unfold sh
 split
 ·exact Nat.xor_lt_two_pow (n:=32) (by simp;omega) (by simp)
 ·omega
def shN:Nat → Nat → Nat
 |0,x=>x
 |k + 1,x=>sh (shN k x)
theorem shN_lt (k:Nat) {x:Nat} (h:x < 4294967296):shN k x < 4294967296:=by
 induction k with
 |zero=>exact h
 |succ k ih=>exact sh_lt ih
def up (s:Nat) (c:Int):Nat:=shN 8 (s ^^^ c.toNat)
def crcW (s:Nat) (bs:List Int):Nat:=bs.foldl up s
def csum (bs:List Int):Nat:=crcW 4294967295 bs ^^^ 4294967295
theorem xor_byte_lt {s:Nat} {c:Int} (h:s < 4294967296) (hc:c ≤ 255):s ^^^ c.toNat < 4294967296:=
 Nat.xor_lt_two_pow (n:=32) (by simpa using h) (by simp;omega)
theorem up_lt {s:Nat} {c:Int} (h:s < 4294967296) (hc:c ≤ 255):up s c < 4294967296:=shN_lt 8 (xor_byte_lt h hc)
theorem crcW_lt {s:Nat} {bs:List Int} (h:s < 4294967296) (hB:Byts bs):crcW s bs < 4294967296:=by
 unfold crcW
 induction bs generalizing s with
 |nil=>exact h
 |cons c bs ih=>exact ih (up_lt h (hB c (by simp)).2) (fun x hx=>hB x (by simp [hx]))
theorem csum_lt {bs:List Int} (hB:Byts bs):csum bs < 4294967296:=
 Nat.xor_lt_two_pow (n:=32) (by simpa using crcW_lt (s:=4294967295) (by omega) hB) (by simp)
theorem crcW_snoc (s:Nat) (bs:List Int) (c:Int):crcW s (bs ++ [c]) = up (crcW s bs) c:=by
 unfold crcW
 rw [List.foldl_append,List.foldl_cons,List.foldl_nil]
def four (s:Nat):List Int:=[((s % 256:Nat):Int),((s / 256 % 256:Nat):Int),((s / 65536 % 256:Nat):Int),((s / 16777216 % 256:Nat):Int)]
theorem four_byts (s:Nat):Byts (four s):=by
 intro b hb
 simp only [four,List.mem_cons,List.not_mem_nil,or_false] at hb
 omega
theorem four_len (s:Nat):(four s).length = 4:=rfl
def word (bs:List Int):Nat:=(bs.getD 0 0 + bs.getD 1 0 * 256 + bs.getD 2 0 * 65536 + bs.getD 3 0 * 16777216).toNat
theorem word_four (s:Nat) (h:s < 4294967296) (r:List Int):word (four s ++ r) = s:=by
 simp [word,four]
 omega
theorem word_lt {bs:List Int} (hB:Byts bs):word bs < 4294967296:=by
 have h0:=hB.at 0
 have h1:=hB.at 1
 have h2:=hB.at 2
 have h3:=hB.at 3
 unfold word
 omega
def frame (p:List Int):List Int:=(four p.length ++ p) ++ four (csum (four p.length ++ p))
theorem frame_len (p:List Int):(frame p).length = p.length + 8:=by
 simp [frame,four_len]
 omega
theorem frame_byts {p:List Int} (h:Byts p):Byts (frame p):=((four_byts _).append h).append (four_byts _)
def kind (r:List Int):Nat:=
 if r.length < 4 then 0 else if 32768 < word r then 8 else if r.length < word r + 8 then 0 else if csum (r.take (4 + word r)) = word (r.drop (4 + word r)) then 1 else 4
def pay (r:List Int):List Int:=(r.drop 4).take (word r)
theorem kind_zero {r:List Int} (h:kind r = 0):r.length < 4 ∨ (4 ≤ r.length ∧ word r ≤ 32768 ∧ r.length < word r + 8):=by
 unfold kind at h
 split at h
 ·omega
 ·split at h
  ·omega
  ·split at h
   ·omega
   ·split at h <;> omega
theorem kind_one {r:List Int} (h:kind r = 1):word r ≤ 32768 ∧ word r + 8 ≤ r.length ∧ csum (r.take (4 + word r)) = word (r.drop (4 + word r)):=by
 unfold kind at h
 split at h
 ·omega
 ·split at h
  ·omega
  ·split at h
   ·omega
   ·split at h
    ·refine ⟨by omega,by omega,by assumption⟩
    ·omega
theorem kind_four {r:List Int} (h:kind r = 4):word r ≤ 32768 ∧ word r + 8 ≤ r.length ∧ csum (r.take (4 + word r)) ≠ word (r.drop (4 + word r)):=by
 unfold kind at h
 split at h
 ·omega
 ·split at h
  ·omega
  ·split at h
   ·omega
   ·split at h
    ·omega
    ·refine ⟨by omega,by omega,by assumption⟩
theorem kind_eight {r:List Int} (h:kind r = 8):4 ≤ r.length ∧ 32768 < word r:=by
 unfold kind at h
 split at h
 ·omega
 ·split at h
  ·omega
  ·split at h
   ·omega
   ·split at h <;> omega
theorem kind_cases (r:List Int):kind r = 0 ∨ kind r = 1 ∨ kind r = 4 ∨ kind r = 8:=by
 unfold kind
 split
 ·simp
 ·split
  ·simp
  ·split
   ·simp
   ·split <;> simp
theorem pay_len {r:List Int} (h:kind r = 1):(pay r).length = word r:=by
 have:=kind_one h
 simp [pay]
 omega
def pre (ps:List (List Int)) (k:Nat):Except Nat (List (List Int) × Nat) → Except Nat (List (List Int) × Nat)
 |.ok (qs,j)=>.ok (ps ++ qs,k + j)
 |.error e=>.error e
end Go.Proofs.YtihdkgekickohaaGreatDoor
