import Derived.Test.YtihdkgekickohaaGreatDoorOwrite
import Derived.Test.YtihdkgekickohaaGreatDoorOsame
namespace Go.Proofs.YtihdkgekickohaaGreatDoor
abbrev Bl:=Int × Int
structure Vs where
 p:Bl
 a:Bl
 c:Int
 l:List En
inductive Vr where
 |pr (b:Bl)
 |ac (b:Bl) (k:Nat) (l:List En)
 |cl (r:Int)
def nodeF (n:Int):Prop:=0 ≤ n ∧ n ≤ 6
def balF (b:Bl):Prop:=(1 ≤ b.1 ∧ b.1 ≤ 1099511627776) ∧ nodeF b.2
def mayF (b:Bl):Prop:=b = (0,0) ∨ balF b
def ledF (l:List En):Prop:=l.length ≤ 64 ∧ ∀ e ∈ l,inF e
theorem ledF_nil:ledF []:=⟨by simp,by simp⟩
structure Vs.ok (s:Vs):Prop where
 p:mayF s.p
 a:mayF s.a
 c:amt s.c
 l:ledF s.l
 n:s.a = (0,0) → s.l = []
def Vr.ok:Vr → Prop
 |.pr b=>balF b
 |.ac b k l=>balF b ∧ (k:Int) ≤ 64 ∧ ledF l
 |.cl r=>1 ≤ r ∧ r ≤ 1099511627776
def Vr.fits (s:Vs):Vr → Prop
 |.ac _ k l=>k ≤ s.l.length ∧ k + l.length ≤ 64
 |_=>True
def Vs.does (s:Vs):Vr → Vs
 |.pr b=>{ s with p:=b }
 |.ac b k l=>⟨b,b,s.c,s.l.take k ++ l⟩
 |.cl r=>{ s with c:=max s.c r }
def runs:Vs → List Vr → Prop
 |_,[]=>True
 |s,r :: rs=>r.ok ∧ r.fits s ∧ runs (s.does r) rs
def behinds (s:Vs) (rs:List Vr):Vs:=rs.foldl Vs.does s
theorem runs_snoc:∀ (s:Vs) (rs:List Vr) (r:Vr),runs s rs → r.ok → r.fits (behinds s rs) → runs s (rs ++ [r])
 |_,[],_,_,h1,h2=>⟨h1,h2,trivial⟩
 |s,x :: rs,r,⟨h0,h1,h2⟩,h3,h4=>⟨h0,h1,runs_snoc (s.does x) rs r h2 h3 h4⟩
theorem behinds_snoc (s:Vs) (rs:List Vr) (r:Vr):behinds s (rs ++ [r]) = (behinds s rs).does r:=by simp [behinds]
theorem balF.may {b:Bl} (h:balF b):mayF b:=.inr h
theorem balF.ne {b:Bl} (h:balF b):b ≠ (0,0):=fun e=>by subst e;have:=h.1.1;simp at this
theorem mayF.amt {b:Bl} (h:mayF b):amt b.1 ∧ amt b.2:=by
 rcases h with rfl | ⟨⟨h1,h2⟩,h3,h4⟩
 ·unfold Go.Proofs.YtihdkgekickohaaGreatDoor.amt;simp
 ·unfold Go.Proofs.YtihdkgekickohaaGreatDoor.amt;omega
theorem Vs.ok.does {s:Vs} (h:s.ok) {r:Vr} (hr:r.ok) (hf:r.fits s):(s.does r).ok:=by
 cases r with
 |pr b=>exact ⟨hr.may,h.a,h.c,h.l,h.n⟩
 |ac b k l=>
  refine ⟨hr.1.may,hr.1.may,h.c,⟨?_,fun e he=>?_⟩,fun e=>absurd e hr.1.ne⟩
  ·have:=hf.1;have:=hf.2
   show (s.l.take k ++ l).length ≤ 64
   rw [List.length_append,List.length_take];omega
  ·rcases List.mem_append.mp he with m | m
   ·exact h.l.2 e (List.mem_of_mem_take m)
   ·exact hr.2.2.2 e m
 |cl r=>
  refine ⟨h.p,h.a,?_,h.l,h.n⟩
  have h1:=h.c
  unfold amt at *
  have h2:1 ≤ r ∧ r ≤ 1099511627776:=hr
  show 0 ≤ max s.c r ∧ max s.c r ≤ 1099511627776
  omega
theorem Vs.ok.behinds:∀ {s:Vs} {rs:List Vr},s.ok → runs s rs → (behinds s rs).ok
 |_,[],h,_=>h
 |s,r :: rs,h,⟨h0,h1,h2⟩=>Vs.ok.behinds (s:=s.does r) (rs:=rs) (h.does h0 h1) h2
def snum (s:Vs):List Int:=[s.p.1,s.p.2,s.a.1,s.a.2,s.c]
def bytesS (s:Vs):List Int:=encL (snum s) ++ (enc (bytesL s.l).length ++ bytesL s.l)
def bytesR:Vr → List Int
 |.pr b=>encL [1,b.1,b.2]
 |.ac b k l=>encL [2,b.1,b.2,(k:Int)] ++ (enc (bytesL l).length ++ bytesL l)
 |.cl r=>encL [3,r]
theorem bytesS_byts (s:Vs):Byts (bytesS s):=(encL_byts _).append ((enc_byts _).append (bytesL_byts _))
theorem bytesR_byts (r:Vr):Byts (bytesR r):=by
 cases r with
 |pr b=>exact encL_byts _
 |ac b k l=>exact (encL_byts _).append ((enc_byts _).append (bytesL_byts _))
 |cl r=>exact encL_byts _
theorem bytesS_len {s:Vs} (h:s.ok):(bytesS s).length ≤ 31000:=by
 have h1:=encL_len (snum s) (fun n hn=>by
  obtain ⟨h1,h2⟩:=h.p.amt;obtain ⟨h3,h4⟩:=h.a.amt;have h5:=h.c
  unfold amt at *
  simp only [snum,List.mem_cons,List.not_mem_nil,or_false] at hn
  rcases hn with rfl | rfl | rfl | rfl | rfl <;> omega)
 have h2:=bytesL_len h.l.1 h.l.2
 have h3:=enc_len9 (bytesL s.l).length (by omega)
 have h4:(snum s).length = 5:=rfl
 unfold bytesS
 rw [List.length_append,List.length_append]
 omega
theorem bytesR_len {r:Vr} (h:r.ok):(bytesR r).length ≤ 31000:=by
 cases r with
 |pr b=>
  obtain ⟨⟨h1,h2⟩,h3,h4⟩:=h
  have:=encL_len [1,b.1,b.2] (fun n hn=>by
   simp only [List.mem_cons,List.not_mem_nil,or_false] at hn
   rcases hn with rfl | rfl | rfl <;> omega)
  simp only [List.length_cons,List.length_nil] at this
  show (encL [1,b.1,b.2]).length ≤ _
  omega
 |ac b k l=>
  obtain ⟨⟨⟨h1,h2⟩,h3,h4⟩,h5,h6⟩:=h
  have:=encL_len [2,b.1,b.2,(k:Int)] (fun n hn=>by
   simp only [List.mem_cons,List.not_mem_nil,or_false] at hn
   rcases hn with rfl | rfl | rfl | rfl <;> omega)
  simp only [List.length_cons,List.length_nil] at this
  have h7:=bytesL_len h6.1 h6.2
  have h8:=enc_len9 (bytesL l).length (by omega)
  show (encL [2,b.1,b.2,(k:Int)] ++ (enc (bytesL l).length ++ bytesL l)).length ≤ _
  rw [List.length_append,List.length_append]
  omega
 |cl r=>
  have h':1 ≤ r ∧ r ≤ 1099511627776:=h
  have:=encL_len [3,r] (fun n hn=>by
   simp only [List.mem_cons,List.not_mem_nil,or_false] at hn
   rcases hn with rfl | rfl <;> omega)
  simp only [List.length_cons,List.length_nil] at this
  show (encL [3,r]).length ≤ _
  omega
def firsts:List En → List En → Nat
 |a :: l,b :: m=>if hnum a = hnum b ∧ a.ts = b.ts then firsts l m + 1 else 0
 |_,_=>0
theorem firsts_le:∀ (l m:List En),firsts l m ≤ l.length ∧ firsts l m ≤ m.length
 |[],_=>by simp [firsts]
 |_ :: _,[]=>by simp [firsts]
 |a :: l,b :: m=>by
  have:=firsts_le l m
  simp only [firsts,List.length_cons]
  split <;> omega
theorem firsts_take:∀ (l m:List En),l.take (firsts l m) = m.take (firsts l m)
 |[],_=>by simp [firsts]
 |_ :: _,[]=>by simp [firsts]
 |a :: l,b :: m=>by
  simp only [firsts]
  split
  ·rename_i e
   obtain rfl:=en_eq.mpr e
   rw [List.take_succ_cons,List.take_succ_cons,firsts_take l m]
  ·simp
theorem firsts_at {l m:List En} {k:Nat} (h1:l.take k = m.take k) (hl:k ≤ l.length) (hm:k ≤ m.length) (h2:∀ a b,l[k]? = some a → m[k]? = some b → a ≠ b):firsts l m = k:=by
 induction l generalizing m k with
 |nil=>simp at hl;subst hl;simp [firsts]
 |cons a l ih=>
  cases m with
  |nil=>simp at hm;subst hm;simp [firsts]
  |cons b m=>
   cases k with
   |zero=>
    have:=h2 a b rfl rfl
    rw [Ne,en_eq] at this
    simp only [firsts,if_neg this]
   |succ k=>
    rw [List.take_succ_cons,List.take_succ_cons] at h1
    simp only [List.cons.injEq] at h1
    simp only [firsts,if_pos (en_eq.mp h1.1)]
    rw [ih h1.2 (by simpa using hl) (by simpa using hm) (fun x y hx hy=>h2 x y (by simpa using hx) (by simpa using hy))]
theorem firsts_join (l m:List En):l.take (firsts l m) ++ m.drop (firsts l m) = m:=by
 rw [firsts_take,List.take_append_drop]
end Go.Proofs.YtihdkgekickohaaGreatDoor
