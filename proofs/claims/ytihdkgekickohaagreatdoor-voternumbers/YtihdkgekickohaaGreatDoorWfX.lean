import Derived.Test.YtihdkgekickohaaGreatDoorWeX
namespace Go.Proofs.YtihdkgekickohaaGreatDoor
open Go.ChangeShapes Go.WideShapes Go.ChangeAt Go.RowKit
set_option maxRecDepth 100000
def HeadOk (E G I:Nat) (s:List Int):Prop:=s.getD 0 0 = 1 → ∃ r:Rc,r.ok ∧ r.data.length ≤ 32000 ∧ r.epoch ≤ E ∧ r.gen ≤ G ∧ r.index ≤ I ∧ s.take 32 = (sect 1 (frm r) 0).take 32
theorem HeadOk.mono {E G I E' G' I':Nat} {s:List Int} (h:HeadOk E G I s) (hE:E ≤ E') (hG:G ≤ G') (hI:I ≤ I'):HeadOk E' G' I' s:=fun h1=>by
 obtain ⟨r,a,b,c,d,e,f⟩:=h h1
 exact ⟨r,a,b,by omega,by omega,by omega,f⟩
theorem head_rest (E G I:Nat) (fr:List Int) (j:Nat):HeadOk E G I (sect 0 fr j):=fun h=>by simp [sect] at h
theorem head_zero (E G I:Nat):HeadOk E G I zeros:=fun h=>by simp [zeros] at h
theorem head_first {E G I:Nat} {r:Rc} (hr:r.ok) (hd:r.data.length ≤ 32000) (hE:r.epoch ≤ E) (hG:r.gen ≤ G) (hI:r.index ≤ I):HeadOk E G I (sect 1 (frm r) 0):=fun _=>⟨r,hr,hd,hE,hG,hI,rfl⟩
theorem writes_head {E G I:Nat} {r:Rc} (hr:r.ok) (hd:r.data.length ≤ 32000) (hE:r.epoch ≤ E) (hG:r.gen ≤ G) (hI:r.index ≤ I) (p:Int) (k:Nat):∀ x ∈ writesOf (frm r) p k,HeadOk E G I x.2:=by
 intro x hx
 unfold writesOf at hx
 obtain ⟨j,_,rfl⟩:=List.mem_map.mp hx
 simp only [markOf]
 by_cases e:j = 0
 ·subst e;exact head_first hr hd hE hG hI
 ·rw [if_neg e];exact head_rest _ _ _ _ _
theorem writes_at (fr:List Int) (p:Int) (k:Nat):∀ x ∈ writesOf fr p k,p ≤ x.1 ∧ x.1 < p + (k:Int):=by
 intro x hx
 unfold writesOf at hx
 obtain ⟨j,hj,rfl⟩:=List.mem_map.mp hx
 have:=List.mem_range.mp hj
 simp only
 omega
theorem sect_bytes (mark:Int) (fr:List Int):∃ z,(sect mark fr 0).drop 1 = fr.take 63 ++ List.replicate z 0 ∧ (sect mark fr 0).getD 0 0 = mark:=by
 refine ⟨63 - (piece63 fr 0).length,?_,rfl⟩
 rw [sect_tail]
 simp [piece63]
theorem enc_take (n m:Nat) (X:List Int) (h:n ≤ 1099511627776) (hm:6 ≤ m):(enc n ++ X).take m = enc n ++ X.take (m - (enc n).length):=by
 have:=enc_len6 h
 rw [List.take_append,List.take_of_length_le (by omega)]
theorem wpay_head {r s:Rc} (hr:r.ok) (hs:s.ok) (h:(wpay r).take 27 = (wpay s).take 27):r.gen = s.gen ∧ r.epoch = s.epoch ∧ r.index = s.index:=by
 have a1:=enc_len6 hr.g;have a2:=enc_len6 hr.e;have a3:=enc_len6 hr.i
 have b1:=enc_len6 hs.g;have b2:=enc_len6 hs.e;have b3:=enc_len6 hs.i
 unfold wpay at h
 rw [enc_take _ _ _ hr.g (by omega),enc_take _ _ _ hs.g (by omega)] at h
 obtain ⟨h1,h⟩:=enc_free _ _ _ _ h
 rw [enc_take _ _ _ hr.e (by omega),enc_take _ _ _ hs.e (by omega)] at h
 obtain ⟨h2,h⟩:=enc_free _ _ _ _ h
 rw [enc_take _ _ _ hr.i (by omega),enc_take _ _ _ hs.i (by omega)] at h
 obtain ⟨h3,_⟩:=enc_free _ _ _ _ h
 exact ⟨h1,h2,h3⟩
theorem stand_parts {g:Int → List Int} {p:Int} {n m:Nat} {r:Rc} (h:stand g p n = some (r,m)):kind (rests g p n) = 1 ∧ pay (rests g p n) = wpay r ∧ r.ok ∧ m = npc (word (rests g p n) + 8):=by
 unfold stand at h
 split at h
 ·rename_i hk
  cases hr:recOf (pay (rests g p n)) with
  |none=>rw [hr] at h;simp at h
  |some s=>
   rw [hr] at h
   simp at h
   obtain ⟨rfl,rfl⟩:=h
   exact ⟨hk,(recOf_is hr).1,(recOf_is hr).2,rfl⟩
 ·simp at h
theorem stand_mark {g:Int → List Int} {p:Int} {n m:Nat} {r:Rc} (h:stand g p n = some (r,m)):∃ k,n = k + 1 ∧ (g p).getD 0 0 = 1 ∧ rests g p n = (g p).drop 1 ++ cont g (p + 1) k:=by
 obtain ⟨hk,_⟩:=stand_parts h
 have hz:kind [] = 0:=rfl
 cases n with
 |zero=>rw [rests,hz] at hk;omega
 |succ k=>
  by_cases e:(g p).getD 0 0 = 1
  ·exact ⟨k,rfl,e,by rw [rests,if_pos e]⟩
  ·rw [rests,if_neg e,hz] at hk;omega
theorem stand_head {g:Int → List Int} {E G I:Nat} {p:Int} {n m:Nat} {r:Rc} (hg:(g p).length = 64) (h:stand g p n = some (r,m)) (hh:HeadOk E G I (g p)):r.epoch ≤ E ∧ r.gen ≤ G ∧ r.index ≤ I:=by
 obtain ⟨k,rfl,hm,hall⟩:=stand_mark h
 obtain ⟨hk,hp,hok,_⟩:=stand_parts h
 obtain ⟨r0,ok0,d0,e0,g0,i0,ht⟩:=hh hm
 obtain ⟨z,hz,_⟩:=sect_bytes 1 (frm r0)
 generalize hL:(wpay r0).length = L at *
 have hLb:L ≤ 32021:=by rw [← hL];exact wpay_len ok0 d0
 have hfl:(frm r0).length = L + 8:=by rw [← hL];exact frame_len _
 generalize rests g p (k + 1) = all at *
 obtain ⟨k1,k2,_⟩:=kind_one hk
 obtain ⟨K,hK⟩:∃ K,K = min 27 L:=⟨_,rfl⟩
 have e31:all.take 31 = ((frm r0).take 63 ++ List.replicate z 0).take 31:=by
  have a:all.take 31 = ((g p).take 32).drop 1:=by
   rw [hall,List.take_append_of_le_length (by rw [List.length_drop,hg];omega),List.drop_take]
  rw [a,ht,List.drop_take,hz]
 have e4:all.take (4 + K) = four L ++ (wpay r0).take K:=by
  have a:all.take (4 + K) = (all.take 31).take (4 + K):=by rw [List.take_take,Nat.min_eq_left (by omega)]
  rw [a,e31,List.take_take,Nat.min_eq_left (by omega),List.take_append_of_le_length (by rw [List.length_take,hfl];omega),List.take_take,Nat.min_eq_left (by omega)]
  unfold frm frame
  rw [hL,List.append_assoc,List.take_append,four_len,List.take_of_length_le (by rw [four_len];omega),show 4 + K - 4 = K by omega,List.take_append_of_le_length (by omega)]
 have e5:all = four L ++ all.drop 4:=by
  have a:all.take 4 = four L:=by
   have:all.take 4 = (all.take (4 + K)).take 4:=by rw [List.take_take,Nat.min_eq_left (by omega)]
   rw [this,e4,List.take_left' (four_len _)]
  conv=>lhs;rw [← List.take_append_drop 4 all]
  rw [a]
 have hw:word all = L:=by rw [e5];exact word_four L (by omega) _
 have e6:(wpay r).take K = (wpay r0).take K:=by
  have a:(wpay r).take K = (all.drop 4).take K:=by
   rw [← hp,pay,hw,List.take_take,Nat.min_eq_left (by omega)]
  rw [a,show (all.drop 4).take K = (all.take (4 + K)).drop 4 by rw [List.drop_take,show 4 + K - 4 = K by omega],e4,List.drop_left' (four_len _)]
 have e7:(wpay r).length = L:=by
  rw [← hp,pay,hw,List.length_take,List.length_drop];rw [hw] at k2;omega
 by_cases hc:L ≤ 27
 ·have:wpay r = wpay r0:=by
   rw [List.take_of_length_le (by omega),List.take_of_length_le (by omega)] at e6
   exact e6
  obtain rfl:=wpay_inj this
  exact ⟨e0,g0,i0⟩
 ·obtain ⟨h1,h2,h3⟩:=wpay_head hok ok0 (by rw [show K = 27 by omega] at e6;exact e6)
  rw [h1,h2,h3]
  exact ⟨e0,g0,i0⟩
theorem cont_same {g g':Int → List Int} (hg:∀ i,(g i).length = 64):∀ (k:Nat) (p:Int) (n:Nat),63 * k < (cont g p n).length + 63 → (∀ i:Nat,i < k → g' (p + (i:Int)) = g (p + (i:Int))) → k ≤ n ∧ ∃ A B B',A.length = 63 * k ∧ cont g p n = A ++ B ∧ cont g' p n = A ++ B':=by
 intro k
 induction k with
 |zero=>intro p n _ _;exact ⟨Nat.zero_le _,[],_,_,rfl,rfl,rfl⟩
 |succ k ih=>
  intro p n hl he
  cases n with
  |zero=>simp [cont] at hl;omega
  |succ n=>
   by_cases hm:(g p).getD 0 0 = 0
   ·have h0:g' p = g p:=by have:=he 0 (by omega);simpa using this
    rw [cont,if_pos hm] at hl ⊢
    rw [cont,h0,if_pos hm]
    obtain ⟨h1,A,B,B',hA,hB,hB'⟩:=ih (p + 1) n (by rw [List.length_append,List.length_drop,hg] at hl;omega) (fun i hi=>by
     have:=he (i + 1) (by omega)
     rwa [show p + ((i + 1:Nat):Int) = p + 1 + (i:Int) by omega] at this)
    exact ⟨by omega,(g p).drop 1 ++ A,B,B',by rw [List.length_append,List.length_drop,hg,hA];omega,by rw [hB,List.append_assoc],by rw [hB',List.append_assoc]⟩
   ·rw [cont,if_neg hm] at hl;simp at hl;omega
theorem getD_left (A B:List Int) (i:Nat) (h:i < A.length):(A ++ B).getD i 0 = A.getD i 0:=by
 simp [List.getD,List.getElem?_append_left h]
theorem word_left (A B:List Int) (h:4 ≤ A.length):word (A ++ B) = word A:=by
 unfold word
 rw [getD_left A B 0 (by omega),getD_left A B 1 (by omega),getD_left A B 2 (by omega),getD_left A B 3 (by omega)]
theorem read_left {A B:List Int} (B':List Int) (h:kind (A ++ B) = 1) (hl:word (A ++ B) + 8 ≤ A.length):kind (A ++ B') = 1 ∧ pay (A ++ B') = pay (A ++ B) ∧ word (A ++ B') = word (A ++ B):=by
 obtain ⟨k1,k2,k3⟩:=kind_one h
 have hw:word (A ++ B') = word (A ++ B):=by rw [word_left _ _ (by omega),word_left _ _ (by omega)]
 refine ⟨?_,?_,hw⟩
 ·unfold kind
  rw [hw]
  generalize word (A ++ B) = L at *
  rw [if_neg (by rw [List.length_append];omega),if_neg (by omega),if_neg (by rw [List.length_append];omega),if_pos]
  rw [List.take_append_of_le_length (by omega),List.drop_append_of_le_length (by omega),word_left _ _ (by rw [List.length_drop];omega)]
  rw [List.take_append_of_le_length (by omega),List.drop_append_of_le_length (by omega),word_left _ _ (by rw [List.length_drop];omega)] at k3
  exact k3
 ·unfold pay
  rw [hw]
  generalize word (A ++ B) = L at *
  rw [List.drop_append_of_le_length (by omega),List.drop_append_of_le_length (by omega),List.take_append_of_le_length (by rw [List.length_drop];omega),List.take_append_of_le_length (by rw [List.length_drop];omega)]
theorem stand_same {g g':Int → List Int} (hg:∀ i,(g i).length = 64) {p:Int} {n m:Nat} {r:Rc} (h:stand g p n = some (r,m)) (he:∀ i:Nat,i < m → g' (p + (i:Int)) = g (p + (i:Int))):stand g' p n = some (r,m):=by
 obtain ⟨k,rfl,hm,hall⟩:=stand_mark h
 obtain ⟨hk,hp,hok,hmm⟩:=stand_parts h
 obtain ⟨_,k2,_⟩:=kind_one hk
 obtain ⟨_,hm1,_⟩:=stand_fits hg h
 have h0:g' p = g p:=by have:=he 0 (by omega);simpa using this
 have hr':rests g' p (k + 1) = (g p).drop 1 ++ cont g' (p + 1) k:=by rw [rests,h0,if_pos hm]
 have hlen:word (rests g p (k + 1)) + 8 ≤ 63 * m ∧ 63 * m < word (rests g p (k + 1)) + 8 + 63:=by rw [hmm];unfold npc;omega
 obtain ⟨_,A,B,B',hA,hB,hB'⟩:=cont_same (g':=g') hg (m - 1) (p + 1) k (by
  have:(rests g p (k + 1)).length = 63 + (cont g (p + 1) k).length:=by rw [hall,List.length_append,List.length_drop,hg]
  omega) (fun i hi=>by
  have:=he (i + 1) (by omega)
  rwa [show p + ((i + 1:Nat):Int) = p + 1 + (i:Int) by omega] at this)
 have e1:rests g p (k + 1) = ((g p).drop 1 ++ A) ++ B:=by rw [hall,hB,List.append_assoc]
 have e2:rests g' p (k + 1) = ((g p).drop 1 ++ A) ++ B':=by rw [hr',hB',List.append_assoc]
 rw [e1] at hk hp hlen hmm
 obtain ⟨q1,q2,q3⟩:=read_left (A:=(g p).drop 1 ++ A) (B:=B) B' hk (by rw [List.length_append,List.length_drop,hg,hA];omega)
 unfold stand
 rw [e2,if_pos q1,q2,q3,hp,recOf_some rfl hok,hmm]
 rfl
theorem areaGo_ge (g:Int → List Int):∀ (k:Nat) (rs:List Rc) (p:Int) (n:Nat),p ≤ (areaGo g k rs p n).2 ∧ ∃ l,(areaGo g k rs p n).1 = rs ++ l:=by
 intro k
 induction k with
 |zero=>intro rs p n;exact ⟨Int.le_refl _,[],by simp [areaGo]⟩
 |succ k ih=>
  intro rs p n
  cases hs:stand g p n with
  |none=>rw [areaGo_end hs];exact ⟨Int.le_refl _,[],by simp⟩
  |some x=>
   obtain ⟨r,m⟩:=x
   cases hc:goesOn rs r with
   |false=>rw [areaGo_stop hs hc];exact ⟨Int.le_refl _,[],by simp⟩
   |true=>
    rw [areaGo_more hs hc]
    obtain ⟨h1,l,h2⟩:=ih (rs ++ [r]) (p + (m:Int)) (n - m)
    exact ⟨by omega,r :: l,by rw [h2];simp⟩
theorem area_first {g:Int → List Int} {k:Nat} {p:Int} {n:Nat} (h:(areaGo g (k + 1) [] p n).1 ≠ []):∃ r m,stand g p n = some (r,m) ∧ goesOn [] r = true ∧ p + (m:Int) ≤ (areaGo g (k + 1) [] p n).2:=by
 cases hs:stand g p n with
 |none=>rw [areaGo_end hs] at h;exact absurd rfl h
 |some x=>
  obtain ⟨r,m⟩:=x
  cases hc:goesOn [] r with
  |false=>rw [areaGo_stop hs hc] at h;exact absurd rfl h
  |true=>exact ⟨r,m,rfl,hc,by rw [areaGo_more hs hc];exact (areaGo_ge g k _ _ _).1⟩
theorem area_some {g:Int → List Int} {k:Nat} {p:Int} {n m:Nat} {r:Rc} (h:stand g p n = some (r,m)) (hc:goesOn [] r = true):(areaGo g (k + 1) [] p n).1 ≠ []:=by
 rw [areaGo_more h hc]
 obtain ⟨_,l,e⟩:=areaGo_ge g k ([] ++ [r]) (p + (m:Int)) (n - m)
 rw [e];simp
theorem area_all (T:Rc → Prop) {g:Int → List Int} (hg:∀ i,(g i).length = 64) (lo hi:Int) (hT:∀ q n' m r,lo ≤ q → q < hi → stand g q n' = some (r,m) → T r):∀ (k:Nat) (rs:List Rc) (p:Int) (n:Nat),lo ≤ p → p + (n:Int) ≤ hi → (∀ r ∈ rs,T r) → ∀ r ∈ (areaGo g k rs p n).1,T r:=by
 intro k
 induction k with
 |zero=>intro rs p n _ _ h;simpa [areaGo] using h
 |succ k ih=>
  intro rs p n h1 h2 h
  cases hs:stand g p n with
  |none=>rw [areaGo_end hs];exact h
  |some x=>
   obtain ⟨r,m⟩:=x
   obtain ⟨_,hm1,hmn⟩:=stand_fits hg hs
   cases hc:goesOn rs r with
   |false=>rw [areaGo_stop hs hc];exact h
   |true=>
    rw [areaGo_more hs hc]
    refine ih _ _ _ (by omega) (by omega) (fun q hq=>?_)
    rcases List.mem_append.mp hq with a | a
    ·exact h q a
    ·simp at a;subst a;exact hT p n m q h1 (by omega) hs
structure DI (n s E G I fr nx:Nat) (f:Int → List Int) (c:List (Int × List Int)):Prop where
 two:2 * s + 2 = n
 one:1 ≤ s
 hd:∀ i,Sec (f i)
 sc:∀ x ∈ c,Sec x.2
 head:∀ i:Int,0 ≤ i → i < 2 * (s:Int) → HeadOk E G I (f i)
 hc:∀ x ∈ c,0 ≤ x.1 ∧ x.1 < 2 * (s:Int) ∧ HeadOk E G I x.2
 eb:E ≤ 1099511627776
 cell:f (((n - 2 + E % 2:Nat):Int)) = cellS E
 cel2:cellN (f (((n - 2 + (E + 1) % 2:Nat):Int))) ≤ E
 frs:fr = 0 ∨ fr = s
 st:∃ r m,stand f (fr:Int) s = some (r,m) ∧ goesOn [] r = true ∧ fr + m ≤ nx ∧ ∀ x ∈ c,¬ ((fr:Int) ≤ x.1 ∧ x.1 < (fr:Int) + (m:Int))
 nxl:nx ≤ fr + s
theorem seen_mem (f:Int → List Int) (c:List (Int × List Int)) (i:Int):seenOf f c i = f i ∨ ∃ x ∈ c,x.1 = i ∧ seenOf f c i = x.2:=by
 unfold seenOf
 cases h:c.reverse.find? (fun x=>x.1 == i) with
 |none=>exact .inl rfl
 |some x=>exact .inr ⟨x,by simpa using List.mem_of_find?_eq_some h,by simpa using List.find?_some h,rfl⟩
theorem seen_other (f:Int → List Int) (c:List (Int × List Int)) (i:Int) (h:∀ x ∈ c,x.1 ≠ i):seenOf f c i = f i:=by
 rcases seen_mem f c i with a | ⟨x,hx,e,_⟩
 ·exact a
 ·exact absurd e (h x hx)
theorem snoc_ind {α:Type} {M:List α → Prop} (h0:M []) (h1:∀ l x,M l → M (l ++ [x])) (l:List α):M l:=by
 have:∀ r:List α,M r.reverse:=by
  intro r
  induction r with
  |nil=>simpa using h0
  |cons a r ih=>rw [List.reverse_cons];exact h1 _ _ ih
 simpa using this l.reverse
theorem flushed_snoc1 (f:Int → List Int) (c:List (Int × List Int)) (x:Int × List Int):flushed f (c ++ [x]) = lay1 (flushed f c) x:=by simp [flushed]
theorem flushed_is (f:Int → List Int) (hf:∀ k,Sec (f k)) (c:List (Int × List Int)) (hc:∀ x ∈ c,Sec x.2):(∀ i,Sec (flushed f c i)) ∧ ∀ i,flushed f c i = seenOf f c i:=by
 revert hc
 refine snoc_ind (M:=fun c=>(∀ x ∈ c,Sec x.2) → (∀ i,Sec (flushed f c i)) ∧ ∀ i,flushed f c i = seenOf f c i) ?_ ?_ c
 ·intro _;exact ⟨hf,fun _=>rfl⟩
 ·intro c x ih hc
  obtain ⟨h1,h2⟩:=ih (fun y hy=>hc y (by simp [hy]))
  have hx:=hc x (by simp)
  rw [flushed_snoc1]
  have e:∀ i,lay1 (flushed f c) x i = if i = x.1 then x.2 else flushed f c i:=fun i=>by
   unfold lay1 updI
   split
   ·unfold laid;rw [hx.len,List.drop_eq_nil_of_le (by rw [(h1 _).len];exact Nat.le_refl _),List.append_nil]
   ·rfl
  refine ⟨fun i=>?_,fun i=>?_⟩
  ·rw [e];split
   ·exact hx
   ·exact h1 i
  ·rw [e]
   unfold seenOf
   rw [List.reverse_append,List.reverse_singleton,List.singleton_append,List.find?_cons]
   by_cases hi:i = x.1
   ·subst hi;simp
   ·have:(x.1 == i) = false:=by simpa using Ne.symm hi
    rw [if_neg hi,this]
    have:=h2 i
    unfold seenOf at this
    exact this
theorem DI.seen {n s E G I fr nx:Nat} {f:Int → List Int} {c:List (Int × List Int)} (h:DI n s E G I fr nx f c):(∀ i,Sec (seenOf f c i)) ∧ (∀ i:Int,0 ≤ i → i < 2 * (s:Int) → HeadOk E G I (seenOf f c i)) ∧ (∀ i:Int,2 * (s:Int) ≤ i → seenOf f c i = f i):=by
 refine ⟨fun i=>?_,fun i h0 h1=>?_,fun i hi=>seen_other _ _ _ (fun x hx e=>?_)⟩
 ·rcases seen_mem f c i with a | ⟨x,hx,_,e⟩
  ·rw [a];exact h.hd i
  ·rw [e];exact h.sc x hx
 ·rcases seen_mem f c i with a | ⟨x,hx,_,e⟩
  ·rw [a];exact h.head i h0 h1
  ·rw [e];exact (h.hc x hx).2.2
 ·have:=h.hc x hx;omega
theorem DI.stands {n s E G I fr nx:Nat} {f:Int → List Int} {c:List (Int × List Int)} (h:DI n s E G I fr nx f c):∃ r m,stand (seenOf f c) (fr:Int) s = some (r,m) ∧ goesOn [] r = true:=by
 obtain ⟨r,m,h1,h2,_,h4⟩:=h.st
 refine ⟨r,m,stand_same (fun i=>(h.hd i).len) h1 (fun i hi=>seen_other _ _ _ (fun x hx e=>h4 x hx (by omega))),h2⟩
theorem DI.newest {n s E G I fr nx:Nat} {f:Int → List Int} {c:List (Int × List Int)} (h:DI n s E G I fr nx f c):(newA (seenOf f c) s).2.1 ≠ [] ∧ (∀ r ∈ (newA (seenOf f c) s).2.1,r.epoch ≤ E ∧ r.gen ≤ G ∧ r.index ≤ I) ∧ topEp (seenOf f c) n (newA (seenOf f c) s).2.1 = E:=by
 obtain ⟨hs,hh,hcl⟩:=h.seen
 obtain ⟨r,m,h1,h2⟩:=h.stands
 have hlen:=fun i=>(hs i).len
 have hA:∀ (p:Int),0 ≤ p → p + (s:Int) ≤ 2 * (s:Int) → ∀ r ∈ (areaGo (seenOf f c) (s + 1) [] p s).1,r.epoch ≤ E ∧ r.gen ≤ G ∧ r.index ≤ I:=fun p p0 p1=>
  area_all (fun r=>r.epoch ≤ E ∧ r.gen ≤ G ∧ r.index ≤ I) hlen 0 (2 * (s:Int)) (fun q n' m r q0 q1 hq=>stand_head (hlen q) hq (hh q q0 q1)) (s + 1) [] p s p0 p1 (fun _ hr=>by simp at hr)
 have hne:(newA (seenOf f c) s).2.1 ≠ []:=by
  unfold newA
  split
  ·rename_i hc
   exact fun e=>by rw [e] at hc;simp at hc
  ·rename_i hc
   rcases h.frs with e | e
   ·subst e
    have h3:=area_some (k:=s) (show stand (seenOf f c) 0 s = some (r,m) from h1) h2
    intro e2
    refine hc ⟨List.length_pos_iff.mpr h3,?_⟩
    simp only at e2
    rw [e2];exact Nat.zero_le _
   ·subst e
    exact area_some h1 h2
 have hall:∀ r ∈ (newA (seenOf f c) s).2.1,r.epoch ≤ E ∧ r.gen ≤ G ∧ r.index ≤ I:=by
  unfold newA
  split
  ·exact hA 0 (by omega) (by omega)
  ·exact hA s (by omega) (by omega)
 refine ⟨hne,hall,?_⟩
 have hl:lep (newA (seenOf f c) s).2.1 ≤ E:=by
  unfold lep
  rw [List.getLast?_eq_some_getLast hne]
  exact (hall _ (List.getLast_mem hne)).1
 have hn2:=h.two
 have c1:seenOf f c (((n - 2 + E % 2:Nat):Int)) = cellS E:=by rw [hcl _ (by omega)];exact h.cell
 have c2:cellN (seenOf f c (((n - 2 + (E + 1) % 2:Nat):Int))) ≤ E:=by rw [hcl _ (by omega)];exact h.cel2
 have c3:cellN (cellS E) = E:=cellN_cellS h.eb
 unfold topEp
 by_cases hp:E % 2 = 0
 ·have a:(((n - 2 + E % 2:Nat):Int)) = (n:Int) - 2:=by omega
  have b:(((n - 2 + (E + 1) % 2:Nat):Int)) = (n:Int) - 1:=by omega
  rw [a] at c1;rw [b] at c2
  rw [c1,c3];omega
 ·have a:(((n - 2 + E % 2:Nat):Int)) = (n:Int) - 1:=by omega
  have b:(((n - 2 + (E + 1) % 2:Nat):Int)) = (n:Int) - 2:=by omega
  rw [a] at c1;rw [b] at c2
  rw [c1,c3];omega
theorem DI.opens {n s E G I fr nx:Nat} {f:Int → List Int} {c:List (Int × List Int)} (h:DI n s E G I fr nx f c) (hE:E + 1 ≤ 1099511627776) (fr2 nx2:Nat) (hfr:fr2 = (if (newA (seenOf f c) s).1 = true then s else 0)) (hnx:(newA (seenOf f c) s).2.2 = (nx2:Int)) (hle:nx2 ≤ fr2 + s) :
  DI n s (E + 1) G I fr2 nx2 (flushed f (c ++ [(((n - 2 + (E + 1) % 2:Nat):Int),cellS (E + 1))])) []:=by
 have hn2:=h.two
 obtain ⟨hs,hh,hcl⟩:=h.seen
 have hsec:∀ x ∈ c ++ [(((n - 2 + (E + 1) % 2:Nat):Int),cellS (E + 1))],Sec x.2:=fun x hx=>by
  rcases List.mem_append.mp hx with a | a
  ·exact h.sc x a
  ·simp at a;subst a;exact cellS_sec hE
 obtain ⟨q1,q2⟩:=flushed_is f h.hd _ hsec
 have hat:∀ i:Int,i ≠ (((n - 2 + (E + 1) % 2:Nat):Int)) → flushed f (c ++ [(((n - 2 + (E + 1) % 2:Nat):Int),cellS (E + 1))]) i = seenOf f c i:=fun i hi=>by
  rw [q2]
  unfold seenOf
  rw [List.reverse_append,List.reverse_singleton,List.singleton_append,List.find?_cons,show ((((n - 2 + (E + 1) % 2:Nat):Int)) == i) = false by simpa using Ne.symm hi]
 have hself:flushed f (c ++ [(((n - 2 + (E + 1) % 2:Nat):Int),cellS (E + 1))]) (((n - 2 + (E + 1) % 2:Nat):Int)) = cellS (E + 1):=by
  rw [q2]
  unfold seenOf
  rw [List.reverse_append,List.reverse_singleton,List.singleton_append,List.find?_cons]
  simp
 obtain ⟨hne,_,_⟩:=h.newest
 have hfirst:∃ r m,stand (seenOf f c) (fr2:Int) s = some (r,m) ∧ goesOn [] r = true ∧ fr2 + m ≤ nx2:=by
  unfold newA at hne hfr hnx
  split at hne
  ·rename_i hc
   rw [if_pos hc] at hfr hnx
   simp at hfr
   subst hfr
   obtain ⟨r,m,a,b,d⟩:=area_first hne
   exact ⟨r,m,a,b,by simp only at hnx d;rw [hnx] at d;omega⟩
  ·rename_i hc
   rw [if_neg hc] at hfr hnx
   simp at hfr
   subst hfr
   obtain ⟨r,m,a,b,d⟩:=area_first hne
   exact ⟨r,m,a,b,by simp only at hnx d;rw [hnx] at d;omega⟩
 obtain ⟨r,m,a1,a2,a3⟩:=hfirst
 obtain ⟨_,_,hmn⟩:=stand_fits (fun i=>(hs i).len) a1
 have hf2:fr2 = 0 ∨ fr2 = s:=by rw [hfr];split <;> simp
 refine ⟨h.two,h.one,q1,fun _ hx=>by simp at hx,fun i h0 h1=>?_,fun _ hx=>by simp at hx,hE,hself,?_,hf2,⟨r,m,stand_same (fun i=>(hs i).len) a1 (fun i hi=>hat _ (by rcases hf2 with e | e <;> omega)),a2,a3,fun _ hx=>by simp at hx⟩,hle⟩
 ·rw [hat i (by omega)];exact (hh i h0 h1).mono (by omega) (Nat.le_refl _) (Nat.le_refl _)
 ·rw [show (E + 1 + 1) % 2 = E % 2 by omega,hat _ (by omega),hcl _ (by omega),h.cell,cellN_cellS h.eb];omega
theorem DI.append {n s E G I fr nx:Nat} {f:Int → List Int} {c:List (Int × List Int)} (h:DI n s E G I fr nx f c) (r:Rc) (hr:r.ok) (hd:r.data.length ≤ 32000) (hE:r.epoch ≤ E) (hG:r.gen ≤ G) (hI:r.index ≤ I + 1) (hB:∀ j,Sec (sect (markOf j) (frm r) j)) (hfit:nx + npc (frm r).length ≤ fr + s):DI n s E G (I + 1) fr (nx + npc (frm r).length) f (c ++ writesOf (frm r) (nx:Int) (npc (frm r).length)):=by
 obtain ⟨r0,m,h1,h2,h3,h4⟩:=h.st
 have hf2:=h.frs
 refine ⟨h.two,h.one,h.hd,fun x hx=>?_,fun i a b=>(h.head i a b).mono (Nat.le_refl _) (Nat.le_refl _) (by omega),fun x hx=>?_,h.eb,h.cell,h.cel2,h.frs,⟨r0,m,h1,h2,by omega,fun x hx=>?_⟩,by omega⟩
 ·rcases List.mem_append.mp hx with a | a
  ·exact h.sc x a
  ·unfold writesOf at a
   obtain ⟨j,_,rfl⟩:=List.mem_map.mp a
   exact hB j
 ·rcases List.mem_append.mp hx with a | a
  ·exact ⟨(h.hc x a).1,(h.hc x a).2.1,(h.hc x a).2.2.mono (Nat.le_refl _) (Nat.le_refl _) (by omega)⟩
  ·have hw:=writes_at _ _ _ x a
   have hx2:=writes_head (E:=E) (G:=G) (I:=I + 1) hr hd hE hG hI _ _ x a
   refine ⟨by omega,?_,hx2⟩
   rcases hf2 with e | e <;> omega
 ·rcases List.mem_append.mp hx with a | a
  ·exact h4 x a
  ·have hw:=writes_at _ _ _ x a
   omega
theorem seen_snoc (f:Int → List Int) (c:List (Int × List Int)) (x:Int × List Int) (i:Int):seenOf f (c ++ [x]) i = if x.1 = i then x.2 else seenOf f c i:=by
 unfold seenOf
 rw [List.reverse_append,List.reverse_singleton,List.singleton_append,List.find?_cons]
 by_cases hi:x.1 = i
 ·simp [hi]
 ·have:(x.1 == i) = false:=by simpa using hi
  rw [this,if_neg hi]
theorem seen_writes (f:Int → List Int) (c:List (Int × List Int)) (fr:List Int) (p:Int) (k:Nat):(∀ i:Nat,i < k → seenOf f (c ++ writesOf fr p k) (p + (i:Int)) = sect (markOf i) fr i) ∧ ∀ q:Int,(q < p ∨ p + (k:Int) ≤ q) → seenOf f (c ++ writesOf fr p k) q = seenOf f c q:=by
 induction k with
 |zero=>exact ⟨fun i hi=>by omega,fun q _=>by simp [writesOf]⟩
 |succ k ih=>
  rw [writesOf_succ,← List.append_assoc]
  refine ⟨fun i hi=>?_,fun q hq=>?_⟩
  ·rw [seen_snoc]
   by_cases e:i = k
   ·subst e;simp
   ·rw [if_neg (by simp only;omega)];exact ih.1 i (by omega)
  ·rw [seen_snoc,if_neg (by simp only;omega)];exact ih.2 q (by omega)
theorem sec_writes {r:Rc} (hB:∀ j,Sec (sect (markOf j) (frm r) j)) (p:Int) (k:Nat):∀ x ∈ writesOf (frm r) p k,Sec x.2:=fun x hx=>by
 unfold writesOf at hx
 obtain ⟨j,_,rfl⟩:=List.mem_map.mp hx
 exact hB j
theorem DI.begin {n s E G I fr nx:Nat} {f:Int → List Int} {c:List (Int × List Int)} (h:DI n s E G I fr nx f c) (r:Rc) (hr:r.ok) (hd:r.data.length ≤ 32000) (hE:r.epoch ≤ E) (hG:r.gen ≤ G + 1) (h1:1 ≤ r.gen) (hI:r.index = 0) (hB:∀ j,Sec (sect (markOf j) (frm r) j)) (fr2:Nat) (hf2:fr2 = 0 ∨ fr2 = s) (hfit:npc (frm r).length ≤ s):DI n s E (G + 1) I fr2 (fr2 + npc (frm r).length) (flushed f (c ++ writesOf (frm r) (fr2:Int) (npc (frm r).length))) []:=by
 have hn2:=h.two
 obtain ⟨hs,hh,hcl⟩:=h.seen
 obtain ⟨q1,q2⟩:=flushed_is f h.hd (c ++ writesOf (frm r) (fr2:Int) (npc (frm r).length)) (fun x hx=>by
  rcases List.mem_append.mp hx with a | a
  ·exact h.sc x a
  ·exact sec_writes hB _ _ x a)
 obtain ⟨w1,w2⟩:=seen_writes f c (frm r) (fr2:Int) (npc (frm r).length)
 have hst:stand (flushed f (c ++ writesOf (frm r) (fr2:Int) (npc (frm r).length))) (fr2:Int) s = some (r,npc (frm r).length):=stand_written _ r _ _ hr hd hfit (fun i hi=>by rw [q2];exact w1 i hi)
 refine ⟨h.two,h.one,q1,fun _ hx=>by simp at hx,fun i h0 hi=>?_,fun _ hx=>by simp at hx,h.eb,?_,?_,hf2,⟨r,_,hst,by simp [goesOn,hI,h1],Nat.le_refl _,fun _ hx=>by simp at hx⟩,by omega⟩
 ·rw [q2]
  rcases seen_mem f (c ++ writesOf (frm r) (fr2:Int) (npc (frm r).length)) i with a | ⟨x,hx,_,e⟩
  ·rw [a];exact (h.head i h0 hi).mono (Nat.le_refl _) (by omega) (Nat.le_refl _)
  ·rw [e]
   rcases List.mem_append.mp hx with a | a
   ·exact (h.hc x a).2.2.mono (Nat.le_refl _) (by omega) (Nat.le_refl _)
   ·exact writes_head hr hd hE hG (by omega) _ _ x a
 ·rw [q2,w2 _ (by rcases hf2 with e | e <;> omega),hcl _ (by omega)];exact h.cell
 ·rw [q2,w2 _ (by rcases hf2 with e | e <;> omega),hcl _ (by omega)];exact h.cel2
theorem stand_zero (n:Nat) (p:Int):stand (fun _=>zeros) p n = none:=by
 cases h:stand (fun _=>zeros) p n with
 |none=>rfl
 |some x=>
  obtain ⟨_,_,hm,_⟩:=stand_mark (r:=x.1) (m:=x.2) h
  simp [zeros] at hm
theorem newA_zero (s:Nat):newA (fun _=>zeros) s = (true,([],(s:Int))):=by
 unfold newA
 rw [areaGo_end (stand_zero _ _),areaGo_end (stand_zero _ _)]
 simp
theorem cellN_zeros:cellN zeros = 0:=by
 refine cellN_no (fun _ N _ h=>?_)
 have:=enc_len_pos N
 rw [← h] at this
 revert this
 decide
theorem DI.fresh {n s:Nat} (hn2:2 * s + 2 = n) (h1:1 ≤ s) (r:Rc) (hr:r.ok) (hd:r.data.length ≤ 32000) (hE:r.epoch = 1) (hG:r.gen = 1) (hI:r.index = 0) (hB:∀ j,Sec (sect (markOf j) (frm r) j)) (hfit:npc (frm r).length ≤ s):DI n s 1 1 0 0 (0 + npc (frm r).length) (flushed (flushed (fun _=>zeros) ([] ++ [(((n - 2 + 1 % 2:Nat):Int),cellS 1)])) ([] ++ writesOf (frm r) ((0:Nat):Int) (npc (frm r).length))) []:=by
 have hz:Sec zeros:=zeros_sec
 obtain ⟨p1,p2⟩:=flushed_is (fun _=>zeros) (fun _=>hz) ([] ++ [(((n - 2 + 1 % 2:Nat):Int),cellS 1)]) (fun x hx=>by simp at hx;subst hx;exact cellS_sec (by omega))
 obtain ⟨q1,q2⟩:=flushed_is _ p1 ([] ++ writesOf (frm r) ((0:Nat):Int) (npc (frm r).length)) (fun x hx=>sec_writes hB _ _ x (by simpa using hx))
 obtain ⟨w1,w2⟩:=seen_writes (flushed (fun _=>zeros) ([] ++ [(((n - 2 + 1 % 2:Nat):Int),cellS 1)])) [] (frm r) ((0:Nat):Int) (npc (frm r).length)
 have e0:∀ i:Int,flushed (fun _=>zeros) ([] ++ [(((n - 2 + 1 % 2:Nat):Int),cellS 1)]) i = if (((n - 2 + 1 % 2:Nat):Int)) = i then cellS 1 else zeros:=fun i=>by rw [p2,seen_snoc];rfl
 have hst:stand (flushed (flushed (fun _=>zeros) ([] ++ [(((n - 2 + 1 % 2:Nat):Int),cellS 1)])) ([] ++ writesOf (frm r) ((0:Nat):Int) (npc (frm r).length))) ((0:Nat):Int) s = some (r,npc (frm r).length):=stand_written _ r _ _ hr hd hfit (fun i hi=>by rw [q2];exact w1 i hi)
 refine ⟨hn2,h1,q1,fun _ hx=>by simp at hx,fun i h0 hi=>?_,fun _ hx=>by simp at hx,by omega,?_,?_,.inl rfl,⟨r,_,hst,by simp [goesOn,hI,hG],by omega,fun _ hx=>by simp at hx⟩,by omega⟩
 ·rw [q2]
  rcases seen_mem (flushed (fun _=>zeros) ([] ++ [(((n - 2 + 1 % 2:Nat):Int),cellS 1)])) ([] ++ writesOf (frm r) ((0:Nat):Int) (npc (frm r).length)) i with a | ⟨x,hx,_,e⟩
  ·rw [a,e0,if_neg (by omega)];exact head_zero _ _ _
  ·rw [e];exact writes_head hr hd (by omega) (by omega) (by omega) _ _ x (by simpa using hx)
 ·rw [q2,w2 _ (.inr (by omega))]
  show flushed (fun _=>zeros) ([] ++ [(((n - 2 + 1 % 2:Nat):Int),cellS 1)]) _ = _
  rw [e0,if_pos rfl]
 ·rw [q2,w2 _ (.inr (by omega))]
  show cellN (flushed (fun _=>zeros) ([] ++ [(((n - 2 + 1 % 2:Nat):Int),cellS 1)]) _) ≤ _
  rw [e0,if_neg (by omega),cellN_zeros];omega
end Go.Proofs.YtihdkgekickohaaGreatDoor
