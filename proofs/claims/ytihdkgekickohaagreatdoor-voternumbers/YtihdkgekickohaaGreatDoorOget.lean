import Derived.Test.YtihdkgekickohaaGreatDoorOput
import Derived.Test.YtihdkgekickohaaGreatDoorBaseH
namespace Go.Proofs.YtihdkgekickohaaGreatDoor
open Go.ChangeShapes Go.WideShapes Go.ChangeAt Go.RowKit
set_option maxRecDepth 100000
attribute [local go_sem] World.cell?_alloc_some frozen_alloc_some
theorem rnum_yes (F:Nat → Prop) (w:World) (p:Nat) (bs:List Int) (i:Nat) (most:Int) (ev:Value) (N:Nat) (r:List Int) (h:Rr F w p bs i) (hl:(bs.length:Int) ≤ 140737488355328) (he:w.cell? ⟨4,0,none⟩ = some ev) (hd:bs.drop i = enc N ++ r) (hN:(N:Int) ≤ most) (hm:most ≤ 9223372036854775807) :
  Calls Tryz.prog 139 #[.pointer (some ⟨p,0,none⟩),.int .i64 most] w fun e w'=>e = .returned (.tuple #[.int .i64 (N:Int),.nilIface]) ∧ Rr F w' p bs (i + (enc N).length) ∧ Kept F w w':=by
 refine (rnum_any F w p bs i most ev h hl he).mono ?_
 rintro e w' (⟨M,s,hd2,_,_,rfl,hr,hk⟩ | ⟨hno,_⟩)
 ·obtain ⟨rfl,_⟩:=enc_free N M r s (hd.symm.trans hd2)
  exact ⟨rfl,hr,hk⟩
 ·exact absurd hd (hno N r (by omega) hN)
theorem rnum_no (F:Nat → Prop) (w:World) (p:Nat) (bs:List Int) (i:Nat) (most:Int) (ev:Value) (h:Rr F w p bs i) (hl:(bs.length:Int) ≤ 140737488355328) (he:w.cell? ⟨4,0,none⟩ = some ev) (hno:∀ (N:Nat) (r:List Int),(N:Int) ≤ most → bs.drop i ≠ enc N ++ r) :
  Calls Tryz.prog 139 #[.pointer (some ⟨p,0,none⟩),.int .i64 most] w fun e w'=>e = .returned (.tuple #[.int .i64 0,ev]) ∧ Rr F w' p bs i ∧ Kept F w w':=by
 refine (rnum_any F w p bs i most ev h hl he).mono ?_
 rintro e w' (⟨M,s,hd2,_,hM,rfl,hr,hk⟩ | ⟨_,rfl,hr,hk⟩)
 ·exact absurd hd2 (hno M s hM)
 ·exact ⟨rfl,hr,hk⟩
def NoN (rest:List Int) (n:Nat):Prop:=∃ L r,L.length < n ∧ (∀ x ∈ L,amt x) ∧ rest = encL L ++ r ∧ ∀ (N:Nat) (s:List Int),(N:Int) ≤ 1099511627776 → r ≠ enc N ++ s
theorem NoN.no {rest:List Int} {n:Nat} (h:NoN rest n) {M s:List Int} (hM:∀ x ∈ M,amt x) (hn:n ≤ M.length):rest ≠ encL M ++ s:=by
 obtain ⟨L,r,hL,ha,rfl,hr⟩:=h
 intro e
 have hx:M[L.length]? = some (M[L.length]'(by omega)):=List.getElem?_eq_getElem (by omega)
 have hp:M = M.take L.length ++ M.drop L.length:=(List.take_append_drop _ _).symm
 rw [hp,encL_append,List.append_assoc] at e
 obtain ⟨_,h2⟩:=encL_free L (M.take L.length) r _ (fun n hn=>(ha n hn).1) (fun n hn=>(hM n (List.mem_of_mem_take hn)).1) (by simp;omega) e
 rw [List.drop_eq_getElem_cons (by omega),encL_cons,List.append_assoc] at h2
 have hm:=hM _ (List.getElem_mem (l:=M) (n:=L.length) (by omega))
 exact hr _ _ (by have:=hm.1;have:=hm.2;omega) h2
def zs (n:Nat):List Value:=List.replicate n (.int .i64 0)
def arrOf (ns:List Int) (n:Nat):Array Value:=(ns.map (Value.int .i64) ++ zs (n - ns.length)).toArray
theorem arrOf_at {ns:List Int} {n:Nat} (h:ns.length < n):(arrOf ns n)[ns.length]? = some (.int .i64 0):=by
 unfold arrOf zs
 rw [List.getElem?_toArray,List.getElem?_append_right (by simp),List.getElem?_replicate,if_pos (by simp;omega)]
theorem arrOf_set {ns:List Int} {n:Nat} (h:ns.length < n) (x:Int):(arrOf ns n).set! ns.length (.int .i64 x) = arrOf (ns ++ [x]) n:=by
 unfold arrOf zs
 rw [show n - ns.length = (n - (ns ++ [x]).length) + 1 by simp;omega,List.replicate_succ]
 simp
theorem arrOf_full {ns:List Int} {n:Nat} (h:ns.length = n):arrOf ns n = (ns.map (Value.int .i64)).toArray:=by
 unfold arrOf zs
 simp [h]
theorem num_or (rest:List Int):∀ n:Nat,(∃ M s,M.length = n ∧ (∀ x ∈ M,amt x) ∧ rest = encL M ++ s) ∨ NoN rest n
 |0=>.inl ⟨[],rest,rfl,by simp,rfl⟩
 |n + 1=>by
  rcases num_or rest n with ⟨M,s,rfl,hM,rfl⟩ | ⟨L,r,hL,ha,e,hr⟩
  ·by_cases h:∃ (N:Nat) (t:List Int),(N:Int) ≤ 1099511627776 ∧ s = enc N ++ t
   ·obtain ⟨N,t,hN,rfl⟩:=h
    refine .inl ⟨M ++ [(N:Int)],t,by simp,fun x hx=>?_,by simp [encL_append,encL_cons,encL_nil]⟩
    rcases List.mem_append.mp hx with hx | hx
    ·exact hM x hx
    ·simp at hx;subst hx;exact ⟨by omega,hN⟩
   ·exact .inr ⟨M,s,by omega,hM,rfl,fun N t hN e=>h ⟨N,t,hN,e⟩⟩
  ·exact .inr ⟨L,r,by omega,ha,e,hr⟩
theorem Rr.apart {F:Nat → Prop} {w:World} {p:Nat} {bs:List Int} {i H:Nat} (h:Rr F w p bs i) (hn:¬ F H) (q:Nat) (v:Value):Rr F (w.setCell ⟨H,q,none⟩ v) p bs i:=
 h.kept (Kept.setCell (F:=fun k=>k = H) w (p:=⟨H,q,none⟩) rfl v) (fun _ hk e=>hn (e ▸ hk))
set_option maxHeartbeats 3200000 in
theorem getAll_yes (F:Nat → Prop) (B:Nat) (w:World) (p H n c:Nat) (ty:TypeId) (bs:List Int) (i:Nat) (ev:Value) (M s:List Int) (h:Rr F w p bs i) (hl:(bs.length:Int) ≤ 140737488355328) (he:w.cell? ⟨4,0,none⟩ = some ev) (hg:4 < B) (hB:∀ k,F k → B ≤ k) (hBH:B ≤ H) (hBw:B ≤ w.heap.size) (hnF:¬ F H)
  (hH:w.heap[H]? = some (.cells (arrOf [] n) ty (0,0))) (hn:(n:Int) ≤ 1000) (hM:M.length = n) (ha:∀ x ∈ M,amt x) (hd:bs.drop i = encL M ++ s) :
  Calls Tryz.prog 182 #[.pointer (some ⟨p,0,none⟩),.slice (some ⟨H,0,none⟩) n c] w fun e w'=>e = .returned .nilIface ∧ w'.heap[H]? = some (.cells ((M.map (Value.int .i64)).toArray) ty (0,0)) ∧ Rr F w' p bs (i + (encL M).length) ∧ Kept (fun k=>F k ∨ k = H) w w':=by
 have HR:=mkHid h
 have HE:=mkHid he
 have HF:=mkHid (And.intro hg (And.intro hB (And.intro hBH (And.intro hBw hnF))))
 have HH:=mkHid hH
 have HM:=mkHid (And.intro hM (And.intro ha hd))
 clear h he hg hB hBH hBw hnF hH hM ha hd
 go_enter Tryz.func182,Tryz.ntmps182
 go_wp2
 go_loopw [10] (fun iv wr=>∃ j:Nat,iv = .int .i64 (j:Int) ∧ j ≤ n ∧ Hid (Rr F wr p bs (i + (encL (M.take j)).length) ∧ wr.heap[H]? = some (.cells (arrOf (M.take j) n) ty (0,0)) ∧ Kept (fun k=>F k ∨ k = H) w wr)) (fun iv _=>n - (intOf iv).toNat)
 case atStart=>exact ⟨0,rfl,Nat.zero_le _,mkHid ⟨by simpa [encL_nil] using HR.out,HH.out,Kept.refl _ _⟩⟩
 case round=>
  obtain ⟨j,rfl,hj,HI⟩:=hrel
  by_cases hlt:j < n
  ·have hji:(j:Int) < n:=by omega
   obtain ⟨y,hy⟩:∃ x,M[j]? = some x:=⟨_,List.getElem?_eq_getElem (by rw [HM.out.1];exact hlt)⟩
   obtain ⟨hy0,hy1⟩:=HM.out.2.1 y (List.mem_of_getElem? hy)
   obtain ⟨m,rfl⟩:=Int.eq_ofNat_of_zero_le hy0
   have HT:=mkHid (encL_take hy)
   have HL:Hid ((M.take j).length = j):=mkHid (by rw [List.length_take,HM.out.1];omega)
   have HD:Hid (∃ r,bs.drop (i + (encL (M.take j)).length) = enc m ++ r):=mkHid (by
    have e1:M = M.take j ++ ((m:Int) :: M.drop (j + 1)):=by
     conv=>lhs;rw [← List.take_append_drop j M]
     congr 1
     rw [List.drop_eq_getElem_cons (by rw [HM.out.1];exact hlt)]
     congr 1
     exact (List.getElem?_eq_some_iff.mp hy).2
    rw [← List.drop_drop,HM.out.2.2,e1,encL_append,encL_cons]
    simp only [List.append_assoc]
    rw [← e1,List.drop_left]
    exact ⟨_,rfl⟩)
   obtain ⟨r,hr⟩:=HD.out
   have HQ:=mkHid (rnum_yes F wr p bs _ 1099511627776 ev m r HI.out.1 hl (HI.out.2.2.cell HE.out (fun e=>by have:=HF.out;rcases e with e | e;exact absurd (this.2.1 _ e) (by simp only;omega);have:=this.2.2.1;simp only at e;omega)) hr hy1 (by omega))
   have HY:=mkHid hy
   clear hy hr
   go_wp2_with (go_at_call 139;refine HQ.out.mono ?_;rintro e w1 ⟨rfl,q1,q2⟩;have hb1:w1.heap[H]? = some (.cells (arrOf (M.take j) n) ty (0,0)):=by { rw [q2.block H (World.block_lt_of_cell? wr ⟨H,j,none⟩ (cell_of_block HI.out.2.1 (by have:=arrOf_at (ns:=M.take j) (n:=n) (by rw [HL.out];exact hlt);rw [HL.out] at this;exact this))) HF.out.2.2.2.2];exact HI.out.2.1 };have hc1:w1.cell? ⟨H,j,none⟩ = some (.int .i64 0):=cell_of_block hb1 (by have:=arrOf_at (ns:=M.take j) (n:=n) (by rw [HL.out];exact hlt);rw [HL.out] at this;exact this);have hf1:w1.frozen? ⟨H,j,none⟩ = false:=frozen_of_block hb1;have HW1:=mkHid (And.intro q1 (And.intro q2 hb1));clear q1 q2 hb1)
   go_roundw
   case rel=>
    refine ⟨j + 1,by go_num,by omega,mkHid ⟨?_,?_,?_⟩⟩
    ·have:=HW1.out.1.apart HF.out.2.2.2.2 j (.int .i64 (m:Int))
     rw [HT.out,List.length_append,← Nat.add_assoc]
     simpa using this
    ·have h1:=heap_set (i:=j) (v:=.int .i64 (m:Int)) HW1.out.2.2
     have h2:=arrOf_set (ns:=M.take j) (n:=n) (by rw [HL.out];exact hlt) (m:Int)
     rw [HL.out] at h2
     rw [h2] at h1
     have h3:M.take (j + 1) = M.take j ++ [(m:Int)]:=by
      rw [List.take_add_one,HY.out];rfl
     rw [h3]
     simpa using h1
    ·exact HI.out.2.2.trans ((HW1.out.2.1.mono (fun k hk=>Or.inl hk)).trans (Kept.setCell (F:=fun k=>F k ∨ k = H) w1 (p:=⟨H,j,none⟩) (.inr rfl) _) (fun k hk=>.inl hk)) (fun k hk=>.inl hk)
   case measure=>simp [intOf];omega
  ·obtain rfl:j = n:=by omega
   have hq:=HI.out
   rw [List.take_of_length_le (by rw [HM.out.1];omega),arrOf_full HM.out.1] at hq
   have HI2:=mkHid hq
   clear hq
   go_wp2
   go_ret
   exact ⟨rfl,HI2.out.2.1,HI2.out.1,HI2.out.2.2⟩
set_option maxHeartbeats 3200000 in
theorem getAll_no (F:Nat → Prop) (B:Nat) (w:World) (p H n c:Nat) (ty:TypeId) (bs:List Int) (i:Nat) (ev:Addr) (M s:List Int) (h:Rr F w p bs i) (hl:(bs.length:Int) ≤ 140737488355328) (he:w.cell? ⟨4,0,none⟩ = some (vErr ev)) (hg:4 < B) (hB:∀ k,F k → B ≤ k) (hBH:B ≤ H) (hBw:B ≤ w.heap.size) (hnF:¬ F H)
  (hH:w.heap[H]? = some (.cells (arrOf [] n) ty (0,0))) (hn:(n:Int) ≤ 1000) (hM:M.length < n) (ha:∀ x ∈ M,amt x) (hd:bs.drop i = encL M ++ s) (hno:∀ (N:Nat) (r:List Int),(N:Int) ≤ 1099511627776 → s ≠ enc N ++ r) :
  Calls Tryz.prog 182 #[.pointer (some ⟨p,0,none⟩),.slice (some ⟨H,0,none⟩) n c] w fun e w'=>e = .returned (vErr ev) ∧ Kept (fun k=>F k ∨ k = H) w w':=by
 have HR:=mkHid h
 have HE:=mkHid he
 have HF:=mkHid (And.intro hg (And.intro hB (And.intro hBH (And.intro hBw hnF))))
 have HH:=mkHid hH
 have HM:=mkHid (And.intro hM (And.intro ha hd))
 have HNO:=mkHid hno
 have hMi:(M.length:Int) < n:=by omega
 clear h he hg hB hBH hBw hnF hH hM ha hd hno
 go_enter Tryz.func182,Tryz.ntmps182
 go_wp2
 go_loopw [10] (fun iv wr=>∃ j:Nat,iv = .int .i64 (j:Int) ∧ j ≤ M.length ∧ Hid (Rr F wr p bs (i + (encL (M.take j)).length) ∧ wr.heap[H]? = some (.cells (arrOf (M.take j) n) ty (0,0)) ∧ Kept (fun k=>F k ∨ k = H) w wr)) (fun iv _=>n - (intOf iv).toNat)
 case atStart=>exact ⟨0,rfl,Nat.zero_le _,mkHid ⟨by simpa [encL_nil] using HR.out,HH.out,Kept.refl _ _⟩⟩
 case round=>
  obtain ⟨j,rfl,hj,HI⟩:=hrel
  have hji:(j:Int) < n:=by omega
  have hltn:j < n:=by omega
  by_cases hlt:j < M.length
  ·obtain ⟨y,hy⟩:∃ x,M[j]? = some x:=⟨_,List.getElem?_eq_getElem hlt⟩
   obtain ⟨hy0,hy1⟩:=HM.out.2.1 y (List.mem_of_getElem? hy)
   obtain ⟨m,rfl⟩:=Int.eq_ofNat_of_zero_le hy0
   have HT:=mkHid (encL_take hy)
   have HL:Hid ((M.take j).length = j):=mkHid (by rw [List.length_take];omega)
   have HD:Hid (∃ r,bs.drop (i + (encL (M.take j)).length) = enc m ++ r):=mkHid (by
    have e1:M = M.take j ++ ((m:Int) :: M.drop (j + 1)):=by
     conv=>lhs;rw [← List.take_append_drop j M]
     congr 1
     rw [List.drop_eq_getElem_cons hlt]
     congr 1
     exact (List.getElem?_eq_some_iff.mp hy).2
    rw [← List.drop_drop,HM.out.2.2,e1,encL_append,encL_cons]
    simp only [List.append_assoc]
    rw [← e1,List.drop_left]
    exact ⟨_,rfl⟩)
   obtain ⟨r,hr⟩:=HD.out
   have HQ:=mkHid (rnum_yes F wr p bs _ 1099511627776 (vErr ev) m r HI.out.1 hl (HI.out.2.2.cell HE.out (fun e=>by have:=HF.out;rcases e with e | e;exact absurd (this.2.1 _ e) (by simp only;omega);have:=this.2.2.1;simp only at e;omega)) hr hy1 (by omega))
   have HY:=mkHid hy
   clear hy hr
   go_wp2_with (go_at_call 139;refine HQ.out.mono ?_;rintro e w1 ⟨rfl,q1,q2⟩;have hb1:w1.heap[H]? = some (.cells (arrOf (M.take j) n) ty (0,0)):=by { rw [q2.block H (World.block_lt_of_cell? wr ⟨H,j,none⟩ (cell_of_block HI.out.2.1 (by have:=arrOf_at (ns:=M.take j) (n:=n) (by rw [HL.out];exact hltn);rw [HL.out] at this;exact this))) HF.out.2.2.2.2];exact HI.out.2.1 };have hc1:w1.cell? ⟨H,j,none⟩ = some (.int .i64 0):=cell_of_block hb1 (by have:=arrOf_at (ns:=M.take j) (n:=n) (by rw [HL.out];exact hltn);rw [HL.out] at this;exact this);have hf1:w1.frozen? ⟨H,j,none⟩ = false:=frozen_of_block hb1;have HW1:=mkHid (And.intro q1 (And.intro q2 hb1));clear q1 q2 hb1)
   go_roundw
   case rel=>
    refine ⟨j + 1,by go_num,by omega,mkHid ⟨?_,?_,?_⟩⟩
    ·have:=HW1.out.1.apart HF.out.2.2.2.2 j (.int .i64 (m:Int))
     rw [HT.out,List.length_append,← Nat.add_assoc]
     simpa using this
    ·have h1:=heap_set (i:=j) (v:=.int .i64 (m:Int)) HW1.out.2.2
     have h2:=arrOf_set (ns:=M.take j) (n:=n) (by rw [HL.out];exact hltn) (m:Int)
     rw [HL.out] at h2
     rw [h2] at h1
     have h3:M.take (j + 1) = M.take j ++ [(m:Int)]:=by
      rw [List.take_add_one,HY.out];rfl
     rw [h3]
     simpa using h1
    ·exact HI.out.2.2.trans ((HW1.out.2.1.mono (fun k hk=>Or.inl hk)).trans (Kept.setCell (F:=fun k=>F k ∨ k = H) w1 (p:=⟨H,j,none⟩) (.inr rfl) _) (fun k hk=>.inl hk)) (fun k hk=>.inl hk)
   case measure=>simp [intOf];omega
  ·obtain rfl:j = M.length:=by omega
   have hq:=HI.out
   rw [List.take_of_length_le (Nat.le_refl _)] at hq
   have HQ:=mkHid (rnum_no F wr p bs _ 1099511627776 (vErr ev) hq.1 hl (hq.2.2.cell HE.out (fun e=>by have:=HF.out;rcases e with e | e;exact absurd (this.2.1 _ e) (by simp only;omega);have:=this.2.2.1;simp only at e;omega)) (fun N r hN=>by rw [← List.drop_drop,HM.out.2.2,List.drop_left];exact HNO.out N r hN))
   clear hq
   go_wp2_with (go_at_call 139;refine HQ.out.mono ?_;rintro e w1 ⟨rfl,q1,q2⟩;have HW1:=mkHid q2;clear q1 q2)
   go_ret
   exact ⟨rfl,HI.out.2.2.trans (HW1.out.mono (fun k hk=>Or.inl hk)) (fun k hk=>.inl hk)⟩
theorem sizeE:(Tryz.prog.info? 69).map (·.size) = some 10:=by kernel_rfl
theorem sizeT:(Tryz.prog.info? 137).map (·.size) = some 4:=by kernel_rfl
theorem two_of_four' (w:World) (o1 o2 o3 o4:Obj):((((w.alloc o1).alloc o2).alloc o3).alloc o4).heap[w.heap.size + 1]? = some o2:=two_of_four w o1 o2 o3 o4
set_option maxHeartbeats 3200000 in
theorem entryOf_any (w:World) (cl nu ki tm id sk sq st po:Int):Calls Tryz.prog 183 #[.agg #[.int .i64 cl,.int .i64 nu,.int .i64 ki,.int .i64 tm,.int .i64 id,.int .i64 sk,.int .i64 sq,.int .i64 st,.int .i64 po]] w fun r w'=>r = .returned (vN ⟨cl,nu,ki,id,sk,sq,st,po,[],tm⟩ (.slice none 0 0)) ∧ Below w.heap.size w w':=by
 go_enter Tryz.func183,Tryz.ntmps183
 go_wp2
 refine bodyPost_ret (arr_leaves (p:=2) rfl (run_loadVar_row _ _ _ 69 _ _ _ (two_of_four' w _ _ _ _) Tryz.underlying69 rfl ?_) _ rfl) rfl ⟨rfl,ba (ba (ba (ba (Below.refl _ _) _) _) _) _⟩
 exact sizeE
theorem taskOf_any (w:World) (t:Tk):Calls Tryz.prog 184 #[vT t] w fun r w'=>r = .returned (vT t) ∧ Below w.heap.size w w':=by
 obtain ⟨c,p,d,s⟩:=t
 simp only [vT]
 go_enter Tryz.func184,Tryz.ntmps184
 go_wp2
 refine bodyPost_ret (arr_leaves (p:=2) rfl (run_loadVar_row _ _ _ 137 _ _ _ (two_of_two w _ _) Tryz.underlying137 rfl ?_) _ rfl) rfl ⟨rfl,ba (ba (Below.refl _ _) _) _⟩
 exact sizeT
end Go.Proofs.YtihdkgekickohaaGreatDoor
