import Derived.Test.YtihdkgekickohaaGreatDoorVtMath
import Derived.Test.YtihdkgekickohaaGreatDoorOput
import Derived.Test.YtihdkgekickohaaGreatDoorOcX
import Derived.Test.YtihdkgekickohaaGreatDoorOwrite
namespace Go.Proofs.YtihdkgekickohaaGreatDoor
open Go.ChangeShapes Go.WideShapes Go.ChangeAt Go.RowKit
set_option maxRecDepth 100000
attribute [local go_sem] World.cell?_alloc_some frozen_alloc_some
abbrev vB (b:Bl):Value:=.agg #[.int .i64 b.1,.int .i64 b.2]
abbrev oB (b:Bl):Obj:=.cells #[.int .i64 b.1,.int .i64 b.2] 39
abbrev vS (s:Vs) (lv:Value):Value:=.agg #[.int .i64 s.p.1,.int .i64 s.p.2,.int .i64 s.a.1,.int .i64 s.a.2,.int .i64 s.c,lv]
abbrev oS (s:Vs) (lv:Value):Obj:=.cells #[.int .i64 s.p.1,.int .i64 s.p.2,.int .i64 s.a.1,.int .i64 s.a.2,.int .i64 s.c,lv] 96
theorem st_cells {w:World} {b:Nat} {x0 x1 x2 x3 x4 lv:Value} {T:TypeId} (h:w.heap[b]? = some (.cells #[x0,x1,x2,x3,x4,lv] T (0,0))):w.cell? ⟨b,0,none⟩ = some x0 ∧ w.cell? ⟨b,1,none⟩ = some x1 ∧ w.cell? ⟨b,2,none⟩ = some x2 ∧ w.cell? ⟨b,3,none⟩ = some x3 ∧ w.cell? ⟨b,4,none⟩ = some x4 ∧ w.cell? ⟨b,5,none⟩ = some lv:=
 ⟨cell_of_block h rfl,cell_of_block h rfl,cell_of_block h rfl,cell_of_block h rfl,cell_of_block h rfl,cell_of_block h rfl⟩
def nodeB (n:Int):Bool:=decide (0 ≤ n) && decide (n ≤ 6)
theorem nodeB_iff {n:Int}:nodeB n = true ↔ nodeF n:=by simp [nodeB,nodeF]
def balB (b:Bl):Bool:=(decide (1 ≤ b.1) && decide (b.1 ≤ 1099511627776)) && nodeB b.2
theorem balB_iff {b:Bl}:balB b = true ↔ balF b:=by simp [balB,balF,nodeB_iff]
def aboveB (a b:Bl):Bool:=if a.1 = b.1 then decide (b.2 < a.2) else decide (b.1 < a.1)
theorem above_self (a:Bl):aboveB a a = false:=by simp [aboveB]
theorem isNumber_any (w:World) (n:Int):Calls Tryz.prog 37 #[.int .i64 n] w fun e w'=>e = .returned (.bool (nodeB n)) ∧ w' = w:=by
 obtain ⟨b,hb⟩:∃ b,b = nodeB n:=⟨_,rfl⟩
 rw [← hb]
 have HB:=mkHid hb
 clear hb
 by_cases h0:n < 0
 ·go_enter Tryz.func37,Tryz.ntmps37
  go_wp2
  go_ret
  exact ⟨by rw [HB.out];unfold nodeB;rw [decide_eq_false (by omega)];first | rfl | simp,rfl⟩
 ·have h0':0 ≤ n:=by omega
  by_cases h1:n < 7
  ·go_enter Tryz.func37,Tryz.ntmps37
   go_wp2
   go_ret
   exact ⟨by rw [HB.out];unfold nodeB;rw [decide_eq_true h0',decide_eq_true (show n ≤ 6 by omega)];first | rfl | simp,rfl⟩
  ·go_enter Tryz.func37,Tryz.ntmps37
   go_wp2
   go_ret
   exact ⟨by rw [HB.out];unfold nodeB;rw [decide_eq_true h0',decide_eq_false (show ¬ n ≤ 6 by omega)];first | rfl | simp,rfl⟩
theorem isLegal_any (w:World) (b:Bl):Calls Tryz.prog 72 #[vB b] w fun e w'=>e = .returned (.bool (balB b)) ∧ Below w.heap.size w w':=by
 obtain ⟨r,n⟩:=b
 obtain ⟨b,hb⟩:∃ b,b = balB (r,n):=⟨_,rfl⟩
 rw [← hb]
 have HB:=mkHid hb
 clear hb
 obtain ⟨nb,hnb⟩:∃ b,b = nodeB n:=⟨_,rfl⟩
 have HC:=fun W=>mkHid (isNumber_any W n)
 rw [← hnb] at HC
 have HN:=mkHid hnb
 clear hnb
 simp only [vB]
 by_cases h0:r < 1
 ·go_enter Tryz.func72,Tryz.ntmps72
  go_wp2
  go_ret
  exact ⟨by rw [HB.out];unfold balB;dsimp only;rw [decide_eq_false (by omega)];first | rfl | simp,ba (Below.refl _ _) _⟩
 ·have h0':1 ≤ r:=by omega
  by_cases h1:r ≤ 1099511627776
  ·go_enter Tryz.func72,Tryz.ntmps72
   go_wp2_with (go_at_call 37;refine (HC _).out.mono ?_;rintro e w' ⟨rfl,rfl⟩)
   go_ret
   exact ⟨by rw [HB.out];unfold balB;dsimp only;rw [decide_eq_true h0',decide_eq_true h1,← HN.out];first | rfl | simp,ba (Below.refl _ _) _⟩
  ·go_enter Tryz.func72,Tryz.ntmps72
   go_wp2
   go_ret
   exact ⟨by rw [HB.out];unfold balB;dsimp only;rw [decide_eq_true h0',decide_eq_false (show ¬ r ≤ 1099511627776 by omega)];first | rfl | simp,ba (Below.refl _ _) _⟩
theorem above_any (w:World) (a b:Bl):Calls Tryz.prog 14 #[vB a,vB b] w fun e w'=>e = .returned (.bool (aboveB a b)) ∧ Below w.heap.size w w':=by
 obtain ⟨a1,a2⟩:=a
 obtain ⟨b1,b2⟩:=b
 obtain ⟨q,hq⟩:∃ q,q = aboveB (a1,a2) (b1,b2):=⟨_,rfl⟩
 rw [← hq]
 have HQ:=mkHid hq
 clear hq
 simp only [vB]
 by_cases h0:a1 = b1
 ·subst h0
  go_enter Tryz.func14,Tryz.ntmps14
  go_wp2
  go_ret
  exact ⟨by rw [HQ.out];unfold aboveB;dsimp only;rw [if_pos rfl];rfl,ba (ba (Below.refl _ _) _) _⟩
 ·go_enter Tryz.func14,Tryz.ntmps14
  go_wp2
  go_ret
  exact ⟨by rw [HQ.out];unfold aboveB;dsimp only;rw [if_neg h0];rfl,ba (ba (Below.refl _ _) _) _⟩
theorem rabove_any (w:World) (a b:Bl):Calls Tryz.prog 15 #[vB a,vB b] w fun e w'=>e = .returned (.bool (aboveB a b)) ∧ Below w.heap.size w w':=by
 obtain ⟨a1,a2⟩:=a
 obtain ⟨b1,b2⟩:=b
 obtain ⟨q,hq⟩:∃ q,q = aboveB (a1,a2) (b1,b2):=⟨_,rfl⟩
 rw [← hq]
 have HQ:=mkHid hq
 clear hq
 simp only [vB]
 by_cases h0:a1 = b1
 ·subst h0
  go_enter Tryz.func15,Tryz.ntmps15
  go_wp2
  go_ret
  exact ⟨by rw [HQ.out];unfold aboveB;dsimp only;rw [if_pos rfl];rfl,ba (ba (Below.refl _ _) _) _⟩
 ·go_enter Tryz.func15,Tryz.ntmps15
  go_wp2
  go_ret
  exact ⟨by rw [HQ.out];unfold aboveB;dsimp only;rw [if_neg h0];rfl,ba (ba (Below.refl _ _) _) _⟩
def halfI (n:Int):Int:=if n < 1 then 0 else n / 2 + 1
theorem half_any (w:World) (n:Int) (h:n ≤ 9223372036854775807):Calls Tryz.prog 13 #[.int .i64 n] w fun e w'=>e = .returned (.int .i64 (halfI n)) ∧ w' = w:=by
 obtain ⟨q,hq⟩:∃ q,q = halfI n:=⟨_,rfl⟩
 rw [← hq]
 have HQ:=mkHid hq
 clear hq
 by_cases h0:n < 1
 ·go_enter Tryz.func13,Tryz.ntmps13
  go_wp2
  go_ret
  exact ⟨by rw [HQ.out];unfold halfI;rw [if_pos h0];rfl,rfl⟩
 ·have h0':1 ≤ n:=by omega
  go_enter Tryz.func13,Tryz.ntmps13
  go_wp2
  go_ret
  exact ⟨by rw [HQ.out];unfold halfI;rw [if_neg (by omega)];rfl,rfl⟩
def noneB (b:Bl):Bool:=decide (b.1 = 0) && decide (b.2 = 0)
theorem noneB_iff {b:Bl}:noneB b = true ↔ b = (0,0):=by
 obtain ⟨x,y⟩:=b
 simp [noneB]
theorem noneB_no {b:Bl} (h:b ≠ (0,0)):noneB b = false:=by
 rw [← Bool.not_eq_true,noneB_iff];exact h
theorem eq_bal (w:World) (a1 a2 b1 b2:Int):(binOp .eql 39 (.agg #[.int .i64 a1,.int .i64 a2]) (.agg #[.int .i64 b1,.int .i64 b2])).run Tryz.prog w = .ok (.bool (decide (a1 = b1) && decide (a2 = b2))) w:=by
 go_simp
 by_cases h0:a1 = b1
 case neg=>simp [h0]
 by_cases h1:a2 = b2
 case neg=>simp [h0,h1]
 simp [h0,h1]
theorem isNone_any (w:World) (b:Bl):Calls Tryz.prog 154 #[vB b] w fun e w'=>e = .returned (.bool (noneB b)) ∧ Below w.heap.size w w':=by
 obtain ⟨r,n⟩:=b
 obtain ⟨q,hq⟩:∃ q,q = noneB (r,n):=⟨_,rfl⟩
 have he:=fun W=>eq_bal W r n 0 0
 rw [show (decide (r = 0) && decide (n = 0)) = q from hq.symm] at he
 rw [← hq]
 clear hq
 simp only [vB]
 go_enter Tryz.func154,Tryz.ntmps154
 go_wp2
 go_ret
 exact ⟨rfl,ba (Below.refl _ _) _⟩
theorem numI (B:Nat) (w:World) (p:Nat) (bs:List Int) (x:Int) (h:WrB B w p bs) (hx:amt x) (hl:(bs.length:Int) ≤ 140737488350000) :
  Calls Tryz.prog 61 #[.pointer (some ⟨p,0,none⟩),.int .i64 x] w fun e w'=>e = .returned (.tuple #[]) ∧ WrB B w' p (bs ++ enc x.toNat) ∧ Below B w w':=by
 obtain ⟨n,rfl⟩:=Int.eq_ofNat_of_zero_le hx.1
 have:=hx.2
 exact numB B w p bs n h (by omega) hl
theorem bytesW (B:Nat) (w:World) (p:Nat) (bs xs:List Int) (v:Value) (h:WrB B w p bs) (hX:Byts xs) (hl:(bs.length:Int) + xs.length ≤ 140737488340000) (hr:Rd w v xs) (hv:∀ k,v.ownBlock = some k → k < B) :
  Calls Tryz.prog 62 #[.pointer (some ⟨p,0,none⟩),v] w fun e w'=>e = .returned (.tuple #[]) ∧ WrB B w' p (bs ++ (enc xs.length ++ xs)) ∧ Below B w w':=by
 obtain ⟨F,h1,h2,h3⟩:=h
 refine (bytes_any F w p bs xs false v h1 hX hl (fun w' hk=>hr.kept hk (fun k hk' hF=>by have:=hv k hk';have:=h2 k hF;omega))).mono ?_
 rintro e w' ⟨rfl,F',q1,q2,q3⟩
 exact ⟨rfl,⟨F',q1,fun k hk=>by rcases q2 k hk with a | a;exact h2 k a;omega,Nat.le_trans h3 q3.size⟩,q3.below h2 h3⟩
theorem encLt {l:List Int} {j:Nat} {x:Int} (hx:l[j]? = some x):encL (l.take (j + 1)) = encL (l.take j) ++ enc x.toNat:=by
 rw [List.take_add_one,hx,encL_append]
 simp [encL_cons,encL_nil]
theorem write_yes (w:World) (v:Value) (ps:List Ep) (es:Addr) (h:Ens w v ps) (hl:ps.length ≤ 64) (he:w.cell? ⟨15,0,none⟩ = some (vErr es)) (hf:∀ t ∈ ps,inF t.1):Calls Tryz.prog 42 #[v] w fun r w'=>∃ v',r = .returned (.tuple #[v',.nilIface]) ∧ w'.ownsRow w.heap.size 5 1 v' (bytesL (fs1 ps)).length ((bytesL (fs1 ps)).map (Value.int .u8)) ∧ Below w.heap.size w w':=by
 refine (write_all w v ps es h hl he).mono ?_
 rintro r w' ⟨hb,⟨_,v',rfl,ho⟩ | ⟨hn,_⟩⟩
 ·exact ⟨v',rfl,ho,hb⟩
 ·exact absurd hf hn
theorem write_led (w:World) (v:Value) (ps:List Ep) (es:Addr) (h:Ens w v ps) (hl:ledF (fs1 ps)) (he:w.cell? ⟨15,0,none⟩ = some (vErr es)):Calls Tryz.prog 42 #[v] w fun r w'=>∃ v',r = .returned (.tuple #[v',.nilIface]) ∧ w'.ownsRow w.heap.size 5 1 v' (bytesL (fs1 ps)).length ((bytesL (fs1 ps)).map (Value.int .u8)) ∧ Below w.heap.size w w':=
 write_yes w v ps es h (by have:=hl.1;simpa using this) he (fun t ht=>hl.2 _ (List.mem_map.mpr ⟨t,ht,rfl⟩))
theorem size5:(Tryz.prog.info? 143).map (·.size) = some 5:=by kernel_rfl
abbrev a5 (s:Vs):Array Value:=#[.int .i64 s.p.1,.int .i64 s.p.2,.int .i64 s.a.1,.int .i64 s.a.2,.int .i64 s.c]
theorem headOf_v (w:World) (s:Vs) (a:Option Addr) (n c:Nat):Calls Tryz.prog 60 #[vS s (.slice a n c)] w fun r w'=>r = .returned (.agg (a5 s)) ∧ Below w.heap.size w w':=by
 obtain ⟨⟨p1,p2⟩,⟨a1,a2⟩,c',l⟩:=s
 simp only [vS,a5]
 go_enter Tryz.func60,Tryz.ntmps60
 go_wp2
 refine bodyPost_ret (arr_leaves (p:=2) rfl (run_loadVar_row _ _ _ 143 _ _ _ (two_of_two w _ _) Tryz.underlying143 rfl ?_) _ rfl) rfl ⟨rfl,ba (ba (Below.refl _ _) _) _⟩
 exact size5
theorem snum_amt {s:Vs} (h:s.ok):∀ n ∈ snum s,amt n:=by
 obtain ⟨h1,h2⟩:=h.p.amt
 obtain ⟨h3,h4⟩:=h.a.amt
 intro n hn
 simp only [snum,List.mem_cons,List.not_mem_nil,or_false] at hn
 rcases hn with rfl | rfl | rfl | rfl | rfl
 ·exact h1
 ·exact h2
 ·exact h3
 ·exact h4
 ·exact h.c
theorem snum_part {s:Vs} (h:s.ok) (j:Nat):((encL ((snum s).take j)).length:Int) ≤ 1000:=by
 have:=encL_len ((snum s).take j) (fun n hn=>by have:=(snum_amt h n (List.mem_of_mem_take hn)).2;omega)
 rw [List.length_take] at this
 have:(snum s).length = 5:=rfl
 omega
theorem st_late {w:World} (s:Vs) (lv:Value) {w':World} (hb:Below (w.alloc (oS s lv)).heap.size (w.alloc (oS s lv)) w'):w'.heap[w.heap.size]? = some (oS s lv):=(hb.block w.heap.size (by simp)).trans (heap_alloc_new w _)
set_option maxHeartbeats 6400000 in
theorem sbytes_ok (w:World) (s:Vs) (lv:Value) (ps:List Ep) (es:Addr) (h:Ens w lv ps) (hls:fs1 ps = s.l) (he:w.cell? ⟨15,0,none⟩ = some (vErr es)) (hok:s.ok) :
  Calls Tryz.prog 38 #[vS s lv] w fun r w'=>∃ v',r = .returned (.tuple #[v',.nilIface]) ∧ w'.ownsRow w.heap.size 5 1 v' (bytesS s).length ((bytesS s).map (Value.int .u8)) ∧ Below w.heap.size w w':=by
 have HWR:=mkHid (fun W (hW:Below w.heap.size w W)=>write_led W lv ps es (h.below hW) (by rw [hls];exact hok.l) (kc he hW))
 rw [hls] at HWR
 have HF:=mkHid hok
 obtain ⟨a,cap,rfl⟩:∃ a cap,lv = .slice a ps.length cap:=by obtain ⟨a,cap,e,_⟩:=h;exact ⟨a,cap,e⟩
 clear h hls he hok
 obtain ⟨⟨p1,p2⟩,⟨a1,a2⟩,c,l⟩:=s
 simp only [vS] at HWR ⊢
 go_enter Tryz.func38,Tryz.ntmps38
 go_wp2_with (first
  |(go_at_call 42;refine (HWR.out _ (ba (Below.refl _ w) _)).mono ?_;rintro r w2 ⟨lv,rfl,hlo,b2⟩;obtain ⟨la,lc,rfl⟩:=own_shape hlo;have HLO:=mkHid hlo;have HB2:Hid (Below (w.alloc (oS ⟨(p1,p2),(a1,a2),c,l⟩ (.slice a ps.length cap))).heap.size (w.alloc (oS ⟨(p1,p2),(a1,a2),c,l⟩ (.slice a ps.length cap))) w2):=mkHid b2;clear hlo b2)
  |(go_at_call 59;refine (newB w2.heap.size w2 (Nat.le_refl _)).mono ?_;rintro r w3 ⟨rfl,hw3,b3⟩;have HW3:=mkHid hw3;have HB3:=mkHid b3;obtain ⟨q0,q1,q2,q3,q4,q5⟩:=st_cells (st_late ⟨(p1,p2),(a1,a2),c,l⟩ _ (bt HB2.out b3));clear hw3 b3)
  |(go_at_call 60;refine (headOf_v _ ⟨(p1,p2),(a1,a2),c,l⟩ a ps.length cap).mono ?_;rintro r w4 ⟨rfl,b4⟩;simp only [a5];have HW4:=mkHid (HW3.out.below b4);have HB4:=mkHid (bt HB3.out b4);clear b4 q0 q1 q2 q3 q4 q5))
 go_loopw [21] (fun iv wr=>∃ j:Nat,iv = .int .i64 (j:Int) ∧ j ≤ 5 ∧ Hid (WrB w2.heap.size wr w2.heap.size (encL ((snum ⟨(p1,p2),(a1,a2),c,l⟩).take j)) ∧ Below w2.heap.size w2 wr)) (fun iv _=>5 - (intOf iv).toNat)
 case atStart=>exact ⟨0,rfl,Nat.zero_le _,mkHid ⟨by simpa [encL_nil] using HW4.out,HB4.out⟩⟩
 case round=>
  obtain ⟨j,rfl,hj,HB⟩:=hrel
  by_cases hlt:j < 5
  ·have hj8:j = 0 ∨ j = 1 ∨ j = 2 ∨ j = 3 ∨ j = 4:=by omega
   obtain ⟨x,hx⟩:∃ x,(snum ⟨(p1,p2),(a1,a2),c,l⟩)[j]? = some x:=⟨_,List.getElem?_eq_getElem (by show j < 5;exact hlt)⟩
   have HN:=mkHid (numI w2.heap.size wr w2.heap.size _ x HB.out.1 (snum_amt HF.out x (List.mem_of_getElem? hx)) (by have:=snum_part HF.out j;omega))
   rw [← encLt hx] at HN
   rcases hj8 with rfl | rfl | rfl | rfl | rfl
   ·simp [snum] at hx
    subst hx
    have i0:∀ W,(Instr.index 143 (.agg #[.int .i64 p1,.int .i64 p2,.int .i64 a1,.int .i64 a2,.int .i64 c]) (.int .i64 0)).run Tryz.prog W = .ok (.int .i64 p1) W:=fun _=>by kernel_rfl
    go_wp2_with (go_at_call 61;refine HN.out.mono ?_;rintro r w5 ⟨rfl,hw5,b5⟩;have HW5:=mkHid (And.intro hw5 (HB.out.2.trans b5));clear hw5 b5)
    go_roundw
    case rel=>exact ⟨1,by first | rfl | go_num,by omega,HW5⟩
    case measure=>simp [intOf]
   ·simp [snum] at hx
    subst hx
    have i1:∀ W,(Instr.index 143 (.agg #[.int .i64 p1,.int .i64 p2,.int .i64 a1,.int .i64 a2,.int .i64 c]) (.int .i64 1)).run Tryz.prog W = .ok (.int .i64 p2) W:=fun _=>by kernel_rfl
    go_wp2_with (go_at_call 61;refine HN.out.mono ?_;rintro r w5 ⟨rfl,hw5,b5⟩;have HW5:=mkHid (And.intro hw5 (HB.out.2.trans b5));clear hw5 b5)
    go_roundw
    case rel=>exact ⟨2,by first | rfl | go_num,by omega,HW5⟩
    case measure=>simp [intOf]
   ·simp [snum] at hx
    subst hx
    have i2:∀ W,(Instr.index 143 (.agg #[.int .i64 p1,.int .i64 p2,.int .i64 a1,.int .i64 a2,.int .i64 c]) (.int .i64 2)).run Tryz.prog W = .ok (.int .i64 a1) W:=fun _=>by kernel_rfl
    go_wp2_with (go_at_call 61;refine HN.out.mono ?_;rintro r w5 ⟨rfl,hw5,b5⟩;have HW5:=mkHid (And.intro hw5 (HB.out.2.trans b5));clear hw5 b5)
    go_roundw
    case rel=>exact ⟨3,by first | rfl | go_num,by omega,HW5⟩
    case measure=>simp [intOf]
   ·simp [snum] at hx
    subst hx
    have i3:∀ W,(Instr.index 143 (.agg #[.int .i64 p1,.int .i64 p2,.int .i64 a1,.int .i64 a2,.int .i64 c]) (.int .i64 3)).run Tryz.prog W = .ok (.int .i64 a2) W:=fun _=>by kernel_rfl
    go_wp2_with (go_at_call 61;refine HN.out.mono ?_;rintro r w5 ⟨rfl,hw5,b5⟩;have HW5:=mkHid (And.intro hw5 (HB.out.2.trans b5));clear hw5 b5)
    go_roundw
    case rel=>exact ⟨4,by first | rfl | go_num,by omega,HW5⟩
    case measure=>simp [intOf]
   ·simp [snum] at hx
    subst hx
    have i4:∀ W,(Instr.index 143 (.agg #[.int .i64 p1,.int .i64 p2,.int .i64 a1,.int .i64 a2,.int .i64 c]) (.int .i64 4)).run Tryz.prog W = .ok (.int .i64 c) W:=fun _=>by kernel_rfl
    go_wp2_with (go_at_call 61;refine HN.out.mono ?_;rintro r w5 ⟨rfl,hw5,b5⟩;have HW5:=mkHid (And.intro hw5 (HB.out.2.trans b5));clear hw5 b5)
    go_roundw
    case rel=>exact ⟨5,by first | rfl | go_num,by omega,HW5⟩
    case measure=>simp [intOf]
  ·obtain rfl:j = 5:=by omega
   have hq:=HB.out.1
   rw [List.take_of_length_le (by show (5:Nat) ≤ 5;omega)] at hq
   have HQ:=mkHid hq
   have HRD:=mkHid ((Rd.of_owns (bytesL_byts l) HLO.out).later HB.out.2)
   have hll:=bytesS_len HF.out
   unfold bytesS at hll
   rw [List.length_append,List.length_append] at hll
   have HLL:=mkHid hll
   clear hq hll
   go_wp2_with (first
    |(go_at_call 62;refine (bytesW w2.heap.size wr w2.heap.size _ (bytesL l) _ HQ.out (bytesL_byts l) (by have:=HLL.out;dsimp only at this;omega) HRD.out (fun k hk=>(HLO.out.lt k hk).2)).mono ?_;rintro r w5 ⟨rfl,hw5,b5⟩;rw [show encL (snum ⟨(p1,p2),(a1,a2),c,l⟩) ++ (enc (bytesL l).length ++ bytesL l) = bytesS ⟨(p1,p2),(a1,a2),c,l⟩ from rfl] at hw5;obtain ⟨F5,hF5,_⟩:=hw5;have HD:=mkHid (done_ok F5 w5 w2.heap.size (bytesS ⟨(p1,p2),(a1,a2),c,l⟩) hF5 (by have:=bytesS_len HF.out;omega));have HB5:=mkHid (HB.out.2.trans b5);clear hF5 b5)
    |(go_at_call 63;refine HD.out.mono ?_;rintro r w6 ⟨v6,rfl,ho6,b6⟩;obtain ⟨a6,c6,rfl⟩:=own_shape ho6;have HO6:=mkHid ho6;have HB6:=mkHid (bt HB5.out b6);clear ho6 b6))
   go_ret2
   have hsz:=(bt (ba (Below.refl _ w) (oS ⟨(p1,p2),(a1,a2),c,l⟩ (.slice a ps.length cap))) HB2.out)
   exact ⟨_,rfl,own_up HO6.out (Nat.le_trans hsz.size HB5.out.size),bt hsz HB6.out⟩
abbrev vR (k r n st:Int) (lv:Value):Value:=.agg #[.int .i64 k,.int .i64 r,.int .i64 n,.int .i64 st,lv]
abbrev oRc (k r n st:Int) (lv:Value):Obj:=.cells #[.int .i64 k,.int .i64 r,.int .i64 n,.int .i64 st,lv] 107
theorem rc_cells {w:World} {b:Nat} {x0 x1 x2 x3 lv:Value} {T:TypeId} (h:w.heap[b]? = some (.cells #[x0,x1,x2,x3,lv] T (0,0))):w.cell? ⟨b,0,none⟩ = some x0 ∧ w.cell? ⟨b,1,none⟩ = some x1 ∧ w.cell? ⟨b,2,none⟩ = some x2 ∧ w.cell? ⟨b,3,none⟩ = some x3 ∧ w.cell? ⟨b,4,none⟩ = some lv:=
 ⟨cell_of_block h rfl,cell_of_block h rfl,cell_of_block h rfl,cell_of_block h rfl,cell_of_block h rfl⟩
def BytesP (w:World) (bs:List Int) (r:Ending) (w':World):Prop:=∃ v',r = .returned (.tuple #[v',.nilIface]) ∧ w'.ownsRow w.heap.size 5 1 v' bs.length (bs.map (Value.int .u8)) ∧ Below w.heap.size w w'
theorem rc_late1 {w:World} {o:Obj} {w':World} (hb:Below (w.heap.size + 1) (w.alloc o) w'):w'.heap[w.heap.size]? = some o:=(hb.block w.heap.size (by simp)).trans (heap_alloc_new w _)
set_option maxHeartbeats 6400000 in
theorem rbytes_pr (w:World) (b1 b2 st:Int) (lv:Value) (hok:balF (b1,b2)) :
  Calls Tryz.prog 74 #[vR 1 b1 b2 st lv] w (BytesP w (bytesR (.pr (b1,b2)))):=by
 obtain ⟨⟨h1,h2⟩,h3,h4⟩:=id hok
 dsimp only at h1 h2 h3 h4
 have HOK:Hid (Vr.ok (.pr (b1,b2))):=mkHid hok
 clear hok
 have HSZ:Hid (w.heap.size + 1 ≤ (w.alloc (oRc 1 b1 b2 st lv)).heap.size):=mkHid (by simp)
 simp only [vR]
 go_enter Tryz.func74,Tryz.ntmps74
 go_wp2_with (first
  |(go_at_call 59;refine (newB (w.heap.size + 1) _ (by simp)).mono ?_;rintro r w1 ⟨rfl,hw,b⟩;have HW1:Hid (WrB (w.heap.size + 1) w1 (w.heap.size + 1) []):=mkHid (by simpa using hw);have HB1:Hid (Below (w.heap.size + 1) (w.alloc (oRc 1 b1 b2 st lv)) w1):=mkHid (by simpa using b);obtain ⟨q0,q1,q2,q3,q4⟩:=rc_cells (rc_late1 HB1.out);clear hw b)
  |(go_at_call 61;have HN:=numI _ w1 _ [] 1 HW1.out (by unfold amt;omega) (by simp);(with_reducible refine HN.mono ?_);clear HN;rintro r w2 ⟨rfl,hw,b⟩;rw [show [] ++ enc (1:Int).toNat = encL [1] by simp [encL]] at hw;have HW2:=mkHid hw;have HB2:=mkHid (HB1.out.trans b);obtain ⟨q0,q1,q2,q3,q4⟩:=rc_cells (rc_late1 HB2.out);clear hw b)
  |(go_at_call 61;have HN:=numI _ w2 _ (encL [1]) b1 HW2.out (by unfold amt;omega) (by have:=encL_len [1] (fun n hn=>by simp only [List.mem_cons,List.not_mem_nil,or_false] at hn;omega);simp only [List.length_cons,List.length_nil] at this;omega);(with_reducible refine HN.mono ?_);clear HN;rintro r w3 ⟨rfl,hw,b⟩;rw [show (encL [1]) ++ enc (b1:Int).toNat = encL [1,b1] by simp [encL]] at hw;have HW3:=mkHid hw;have HB3:=mkHid (HB2.out.trans b);obtain ⟨q0,q1,q2,q3,q4⟩:=rc_cells (rc_late1 HB3.out);clear hw b)
  |(go_at_call 61;have HN:=numI _ w3 _ (encL [1,b1]) b2 HW3.out (by unfold amt;omega) (by have:=encL_len [1,b1] (fun n hn=>by simp only [List.mem_cons,List.not_mem_nil,or_false] at hn;omega);simp only [List.length_cons,List.length_nil] at this;omega);(with_reducible refine HN.mono ?_);clear HN;rintro r w4 ⟨rfl,hw,b⟩;rw [show (encL [1,b1]) ++ enc (b2:Int).toNat = encL [1,b1,b2] by simp [encL]] at hw;have HW4:=mkHid hw;have HB4:=mkHid (HB3.out.trans b);obtain ⟨q0,q1,q2,q3,q4⟩:=rc_cells (rc_late1 HB4.out);clear hw b)
  |(go_at_call 63;obtain ⟨F5,hF5,_⟩:=HW4.out;refine (done_ok F5 w4 _ (encL [1,b1,b2]) hF5 (by have:=bytesR_len (r:=.pr (b1,b2)) HOK.out;first | omega | (simp only [bytesR] at this;omega))).mono ?_;rintro r w9 ⟨v9,rfl,ho9,b9⟩;obtain ⟨a9,c9,rfl⟩:=own_shape ho9;have HO9:=mkHid ho9;have HB9:=mkHid b9;clear hF5 ho9 b9))
 go_ret2
 have e1:Below w.heap.size w w4:=(ba (Below.refl _ w) (oRc 1 b1 b2 st lv)).trans (HB4.out.mono (Nat.le_succ _))
 exact ⟨_,rfl,own_up HO9.out e1.size,e1.trans (HB9.out.mono e1.size)⟩
set_option maxHeartbeats 6400000 in
theorem rbytes_cl (w:World) (b1 b2 st:Int) (lv:Value) (hok:1 ≤ b1 ∧ b1 ≤ 1099511627776) :
  Calls Tryz.prog 74 #[vR 3 b1 b2 st lv] w (BytesP w (bytesR (.cl b1))):=by
 have HOK:Hid (Vr.ok (.cl b1)):=mkHid hok
 obtain ⟨h1,h2⟩:=hok
 have HSZ:Hid (w.heap.size + 1 ≤ (w.alloc (oRc 3 b1 b2 st lv)).heap.size):=mkHid (by simp)
 simp only [vR]
 go_enter Tryz.func74,Tryz.ntmps74
 go_wp2_with (first
  |(go_at_call 59;refine (newB (w.heap.size + 1) _ (by simp)).mono ?_;rintro r w1 ⟨rfl,hw,b⟩;have HW1:Hid (WrB (w.heap.size + 1) w1 (w.heap.size + 1) []):=mkHid (by simpa using hw);have HB1:Hid (Below (w.heap.size + 1) (w.alloc (oRc 3 b1 b2 st lv)) w1):=mkHid (by simpa using b);obtain ⟨q0,q1,q2,q3,q4⟩:=rc_cells (rc_late1 HB1.out);clear hw b)
  |(go_at_call 61;have HN:=numI _ w1 _ [] 3 HW1.out (by unfold amt;omega) (by simp);(with_reducible refine HN.mono ?_);clear HN;rintro r w2 ⟨rfl,hw,b⟩;rw [show [] ++ enc (3:Int).toNat = encL [3] by simp [encL]] at hw;have HW2:=mkHid hw;have HB2:=mkHid (HB1.out.trans b);obtain ⟨q0,q1,q2,q3,q4⟩:=rc_cells (rc_late1 HB2.out);clear hw b)
  |(go_at_call 61;have HN:=numI _ w2 _ (encL [3]) b1 HW2.out (by unfold amt;omega) (by have:=encL_len [3] (fun n hn=>by simp only [List.mem_cons,List.not_mem_nil,or_false] at hn;omega);simp only [List.length_cons,List.length_nil] at this;omega);(with_reducible refine HN.mono ?_);clear HN;rintro r w3 ⟨rfl,hw,b⟩;rw [show (encL [3]) ++ enc (b1:Int).toNat = encL [3,b1] by simp [encL]] at hw;have HW3:=mkHid hw;have HB3:=mkHid (HB2.out.trans b);obtain ⟨q0,q1,q2,q3,q4⟩:=rc_cells (rc_late1 HB3.out);clear hw b)
  |(go_at_call 63;obtain ⟨F5,hF5,_⟩:=HW3.out;refine (done_ok F5 w3 _ (encL [3,b1]) hF5 (by have:=bytesR_len (r:=.cl b1) HOK.out;first | omega | (simp only [bytesR] at this;omega))).mono ?_;rintro r w9 ⟨v9,rfl,ho9,b9⟩;obtain ⟨a9,c9,rfl⟩:=own_shape ho9;have HO9:=mkHid ho9;have HB9:=mkHid b9;clear hF5 ho9 b9))
 go_ret2
 have e1:Below w.heap.size w w3:=(ba (Below.refl _ w) (oRc 3 b1 b2 st lv)).trans (HB3.out.mono (Nat.le_succ _))
 exact ⟨_,rfl,own_up HO9.out e1.size,e1.trans (HB9.out.mono e1.size)⟩
def WrX (B:Nat) (w:World) (p:Nat) (bs:List Int) (v:Value) (xs:List Int):Prop:=∃ F,Wr F w p bs false ∧ (∀ k,F k → B ≤ k) ∧ B ≤ w.heap.size ∧ ∀ w',Kept F w w' → Rd w' v xs
theorem numX (B:Nat) (w w5:World) (p:Nat) (bs xs:List Int) (v:Value) (x:Int) (h:WrB B w p bs) (hX:Byts xs) (hx:amt x) (hl:(bs.length:Int) ≤ 140737488350000) (hb:Below w.heap.size w w5) (ho:w5.ownsRow w.heap.size 5 1 v xs.length (xs.map (Value.int .u8))) :
  Calls Tryz.prog 61 #[.pointer (some ⟨p,0,none⟩),.int .i64 x] w5 fun e w'=>e = .returned (.tuple #[]) ∧ WrX B w' p (bs ++ enc x.toNat) v xs ∧ Below B w5 w':=by
 obtain ⟨F,h1,h2,h3⟩:=h
 obtain ⟨n,rfl⟩:=Int.eq_ofNat_of_zero_le hx.1
 have hx2:=hx.2
 have hr:=Rd.of_owns hX ho
 refine (num_any F w5 p bs false n (h1.below hb) (by omega) hl).mono ?_
 rintro e w' ⟨rfl,F',q1,q2,q3⟩
 have hs:=Nat.le_trans h3 hb.size
 have hr':Rd w' v xs:=hr.kept q3 (fun k hk' hF=>by have:=h1.1 k hF;have:=(ho.lt k hk').1;omega)
 refine ⟨rfl,⟨F',q1,fun k hk=>by rcases q2 k hk with a | a;exact h2 k a;omega,Nat.le_trans hs q3.size,fun w2 hk2=>hr'.kept hk2 (fun k hk' hF=>?_)⟩,q3.below h2 hs⟩
 have h4:=ho.lt k hk'
 rcases q2 k hF with a | a
 ·have:=h1.1 k a;omega
 ·omega
theorem bytesX (B:Nat) (w:World) (p:Nat) (bs xs:List Int) (v:Value) (h:WrX B w p bs v xs) (hX:Byts xs) (hl:(bs.length:Int) + xs.length ≤ 140737488340000) :
  Calls Tryz.prog 62 #[.pointer (some ⟨p,0,none⟩),v] w fun e w'=>e = .returned (.tuple #[]) ∧ WrB B w' p (bs ++ (enc xs.length ++ xs)) ∧ Below B w w':=by
 obtain ⟨F,h1,h2,h3,h4⟩:=h
 refine (bytes_any F w p bs xs false v h1 hX hl h4).mono ?_
 rintro e w' ⟨rfl,F',q1,q2,q3⟩
 exact ⟨rfl,⟨F',q1,fun k hk=>by rcases q2 k hk with a | a;exact h2 k a;omega,Nat.le_trans h3 q3.size⟩,q3.below h2 h3⟩
set_option maxHeartbeats 6400000 in
theorem rbytes_ac (w:World) (b1 b2:Int) (k:Nat) (lv:Value) (ps:List Ep) (es:Addr) (h:Ens w lv ps) (he:w.cell? ⟨15,0,none⟩ = some (vErr es)) (hok:Vr.ok (.ac (b1,b2) k (fs1 ps))) :
  Calls Tryz.prog 74 #[vR 2 b1 b2 k lv] w (BytesP w (bytesR (.ac (b1,b2) k (fs1 ps)))):=by
 have HOK:Hid (Vr.ok (.ac (b1,b2) k (fs1 ps))):=mkHid hok
 have HWR:=mkHid (fun W (hW:Below w.heap.size w W)=>write_led W lv ps es (h.below hW) hok.2.2 (kc he hW))
 obtain ⟨⟨⟨h1,h2⟩,h3,h4⟩,h5,_⟩:=hok
 dsimp only at h1 h2 h3 h4
 obtain ⟨a,cap,rfl⟩:∃ a cap,lv = .slice a ps.length cap:=by obtain ⟨a,cap,e,_⟩:=h;exact ⟨a,cap,e⟩
 clear h he
 have HSZ:Hid (w.heap.size + 1 ≤ (w.alloc (oRc 2 b1 b2 k (.slice a ps.length cap))).heap.size):=mkHid (by simp)
 simp only [vR]
 go_enter Tryz.func74,Tryz.ntmps74
 go_wp2_with (first
  |(go_at_call 59;refine (newB (w.heap.size + 1) _ (by simp)).mono ?_;rintro r w1 ⟨rfl,hw,b⟩;have HW1:Hid (WrB (w.heap.size + 1) w1 (w.heap.size + 1) []):=mkHid (by simpa using hw);have HB1:Hid (Below (w.heap.size + 1) (w.alloc (oRc 2 b1 b2 k (.slice a ps.length cap))) w1):=mkHid (by simpa using b);obtain ⟨q0,q1,q2,q3,q4⟩:=rc_cells (rc_late1 HB1.out);clear hw b)
  |(go_at_call 61;have HN:=numI _ w1 _ [] 2 HW1.out (by unfold amt;omega) (by simp);(with_reducible refine HN.mono ?_);clear HN;rintro r w2 ⟨rfl,hw,b⟩;rw [show [] ++ enc (2:Int).toNat = encL [2] by simp [encL]] at hw;have HW2:=mkHid hw;have HB2:=mkHid (HB1.out.trans b);obtain ⟨q0,q1,q2,q3,q4⟩:=rc_cells (rc_late1 HB2.out);clear hw b)
  |(go_at_call 61;have HN:=numI _ w2 _ (encL [2]) b1 HW2.out (by unfold amt;omega) (by have:=encL_len [2] (fun n hn=>by simp only [List.mem_cons,List.not_mem_nil,or_false] at hn;omega);simp only [List.length_cons,List.length_nil] at this;omega);(with_reducible refine HN.mono ?_);clear HN;rintro r w3 ⟨rfl,hw,b⟩;rw [show (encL [2]) ++ enc (b1:Int).toNat = encL [2,b1] by simp [encL]] at hw;have HW3:=mkHid hw;have HB3:=mkHid (HB2.out.trans b);obtain ⟨q0,q1,q2,q3,q4⟩:=rc_cells (rc_late1 HB3.out);clear hw b)
  |(go_at_call 61;have HN:=numI _ w3 _ (encL [2,b1]) b2 HW3.out (by unfold amt;omega) (by have:=encL_len [2,b1] (fun n hn=>by simp only [List.mem_cons,List.not_mem_nil,or_false] at hn;omega);simp only [List.length_cons,List.length_nil] at this;omega);(with_reducible refine HN.mono ?_);clear HN;rintro r w4 ⟨rfl,hw,b⟩;rw [show (encL [2,b1]) ++ enc (b2:Int).toNat = encL [2,b1,b2] by simp [encL]] at hw;have HW4:=mkHid hw;have HB4:=mkHid (HB3.out.trans b);obtain ⟨q0,q1,q2,q3,q4⟩:=rc_cells (rc_late1 HB4.out);clear hw b)
  |(go_at_call 42;have hw4:Below w.heap.size w w4:=(ba (Below.refl _ w) (oRc 2 b1 b2 k (.slice a ps.length cap))).trans (HB4.out.mono (Nat.le_succ _));refine (HWR.out w4 hw4).mono ?_;clear hw4;rintro r w5 ⟨lv5,rfl,hlo,b⟩;obtain ⟨la,lc,rfl⟩:=own_shape hlo;have HLO:=mkHid (And.intro hlo b);have HB5:=mkHid (HB4.out.trans (b.mono (by have:=HB4.out.size;simp at this;omega)));obtain ⟨q0,q1,q2,q3,q4⟩:=rc_cells (rc_late1 HB5.out);clear hlo b)
  |(go_at_call 61;have HN:=numX _ w4 w5 _ (encL [2,b1,b2]) (bytesL (fs1 ps)) _ k HW4.out (bytesL_byts _) (by unfold amt;omega) (by have:=encL_len [2,b1,b2] (fun n hn=>by simp only [List.mem_cons,List.not_mem_nil,or_false] at hn;omega);simp only [List.length_cons,List.length_nil] at this;omega) HLO.out.2 HLO.out.1;(with_reducible refine HN.mono ?_);clear HN;rintro r w6 ⟨rfl,hw,b⟩;rw [show encL [2,b1,b2] ++ enc (k:Int).toNat = encL [2,b1,b2,(k:Int)] by simp [encL]] at hw;have HW6:=mkHid hw;have HB6:=mkHid (HB5.out.trans b);clear hw b)
  |(go_at_call 62;have HN:=bytesX _ w6 _ _ _ _ HW6.out (bytesL_byts _) (by have:=bytesR_len (r:=.ac (b1,b2) k (fs1 ps)) HOK.out;simp only [bytesR,List.length_append] at this;omega);(with_reducible refine HN.mono ?_);clear HN;rintro r w7 ⟨rfl,hw,b⟩;rw [show encL [2,b1,b2,(k:Int)] ++ (enc (bytesL (fs1 ps)).length ++ bytesL (fs1 ps)) = bytesR (.ac (b1,b2) k (fs1 ps)) from rfl] at hw;have HW7:=mkHid hw;have HB7:=mkHid (HB6.out.trans b);clear hw b)
  |(go_at_call 63;obtain ⟨F5,hF5,_⟩:=HW7.out;refine (done_ok F5 w7 _ (bytesR (.ac (b1,b2) k (fs1 ps))) hF5 (by have:=bytesR_len (r:=.ac (b1,b2) k (fs1 ps)) HOK.out;first | omega | (simp only [bytesR] at this;omega))).mono ?_;rintro r w9 ⟨v9,rfl,ho9,b9⟩;obtain ⟨a9,c9,rfl⟩:=own_shape ho9;have HO9:=mkHid ho9;have HB9:=mkHid b9;clear hF5 ho9 b9))
 go_ret2
 have e1:Below w.heap.size w w7:=(ba (Below.refl _ w) (oRc 2 b1 b2 k (.slice a ps.length cap))).trans (HB7.out.mono (Nat.le_succ _))
 exact ⟨_,rfl,own_up HO9.out e1.size,e1.trans (HB9.out.mono e1.size)⟩
end Go.Proofs.YtihdkgekickohaaGreatDoor
