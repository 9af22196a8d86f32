import Derived.Test.YtpdehdomilnmeaaGreatDoorAdA
import Derived.BigQuiet
import Derived.Deep.QuietTactic
import Derived.Test.YtpdehdomilnmeaaGreatDoorTk
namespace Go.Proofs.YtpdehdomilnmeaaGreatDoor
open Go.ChangeShapes Go.WideShapes Go.ChangeAt Go.RowKit
set_option maxRecDepth 100000
attribute [local go_sem] World.cell?_alloc_some fAs
def ev6 (a:Nat->Addr) (n:Int):Value:=if n=12 then vE (a 11) else ev a n
structure Er6 (w:World) (a:Nat->Addr):Prop where
 er4:Er4 w a
 cell_tight:w.cell? ⟨11,0,none⟩=some (vE (a 11))
 cell_over:w.cell? ⟨1,0,none⟩=some (vE (a 1))
theorem Er6.late {w w':World} {a:Nat->Addr} (h:Er6 w a) (hb:Below w.heap.size w w'):Er6 w' a:=⟨h.1.late hb,kc h.2 hb,kc h.3 hb⟩
theorem ev6_10 (a:Nat->Addr):ev6 a 10=vE (a 9):=rfl
theorem ev6_7 (a:Nat->Addr):ev6 a 7=vE (a 6):=rfl
theorem ev6_11 (a:Nat->Addr):ev6 a 11=vE (a 10):=rfl
inductive KC (s:Sv) (xs:List Sv):Int->Prop where
 |parent:¬ okW s->KC s xs 10
 |server:okW s->(∃ x ∈ xs,¬ okS x)->KC s xs 10
 |full:okW s->(∀ x ∈ xs,okS x)->8 < xs.length->KC s xs 7
 |tight:okW s->(∀ x ∈ xs,okS x)->xs.length<=8->¬ FitK (gS s) (dS s) (qS s) xs->KC s xs 12
 |fits:okW s->(∀ x ∈ xs,okS x)->xs.length<=8->FitK (gS s) (dS s) (qS s) xs->KC s xs 0
theorem kc_ex (s:Sv) (xs:List Sv):∃ n,KC s xs n:=by
 by_cases h1:okW s
 ·by_cases h2:∀ x ∈ xs,okS x
  ·by_cases h3:xs.length<=8
   ·by_cases h4:FitK (gS s) (dS s) (qS s) xs
    ·exact⟨_,.fits h1 h2 h3 h4⟩
    ·exact⟨_,.tight h1 h2 h3 h4⟩
   ·exact⟨_,.full h1 h2 (by omega)⟩
  ·refine⟨_,.server h1 (Classical.byContradiction fun hn=>h2 fun x hx=>Classical.byContradiction fun hk=>hn ⟨x,hx,hk⟩)⟩
 ·exact⟨_,.parent h1⟩
theorem KC.zero {s:Sv} {xs:List Sv} {n:Int} (h:KC s xs n) (h0:n=0):okW s/\(∀ x ∈ xs,okS x)/\xs.length<=8/\FitK (gS s) (dS s) (qS s) xs:=by
 cases h with
 |fits h1 h2 h3 h4=>exact⟨h1,h2,h3,h4⟩
 |_=>omega
theorem KC.codes {s:Sv} {xs:List Sv} {n:Int} (h:KC s xs n):n=0 ∨ n=7 ∨ n=10 ∨ n=12:=by cases h <;> omega
set_option maxHeartbeats 1600000 in
theorem budgets_is (w:World) (v:Value) (xs:List Sv) (h:Svs w v xs) (hx:∀ x ∈ xs,okS x) (hn:xs.length<=8) :
  Calls Tryz.prog 179 #[v] w fun e w'=>e=.returned (.int .i64 (tot qq xs))/\Below w.heap.size w w':=by
 obtain⟨a0,cap,rfl,hl,h9⟩:=id h
 have HS:=mH h
 have HX:=mH hx
 clear h hx h9
 go_enter Tryz.func179,Tryz.ntmps179
 go_wp2
 go_loopw [3,8] (fun nv iv wr=>∃ (j:Nat) (N:Int),nv=.int .i64 N/\iv=.int .i64 (j:Int)/\j<=xs.length/\0<=N/\N<=2048/\Hid (tot qq (xs.take j)=N)/\Hid (Below w.heap.size w wr)) (fun _ iv _=>xs.length - (intOf iv).toNat)
 case atStart=>exact⟨0,0,rfl,rfl,Nat.zero_le _,by omega,by omega,mH rfl,mH (Below.refl _ _)⟩
 case round=>
  obtain⟨j,N,rfl,rfl,hj,n0,n1,HN,HB⟩:=hrel
  by_cases hlt:j < xs.length
  ·obtain⟨b,off,k,q,t,rfl,hxj,c0,c1,c2⟩:=HS.out.at HB.out j hlt
   have hji:(j:Int) < xs.length:=by omega
   have e:=tot_take qq hxj
   have e2:=tot_qq8 (xs:=xs.take (j+1)) (fun x hm=>HX.out x (List.mem_of_mem_take hm)) (by rw [List.length_take];omega)
   rw [e,HN.out] at e2
   rw [HN.out] at e
   have eq:qq (k,q,t)=q:=rfl
   rw [eq] at e e2
   have HT:=mH e
   have hq:q<=2048:=by omega
   have ew:IntKind.i64.wrap (N+q)=N+q:=wfit (by omega) (by omega)
   clear hxj e eq
   go_wp2
   go_roundw
   case rel=>exact⟨j+1,N+q,rfl,by go_num,by omega,e2.1,e2.2,HT,mH (ba HB.out _)⟩
   case measure=>simp [intOf];omega
  ·obtain rfl:j=xs.length:=by omega
   have hN:=HN.out
   rw [List.take_length] at hN
   have HN2:=mH hN
   clear hN
   go_wp2
   go_ret
   exact⟨by rw [HN2.out];rfl,HB.out⟩
abbrev oK (v:Value):Obj:=.cells #[v] 38
set_option maxHeartbeats 3200000 in
theorem kids_fit (w:World) (s:Sv) (v:Value) (xs:List Sv) (a:Nat->Addr) (R:Value) (h:Svs w v xs) (E:Er6 w a) (h1:okW s) (h2:∀ x ∈ xs,okS x) (h3:xs.length<=8) (hyes:FitK (gS s) (dS s) (qS s) xs->R=.nilIface) (hno:¬ FitK (gS s) (dS s) (qS s) xs->R=vE (a 11)) :
  Calls Tryz.prog 165 #[vS s,v] w fun e w'=>e=.returned R/\Below w.heap.size w w':=by
 obtain⟨A,B,C,D,hp⟩:=sh_pt (xs.map qt) (okq_all h2) (by rw [List.length_map];exact h3)
 obtain⟨d1,d2,d3,d4⟩:=sh_fit (xs.map qt) (okq_all h2) (by rw [List.length_map];exact h3)
 obtain⟨q1,q2⟩:=tot_qq8 h2 h3
 have H1:Hid (∀ W,Calls Tryz.prog 169 #[vS s] W fun e w'=>e=.returned .nilIface/\Below W.heap.size W w'):=mH (fun W=>checkParent_ok W s h1)
 have H2:Hid (∀ W,Below w.heap.size w W->Calls Tryz.prog 175 #[v] W fun e w'=>e=.returned (.tuple #[vP A B C D,.nilIface])/\Below W.heap.size W w'):=mH (fun W hW=>servers_ok W v xs A B C D (h.below hW) h2 h3 hp)
 have H3:Hid (∀ W,Below w.heap.size w W->Calls Tryz.prog 179 #[v] W fun e w'=>e=.returned (.int .i64 (tot qq xs))/\Below W.heap.size W w'):=mH (fun W hW=>budgets_is W v xs (h.below hW) h2 h3)
 have H4:Hid (∀ W p,Below w.heap.size w W->W.cell? ⟨p,0,none⟩=some v->Calls Tryz.prog 178 #[vS s,vP A B C D,.int .i64 (2 * tot qq xs),.func (.func 176) #[] #[.pointer (some ⟨p,0,none⟩)]] W fun e w'=>e=.returned R/\Below W.heap.size W w'):=
  mH (fun W p hW hc=>fit_is W s _ _ (2 * tot qq xs) _ _ (fun l=>tot (sdem · l) xs) R _ _ h1 hp d3 d4 d1 d2 (by omega) (by omega) (sdemT_mono h2) (fun l l0 l1=>sdem_few h2 h3 l0 l1) (E.late hW).cell_over (E.late hW).cell_tight enters_kids (asks_kids W v xs p (h.below hW) h2 h3 hc) hyes hno)
 obtain⟨k,q,t⟩:=s
 obtain⟨a0,cap,rfl,hl,h9⟩:=id h
 clear h E h9 h1 h2 hyes hno hp d1 d2 d3 d4
 generalize tot qq xs=N at *
 have ew:IntKind.i64.wrap (2 * N)=2 * N:=wfit (by omega) (by omega)
 have hmf:∀ (fn:Fn) (first cap:Array Value) (w:World),(Instr.makeFunc fn first cap).run Tryz.prog w=.ok (.func fn first cap) w:=fun _ _ _ _=>rfl
 go_enter Tryz.func165,Tryz.ntmps165
 go_wp2_with (first
  |(go_at_call 169;refine(H1.out _).mono ?_;rintro e w1 ⟨rfl,b1⟩;have c0:=kc (a:=⟨w.heap.size,0,none⟩) (v:=.int .i64 k) (by simp [go_sem]) b1;have c1:=kc (a:=⟨w.heap.size,1,none⟩) (v:=.int .i64 q) (by simp [go_sem]) b1;have c2:=kc (a:=⟨w.heap.size,2,none⟩) (v:=.int .i64 t) (by simp [go_sem]) b1;have c3:=kc (a:=⟨w.heap.size+1,0,none⟩) (v:=.slice a0 xs.length cap) (by simp [go_sem]) b1;have HB1:=mH (bt (ba (ba (Below.refl _ _) _) _) b1);clear b1)
  |(go_at_call 175;refine(H2.out _ HB1.out).mono ?_;rintro e w2 ⟨rfl,b2⟩;have d0:=kc c0 b2;have d1:=kc c1 b2;have d2:=kc c2 b2;have d3:=kc c3 b2;have HB2:=mH (bt HB1.out b2);clear b2 c0 c1 c2 c3))
 obtain⟨⟨z0,z1,z2,z3⟩,_⟩:=P4.new w2 A B C D
 have e0:=kl d0 (oP A B C D)
 have e1:=kl d1 (oP A B C D)
 have e2:=kl d2 (oP A B C D)
 have e3:=kl d3 (oP A B C D)
 clear d0 d1 d2 d3
 obtain⟨W,hW⟩:∃ W,W=w2.alloc (oP A B C D):=⟨_,rfl⟩
 have HB3:Hid (Below w.heap.size w W):=mH (by rw [hW];exact ba HB2.out _)
 rw [<- hW] at z0 z1 z2 z3 e0 e1 e2 e3 ⊢
 clear hW HB1 HB2
 generalize w2.heap.size=p at *
 generalize hP2:w.heap.size+1=p2 at *
 clear hP2
 generalize w.heap.size=p1 at e0 e1 e2 ⊢
 go_region_held3 (fun w'=>w'.cell? ⟨p1,0,none⟩=some (.int .i64 k)/\w'.cell? ⟨p1,1,none⟩=some (.int .i64 q)/\w'.cell? ⟨p1,2,none⟩=some (.int .i64 t)/\w'.cell? ⟨p2,0,none⟩=some (.slice a0 xs.length cap)/\w'.cell? ⟨p,0,none⟩=some (.int .u64 A)/\w'.cell? ⟨p,1,none⟩=some (.int .u64 B)/\w'.cell? ⟨p,2,none⟩=some (.int .u64 C)/\w'.cell? ⟨p,3,none⟩=some (.int .u64 D)) (go_keep) (first
  |(go_at_call 179;refine(H3.out W.drew HB3.out.drew).mono ?_;rintro e w4 ⟨rfl,b4⟩;have y0:w4.cell? ⟨p1,0,none⟩=some (.int .i64 k):=kc (w:=W.drew) (a:=⟨p1,0,none⟩) e0 b4;have y1:w4.cell? ⟨p1,1,none⟩=some (.int .i64 q):=kc (w:=W.drew) (a:=⟨p1,1,none⟩) e1 b4;have y2:w4.cell? ⟨p1,2,none⟩=some (.int .i64 t):=kc (w:=W.drew) (a:=⟨p1,2,none⟩) e2 b4;have y3:w4.cell? ⟨p2,0,none⟩=some (.slice a0 xs.length cap):=kc (w:=W.drew) (a:=⟨p2,0,none⟩) e3 b4;have y4:w4.cell? ⟨p,0,none⟩=some (.int .u64 A):=kc (w:=W.drew) (a:=⟨p,0,none⟩) z0 b4;have y5:w4.cell? ⟨p,1,none⟩=some (.int .u64 B):=kc (w:=W.drew) (a:=⟨p,1,none⟩) z1 b4;have y6:w4.cell? ⟨p,2,none⟩=some (.int .u64 C):=kc (w:=W.drew) (a:=⟨p,2,none⟩) z2 b4;have y7:w4.cell? ⟨p,3,none⟩=some (.int .u64 D):=kc (w:=W.drew) (a:=⟨p,3,none⟩) z3 b4;have HB4:=mH (bt HB3.out.drew b4);clear b4)
  |(go_at_call 178;refine(H4.out w4 p2 HB4.out y3).mono ?_;rintro e w5 ⟨rfl,b5⟩;have x0:w5.cell? ⟨p1,0,none⟩=some (.int .i64 k):=kc y0 b5;have x1:w5.cell? ⟨p1,1,none⟩=some (.int .i64 q):=kc y1 b5;have x2:w5.cell? ⟨p1,2,none⟩=some (.int .i64 t):=kc y2 b5;have x3:w5.cell? ⟨p2,0,none⟩=some (.slice a0 xs.length cap):=kc y3 b5;have x4:w5.cell? ⟨p,0,none⟩=some (.int .u64 A):=kc y4 b5;have x5:w5.cell? ⟨p,1,none⟩=some (.int .u64 B):=kc y5 b5;have x6:w5.cell? ⟨p,2,none⟩=some (.int .u64 C):=kc y6 b5;have x7:w5.cell? ⟨p,3,none⟩=some (.int .u64 D):=kc y7 b5;have HB5:=mH (bt HB4.out b5);clear b5))
 go_wp2
 go_ret
 exact⟨rfl,HB5.out⟩
set_option maxHeartbeats 3200000 in
theorem kids_is (w:World) (s:Sv) (v:Value) (xs:List Sv) (a:Nat->Addr) (n:Int) (h:Svs w v xs) (E:Er6 w a) (hk:KC s xs n) :
  Calls Tryz.prog 165 #[vS s,v] w fun e w'=>e=.returned (ev6 a n)/\Below w.heap.size w w':=by
 obtain⟨k,q,t⟩:=s
 obtain⟨a0,cap,hv,hl,h9⟩:=id h
 have HS:=mH h
 have HE:=mH E
 clear h E h9
 cases hk with
 |parent h1=>
  rw [ev6_10]
  have HO:=mH h1
  clear h1
  subst hv
  go_enter Tryz.func165,Tryz.ntmps165
  go_wp2_with (go_at_call 169;refine(checkParent_no _ (k,q,t) HO.out _ (HE.out.late (ba (ba (Below.refl _ _) _) _)).er4.er3.cell_server).mono ?_;rintro e w1 ⟨rfl,b1⟩;have HB1:=mH (bt (ba (ba (Below.refl _ _) _) _) b1);clear b1)
  go_ret
  exact⟨rfl,HB1.out⟩
 |server h1 h2=>
  rw [ev6_10]
  have HO:=mH h1
  have HX:=mH h2
  clear h1 h2
  subst hv
  go_enter Tryz.func165,Tryz.ntmps165
  go_wp2_with (first
   |(go_at_call 169;refine(checkParent_ok _ (k,q,t) HO.out).mono ?_;rintro e w1 ⟨rfl,b1⟩;have c3:=kc (a:=⟨w.heap.size+1,0,none⟩) (v:=.slice a0 xs.length cap) (by simp [go_sem]) b1;have HB1:=mH (bt (ba (ba (Below.refl _ _) _) _) b1);clear b1)
   |(go_at_call 175;refine(servers_no _ _ xs _ (HS.out.below HB1.out) HX.out (HE.out.late HB1.out).er4.er3.cell_server).mono ?_;rintro e w2 ⟨rfl,b2⟩;have HB2:=mH (bt HB1.out b2);clear b2))
  go_ret
  exact⟨rfl,ba HB2.out _⟩
 |full h1 h2 h3=>
  rw [ev6_7]
  have HO:=mH h1
  have HX:=mH h2
  clear h1 h2
  subst hv
  go_enter Tryz.func165,Tryz.ntmps165
  go_wp2_with (first
   |(go_at_call 169;refine(checkParent_ok _ (k,q,t) HO.out).mono ?_;rintro e w1 ⟨rfl,b1⟩;have c3:=kc (a:=⟨w.heap.size+1,0,none⟩) (v:=.slice a0 xs.length cap) (by simp [go_sem]) b1;have HB1:=mH (bt (ba (ba (Below.refl _ _) _) _) b1);clear b1)
   |(go_at_call 175;refine(servers_full _ _ xs _ (HS.out.below HB1.out) HX.out h3 (HE.out.late HB1.out).er4.er3.cell_full).mono ?_;rintro e w2 ⟨rfl,b2⟩;have HB2:=mH (bt HB1.out b2);clear b2))
  go_ret
  exact⟨rfl,ba HB2.out _⟩
 |tight h1 h2 h3 h4=>exact kids_fit w (k,q,t) v xs a _ HS.out HE.out h1 h2 h3 (fun hf=>absurd hf h4) (fun _=>rfl)
 |fits h1 h2 h3 h4=>exact kids_fit w (k,q,t) v xs a _ HS.out HE.out h1 h2 h3 (fun _=>rfl) (fun hf=>absurd h4 hf)
inductive DC (s:Sv) (xs:List Sv):Int->Int->Prop where
 |no (n:Int):KC s xs n->¬ n=0->DC s xs 0 n
 |none:KC s xs 0->Drn (gS s) (dS s) (qS s) xs 0->DC s xs 0 12
 |yes (r:Int):KC s xs 0->Drn (gS s) (dS s) (qS s) xs r->¬ r=0->DC s xs r 0
theorem dc_ex (s:Sv) (xs:List Sv):∃ r n,DC s xs r n:=by
 obtain⟨n,hn⟩:=kc_ex s xs
 by_cases h0:n=0
 ·subst h0
  obtain⟨r,hr⟩:=lst_ex (fun l=>tot (sreq · l) xs<=sb (gS s) (dS s) (qS s) l) 4096
  by_cases hz:r=0
  ·subst hz;exact⟨_,_,.none hn hr⟩
  ·exact⟨_,_,.yes r hn hr hz⟩
 ·exact⟨_,_,.no n hn h0⟩
set_option maxHeartbeats 3200000 in
theorem drain_no (w:World) (s:Sv) (v:Value) (xs:List Sv) (a:Nat->Addr) (n:Int) (h:Svs w v xs) (E:Er6 w a) (hk:KC s xs n) (h0:¬ n=0) :
  Calls Tryz.prog 154 #[vS s,v] w fun e w'=>e=.returned (.tuple #[.int .i64 0,ev6 a n])/\Below w.heap.size w w':=by
 have H1:Hid (∀ W,Below w.heap.size w W->Calls Tryz.prog 165 #[vS s,v] W fun e w'=>e=.returned (ev6 a n)/\Below W.heap.size W w'):=mH (fun W hW=>kids_is W s v xs a n (h.below hW) (E.late hW) hk)
 have he:∃ b,ev6 a n=vE b:=by rcases hk.codes with rfl | rfl | rfl | rfl <;> first | exact absurd rfl h0 | exact⟨_,rfl⟩
 obtain⟨b,he⟩:=he
 rw [he] at H1 ⊢
 obtain⟨k,q,t⟩:=s
 obtain⟨a0,cap,rfl,hl,h9⟩:=id h
 clear h E h9 hk he
 go_enter Tryz.func154,Tryz.ntmps154
 go_wp2_with (go_at_call 165;refine(H1.out _ (ba (ba (Below.refl _ _) _) _)).mono ?_;rintro e w1 ⟨rfl,b1⟩;have HB1:=mH (bt (ba (ba (Below.refl _ _) _) _) b1);clear b1)
 go_ret2
 exact⟨rfl,HB1.out⟩
set_option maxHeartbeats 3200000 in
theorem drain_yes (w:World) (s:Sv) (v:Value) (xs:List Sv) (a:Nat->Addr) (r:Int) (R:Value) (h:Svs w v xs) (E:Er6 w a) (hk:KC s xs 0) (hr:Drn (gS s) (dS s) (qS s) xs r) (hyes:¬ r=0->R=.nilIface) (hno:r=0->R=vE (a 11)) :
  Calls Tryz.prog 154 #[vS s,v] w fun e w'=>e=.returned (.tuple #[.int .i64 r,R])/\Below w.heap.size w w':=by
 obtain⟨h1,h2,h3,_⟩:=hk.zero rfl
 have H1:Hid (∀ W,Below w.heap.size w W->Calls Tryz.prog 165 #[vS s,v] W fun e w'=>e=.returned .nilIface/\Below W.heap.size W w'):=mH (fun W hW=>kids_is W s v xs a 0 (h.below hW) (E.late hW) hk)
 have H4:Hid (∀ W p,Below w.heap.size w W->W.cell? ⟨p,0,none⟩=some v->Calls Tryz.prog 168 #[vS s,.int .i64 4096,.func (.func 166) #[] #[.pointer (some ⟨p,0,none⟩)]] W fun e w'=>e=.returned (.tuple #[.int .i64 r,R])/\Below W.heap.size W w'):=
  mH (fun W p hW hc=>first_is W s 4096 r _ _ (fun l=>tot (sreq · l) xs) R _ _ h1 (sreqT_mono h2) (by omega) (fun l l0 l1=>sreq_few h2 h3 l0 l1) (E.late hW).cell_over (E.late hW).cell_tight enters_drain (asks_drain W v xs p (h.below hW) h2 h3 hc) hr hyes hno)
 obtain⟨k,q,t⟩:=s
 obtain⟨a0,cap,rfl,hl,h9⟩:=id h
 clear h E h9 hk h1 h2 h3 hr hyes hno
 have hmf:∀ (fn:Fn) (first cap:Array Value) (w:World),(Instr.makeFunc fn first cap).run Tryz.prog w=.ok (.func fn first cap) w:=fun _ _ _ _=>rfl
 go_enter Tryz.func154,Tryz.ntmps154
 go_wp2_with (first
  |(go_at_call 165;refine(H1.out _ (ba (ba (Below.refl _ _) _) _)).mono ?_;rintro e w1 ⟨rfl,b1⟩;have c0:=kc (a:=⟨w.heap.size,0,none⟩) (v:=.int .i64 k) (by simp [go_sem]) b1;have c1:=kc (a:=⟨w.heap.size,1,none⟩) (v:=.int .i64 q) (by simp [go_sem]) b1;have c2:=kc (a:=⟨w.heap.size,2,none⟩) (v:=.int .i64 t) (by simp [go_sem]) b1;have c3:=kc (a:=⟨w.heap.size+1,0,none⟩) (v:=.slice a0 xs.length cap) (by simp [go_sem]) b1;have HB1:=mH (bt (ba (ba (Below.refl _ _) _) _) b1);clear b1)
  |(go_at_call 168;refine(H4.out _ _ HB1.out c3).mono ?_;rintro e w2 ⟨rfl,b2⟩;have HB2:=mH (bt HB1.out b2);clear b2))
 go_ret2
 exact⟨rfl,HB2.out⟩
theorem drain_is (w:World) (s:Sv) (v:Value) (xs:List Sv) (a:Nat->Addr) (r n:Int) (h:Svs w v xs) (E:Er6 w a) (hk:DC s xs r n) :
  Calls Tryz.prog 154 #[vS s,v] w fun e w'=>e=.returned (.tuple #[.int .i64 r,ev6 a n])/\Below w.heap.size w w':=by
 cases hk with
 |no n hn h0=>exact drain_no w s v xs a n h E hn h0
 |none hn hr=>exact drain_yes w s v xs a 0 _ h E hn hr (fun e=>absurd rfl e) (fun _=>rfl)
 |yes r hn hr h0=>exact drain_yes w s v xs a r _ h E hn hr (fun _=>rfl) (fun e=>absurd e h0)
theorem sreq_share {s:Sv} (h:okS s) {l:Int} (hl:0<=l):(sreq s l - 2 * qq s) * (qt s).2<=(qt s).1 * l:=by
 obtain⟨k,q,T⟩:=s
 obtain⟨h1,h2,h3,h4,h5⟩:=h
 simp only at h1 h2 h3 h4 h5
 obtain⟨x,r,ha,r0,r1,hm⟩:=parts0 (T:=T) l (by omega) hl
 rw [sreq_at r0 r1 hm]
 simp only [qq,qt]
 have e1:(q * x+(if r=0 then 0 else q)+(if k=3/\0 < l then q else 0) - 2 * q) * T<=(q * x) * T:=Int.mul_le_mul_of_nonneg_right (by split <;> split <;> omega) (by omega)
 have e2:q * l=(q * x) * T+q * r:=by rw [hm,Int.mul_add,Int.mul_assoc]
 have e3:0<=q * r:=Int.mul_nonneg (by omega) r0
 omega
theorem drn_some {g d q r:Int} {xs:List Sv} (hd:0<=d) (hq:1<=q) (h:∀ x ∈ xs,okS x) (hf:FitK g d q xs) (hr:Drn g d q xs r):¬ r=0:=by
 rintro rfl
 rcases hr with ⟨_,hr⟩ | ⟨h1,_⟩
 ·refine hr 4096 (by omega) (by omega) ?_
  show tot (sreq · 4096) xs<=sb g d q 4096
  have hD:=(sh_bounds _ (okq_all h)).1
  have hs:=share_dem qt (sreq · 4096) (fun s=>2 * qq s) 4096 xs (fun s hs=>(h s hs).q) (fun s hs=>sreq_share (h s hs) (by omega))
  have e2:tot (fun s=>2 * qq s) xs=2 * tot qq xs:=by
   clear hs hr hf h hD
   induction xs with
   |nil=>rfl
   |cons x r ih=>rw [tot_cons,tot_cons,ih];omega
  rw [e2] at hs
  obtain⟨_,f2,_⟩:=hf
  have hl:=sb_line (g:=g) (a:=4096) hd hq
  generalize sb g d q 4096=S at *
  generalize tot (sreq · 4096) xs=U at *
  generalize (sh (xs.map qt)).1=N at *
  generalize (sh (xs.map qt)).2=D at *
  generalize 2 * tot qq xs=m at *
  have k1:(D * U) * (d+q)<=(N * 4096+D * m) * (d+q):=Int.mul_le_mul_of_nonneg_right hs (by omega)
  have k2:D * (q * (4096 - (g+d)))<=D * (S * (d+q)):=Int.mul_le_mul_of_nonneg_left hl (by omega)
  have k3:(D * U) * (d+q)=(D * (d+q)) * U:=by grind
  have k4:D * (S * (d+q))=(D * (d+q)) * S:=by grind
  have hp:0 < D * (d+q):=Int.mul_pos (by omega) (by omega)
  exact Int.le_of_mul_le_mul_left (by omega) hp
 ·omega
theorem DC.fits {s:Sv} {xs:List Sv} {r n:Int} (h:DC s xs r n) (h0:KC s xs 0):n=0/\Drn (gS s) (dS s) (qS s) xs r/\¬ r=0:=by
 obtain⟨o1,o2,o3,o4⟩:=h0.zero rfl
 obtain⟨n1,n2,n3,n4,n5⟩:=o1.nums
 cases h with
 |no n hn hz=>exact absurd (show n=0 by cases hn with
  |parent h=>exact absurd o1 h
  |server _ h=>obtain⟨x,hx,hk⟩:=h;exact absurd (o2 x hx) hk
  |full _ _ h=>omega
  |tight _ _ _ h=>exact absurd o4 h
  |fits _ _ _ _=>rfl) hz
 |none hn hr=>exact absurd rfl (drn_some n2 n3 o2 o4 hr)
 |yes r hn hr hz=>exact⟨rfl,hr,hz⟩
theorem dl_bounds {xs:List Tk} (h:okTs xs) {i:Nat} (hi:i < xs.length):1<=dl xs i/\dl xs i<=256:=by
 obtain⟨t,ht⟩:∃ t,xs[i]?=some t:=⟨_,List.getElem?_eq_getElem hi⟩
 rw [dl_at ht]
 obtain⟨h1,h2,h3,h4,h5,h6⟩:=h.2 t (List.mem_of_getElem? ht)
 omega
set_option maxHeartbeats 3200000 in
theorem resp_is (w:World) (s:Sv) (a0:Option Addr) (cap:Nat) (xs:List Tk) (i:Nat) (a:Nat->Addr) (r:Int) (R:Value) (h:Tks w (.slice a0 xs.length cap) xs) (hcap:xs.length<=cap) (E:Er6 w a) (h1:okW s) (h2:okTs xs) (hi:i < xs.length) (hr:Rsp (gS s) (dS s) (qS s) xs i r) (hyes:¬ r=0->R=.nilIface) (hno:r=0->R=vE (a 11)) :
  Calls Tryz.prog 184 #[vS s,.slice a0 xs.length cap,.int .i64 (i:Int)] w fun e w'=>e=.returned (.tuple #[.int .i64 r,R])/\Below w.heap.size w w':=by
 obtain⟨D,hD⟩:∃ D,D=dl xs i:=⟨_,rfl⟩
 obtain⟨b1,b2⟩:=dl_bounds h2 hi
 have H4:Hid (∀ W p p2,Below w.heap.size w W->W.cell? ⟨p,0,none⟩=some (.slice a0 xs.length cap)->W.cell? ⟨p2,0,none⟩=some (.int .i64 (i:Int))->Calls Tryz.prog 168 #[vS s,.int .i64 D,.func (.func 198) #[] #[.pointer (some ⟨p,0,none⟩),.pointer (some ⟨p2,0,none⟩)]] W fun e w'=>e=.returned (.tuple #[.int .i64 r,R])/\Below W.heap.size W w'):=
  mH (fun W p p2 hW hc hc2=>first_is W s D r _ _ (untM xs i) R _ _ h1 (untM_mono h2.2 i) (by omega) (fun l l0 l1=>untM_few h2.2 h2.1 i l0 l1) (E.late hW).cell_over (E.late hW).cell_tight enters_resp (asks_resp W a0 cap xs i p p2 (h.below hW) h2 hi hcap hc hc2) (by rw [hD];exact hr) hyes hno)
 obtain⟨b,off,c,p,d,sx,rfl,hxj,c0,c1,c2,c3⟩:=h.at (Below.refl _ _) i hi
 have hDd:D=d:=by rw [hD];exact dl_at hxj
 subst hDd
 obtain⟨k,q,t⟩:=s
 have hii:(i:Int) < xs.length:=by omega
 clear h E h1 h2 hr hyes hno hD hxj c0 c1 c3 b1 b2
 have hmf:∀ (fn:Fn) (first cap:Array Value) (w:World),(Instr.makeFunc fn first cap).run Tryz.prog w=.ok (.func fn first cap) w:=fun _ _ _ _=>rfl
 go_enter Tryz.func184,Tryz.ntmps184
 go_wp2
 obtain⟨W,hW⟩:∃ W,W=((w.alloc (oS (k,q,t))).alloc (oK (.slice (some ⟨b,off,none⟩) xs.length cap))).alloc (.cells #[.int .i64 (i:Int)] 3):=⟨_,rfl⟩
 have HB3:Hid (Below w.heap.size w W):=mH (by rw [hW];exact ba (ba (ba (Below.refl _ _) _) _) _)
 have e0:W.cell? ⟨w.heap.size,0,none⟩=some (.int .i64 k):=by rw [hW];simp [go_sem]
 have e1:W.cell? ⟨w.heap.size,1,none⟩=some (.int .i64 q):=by rw [hW];simp [go_sem]
 have e2:W.cell? ⟨w.heap.size,2,none⟩=some (.int .i64 t):=by rw [hW];simp [go_sem]
 have e3:W.cell? ⟨w.heap.size+1,0,none⟩=some (.slice (some ⟨b,off,none⟩) xs.length cap):=by rw [hW];simp [go_sem]
 have e4:W.cell? ⟨w.heap.size+1+1,0,none⟩=some (.int .i64 (i:Int)):=by rw [hW];simp [go_sem]
 have e5:=kc c2 HB3.out
 rw [<- hW]
 clear hW c2
 generalize hP3:w.heap.size+1+1=p3 at *
 generalize hP2:w.heap.size+1=p2 at *
 clear hP2 hP3
 generalize w.heap.size=p1 at e0 e1 e2 ⊢
 go_region_held3 (fun w'=>w'.cell? ⟨p1,0,none⟩=some (.int .i64 k)/\w'.cell? ⟨p1,1,none⟩=some (.int .i64 q)/\w'.cell? ⟨p1,2,none⟩=some (.int .i64 t)/\w'.cell? ⟨p2,0,none⟩=some (.slice (some ⟨b,off,none⟩) xs.length cap)/\w'.cell? ⟨p3,0,none⟩=some (.int .i64 (i:Int))/\w'.cell? ⟨b,off+i * 4+2,none⟩=some (.int .i64 D)) (go_keep) (first
  |(go_at_call 168;refine(H4.out W.drew p2 p3 HB3.out.drew e3 e4).mono ?_;rintro e w4 ⟨rfl,b4⟩;have y0:w4.cell? ⟨p1,0,none⟩=some (.int .i64 k):=kc (w:=W.drew) (a:=⟨p1,0,none⟩) e0 b4;have y1:w4.cell? ⟨p1,1,none⟩=some (.int .i64 q):=kc (w:=W.drew) (a:=⟨p1,1,none⟩) e1 b4;have y2:w4.cell? ⟨p1,2,none⟩=some (.int .i64 t):=kc (w:=W.drew) (a:=⟨p1,2,none⟩) e2 b4;have y3:w4.cell? ⟨p2,0,none⟩=some (.slice (some ⟨b,off,none⟩) xs.length cap):=kc (w:=W.drew) (a:=⟨p2,0,none⟩) e3 b4;have y4:w4.cell? ⟨p3,0,none⟩=some (.int .i64 (i:Int)):=kc (w:=W.drew) (a:=⟨p3,0,none⟩) e4 b4;have y5:w4.cell? ⟨b,off+i * 4+2,none⟩=some (.int .i64 D):=kc (w:=W.drew) (a:=⟨b,off+i * 4+2,none⟩) e5 b4;have HB4:=mH (bt HB3.out.drew b4);clear b4))
 go_wp2
 go_ret2
 exact⟨rfl,HB4.out⟩
inductive GC (s:Sv) (p:Int) (xs:List Tk):Int->Prop where
 |parent:¬ okW s->GC s p xs 10
 |task:okW s->¬ okG p xs->GC s p xs 11
 |tightO:okW s->okG p xs->p=2->¬ FitO (gS s) (dS s) (qS s) xs->GC s p xs 12
 |fitsO:okW s->okG p xs->p=2->FitO (gS s) (dS s) (qS s) xs->GC s p xs 0
 |tightT:okW s->okG p xs->p=1->¬ FitT (gS s) (dS s) (qS s) xs->GC s p xs 12
 |fitsT:okW s->okG p xs->p=1->FitT (gS s) (dS s) (qS s) xs->GC s p xs 0
theorem gc_ex (s:Sv) (p:Int) (xs:List Tk):∃ n,GC s p xs n:=by
 by_cases h1:okW s
 ·by_cases h2:okG p xs
  ·rcases h2.1 with h | h
   ·by_cases h4:FitT (gS s) (dS s) (qS s) xs
    ·exact⟨_,.fitsT h1 h2 h h4⟩
    ·exact⟨_,.tightT h1 h2 h h4⟩
   ·by_cases h4:FitO (gS s) (dS s) (qS s) xs
    ·exact⟨_,.fitsO h1 h2 h h4⟩
    ·exact⟨_,.tightO h1 h2 h h4⟩
  ·exact⟨_,.task h1 h2⟩
 ·exact⟨_,.parent h1⟩
theorem GC.codes {s:Sv} {p:Int} {xs:List Tk} {n:Int} (h:GC s p xs n):n=0 ∨ n=10 ∨ n=11 ∨ n=12:=by cases h <;> omega
theorem GC.zero1 {s:Sv} {xs:List Tk} {n:Int} (h:GC s 1 xs n) (h0:n=0):okW s/\okG 1 xs/\FitT (gS s) (dS s) (qS s) xs:=by
 cases h with
 |fitsT h1 h2 _ h4=>exact⟨h1,h2,h4⟩
 |_=>omega
set_option maxHeartbeats 3200000 in
theorem order_is (w:World) (s:Sv) (a0:Option Addr) (cap:Nat) (xs:List Tk) (a:Nat->Addr) (R:Value) (h:Tks w (.slice a0 xs.length cap) xs) (hcap:xs.length<=cap) (E:Er6 w a) (h1:okW s) (h2:okTs xs) (hyes:FitO (gS s) (dS s) (qS s) xs->R=.nilIface) (hno:¬ FitO (gS s) (dS s) (qS s) xs->R=vE (a 11)) :
  Calls Tryz.prog 170 #[vS s,.slice a0 xs.length cap] w fun e w'=>e=.returned R/\Below w.heap.size w w':=by
 have H1:Hid (∀ W i r R,Below w.heap.size w W->i < xs.length->Rsp (gS s) (dS s) (qS s) xs i r->(¬ r=0->R=.nilIface)->(r=0->R=vE (a 11))->Calls Tryz.prog 184 #[vS s,.slice a0 xs.length cap,.int .i64 (i:Int)] W fun e w'=>e=.returned (.tuple #[.int .i64 r,R])/\Below W.heap.size W w'):=
  mH (fun W i r R hW hi hr y n=>resp_is W s a0 cap xs i a r R (h.below hW) hcap (E.late hW) h1 h2 hi hr y n)
 have HY:=mH hyes
 have HO:=mH hno
 have hl:(xs.length:Int)<=8:=by have:=h2.1;omega
 obtain⟨k,q,t⟩:=s
 clear h E h1 h2 hyes hno
 go_enter Tryz.func170,Tryz.ntmps170
 go_wp2
 go_loopw [10] (fun iv wr=>∃ j:Nat,iv=.int .i64 (j:Int)/\j<=xs.length/\Hid (∀ i,i < j->¬ Rsp (gS (k,q,t)) (dS (k,q,t)) (qS (k,q,t)) xs i 0)/\Hid (Below (w.alloc (oS (k,q,t))).heap.size (w.alloc (oS (k,q,t))) wr)) (fun iv _=>xs.length - (intOf iv).toNat)
 case atStart=>exact⟨0,rfl,Nat.zero_le _,mH (fun i hi=>by omega),mH (Below.refl _ _)⟩
 case round=>
  obtain⟨j,rfl,hj,HC,HB⟩:=hrel
  obtain⟨r0,hbw⟩:=new_last HB.out
  have c0:wr.cell? ⟨w.heap.size,0,none⟩=some (.int .i64 k):=cOb (i:=0) r0 rfl
  have c1:wr.cell? ⟨w.heap.size,1,none⟩=some (.int .i64 q):=cOb (i:=1) r0 rfl
  have c2:wr.cell? ⟨w.heap.size,2,none⟩=some (.int .i64 t):=cOb (i:=2) r0 rfl
  have HBw:=mH hbw
  clear r0 hbw
  by_cases hlt:j < xs.length
  ·have hji:(j:Int) < xs.length:=by omega
   obtain⟨r,hr⟩:=lst_ex (fun l=>untM xs j l<=sb (gS (k,q,t)) (dS (k,q,t)) (qS (k,q,t)) l) (dl xs j)
   have HR:=mH hr
   clear hr
   by_cases hz:r=0
   ·subst hz
    have HV:Hid (R=vE (a 11)):=mH (HO.out (fun hf=>hf j hlt HR.out))
    go_wp2_with (go_at_call 184;refine(H1.out _ j 0 _ HBw.out hlt HR.out (fun e=>absurd rfl e) (fun _=>rfl)).mono ?_;rintro e w1 ⟨rfl,b1⟩;have HB1:=mH (bt HBw.out b1);clear b1)
    go_ret
    exact⟨by rw [HV.out];rfl,HB1.out⟩
   ·have HZ:=mH hz
    clear hz
    go_wp2_with (go_at_call 184;refine(H1.out _ j r .nilIface HBw.out hlt HR.out (fun _=>rfl) (fun e=>absurd e HZ.out)).mono ?_;rintro e w1 ⟨rfl,b1⟩;have HB1:=mH (bt HB.out b1);clear b1)
    go_roundw
    case rel=>
     refine⟨j+1,by go_num,by omega,mH (fun i hi hr0=>?_),HB1⟩
     by_cases e:i=j
     ·subst e;exact HZ.out (HR.out.un hr0)
     ·exact HC.out i (by omega) hr0
    case measure=>simp [intOf];omega
  ·have HV:Hid (R=.nilIface):=mH (HY.out (fun i hi=>HC.out i (by omega)))
   obtain rfl:j=xs.length:=by omega
   go_wp2
   go_ret
   exact⟨by rw [HV.out];rfl,HBw.out⟩
theorem okT_sh {xs:List Tk} (h:okTs xs):(∃ A B C E,Pt (sh (xs.map cp)) A B C E)/\1<=(sh (xs.map cp)).2/\(sh (xs.map cp)).2<=18446744073709551616/\0<=(sh (xs.map cp)).1/\(sh (xs.map cp)).1<=147573952589676412928:=
 ⟨sh_pt (xs.map cp) (okqT_all h.2) (by rw [List.length_map];exact h.1),sh_fit (xs.map cp) (okqT_all h.2) (by rw [List.length_map];exact h.1)⟩
set_option maxHeartbeats 3200000 in
theorem deadline_is (w:World) (s:Sv) (v:Value) (xs:List Tk) (a:Nat->Addr) (R:Value) (h:Tks w v xs) (E:Er6 w a) (h1:okW s) (h2:okTs xs) (hyes:FitT (gS s) (dS s) (qS s) xs->R=.nilIface) (hno:¬ FitT (gS s) (dS s) (qS s) xs->R=vE (a 11)) :
  Calls Tryz.prog 171 #[vS s,v] w fun e w'=>e=.returned R/\Below w.heap.size w w':=by
 obtain⟨⟨A,B,C,D,hp⟩,d1,d2,d3,d4⟩:=okT_sh h2
 obtain⟨q1,q2⟩:=tot_cc8 h2.2 h2.1
 obtain⟨g1,g2⟩:=gst_bounds h2.2
 have H2:Hid (∀ W,Below w.heap.size w W->Calls Tryz.prog 185 #[v] W fun e w'=>e=.returned (.tuple #[vP A B C D,.nilIface])/\Below W.heap.size W w'):=mH (fun W hW=>tasks_ok W v xs A B C D (h.below hW) h2 hp)
 have H4:Hid (∀ W p,Below w.heap.size w W->W.cell? ⟨p,0,none⟩=some v->Calls Tryz.prog 178 #[vS s,vP A B C D,.int .i64 (tot cc xs+gst xs),.func (.func 186) #[] #[.pointer (some ⟨p,0,none⟩)]] W fun e w'=>e=.returned R/\Below W.heap.size W w'):=
  mH (fun W p hW hc=>fit_is W s _ _ (tot cc xs+gst xs) _ _ (tskM xs) R _ _ h1 hp d3 d4 d1 d2 (by omega) (by omega) (tskM_mono xs h2.2) (fun l l0 l1=>tskM_few h2.2 h2.1 l0 l1) (E.late hW).cell_over (E.late hW).cell_tight enters_tasks (asks_tasks W v xs p (h.below hW) h2 hc) hyes hno)
 have HX:=mH h2
 have HS:=mH h
 obtain⟨k,q,t⟩:=s
 obtain⟨a0,cap,rfl,hl,h9⟩:=id h
 have h8:(xs.length:Int)<=8:=by have:=h2.1;omega
 clear h E h9 h1 h2 hyes hno hp d1 d2 d3 d4
 have hmf:∀ (fn:Fn) (first cap:Array Value) (w:World),(Instr.makeFunc fn first cap).run Tryz.prog w=.ok (.func fn first cap) w:=fun _ _ _ _=>rfl
 go_enter Tryz.func171,Tryz.ntmps171
 go_wp2_with (first
  |(go_at_call 185;refine(H2.out _ (ba (ba (Below.refl _ _) _) _)).mono ?_;rintro e w2 ⟨rfl,b2⟩;have d0:=kc (a:=⟨w.heap.size,0,none⟩) (v:=.int .i64 k) (by simp [go_sem]) b2;have d1:=kc (a:=⟨w.heap.size,1,none⟩) (v:=.int .i64 q) (by simp [go_sem]) b2;have d2:=kc (a:=⟨w.heap.size,2,none⟩) (v:=.int .i64 t) (by simp [go_sem]) b2;have d3:=kc (a:=⟨w.heap.size+1,0,none⟩) (v:=.slice a0 xs.length cap) (by simp [go_sem]) b2;have HB2:=mH (bt (ba (ba (Below.refl _ _) _) _) b2);clear b2))
 obtain⟨⟨z0,z1,z2,z3⟩,_⟩:=P4.new w2 A B C D
 have e0:=kl d0 (oP A B C D)
 have e1:=kl d1 (oP A B C D)
 have e2:=kl d2 (oP A B C D)
 have e3:=kl d3 (oP A B C D)
 clear d0 d1 d2 d3
 obtain⟨W,hW⟩:∃ W,W=w2.alloc (oP A B C D):=⟨_,rfl⟩
 have HB3:Hid (Below w.heap.size w W):=mH (by rw [hW];exact ba HB2.out _)
 rw [<- hW] at z0 z1 z2 z3 e0 e1 e2 e3 ⊢
 clear hW HB2
 generalize w2.heap.size=p at *
 generalize hP2:w.heap.size+1=p2 at *
 clear hP2
 obtain⟨p1,hP1⟩:∃ p1,p1=w.heap.size:=⟨_,rfl⟩
 rw [<- hP1] at e0 e1 e2 ⊢
 clear hP1
 have HCE:=mH (And.intro e0 (And.intro e1 (And.intro e2 (And.intro e3 (And.intro z0 (And.intro z1 (And.intro z2 z3)))))))
 clear e0 e1 e2 z0 z1 z2 z3
 go_loopw [7,8,22] (fun nv gv iv wr=>∃ (j:Nat) (N G:Int),nv=.int .i64 N/\gv=.int .i64 G/\iv=.int .i64 (j:Int)/\j<=xs.length/\0<=N/\N<=2048/\0<=G/\G<=256/\Hid (tot cc (xs.take j)=N)/\Hid (gst (xs.take j)=G)/\Hid (Below W.heap.size W wr)) (fun _ _ iv _=>xs.length - (intOf iv).toNat)
 case atStart=>exact⟨0,0,0,rfl,rfl,rfl,Nat.zero_le _,by omega,by omega,by omega,by omega,mH rfl,mH rfl,mH (Below.refl _ _)⟩
 case round=>
  obtain⟨j,N,G,rfl,rfl,rfl,hj,n0,n1,m0,m1,HN,HG,HB⟩:=hrel
  by_cases hlt:j < xs.length
  ·obtain⟨b,off,c,pp,d,sx,rfl,hxj,c0,c1,c2,c3⟩:=HS.out.at (bt HB3.out HB.out) j hlt
   have hji:(j:Int) < xs.length:=by omega
   obtain⟨o1,o2,o3,o4,o5,o6⟩:=HX.out.2 _ (List.mem_of_getElem? hxj)
   simp only at o1 o2 o3 o4 o5 o6
   have e:=tot_take cc hxj
   have eg:=gst_take hxj
   have t2:=tot_cc8 (xs:=xs.take (j+1)) (fun x hm=>HX.out.2 x (List.mem_of_mem_take hm)) (by rw [List.length_take];omega)
   rw [HN.out] at e
   rw [HG.out] at eg
   have eq1:cc (c,pp,d,sx)=c:=rfl
   rw [eq1] at e
   rw [e] at t2
   have HT:=mH e
   have HU:=mH eg
   simp only at HU
   have ew:IntKind.i64.wrap (N+c)=N+c:=wfit (by omega) (by omega)
   have hx0:0<=max G sx/\max G sx<=256:=by omega
   clear hxj e eg eq1
   go_wp2
   go_roundw
   case rel=>exact⟨j+1,N+c,max G sx,by go_num,by go_num,by go_num,by omega,t2.1,t2.2,hx0.1,hx0.2,HT,HU,mH (ba HB.out _)⟩
   case measure=>simp [intOf];omega
  ·obtain rfl:j=xs.length:=by omega
   have hN:=HN.out
   have hG:=HG.out
   rw [List.take_length] at hN hG
   rw [hN,hG] at H4
   have ew:IntKind.i64.wrap (N+G)=N+G:=wfit (by omega) (by omega)
   obtain⟨e0,e1,e2,e3,z0,z1,z2,z3⟩:=HCE.out
   have f0:=kc e0 HB.out
   have f1:=kc e1 HB.out
   have f2:=kc e2 HB.out
   have f3:=kc e3 HB.out
   have y0:=kc z0 HB.out
   have y1:=kc z1 HB.out
   have y2:=kc z2 HB.out
   have y3:=kc z3 HB.out
   have HB5:=mH (bt HB3.out HB.out)
   clear hN hG HN HG e0 e1 e2 e3 z0 z1 z2 z3 HCE
   go_wp2_with (go_at_call 178;refine(H4.out _ _ HB5.out f3).mono ?_;rintro e w6 ⟨rfl,b6⟩;have HB6:=mH (bt HB5.out b6);clear b6)
   go_ret
   exact⟨rfl,HB6.out⟩
set_option maxHeartbeats 3200000 in
theorem guestA_is (w:World) (s:Sv) (p:Int) (a0:Option Addr) (cap:Nat) (xs:List Tk) (a:Nat->Addr) (n:Int) (h:Tks w (.slice a0 xs.length cap) xs) (hcap:xs.length<=cap) (E:Er6 w a) (hk:GC s p xs n) :
  Calls Tryz.prog 155 #[vS s,.int .i64 p,.slice a0 xs.length cap] w fun e w'=>e=.returned (ev6 a n)/\Below w.heap.size w w':=by
 have HS:=mH h
 have HE:=mH E
 obtain⟨k,q,t⟩:=s
 clear h E
 have HO:Hid (okW (k,q,t)->okG p xs->p=2->∀ R,(FitO (gS (k,q,t)) (dS (k,q,t)) (qS (k,q,t)) xs->R=.nilIface)->(¬ FitO (gS (k,q,t)) (dS (k,q,t)) (qS (k,q,t)) xs->R=vE (a 11))->Calls Tryz.prog 155 #[vS (k,q,t),.int .i64 p,.slice a0 xs.length cap] w fun e w'=>e=.returned R/\Below w.heap.size w w'):=mH (by
  intro h1 h2 hp R y n
  have H1:=mH h1
  have H2:=mH h2
  have HY:=mH y
  have HN:=mH n
  clear h1 h2 y n hk
  subst hp
  go_enter Tryz.func155,Tryz.ntmps155
  go_wp2_with (first
   |(go_at_call 169;refine(checkParent_ok _ (k,q,t) H1.out).mono ?_;rintro e w1 ⟨rfl,b1⟩;have c0:=kc (a:=⟨w.heap.size,0,none⟩) (v:=.int .i64 k) (by simp [go_sem]) b1;have c1:=kc (a:=⟨w.heap.size,1,none⟩) (v:=.int .i64 q) (by simp [go_sem]) b1;have c2:=kc (a:=⟨w.heap.size,2,none⟩) (v:=.int .i64 t) (by simp [go_sem]) b1;have HB1:=mH (bt (ba (Below.refl _ _) _) b1);clear b1)
   |(go_at_call 103;refine(guest_ok _ _ 2 xs (HS.out.below HB1.out) H2.out).mono ?_;rintro e w2 ⟨rfl,b2⟩;have d0:=kc c0 b2;have d1:=kc c1 b2;have d2:=kc c2 b2;have HB2:=mH (bt HB1.out b2);clear b2 c0 c1 c2)
   |(go_at_call 170;refine(order_is _ (k,q,t) a0 cap xs a R (HS.out.below HB2.out) hcap (HE.out.late HB2.out) H1.out H2.out.2.2 HY.out HN.out).mono ?_;rintro e w3 ⟨rfl,b3⟩;have HB3:=mH (bt HB2.out b3);clear b3))
  go_ret
  exact⟨rfl,HB3.out⟩)
 have HD:Hid (okW (k,q,t)->okG p xs->p=1->∀ R,(FitT (gS (k,q,t)) (dS (k,q,t)) (qS (k,q,t)) xs->R=.nilIface)->(¬ FitT (gS (k,q,t)) (dS (k,q,t)) (qS (k,q,t)) xs->R=vE (a 11))->Calls Tryz.prog 155 #[vS (k,q,t),.int .i64 p,.slice a0 xs.length cap] w fun e w'=>e=.returned R/\Below w.heap.size w w'):=mH (by
  intro h1 h2 hp R y n
  have H1:=mH h1
  have H2:=mH h2
  have HY:=mH y
  have HN:=mH n
  clear h1 h2 y n hk
  subst hp
  go_enter Tryz.func155,Tryz.ntmps155
  go_wp2_with (first
   |(go_at_call 169;refine(checkParent_ok _ (k,q,t) H1.out).mono ?_;rintro e w1 ⟨rfl,b1⟩;have c0:=kc (a:=⟨w.heap.size,0,none⟩) (v:=.int .i64 k) (by simp [go_sem]) b1;have c1:=kc (a:=⟨w.heap.size,1,none⟩) (v:=.int .i64 q) (by simp [go_sem]) b1;have c2:=kc (a:=⟨w.heap.size,2,none⟩) (v:=.int .i64 t) (by simp [go_sem]) b1;have HB1:=mH (bt (ba (Below.refl _ _) _) b1);clear b1)
   |(go_at_call 103;refine(guest_ok _ _ 1 xs (HS.out.below HB1.out) H2.out).mono ?_;rintro e w2 ⟨rfl,b2⟩;have d0:=kc c0 b2;have d1:=kc c1 b2;have d2:=kc c2 b2;have HB2:=mH (bt HB1.out b2);clear b2 c0 c1 c2)
   |(go_at_call 171;refine(deadline_is _ (k,q,t) _ xs a R (HS.out.below HB2.out) (HE.out.late HB2.out) H1.out H2.out.2.2 HY.out HN.out).mono ?_;rintro e w3 ⟨rfl,b3⟩;have HB3:=mH (bt HB2.out b3);clear b3))
  go_ret
  exact⟨rfl,HB3.out⟩)
 cases hk with
 |parent h1=>
  rw [ev6_10]
  have H1:=mH h1
  clear h1
  go_enter Tryz.func155,Tryz.ntmps155
  go_wp2_with (go_at_call 169;refine(checkParent_no _ (k,q,t) H1.out _ (HE.out.late (ba (Below.refl _ _) _)).er4.er3.cell_server).mono ?_;rintro e w1 ⟨rfl,b1⟩;have HB1:=mH (bt (ba (Below.refl _ _) _) b1);clear b1)
  go_ret
  exact⟨rfl,HB1.out⟩
 |task h1 h2=>
  rw [ev6_11]
  have H1:=mH h1
  have H2:=mH h2
  clear h1 h2
  go_enter Tryz.func155,Tryz.ntmps155
  go_wp2_with (first
   |(go_at_call 169;refine(checkParent_ok _ (k,q,t) H1.out).mono ?_;rintro e w1 ⟨rfl,b1⟩;have HB1:=mH (bt (ba (Below.refl _ _) _) b1);clear b1)
   |(go_at_call 103;refine(guest_no _ _ p xs _ (HS.out.below HB1.out) H2.out (HE.out.late HB1.out).er4.cell_task).mono ?_;rintro e w2 ⟨rfl,b2⟩;have HB2:=mH (bt HB1.out b2);clear b2))
  go_ret
  exact⟨rfl,HB2.out⟩
 |tightO h1 h2 hp h4=>exact HO.out h1 h2 hp _ (fun hf=>absurd hf h4) (fun _=>rfl)
 |fitsO h1 h2 hp h4=>exact HO.out h1 h2 hp _ (fun _=>rfl) (fun hf=>absurd h4 hf)
 |tightT h1 h2 hp h4=>exact HD.out h1 h2 hp _ (fun hf=>absurd hf h4) (fun _=>rfl)
 |fitsT h1 h2 hp h4=>exact HD.out h1 h2 hp _ (fun _=>rfl) (fun hf=>absurd h4 hf)
end Go.Proofs.YtpdehdomilnmeaaGreatDoor
