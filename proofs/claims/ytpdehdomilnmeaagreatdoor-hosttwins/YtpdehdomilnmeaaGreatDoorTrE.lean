import Derived.Test.YtpdehdomilnmeaaGreatDoorTrD
import Derived.Test.YtpdehdomilnmeaaGreatDoorTiX
namespace Go.Proofs.YtpdehdomilnmeaaGreatDoor
open Go.ChangeShapes Go.WideShapes Go.ChangeAt Go.RowKit
set_option maxRecDepth 100000
attribute [local go_sem] World.cell?_alloc_some fAs
set_option maxHeartbeats 3200000 in
theorem delG_none (w:World) (v:Value) (gs:List Gh) (B p:Nat) (now:Int) (h:Ghs w v gs) (hB:w.cell? ⟨B,0,none⟩=some (.pointer (some ⟨p,0,none⟩))) (hp:w.cell? ⟨p,3,none⟩=some (.int .i64 now)) (hn:∀ x ∈ gs,over now x=false) :
  Calls Tryz.prog 99 #[v,psFn B] w fun e w'=>e=.returned v/\Below w.heap.size w w':=by
 have HI:=mH (idxG_any w v gs B p now (-1) h hB hp (fun _=>rfl) (fun j x hx hk _=>by have:=hn x (List.mem_of_getElem? hx);rw [hk] at this;cases this))
 obtain⟨a,cap,rfl,_⟩:=h
 clear hn hB hp
 simp only [psFn] at HI ⊢
 go_enter Tryz.func99,Tryz.ntmps99
 go_wp2_with (go_at_call 124;refine(HI.out).mono ?_;rintro r w1 ⟨rfl,hb1⟩;have HB1:=mH hb1;clear hb1)
 go_ret
 exact⟨rfl,HB1.out⟩
theorem delG_is (base:Nat) (w:World) (gv:Value) (gs:List Gh) (B p:Nat) (now:Int) (hown:w.ownsRow base 111 5 gv gs.length (gs.flatMap c5)) (hl:gs.length<=1000) (hB:w.cell? ⟨B,0,none⟩=some (.pointer (some ⟨p,0,none⟩))) (hp:w.cell? ⟨p,3,none⟩=some (.int .i64 now)) (hgB:gv.ownBlock ≠ some B) (hgp:gv.ownBlock ≠ some p) :
  Calls Tryz.prog 99 #[gv,psFn B] w fun e w'=>∃ gv',e=.returned gv'/\w'.ownsRow base 111 5 gv' (gs.filter (keepG now)).length ((gs.filter (keepG now)).flatMap c5)/\gv'.ownBlock=gv.ownBlock/\Kept (fun k=>gv.ownBlock=some k) w w':=by
 by_cases hn:∀ x ∈ gs,over now x=false
 ·refine(delG_none w gv gs B p now (RowIn.of_owns c5_len (by omega) hown) hB hp hn).mono ?_
  rintro e w' ⟨rfl,hb⟩
  have e1:gs.filter (keepG now)=gs:=List.filter_eq_self.mpr (fun x hx=>by simp [keepG,hn x hx])
  rw [e1]
  exact⟨gv,rfl,oNk hown (kept_new (F:=fun _=>False) hb) (fun _ _ h=>h),rfl,kept_new hb⟩
 ·obtain⟨k0,x0,hx0,ho0,ha0⟩:∃ (k0:Nat) (x0:Gh),gs[k0]?=some x0/\over now x0=true/\∀ y ∈ gs.take k0,over now y=false:=by
   clear hown hl
   induction gs with
   |nil=>exact absurd (fun x hx=>by simp at hx) hn
   |cons g l ih=>
    by_cases hg:over now g=true
    ·exact⟨0,g,rfl,hg,fun y hy=>by simp at hy⟩
    ·have hg':over now g=false:=by simpa using hg
     obtain⟨k,x,h1,h2,h3⟩:=ih (fun hall=>hn (fun x hx=>by
      rcases List.mem_cons.mp hx with rfl | hx
      ·exact hg'
      ·exact hall x hx))
     refine⟨k+1,x,by simpa using h1,h2,fun y hy=>?_⟩
     rw [List.take_succ_cons] at hy
     rcases List.mem_cons.mp hy with rfl | hy
     ·exact hg'
     ·exact h3 y hy
  obtain⟨g,cap,rfl,_,_⟩:=own_addr hown (List.getElem?_eq_some_iff.mp hx0).1
  refine(delG_some base w g cap gs B p now k0 x0 hown hl hB hp (fun e=>hgB (by rw [e];rfl)) (fun e=>hgp (by rw [e];rfl)) hx0 ho0 ha0).mono ?_
  rintro e w' ⟨c,rfl,h1,h2⟩
  exact⟨_,rfl,h1,rfl,h2.mono (fun k e=>by rw [e];rfl)⟩
theorem TrP.setNow {base:Nat} {w:World} {p:Nat} {nv gv:Value} {ps:List Np} {t:Tr} (h:TrP base w p nv gv ps t) (n:Int):TrP base (w.setCell ⟨p,3,none⟩ (.int .i64 n)) p nv gv ps ⟨t.ns,t.gs,t.last,n⟩:=by
 have hk:=Kept.setCell (F:=fun k=>k=p) w (p:=⟨p,3,none⟩) rfl (.int .i64 n)
 refine⟨hSt h.blk,h.o.kept hk (fun k e=>.inl (by subst e;exact⟨h.pn,h.pg,h.pt⟩)),h.e,h.bp,h.pn,h.pg,h.pt⟩
theorem TrP.setLast {base:Nat} {w:World} {p:Nat} {nv gv:Value} {ps:List Np} {t:Tr} (h:TrP base w p nv gv ps t) (n:Int):TrP base (w.setCell ⟨p,2,none⟩ (.int .i64 n)) p nv gv ps ⟨t.ns,t.gs,n,t.now⟩:=by
 have hk:=Kept.setCell (F:=fun k=>k=p) w (p:=⟨p,2,none⟩) rfl (.int .i64 n)
 refine⟨hSt h.blk,h.o.kept hk (fun k e=>.inl (by subst e;exact⟨h.pn,h.pg,h.pt⟩)),h.e,h.bp,h.pn,h.pg,h.pt⟩
set_option maxHeartbeats 12800000 in
theorem pass_is (base:Nat) (w:World) (p:Nat) (t:Tr) (nv gv:Value) (ps:List Np) (tm:Int) (h:TrP base w p nv gv ps t) (hs:t.Sm 1000) :
  Calls Tryz.prog 72 #[.pointer (some ⟨p,0,none⟩),.int .i64 tm] w fun e w'=>(∃ v,e=.returned v)/\(∃ gv',TrP base w' p nv gv' ps (t.pass tm))/\Below base w w':=by
 obtain⟨na,nc,hnv,_⟩:=own_sh h.o.nown
 obtain⟨ga,gc,hgv,_⟩:=own_sh h.o.gown
 have hgl:=hs.g
 subst hnv hgv
 have HH:=mH h
 have HBS:Hid (base<=w.heap.size):=mH (by have:=h.bp;have:=lOh h.blk;omega)
 have hmf:∀ (fn:Fn) (first cap:Array Value) (w:World),(Instr.makeFunc fn first cap).run Tryz.prog w=.ok (.func fn first cap) w:=fun _ _ _ _=>rfl
 clear h hs
 go_enter Tryz.func72,Tryz.ntmps72
 go_wp2
 obtain⟨W,hW⟩:∃ W,W=w.alloc (.cells #[.pointer (some ⟨p,0,none⟩)] 157):=⟨_,rfl⟩
 have HPW:Hid (TrP base W p (.slice na ps.length nc) (.slice ga t.gs.length gc) ps t):=mH (by rw [hW];exact HH.out.below (ba (Below.refl _ _) _))
 have HBX:Hid (W.heap[w.heap.size]?=some (.cells #[.pointer (some ⟨p,0,none⟩)] 157 (0,0))):=mH (by rw [hW];exact heap_alloc_new w _)
 have HBW:Hid (Below base w W/\base<=W.heap.size):=mH (by rw [hW];exact⟨(Below.refl _ w).alloc HBS.out _,by have:=HBS.out;simp;omega⟩)
 have HOL:Hid (∀ v n m xs e,w.ownsRow base e m v n xs->v.ownBlock ≠ some w.heap.size):=mH (fun v n m xs e ho e2=>by have:=(ho.lt _ e2).2;omega)
 have HBP:Hid (¬ w.heap.size=p):=mH (by have:=lOh HH.out.blk;omega)
 rw [<- hW]
 clear hW
 have HGB:Hid ((Value.slice ga t.gs.length gc).ownBlock ≠ some w.heap.size):=mH (HOL.out _ _ _ _ _ HH.out.o.gown)
 obtain⟨B,hB⟩:∃ B,B=w.heap.size:=⟨_,rfl⟩
 rw [<- hB] at HBX HBP HGB ⊢
 clear hB HOL HBS HH
 have b0:W.cell? ⟨B,0,none⟩=some (.pointer (some ⟨p,0,none⟩)):=cOb HBX.out rfl
 obtain⟨_,_,_,c3⟩:=HPW.out.cells
 have f3:=HPW.out.frozen 3
 have hT:W.drew.cell? ⟨B,0,none⟩=some (.pointer (some ⟨p,0,none⟩))/\W.drew.cell? ⟨p,3,none⟩=some (.int .i64 t.now):=⟨b0,c3⟩
 refine wp_region_till (fun w'=>w'.cell? ⟨B,0,none⟩=some (.pointer (some ⟨p,0,none⟩))/\w'.cell? ⟨p,3,none⟩=some (.int .i64 t.now)) 9 (by kernel_rfl) ?_
 refine fiE 0 4 (.pointer (some ⟨p,0,none⟩)) rfl rfl hT ?_
 simp only [sZ,sS]
 refine fiE 1 5 (.pointer (some ⟨p,0,none⟩)) rfl rfl hT ?_
 simp only [sZ,sS]
 refine frE 2 6 (.pointer (some ⟨p,0,none⟩)) rfl rfl (fun _=>hT) ?_
 simp only [sZ,sS]
 refine frE 3 7 (.pointer (some ⟨p,3,none⟩)) rfl rfl (fun _=>hT) ?_
 simp only [sZ,sS]
 refine fiE 4 8 (.int .i64 t.now) rfl rfl hT ?_
 simp only [sZ,sS]
 refine frE 5 9 (.int .i64 tm) rfl rfl (fun _=>hT) ?_
 simp only [sZ,sS]
 refine freeD 6 10 (.int .i64 (max t.now tm)) rfl rfl (by kernel_rfl) (by kernel_rfl) (by kernel_rfl) (by decide) (fun _ _ _ h=>h) (fun _=>hT) (Or.inl ⟨by kernel_rfl,by intro w _;go_simp;split <;> omega⟩) ?_
 simp only [sZ,sS]
 refine frE 7 11 (.pointer (some ⟨p,0,none⟩)) rfl rfl (fun _=>hT) ?_
 simp only [sZ,sS]
 refine frE 8 12 (.pointer (some ⟨p,3,none⟩)) rfl rfl (fun _=>hT) ?_
 simp only [sZ,sS]
 refine wpT_ready (rs:=[9]) (by kernel_rfl) (by simp) (AllT.cons rfl (fun K hK=>?_) AllT.nil)
 go_simp
 refine hK.out _ _ (bool_no (by kernel_rfl)) ?_
 clear hK K
 refine wpT_done (by kernel_rfl) ?_ _
 clear hT c3 f3
 have HP2:Hid (TrP base (W.setCell ⟨p,3,none⟩ (.int .i64 (max t.now tm))).drew p (.slice na ps.length nc) (.slice ga t.gs.length gc) ps ⟨t.ns,t.gs,t.last,max t.now tm⟩):=mH ((HPW.out.setNow (max t.now tm)).below (Below.refl _ _).drew)
 have HB2:Hid (Below base w (W.setCell ⟨p,3,none⟩ (.int .i64 (max t.now tm))).drew/\base<=(W.setCell ⟨p,3,none⟩ (.int .i64 (max t.now tm))).drew.heap.size):=mH ⟨(setG_below HBW.out.1 HPW.out.bp _ HBW.out.2).drew,by have:=HBW.out.2;simpa [World.setCell] using this⟩
 have b2:(W.setCell ⟨p,3,none⟩ (.int .i64 (max t.now tm))).drew.cell? ⟨B,0,none⟩=some (.pointer (some ⟨p,0,none⟩)):=(Kept.setCell (F:=fun k=>k=p) W (p:=⟨p,3,none⟩) rfl (.int .i64 (max t.now tm))).cell b0 HBP.out
 clear b0 HPW HBX HBW
 generalize (W.setCell ⟨p,3,none⟩ (.int .i64 (max t.now tm))).drew=W2 at *
 obtain⟨N,hN⟩:∃ N,N=max t.now tm:=⟨_,rfl⟩
 rw [<- hN] at HP2 ⊢
 have HN:=mH hN
 clear hN
 go_wp2
 obtain⟨_,c1,_,c3⟩:=HP2.out.cells
 have hT:W2.drew.cell? ⟨B,0,none⟩=some (.pointer (some ⟨p,0,none⟩))/\W2.drew.cell? ⟨p,1,none⟩=some (.slice ga t.gs.length gc):=⟨b2,c1⟩
 have HD:=mH (delG_is base W2.drew (.slice ga t.gs.length gc) t.gs B p N (HP2.out.below (Below.refl _ _).drew).o.gown hgl b2 c3 HGB.out HP2.out.pg)
 simp only [psFn] at HD
 clear c3
 refine wp_region_till (fun w'=>w'.cell? ⟨B,0,none⟩=some (.pointer (some ⟨p,0,none⟩))/\w'.cell? ⟨p,1,none⟩=some (.slice ga t.gs.length gc)) 9 (by kernel_rfl) ?_
 refine fiE 0 13 (.pointer (some ⟨p,0,none⟩)) rfl rfl hT ?_
 simp only [sZ,sS]
 refine fiE 1 14 (.pointer (some ⟨p,0,none⟩)) rfl rfl hT ?_
 simp only [sZ,sS]
 refine frE 2 15 (.pointer (some ⟨p,0,none⟩)) rfl rfl (fun _=>hT) ?_
 simp only [sZ,sS]
 refine frE 3 16 (.pointer (some ⟨p,1,none⟩)) rfl rfl (fun _=>hT) ?_
 simp only [sZ,sS]
 refine fiE 4 17 (.slice ga t.gs.length gc) rfl rfl hT ?_
 simp only [sZ,sS]
 refine frE 5 18 (.func (.func 100) #[] #[.pointer (some ⟨B,0,none⟩)]) rfl rfl (fun _=>hT) ?_
 simp only [sZ,sS]
 refine wpT_ready (rs:=[6]) (by kernel_rfl) (by simp) (AllT.cons rfl (fun K hK=>?_) AllT.nil)
 go_simp
 refine HD.out.mono ?_
 rintro e w3 ⟨gv3,rfl,ho3,hbk3,hk3⟩
 obtain⟨ga3,gc3,rfl,_⟩:=own_sh ho3
 have HK3:=mH hk3
 have HO3:=mH (And.intro ho3 hbk3)
 have hT3:w3.cell? ⟨B,0,none⟩=some (.pointer (some ⟨p,0,none⟩))/\w3.cell? ⟨p,1,none⟩=some (.slice ga t.gs.length gc):=⟨hk3.cell hT.1 HGB.out,hk3.cell hT.2 HP2.out.pg⟩
 clear ho3 hbk3 hk3 hT b2 c1 HD
 refine hK.out _ _ (fun _=>hT3) ?_
 clear hK K
 (try simp only [Act.put])
 refine freeD 7 20 (.pointer (some ⟨p,0,none⟩)) rfl rfl (by kernel_rfl) (by kernel_rfl) (by kernel_rfl) (by decide) (fun _ _ _ h=>h) (fun _=>hT3) (Or.inl ⟨by kernel_rfl,by intro w _;go_simp⟩) ?_
 simp only [sZ,sS]
 refine freeD 8 21 (.pointer (some ⟨p,1,none⟩)) rfl rfl (by kernel_rfl) (by kernel_rfl) (by kernel_rfl) (by decide) (fun _ _ _ h=>h) (fun _=>hT3) (Or.inl ⟨by kernel_rfl,by intro w _;go_simp⟩) ?_
 simp only [sZ,sS]
 refine wpT_ready (rs:=[9]) (by kernel_rfl) (by simp) (AllT.cons rfl (fun K hK=>?_) AllT.nil)
 have hbl3:=(HK3.out.block p (lOh HP2.out.blk) HP2.out.pg).trans HP2.out.blk
 have c1:w3.cell? ⟨p,1,none⟩=_:=cOb hbl3 rfl
 have f1:w3.frozen? ⟨p,1,none⟩=false:=fOb hbl3
 have HBL:=mH hbl3
 clear hbl3 hT3
 go_simp
 refine hK.out _ _ (bool_no (by kernel_rfl)) ?_
 clear hK K c1 f1
 refine wpT_done (by kernel_rfl) ?_ _
 have hk1:=Kept.setCell (F:=fun k=>k=p) w3 (p:=⟨p,1,none⟩) rfl (.slice ga3 (t.gs.filter (keepG N)).length gc3)
 have hP2:=HP2.out
 have hK3:Kept (fun k=>(Value.slice ga t.gs.length gc).ownBlock=some k) W2 w3:=(Kept.drew _ W2).trans HK3.out (fun _ h=>.inl h)
 have hbk:=HO3.out.2
 have hP9:TrP base (w3.setCell ⟨p,1,none⟩ (.slice ga3 (t.gs.filter (keepG N)).length gc3)) p (.slice na ps.length nc) (.slice ga3 (t.gs.filter (keepG N)).length gc3) ps (t.pass tm):=by
  have e:t.pass tm=⟨t.ns,t.gs.filter (keepG N),t.last,N⟩:=by rw [HN.out];rfl
  rw [e]
  refine⟨hSt HBL.out,⟨?_,fun x hx=>?_, ?_,hP2.o.tn,fun x hx k e2 e3=>hP2.o.tg x hx k e2 (by rw [<- hbk];exact e3),fun k e2 e3=>hP2.o.ng k e2 (by rw [<- hbk];exact e3)⟩,hP2.e,hP2.bp,hP2.pn,by rw [hbk];exact hP2.pg,hP2.pt⟩
  ·exact oNk (oNk hP2.o.nown hK3 (fun k e2 e3=>hP2.o.ng k e2 e3)) hk1 (fun k e2 e3=>hP2.pn (by rw [<- e3];exact e2))
  ·exact oNk (oNk (hP2.o.tk x hx) hK3 (fun k e2 e3=>hP2.o.tg x hx k e2 e3)) hk1 (fun k e2 e3=>hP2.pt x hx (by rw [<- e3];exact e2))
  ·exact oNk HO3.out.1 hk1 (fun k e2 e3=>hP2.pg (by rw [<- e3,<- hbk];exact e2))
 have HP9:=mH hP9
 have HB9:Hid (Below base w (w3.setCell ⟨p,1,none⟩ (.slice ga3 (t.gs.filter (keepG N)).length gc3))):=mH (by
  have h1:Below base W2 w3:=hK3.below (fun k e=>(hP2.o.gown.lt k e).1) HB2.out.2
  exact setG_below (HB2.out.1.trans h1) hP2.bp _ (by have:=h1.size;have:=HB2.out.2;omega))
 clear hP9 hk1 hP2 hK3 hbk HBL HO3 HK3
 generalize w3.setCell ⟨p,1,none⟩ (.slice ga3 (t.gs.filter (keepG N)).length gc3)=W9 at *
 go_wp2
 go_end0
 exact⟨⟨_,rfl⟩,⟨_,HP9.out⟩,HB9.out⟩
theorem own_set7 {w:World} {base:Nat} {e:TypeId} {g n cap:Nat} {ps:List Np} (h:w.ownsRow base e 7 (.slice (some ⟨g,0,none⟩) n cap) n (ps.flatMap c7)) {j:Nat} {x:Np} (hx:ps[j]?=some x) (y:Np) :
  (set7 w g (j * 7) (.int .i64 y.1.id) (.int .i64 y.1.pa) (.int .i64 y.1.sv.1) (.int .i64 y.1.sv.2.1) (.int .i64 y.1.sv.2.2) (.int .i64 y.1.po) (tvN y)).ownsRow base e 7 (.slice (some ⟨g,0,none⟩) n cap) n ((ps.set j y).flatMap c7):=by
 have l:j < ps.length:=(List.getElem?_eq_some_iff.mp hx).1
 have a0:=own_put h (j * 7+0) (.int .i64 y.1.id)
 rw [fl_set c7 7 c7_len ps j 0 x ((⟨y.1.id,x.1.pa,x.1.sv,x.1.po,x.1.ts⟩,x.2):Np) _ hx (by omega) rfl] at a0
 have g1:(ps.set j ((⟨y.1.id,x.1.pa,x.1.sv,x.1.po,x.1.ts⟩,x.2):Np))[j]?=some ((⟨y.1.id,x.1.pa,x.1.sv,x.1.po,x.1.ts⟩,x.2):Np):=by simp [l]
 have a1:=own_put a0 (j * 7+1) (.int .i64 y.1.pa)
 rw [fl_set c7 7 c7_len _ j 1 _ ((⟨y.1.id,y.1.pa,x.1.sv,x.1.po,x.1.ts⟩,x.2):Np) _ g1 (by omega) rfl,List.set_set] at a1
 have g2:(ps.set j ((⟨y.1.id,y.1.pa,x.1.sv,x.1.po,x.1.ts⟩,x.2):Np))[j]?=some ((⟨y.1.id,y.1.pa,x.1.sv,x.1.po,x.1.ts⟩,x.2):Np):=by simp [l]
 have a2:=own_put a1 (j * 7+2) (.int .i64 y.1.sv.1)
 rw [fl_set c7 7 c7_len _ j 2 _ ((⟨y.1.id,y.1.pa,(y.1.sv.1,x.1.sv.2),x.1.po,x.1.ts⟩,x.2):Np) _ g2 (by omega) rfl,List.set_set] at a2
 have g3:(ps.set j ((⟨y.1.id,y.1.pa,(y.1.sv.1,x.1.sv.2),x.1.po,x.1.ts⟩,x.2):Np))[j]?=some ((⟨y.1.id,y.1.pa,(y.1.sv.1,x.1.sv.2),x.1.po,x.1.ts⟩,x.2):Np):=by simp [l]
 have a3:=own_put a2 (j * 7+3) (.int .i64 y.1.sv.2.1)
 rw [fl_set c7 7 c7_len _ j 3 _ ((⟨y.1.id,y.1.pa,(y.1.sv.1,y.1.sv.2.1,x.1.sv.2.2),x.1.po,x.1.ts⟩,x.2):Np) _ g3 (by omega) rfl,List.set_set] at a3
 have g4:(ps.set j ((⟨y.1.id,y.1.pa,(y.1.sv.1,y.1.sv.2.1,x.1.sv.2.2),x.1.po,x.1.ts⟩,x.2):Np))[j]?=some ((⟨y.1.id,y.1.pa,(y.1.sv.1,y.1.sv.2.1,x.1.sv.2.2),x.1.po,x.1.ts⟩,x.2):Np):=by simp [l]
 have a4:=own_put a3 (j * 7+4) (.int .i64 y.1.sv.2.2)
 rw [fl_set c7 7 c7_len _ j 4 _ ((⟨y.1.id,y.1.pa,y.1.sv,x.1.po,x.1.ts⟩,x.2):Np) _ g4 (by omega) rfl,List.set_set] at a4
 have g5:(ps.set j ((⟨y.1.id,y.1.pa,y.1.sv,x.1.po,x.1.ts⟩,x.2):Np))[j]?=some ((⟨y.1.id,y.1.pa,y.1.sv,x.1.po,x.1.ts⟩,x.2):Np):=by simp [l]
 have a5:=own_put a4 (j * 7+5) (.int .i64 y.1.po)
 rw [fl_set c7 7 c7_len _ j 5 _ ((⟨y.1.id,y.1.pa,y.1.sv,y.1.po,x.1.ts⟩,x.2):Np) _ g5 (by omega) rfl,List.set_set] at a5
 have g6:(ps.set j ((⟨y.1.id,y.1.pa,y.1.sv,y.1.po,x.1.ts⟩,x.2):Np))[j]?=some ((⟨y.1.id,y.1.pa,y.1.sv,y.1.po,x.1.ts⟩,x.2):Np):=by simp [l]
 have a6:=own_put a5 (j * 7+6) (tvN y)
 rw [fl_set c7 7 c7_len _ j 6 _ (y:Np) _ g6 (by omega) rfl,List.set_set] at a6
 exact a6
structure Cp (base:Nat) (w:World) (v:Value) (ps qs:List Np) (j:Nat) (F:Nat->Prop):Prop where
 own:w.ownsRow base 69 7 v ps.length ((qs ++ ps.drop j).flatMap c7)
 tk:∀ t ∈ qs,w.ownsRow base 45 4 (tvN t) t.1.ts.length (t.1.ts.flatMap c4)/\∀ k,(tvN t).ownBlock=some k->v.ownBlock ≠ some k/\¬ F k
 e:nds qs=(nds ps).take j
 le:j<=ps.length
theorem Cp.len {base:Nat} {w:World} {v:Value} {ps qs:List Np} {j:Nat} {F:Nat->Prop} (h:Cp base w v ps qs j F):qs.length=j:=by
 have:=congrArg List.length h.e
 rw [List.length_map,List.length_take,List.length_map] at this
 have:=h.le
 omega
theorem Cp.at {base:Nat} {w:World} {v:Value} {ps qs:List Np} {j:Nat} {F:Nat->Prop} (h:Cp base w v ps qs j F) {x:Np} (hx:ps[j]?=some x):(qs ++ ps.drop j)[j]?=some x:=by
 rw [List.getElem?_append_right (by rw [h.len];exact Nat.le_refl _),h.len,Nat.sub_self,List.getElem?_drop,Nat.add_zero]
 exact hx
theorem Cp.set {base:Nat} {w:World} {v:Value} {ps qs:List Np} {j:Nat} {F:Nat->Prop} (h:Cp base w v ps qs j F) {x y:Np} (hx:ps[j]?=some x):(qs ++ ps.drop j).set j y=(qs ++ [y]) ++ ps.drop (j+1):=by
 have l:j < ps.length:=(List.getElem?_eq_some_iff.mp hx).1
 have e1:ps.drop j=x :: ps.drop (j+1):=by
  rw [List.drop_eq_getElem_cons l];congr 1;exact(List.getElem?_eq_some_iff.mp hx).2
 rw [e1,List.set_append_right _ _ (by rw [h.len];exact Nat.le_refl _),h.len,Nat.sub_self,List.set_cons_zero,List.append_assoc]
 rfl
theorem Cp.kept {base:Nat} {w w':World} {v:Value} {ps qs:List Np} {j:Nat} {F:Nat->Prop} (h:Cp base w v ps qs j F) (hk:Kept (fun _=>False) w w'):Cp base w' v ps qs j F:=
 ⟨oNk h.own hk (fun _ _ h=>h),fun t ht=>⟨oNk (h.tk t ht).1 hk (fun _ _ h=>h),(h.tk t ht).2⟩,h.e,h.le⟩
set_option maxHeartbeats 25600000 in
theorem clone_is (w:World) (t:Tr) (nv gv:Value) (ps:List Np) (h:TrW w nv gv ps t) (hs:t.Sm 1000) :
  Calls Tryz.prog 69 #[vTr nv gv t] w fun e w'=>∃ nv' gv' qs,e=.returned (vTr nv' gv' t)/\TrO w.heap.size w' nv' gv' qs t.gs/\nds qs=t.ns/\Below w.heap.size w w':=by
 have hl:ps.length<=1000:=by have:=hs.n;rw [<- h.e,List.length_map] at this;exact this
 have hgl:=hs.g
 have HE:=mH h.e
 obtain⟨a1,cap,rfl,_⟩:=h.n.row.shape
 obtain⟨a2,cap2,rfl,_⟩:=h.g.shape
 have HN:Hid (∀ W,Below w.heap.size w W->Calls Tryz.prog 41 #[.slice a1 ps.length cap] W fun r w'=>∃ a2 c2,r=.returned (.slice a2 ps.length c2)/\w'.ownsRow W.heap.size 69 7 (.slice a2 ps.length c2) ps.length (ps.flatMap c7)/\Below W.heap.size W w'):=mH (fun W hW=>cloneN_any W a1 cap ps (fun X hX=>RowIn.src Tryz.underlying27 (by omega) c7_len one7 (h.n.row.below (bt hW hX))) (fun e=>row_nil h.n.row e) (by omega))
 have HG:Hid (∀ W,Below w.heap.size w W->Calls Tryz.prog 42 #[.slice a2 t.gs.length cap2] W fun r w'=>∃ a3 c3,r=.returned (.slice a3 t.gs.length c3)/\w'.ownsRow W.heap.size 111 5 (.slice a3 t.gs.length c3) t.gs.length (t.gs.flatMap c5)/\Below W.heap.size W w'):=mH (fun W hW=>cloneG_any W a2 cap2 t.gs (fun X hX=>RowIn.src Tryz.underlying28 (by omega) c5_len one5 (h.g.below (bt hW hX))) (fun e=>row_nil h.g e) (by omega))
 have HC:Hid (∀ x ∈ ps,∀ W,Below w.heap.size w W->Calls Tryz.prog 94 #[vNp x] W fun r w'=>∃ a2 c2,r=.returned (vNp (x.1,a2,c2))/\w'.ownsRow W.heap.size 45 4 (.slice a2 x.1.ts.length c2) x.1.ts.length (x.1.ts.flatMap c4)/\Below W.heap.size W w'):=mH (fun x hx W hW=>cloneNode_any W x ((h.n.tk x hx).1.below hW) (by have:=hs.s x.1 (by rw [<- h.e];exact List.mem_map.mpr ⟨x,hx,rfl⟩);omega))
 clear h hs
 go_enter Tryz.func69,Tryz.ntmps69
 go_wp2_with (go_at_call 41;refine(HN.out _ (ba (ba (Below.refl _ w) _) _)).mono ?_;rintro r w1 ⟨na,nc,rfl,ho1,hb1⟩;obtain⟨hx,hy,hbb⟩:=new_two hb1;obtain⟨c0,c1,c2,c3⟩:=four hx;have f0:w1.frozen? ⟨w.heap.size,0,none⟩=false:=fOb hx;have HX:=mH (And.intro hx hy);have HB:=mH hbb;have HO:=mH ho1;clear hb1 hx hy hbb ho1)
 obtain⟨W,hW⟩:∃ W,W=w1.setCell ⟨w.heap.size,0,none⟩ (.slice na ps.length nc):=⟨_,rfl⟩
 have hkW:=Kept.setCell (F:=fun k=>k=w.heap.size) w1 (p:=⟨w.heap.size,0,none⟩) rfl (.slice na ps.length nc)
 have HX2:Hid (W.heap[w.heap.size]?=some (.cells #[.slice na ps.length nc,.slice a2 t.gs.length cap2,.int .i64 t.last,.int .i64 t.now] 30 (0,0))/\W.heap[w.heap.size+1]?=some (.cells #[.slice none 0 0,.slice none 0 0,.int .i64 0,.int .i64 0] 30 (0,0))):=mH (by
  rw [hW]
  exact⟨hSt HX.out.1,(hkW.block _ (lOh HX.out.2) (by omega)).trans HX.out.2⟩)
 have HB2:Hid (Below w.heap.size w W):=mH (by rw [hW];exact HB.out.trans (hkW.below (fun k e=>by omega) HB.out.size))
 have HCP:Hid (Cp w.heap.size W (.slice na ps.length nc) ps [] 0 (fun k=>k=w.heap.size ∨ k=w.heap.size+1)):=mH ⟨by
  rw [hW,List.nil_append,List.drop_zero]
  exact own_lower (oNk HO.out hkW (fun k e1 e2=>by have:=(HO.out.lt k e1).1;simp at this;omega)) (by simp;omega),fun x hx=>by simp at hx,by simp,Nat.zero_le _⟩
 have HNB:Hid (∀ k,(Value.slice na ps.length nc).ownBlock=some k->w.heap.size+2<=k):=mH (fun k e=>by have:=(HO.out.lt k e).1;simp at this;omega)
 rw [<- hW]
 have d0:=(four HX2.out.1).1
 clear hW hkW HX HB HO c0 c1 c2 c3 f0
 go_wp2
 go_loopw [12] (fun iv wr=>∃ (j:Nat) (qs:List Np),iv=.int .i64 (j:Int)/\j<=ps.length/\Hid (Cp w.heap.size wr (.slice na ps.length nc) ps qs j (fun k=>k=w.heap.size ∨ k=w.heap.size+1))/\Hid (Below w.heap.size w wr)/\Hid (wr.heap[w.heap.size]?=some (.cells #[.slice na ps.length nc,.slice a2 t.gs.length cap2,.int .i64 t.last,.int .i64 t.now] 30 (0,0))/\wr.heap[w.heap.size+1]?=some (.cells #[.slice none 0 0,.slice none 0 0,.int .i64 0,.int .i64 0] 30 (0,0)))) (fun iv _=>ps.length - (intOf iv).toNat)
 case atStart=>exact⟨0,[],rfl,Nat.zero_le _,HCP,HB2,HX2⟩
 case round=>
  clear HCP HB2 HX2 d0
  obtain⟨j,qs,rfl,hj,HCP,HB,HX⟩:=hrel
  by_cases hlt:j < ps.length
  ·obtain⟨x,hx⟩:∃ x,ps[j]?=some x:=⟨_,List.getElem?_eq_getElem hlt⟩
   obtain⟨g,cp,hga,hbg,hgl'⟩:=own_addr HCP.out.own hlt
   simp only [Value.slice.injEq] at hga
   obtain⟨rfl,hlen,rfl⟩:=hga
   clear hlen
   have HCX:=mH (HC.out x (List.mem_of_getElem? hx))
   obtain⟨⟨q0,q1,q2,q3,q4,q5,q6⟩,_⟩:=node_cells HCP.out.own (HCP.out.at hx)
   have hg2:=HNB.out g rfl
   have HGG:Hid (g < wr.heap.size/\w.heap.size+2<=g):=mH ⟨hgl',hg2⟩
   have HXJ:=mH hx
   obtain⟨⟨id,pa,⟨k,q,T⟩,po,ts⟩,ta,tc⟩:=x
   simp only [tvN] at q0 q1 q2 q3 q4 q5 q6
   simp only [vNp,vNd,tvN] at HCX
   have hji:(j:Int) < ps.length:=by omega
   have c0:=(four HX.out.1).1
   clear hx hbg hgl' hg2
   go_wp2
   obtain⟨W,hW⟩:∃ W,W=wr.alloc (.cells #[.int .i64 id,.int .i64 pa,.int .i64 k,.int .i64 q,.int .i64 T,.int .i64 po,.slice ta ts.length tc] 69):=⟨_,rfl⟩
   have hbx:W.heap[wr.heap.size]?=some (.cells #[.int .i64 id,.int .i64 pa,.int .i64 k,.int .i64 q,.int .i64 T,.int .i64 po,.slice ta ts.length tc] 69 (0,0)):=by rw [hW];exact heap_alloc_new wr _
   have HWX:Hid (W.heap[w.heap.size]?=some (.cells #[.slice (some ⟨g,0,none⟩) ps.length nc,.slice a2 t.gs.length cap2,.int .i64 t.last,.int .i64 t.now] 30 (0,0))/\W.heap[w.heap.size+1]?=some (.cells #[.slice none 0 0,.slice none 0 0,.int .i64 0,.int .i64 0] 30 (0,0))):=mH (by rw [hW];exact⟨(heap_alloc_old wr _ (lOh HX.out.1)).trans HX.out.1,(heap_alloc_old wr _ (lOh HX.out.2)).trans HX.out.2⟩)
   have HWB:Hid (Below w.heap.size w W):=mH (by rw [hW];exact ba HB.out _)
   have HWC:Hid (Cp w.heap.size W (.slice (some ⟨g,0,none⟩) ps.length nc) ps qs j (fun k=>k=w.heap.size ∨ k=w.heap.size+1)):=mH (by rw [hW];exact HCP.out.kept (Kept.alloc _ _ _))
   have HGG2:Hid (g < W.heap.size/\w.heap.size+2<=g/\¬ wr.heap.size=g):=mH ⟨by rw [hW];have:=HGG.out;simp;omega,HGG.out.2,by have:=HGG.out;omega⟩
   obtain⟨n0,n1,n2,n3,n4,n5,n6⟩:=nd_cells hbx
   clear c0 q0 q1 q2 q3 q4 q5 q6
   have c0:=(four HWX.out.1).1
   rw [<- hW]
   clear hW hbx HX HB HCP HGG
   generalize wr.heap.size=Bx at *
   obtain⟨B0,hB0⟩:∃ B0,B0=w.heap.size:=⟨_,rfl⟩
   have HB0:=mH hB0
   rw [<- hB0] at c0 ⊢
   clear hB0
   refine wp_region_held_drew (S:=fun w'=>w'.cell? ⟨B0,0,none⟩=some (.slice (some ⟨g,0,none⟩) ps.length nc)/\w'.cell? ⟨Bx,0,none⟩=some (.int .i64 id)/\w'.cell? ⟨Bx,1,none⟩=some (.int .i64 pa)/\w'.cell? ⟨Bx,2,none⟩=some (.int .i64 k)/\w'.cell? ⟨Bx,3,none⟩=some (.int .i64 q)/\w'.cell? ⟨Bx,4,none⟩=some (.int .i64 T)/\w'.cell? ⟨Bx,5,none⟩=some (.int .i64 po)/\w'.cell? ⟨Bx,6,none⟩=some (.slice ta ts.length tc)) (by kernel_rfl) ⟨c0,n0,n1,n2,n3,n4,n5,n6⟩ (fun hHeld=>?_)
   refine tkE 0 17 (.pointer (some ⟨B0,0,none⟩)) rfl rfl hHeld ?_
   simp only [sZ,sS]
   refine tkE 1 18 (.slice (some ⟨g,0,none⟩) ps.length nc) rfl rfl hHeld ?_
   simp only [sZ,sS]
   refine tkE 2 19 (.int .i64 (j:Int)) rfl rfl hHeld ?_
   simp only [sZ,sS]
   refine tkE 3 20 (.agg #[.int .i64 id,.int .i64 pa,.int .i64 k,.int .i64 q,.int .i64 T,.int .i64 po,.slice ta ts.length tc]) rfl rfl hHeld ?_
   simp only [sZ,sS]
   refine wpAnyH_ready (rs:=[4]) (by kernel_rfl) (by simp) (AllReadyH.cons rfl (fun K hK=>?_) AllReadyH.nil)
   go_simp
   refine(HCX.out W.drew HWB.out.drew).mono ?_
   rintro e w4 ⟨a4,c4',rfl,ho4,b4⟩
   have y0:=kc (show W.drew.cell? _=_ from c0) b4
   have m0:=kc (show W.drew.cell? _=_ from n0) b4
   have m1:=kc (show W.drew.cell? _=_ from n1) b4
   have m2:=kc (show W.drew.cell? _=_ from n2) b4
   have m3:=kc (show W.drew.cell? _=_ from n3) b4
   have m4:=kc (show W.drew.cell? _=_ from n4) b4
   have m5:=kc (show W.drew.cell? _=_ from n5) b4
   have m6:=kc (show W.drew.cell? _=_ from n6) b4
   have HB4:=mH (bt HWB.out.drew b4)
   have HO4:=mH ho4
   have HX4:=mH (And.intro (bLt (w:=W.drew) HWX.out.1 b4) (bLt (w:=W.drew) HWX.out.2 b4))
   have HC4:=mH (HWC.out.kept ((Kept.drew _ W).trans (kept_new (F:=fun _=>False) b4) (fun _ h=>h.elim)))
   have HS4:=mH b4.size
   clear b4 ho4 hHeld
   refine hK.out _ _ ⟨y0,m0,m1,m2,m3,m4,m5,m6⟩ (fun hHeld=>?_)
   clear hK K c0 n0 n1 n2 n3 n4 n5 n6
   (try simp only [Act.put])
   (try simp only [vNp,vNd,tvN])
   refine tkE 5 22 (.pointer (some ⟨g,j * 7,none⟩)) rfl rfl hHeld ?_
   simp only [sZ,sS]
   refine wpAnyH_ready (rs:=[6]) (by kernel_rfl) (by simp) (AllReadyH.cons rfl (fun K hK=>?_) AllReadyH.nil)
   obtain⟨⟨q0,q1,q2,q3,q4,q5,q6⟩,f0,f1,f2,f3,f4,f5,f6⟩:=node_cells HC4.out.own (HC4.out.at HXJ.out)
   go_simp
   have hk7:=set7_kept (F:=fun k=>k=g) (Kept.refl _ w4) (g:=g) (.inl rfl) (j * 7) (.int .i64 id) (.int .i64 pa) (.int .i64 k) (.int .i64 q) (.int .i64 T) (.int .i64 po) (.slice a4 ts.length c4')
   have hBg:¬ B0=g:=by have:=HB0.out;have:=HGG2.out;omega
   have hXg:¬ Bx=g:=HGG2.out.2.2
   refine hK.out _ _ ⟨hk7.cell y0 hBg,hk7.cell m0 hXg,hk7.cell m1 hXg,hk7.cell m2 hXg,hk7.cell m3 hXg,hk7.cell m4 hXg,hk7.cell m5 hXg,hk7.cell m6 hXg⟩ (fun hHeld=>?_)
   clear hK K hHeld y0 m0 m1 m2 m3 m4 m5 m6 q0 q1 q2 q3 q4 q5 q6 f0 f1 f2 f3 f4 f5 f6
   refine wpAnyH_done (by kernel_rfl) ?_ _
   have hlt4:w.heap.size+2<=W.heap.size:=by have:=HGG2.out;omega
   have HC9:Hid (Cp w.heap.size (set7 w4 g (j * 7) (.int .i64 id) (.int .i64 pa) (.int .i64 k) (.int .i64 q) (.int .i64 T) (.int .i64 po) (.slice a4 ts.length c4')) (.slice (some ⟨g,0,none⟩) ps.length nc) ps (qs ++ [(⟨id,pa,(k,q,T),po,ts⟩,a4,c4')]) (j+1) (fun k=>k=w.heap.size ∨ k=w.heap.size+1)):=mH (by
    have hc4:=HC4.out
    have hnew:∀ k',(Value.slice a4 ts.length c4').ownBlock=some k'->¬ k'=g/\w.heap.size+2<=k':=fun k' e=>by
     have h1:=(HO4.out.lt k' e).1
     have h2:=HGG2.out
     have h3:W.drew.heap.size=W.heap.size:=rfl
     omega
    have hset:=own_set7 hc4.own (hc4.at HXJ.out) (⟨id,pa,(k,q,T),po,ts⟩,a4,c4')
    rw [hc4.set HXJ.out] at hset
    refine⟨hset,fun y hy=>?_, ?_,hlt⟩
    ·rcases List.mem_append.mp hy with hm | hm
     ·obtain⟨h1,h2⟩:=hc4.tk y hm
      exact⟨oNk h1 hk7 (fun k' e e2=>(h2 k' e).1 (by rw [e2];rfl)),h2⟩
     ·simp at hm
      subst hm
      refine⟨own_lower (oNk HO4.out hk7 (fun k' e e2=>(hnew k' e).1 e2)) (by have h3:W.drew.heap.size=W.heap.size:=rfl;omega),fun k' e=>?_⟩
      obtain⟨h1,h2⟩:=hnew k' e
      exact⟨fun e2=>h1 (by simpa [Value.ownBlock] using e2.symm),by omega⟩
    ·rw [nds,List.map_append,List.take_add_one,nds_at HXJ.out]
     show nds qs ++ _=_
     rw [hc4.e]
     rfl)
   have HB9:Hid (Below w.heap.size w (set7 w4 g (j * 7) (.int .i64 id) (.int .i64 pa) (.int .i64 k) (.int .i64 q) (.int .i64 T) (.int .i64 po) (.slice a4 ts.length c4'))):=mH (HB4.out.trans (hk7.below (fun k e=>by have:=HGG2.out;omega) HB4.out.size))
   have HX9:Hid ((set7 w4 g (j * 7) (.int .i64 id) (.int .i64 pa) (.int .i64 k) (.int .i64 q) (.int .i64 T) (.int .i64 po) (.slice a4 ts.length c4')).heap[w.heap.size]?=some (.cells #[.slice (some ⟨g,0,none⟩) ps.length nc,.slice a2 t.gs.length cap2,.int .i64 t.last,.int .i64 t.now] 30 (0,0))/\(set7 w4 g (j * 7) (.int .i64 id) (.int .i64 pa) (.int .i64 k) (.int .i64 q) (.int .i64 T) (.int .i64 po) (.slice a4 ts.length c4')).heap[w.heap.size+1]?=some (.cells #[.slice none 0 0,.slice none 0 0,.int .i64 0,.int .i64 0] 30 (0,0))):=mH ⟨(hk7.block _ (lOh HX4.out.1) (by have:=HGG2.out;omega)).trans HX4.out.1,(hk7.block _ (lOh HX4.out.2) (by have:=HGG2.out;omega)).trans HX4.out.2⟩
   clear hk7 hlt4 hBg hXg HO4 HC4 HX4 HB4 HS4
   have hB0:=HB0.out
   clear HB0
   subst hB0
   obtain⟨W9,hW9⟩:∃ W9,W9=set7 w4 g (j * 7) (.int .i64 id) (.int .i64 pa) (.int .i64 k) (.int .i64 q) (.int .i64 T) (.int .i64 po) (.slice a4 ts.length c4'):=⟨_,rfl⟩
   rw [<- hW9] at HC9 HB9 HX9
   unfold set7 at hW9
   rw [<- hW9]
   clear hW9
   go_wp2
   go_roundw
   case rel=>exact⟨j+1,_,by go_num,hlt,HC9,HB9,HX9⟩
   case measure=>simp [intOf];omega
  ·obtain rfl:j=ps.length:=by omega
   obtain⟨e0,e1,e2,e3⟩:=four HX.out.1
   have HQ:Hid (nds qs=t.ns):=mH (by rw [HCP.out.e,<- HE.out,List.take_of_length_le (by simp)])
   have HQL:=mH HCP.out.len
   clear hlt
   go_wp2_with (go_at_call 42;refine(HG.out _ HB.out).mono ?_;rintro r w5 ⟨a5,c5',rfl,ho5,b5⟩;have hx5:=bLt HX.out.1 b5;have hy5:=bLt HX.out.2 b5;clear e0 e1 e2 e3;obtain⟨e0,e1,e2,e3⟩:=four hx5;obtain⟨g0,g1,g2,g3⟩:=four hy5;have f1:w5.frozen? ⟨w.heap.size,1,none⟩=false:=fOb hx5;have k0:w5.frozen? ⟨w.heap.size+1,0,none⟩=false:=fOb hy5;have k1:w5.frozen? ⟨w.heap.size+1,1,none⟩=false:=fOb hy5;have k2:w5.frozen? ⟨w.heap.size+1,2,none⟩=false:=fOb hy5;have k3:w5.frozen? ⟨w.heap.size+1,3,none⟩=false:=fOb hy5;have HY5:=mH hy5;have HO5:=mH ho5;have HB5:=mH (bt HB.out b5);have HC5:=mH (HCP.out.kept (kept_new b5));have HS5:=mH HB.out.size;have HNL:=mH (fun k (e:(Value.slice na ps.length nc).ownBlock=some k)=>(HCP.out.own.lt k e).2);have HTL:=mH (fun x (hx:x ∈ qs) k (e:(tvN x).ownBlock=some k)=>((HCP.out.tk x hx).1.lt k e).2);clear ho5 b5 hx5 hy5)
   have hB1:=lOh HX.out.2
   have k8:=Kept.setCell (F:=fun k=>k=w.heap.size) w5 (p:=⟨w.heap.size,1,none⟩) rfl (.slice a5 t.gs.length c5')
   have hy8:=(k8.block _ (lOh HY5.out) (by omega)).trans HY5.out
   have kF:Kept (fun k=>k=w.heap.size ∨ k=w.heap.size+1) w5 (((((w5.setCell ⟨w.heap.size,1,none⟩ (.slice a5 t.gs.length c5')).setCell ⟨w.heap.size+1,0,none⟩ (.slice na ps.length nc)).setCell ⟨w.heap.size+1,1,none⟩ (.slice a5 t.gs.length c5')).setCell ⟨w.heap.size+1,2,none⟩ (.int .i64 t.last)).setCell ⟨w.heap.size+1,3,none⟩ (.int .i64 t.now)):=kset (kset (kset (kset (kset (Kept.refl _ _) (.inl (.inl rfl)) 1 _) (.inl (.inr rfl)) 0 _) (.inl (.inr rfl)) 1 _) (.inl (.inr rfl)) 2 _) (.inl (.inr rfl)) 3 _
   have hres:(((((w5.setCell ⟨w.heap.size,1,none⟩ (.slice a5 t.gs.length c5')).setCell ⟨w.heap.size+1,0,none⟩ (.slice na ps.length nc)).setCell ⟨w.heap.size+1,1,none⟩ (.slice a5 t.gs.length c5')).setCell ⟨w.heap.size+1,2,none⟩ (.int .i64 t.last)).setCell ⟨w.heap.size+1,3,none⟩ (.int .i64 t.now)).heap[w.heap.size+1]?=some (.cells #[.slice na ps.length nc,.slice a5 t.gs.length c5',.int .i64 t.last,.int .i64 t.now] 30 (0,0)):=by
    rw [hSt (hSt (hSt (hSt hy8)))]
    kernel_rfl
   refine bodyPost_ret (leaves1 rfl hres Tryz.underlying30 size_tree _ rfl) rfl ⟨_,_,qs,rfl,⟨?_,fun x hx=>?_, ?_,fun x hx k e=>((HC5.out.tk x hx).2 k e).1,fun x hx k e e2=>?_,fun k e e2=>?_⟩,HQ.out,HB5.out.trans (kF.below (fun k e=>by omega) HB5.out.size)⟩
   ·have:=HC5.out.own
    rw [List.drop_length,List.append_nil] at this
    rw [HQL.out]
    exact oNk this kF (fun k e e2=>by have:=HNB.out k e;omega)
   ·exact oNk (HC5.out.tk x hx).1 kF (fun k e e2=>((HC5.out.tk x hx).2 k e).2 e2)
   ·exact own_lower (oNk HO5.out kF (fun k e e2=>by have:=(HO5.out.lt k e).1;omega)) HS5.out
   ·have h1:=HTL.out x hx k e
    have h2:=(HO5.out.lt k e2).1
    omega
   ·have h1:=HNL.out k e
    have h2:=(HO5.out.lt k e2).1
    omega
theorem run_append_room7 {P:Program} (w:World) (base:Nat) (t tx ty e:TypeId) (i:TypeInfo) (ht:P.underlying t=some (.slice e)) (hi:P.info? e=some i)
  (hsize:i.size=7) (g n cap:Nat) (xs:List Value) (hown:w.ownsRow base e 7 (.slice (some ⟨g,0,none⟩) n cap) n xs) (x:Value) (m:Nat) (news:List Value) (hs:Src P 7 tx x m news w) (hroom:n+m<=cap) :
  ∃ w',(Builtin.append_ #[t,tx] ty #[.slice (some ⟨g,0,none⟩) n cap,x]).run P w=.ok (.slice (some ⟨g,0,none⟩) (n+m) cap) w'/\w'.ownsRow base e 7 (.slice (some ⟨g,0,none⟩) (n+m) cap) (n+m) (xs ++ news)/\w.grownBy w' (some g):=by
 have hxl:xs.length=n * 7:=hown.1
 have hnl:news.length=m * 7:=hs.newsLen
 have hlen:(xs ++ news).length=(n+m) * 7:=by rw [List.length_append,hxl,hnl];omega
 rcases hown.2 with ⟨e',_⟩ | ⟨g',cap',cur,e1,hbg,hg,hnc,hcm,hcs,htake⟩
 ·simp at e'
 simp only [Value.slice.injEq,Option.some.injEq,Addr.mk.injEq] at e1
 obtain⟨⟨rfl,_⟩,_,rfl⟩:=e1
 have hcs':cur.size=cap * 7:=hcs
 have hst:=run_storeCells_at P g (n * 7) e news 0 cur w hg (by rw [hnl];omega) hs.one
 simp only [Nat.add_zero,hnl] at hst
 have hr:(Builtin.append_ #[t,tx] ty #[.slice (some ⟨g,0,none⟩) n cap,x]).run P w=.ok (.slice (some ⟨g,0,none⟩) (n+m) cap) (w.setRow g (cur.toList.take (n * 7) ++ news ++ cur.toList.drop (n * 7+m * 7)).toArray):=by
  have hf:=hs.cells
  have hl:=hs.len
  rcases hs.kind with ⟨e',hk⟩ | hk <;> simp [Builtin.append_,run_underlying ht,run_underlying hk,sizeOf,typeInfo,hi,hsize,hl,hroom,hf,Addr.add_lit,hst]
 refine⟨_,hr,⟨hlen,.inr ⟨g,cap,_,rfl,hbg,setRow_heap w g cur _ e _ hg,hroom,hcm, ?_, ?_⟩⟩,⟨rfl,rfl,rfl,by simp,fun k _ hk=>setRow_other w g k _ (fun e=>hk (by rw [e]))⟩⟩
 ·simp only [List.size_toArray,List.length_append,List.length_take,List.length_drop,Array.length_toList,hnl]
  omega
 ·have ht':cur.toList.take (n * 7)=xs:=htake
  rw [ht',<- hlen]
  exact List.take_left
theorem own_shorter {w:World} {base:Nat} {e:TypeId} {k g m n cap:Nat} {xs:List Value} (h:w.ownsRow base e k (.slice (some ⟨g,0,none⟩) n cap) n xs) (h1:m<=n):w.ownsRow base e k (.slice (some ⟨g,0,none⟩) m cap) m (xs.take (m * k)):=by
 rcases h.2 with ⟨e',_⟩ | ⟨g',cap',cur,e1,hbg,hg,hnc,hcm,hcs,htake⟩
 ·simp at e'
 simp only [Value.slice.injEq,Option.some.injEq,Addr.mk.injEq] at e1
 obtain⟨⟨rfl,_⟩,_,rfl⟩:=e1
 have hmk:m * k<=n * k:=Nat.mul_le_mul_right k h1
 refine⟨by rw [List.length_take,h.1];omega,.inr ⟨g,cap,cur,rfl,hbg,hg,by omega,hcm,hcs, ?_⟩⟩
 rw [<- htake,List.take_take,Nat.min_eq_left hmk]
theorem own_longer {w:World} {base:Nat} {e:TypeId} {k g m n cap:Nat} {xs:List Value} (h:w.ownsRow base e k (.slice (some ⟨g,0,none⟩) m cap) m xs) (h1:m<=n) (h2:n<=cap):∃ ys,w.ownsRow base e k (.slice (some ⟨g,0,none⟩) n cap) n ys/\ys.take (m * k)=xs:=by
 rcases h.2 with ⟨e',_⟩ | ⟨g',cap',cur,e1,hbg,hg,hnc,hcm,hcs,htake⟩
 ·simp at e'
 simp only [Value.slice.injEq,Option.some.injEq,Addr.mk.injEq] at e1
 obtain⟨⟨rfl,_⟩,_,rfl⟩:=e1
 have hmk:m * k<=n * k:=Nat.mul_le_mul_right k h1
 have hnk:n * k<=cap * k:=Nat.mul_le_mul_right k h2
 refine⟨cur.toList.take (n * k),⟨by rw [List.length_take,Array.length_toList,hcs];omega,.inr ⟨g,cap,cur,rfl,hbg,hg,h2,hcm,hcs,rfl⟩⟩, ?_⟩
 rw [List.take_take,Nat.min_eq_left hmk]
 exact htake
theorem step_append_room7 {P:Program} {ops:Array Oper} {o:Oper} {a:Act} {w:World} {K:Act->World->Prop} {Q:Exit->Act->World->Prop} {E:Prop} (hgd:o.guard=none) (sl x:Operand) (t tx:TypeId)
  (hop:o.op=.call { callee:=.builtin .append,args:=#[sl,x],argTypes:=#[t,tx] })
  (base:Nat) (e:TypeId) (i:TypeInfo) (ht:P.underlying t=some (.slice e)) (hi:P.info? e=some i) (hsize:i.size=7)
  (g n cap:Nat) (xs:List Value) (hs:a.eval sl=.slice (some ⟨g,0,none⟩) n cap) (hown:w.ownsRow base e 7 (.slice (some ⟨g,0,none⟩) n cap) n xs) (xv:Value) (m:Nat) (news:List Value) (hx:a.eval x=xv) (hsrc:Src P 7 tx xv m news w) (hroom:n+m<=cap)
  (h:∀ w',w'.ownsRow base e 7 (.slice (some ⟨g,0,none⟩) (n+m) cap) (n+m) (xs ++ news)->w.grownBy w' (some g)->K (a.put o.dst (.slice (some ⟨g,0,none⟩) (n+m) cap)) w') :
  if Region.wanted o (yielded ops a.tmps)=true then Oper.wp P o a w K Q else E:=by
 have hw:Region.wanted o (yielded ops a.tmps)=true:=by simp [Region.wanted,hgd]
 rw [if_pos hw]
 obtain⟨w',hr,h2,h3⟩:=run_append_room7 (P:=P) w base t tx o.type e i ht hi hsize g n cap xs hown xv m news hsrc hroom
 unfold Oper.wp execOp
 simp only [hop,resolve,invoke,builtin,Sem.run_bind,Sem.run_pure,Result.andThen_ok,List.map_toArray,List.map_cons,List.map_nil,hs,hx,hr]
 exact h w' h2 h3
theorem yields_slice {P:Program} {oi:Oper} {a:Act} {t:TypeId} {x:Operand} {lo hi mx:Option Operand} {v:Value} (hop:oi.op=.slice t x lo hi mx) (hu:P.underlying t=some (.slice (P.elem t))) (h:∀ W,(Instr.slice t (a.eval x) (lo.map a.eval) (hi.map a.eval) (mx.map a.eval)).run P W=.ok v W) (w:World):Sem.run P (execOp a.eval oi) w=.ok (.value v) w:=by
 unfold execOp
 simp only [hop]
 simp [run_sliceAt_slice w t _ _ _ _ hu,h w]
set_option maxHeartbeats 12800000 in
theorem delN_is (base:Nat) (w:World) (g cap J:Nat) (ps:List Np) (hown:w.ownsRow base 69 7 (.slice (some ⟨g,0,none⟩) ps.length cap) ps.length (ps.flatMap c7)) (hl:ps.length<=1000) (hJ:J < ps.length) :
  Calls Tryz.prog 122 #[.slice (some ⟨g,0,none⟩) ps.length cap,.int .i64 (J:Int),.int .i64 ((J:Int)+1)] w fun e w'=>e=.returned (.slice (some ⟨g,0,none⟩) (ps.length - 1) cap)/\w'.ownsRow base 69 7 (.slice (some ⟨g,0,none⟩) (ps.length - 1) cap) (ps.length - 1) ((ps.eraseIdx J).flatMap c7)/\Kept (fun k=>k=g) w w':=by
 obtain⟨ie,hi,hz0,hz1,hz2⟩:=info_parts info_node
 have hie:=mH (And.intro hi (And.intro hz0 (And.intro hz1 hz2)))
 clear hi hz0 hz1 hz2
 have hcap:ps.length<=cap:=by obtain⟨_,_,e,h⟩:=own_sh hown;simp only [Value.slice.injEq] at e;rw [e.2.2];exact h
 have HO:=mH hown
 have hsl0:∀ W,(Instr.slice 27 (.slice (some ⟨g,0,none⟩) ps.length cap) (some (.int .i64 (J:Int))) (some (.int .i64 ((J:Int)+1))) (some (.int .i64 (ps.length:Int)))).run Tryz.prog W=.ok (Go.sliced (some ⟨g,0,none⟩) J (J+1) ps.length 7) W:=fun W=>by
  rw [run_slice_lhm W 27 _ _ _ elemN.1 .i64 .i64 .i64 _ _ _ (by omega) (by omega) (by omega) (by omega),elemN.2,sizeNd]
  simp only [Result.andThen]
  rfl
 have hsl1:∀ W,(Instr.slice 27 (.slice (some ⟨g,0,none⟩) ps.length cap) none (some (.int .i64 (J:Int))) none).run Tryz.prog W=.ok (.slice (some ⟨g,0,none⟩) J cap) W:=fun W=>by
  rw [run_slice_h W 27 _ _ _ elemN.1 .i64 _ (by omega) (by omega),elemN.2,sizeNd]
  simp only [Result.andThen,Go.sliced]
  simp [add_none]
 obtain⟨SV,hSV⟩:∃ SV,SV=Go.sliced (some ⟨g,0,none⟩) (J+1) ps.length cap 7:=⟨_,rfl⟩
 have hsl2:∀ W,(Instr.slice 27 (.slice (some ⟨g,0,none⟩) ps.length cap) (some (.int .i64 ((J:Int)+1))) none none).run Tryz.prog W=.ok SV W:=fun W=>by
  rw [run_slice_l W 27 _ _ _ elemN.1 .i64 _ (by omega) (by omega),elemN.2,sizeNd,hSV]
  simp only [Result.andThen]
  rfl
 have HSR:Hid (∀ W,Below w.heap.size w W->Src Tryz.prog 7 27 SV (ps.drop (J+1)).length ((ps.drop (J+1)).flatMap c7) W):=mH (fun W hW=>by
  refine RowIn.src Tryz.underlying27 (by omega) c7_len one7 (RowIn.below ?_ hW)
  rw [hSV]
  unfold Go.sliced
  by_cases hc:cap=J+1
  ·have:ps.drop (J+1)=[]:=by rw [List.drop_eq_nil_iff];omega
   rw [if_pos hc,this]
   exact⟨_,_,by rw [show ps.length - (J+1)=0 by omega];rfl,Nat.zero_le _,by simp,fun hp=>by simp at hp⟩
  ·rw [if_neg hc]
   refine⟨_,_,by rw [List.length_drop],by rw [List.length_drop];omega,by rw [List.length_drop];omega,fun hp=>⟨g,(J+1) * 7,by simp [add_none],fun i x hx r u hr hu=>?_⟩⟩
   rw [List.getElem?_drop] at hx
   have:=(own_cell HO.out ((fl_get c7 7 c7_len ps (J+1+i) r x hx hr).trans hu)).1
   rw [show (J+1) * 7+i * 7+r=(J+1+i) * 7+r by omega]
   exact this)
 have HO1:Hid (w.ownsRow base 69 7 (.slice (some ⟨g,0,none⟩) J cap) J ((ps.take J).flatMap c7)):=mH (by
  have:=own_shorter (m:=J) HO.out (by omega)
  rwa [fl_take c7 7 c7_len] at this)
 have hne:((J:Int) == (J:Int)+1)=false:=by simp;omega
 have hsl3:∀ W,(Instr.slice 27 (.slice (some ⟨g,0,none⟩) (ps.length - 1) cap) (some (.int .i64 ((ps.length - 1:Nat):Int))) (some (.int .i64 (ps.length:Int))) none).run Tryz.prog W=.ok (.slice (some ⟨g,(ps.length - 1) * 7,none⟩) (ps.length - (ps.length - 1)) (cap - (ps.length - 1))) W:=fun W=>by
  rw [run_slice_lh W 27 _ _ _ elemN.1 .i64 .i64 _ _ (by omega) (by omega) (by omega),elemN.2,sizeNd]
  simp only [Result.andThen,Go.sliced]
  rw [if_neg (by simp;omega)]
  simp [add_none]
 clear hown hSV
 go_enter Tryz.func122,Tryz.ntmps122
 go_wp2
 refine wp_region_held_drew (S:=fun _=>True) (by kernel_rfl) trivial (fun hHeld=>?_)
 refine tkE 0 20 (.slice (some ⟨g,0,none⟩) ps.length cap) rfl rfl hHeld ?_
 simp only [sZ,sS]
 refine tkE 1 21 (.int .i64 (J:Int)) rfl rfl hHeld ?_
 simp only [sZ,sS]
 refine takeD 2 22 (.slice (some ⟨g,0,none⟩) J cap) rfl rfl (by kernel_rfl) (by kernel_rfl) (by kernel_rfl) (fun _ _ _ h=>h) (Or.inl ⟨by kernel_rfl,by intro w _;exact yields_slice (t:=27) rfl elemN.1 (by simpa [Act.eval] using hsl1) w⟩) hHeld ?_
 simp only [sZ,sS]
 refine tkE 3 23 (.slice (some ⟨g,0,none⟩) ps.length cap) rfl rfl hHeld ?_
 simp only [sZ,sS]
 refine tkE 4 24 (.int .i64 ((J:Int)+1)) rfl rfl hHeld ?_
 simp only [sZ,sS]
 refine takeD 5 25 (SV) rfl rfl (by kernel_rfl) (by kernel_rfl) (by kernel_rfl) (fun _ _ _ h=>h) (Or.inl ⟨by kernel_rfl,by intro w _;exact yields_slice (t:=27) rfl elemN.1 (by simpa [Act.eval] using hsl2) w⟩) hHeld ?_
 simp only [sZ,sS]
 refine wpAnyH_ready (rs:=[6]) (by kernel_rfl) (by simp) (AllReadyH.cons rfl (fun K hK=>?_) AllReadyH.nil)
 refine step_append_room7 (w:=w.drew) rfl (.tmp 22) (.tmp 25) 27 27 rfl base 69 ie Tryz.underlying27 hie.out.1 hie.out.2.2.1 g J cap ((ps.take J).flatMap c7) (by simp [Act.eval]) (oNk HO1.out (Kept.drew (fun _=>False) w) (fun _ _ h=>h)) SV (ps.drop (J+1)).length ((ps.drop (J+1)).flatMap c7) (by simp [Act.eval]) (HSR.out _ (Below.refl _ w).drew) (by rw [List.length_drop];omega) ?_
 intro w4 ho4 hg4
 have elen:J+(ps.drop (J+1)).length=ps.length - 1:=by rw [List.length_drop];omega
 rw [elen] at ho4 ⊢
 rw [<- List.flatMap_append,<- List.eraseIdx_eq_take_drop_succ] at ho4
 have HO4:=mH ho4
 have HK4:Hid (Kept (fun k=>k=g) w w4):=mH ((Kept.drew _ w).trans (Kept.grown hg4 (F:=fun k=>k=g) (fun k e=>by cases e;rfl)) (fun _ h=>.inl h))
 refine hK.out _ _ trivial (fun hHeld=>?_)
 clear hK K ho4 hg4 elen
 (try simp only [Act.put])
 refine tkE 7 0 (.slice (some ⟨g,0,none⟩) (ps.length - 1) cap) rfl rfl hHeld ?_
 simp only [sZ,sS]
 refine wpAnyH_done (by kernel_rfl) ?_ _
 clear hHeld
 obtain⟨ys,hy1,hy2⟩:=own_longer (n:=ps.length) HO4.out (by omega) hcap
 obtain⟨w5,hr5,ho5,hg5⟩:=run_clear_own (P:=Tryz.prog) w4 base 27 0 69 ie Tryz.underlying27 hie.out.1 (.agg #[.int .i64 0,.int .i64 0,.int .i64 0,.int .i64 0,.int .i64 0,.int .i64 0,.slice none 0 0]) 7 (by omega) hie.out.2.1 rfl (by intro u hu;simp [Value.cells] at hu;rcases hu with rfl | rfl | rfl | rfl | rfl | rfl | rfl <;> rfl) g ps.length cap (ps.length - 1) (cap - (ps.length - 1)) ys hy1 (by omega)
 rw [hy2] at ho5
 have HO5:=mH ho5
 have HK5:=mH (HK4.out.trans (Kept.grown hg5 (F:=fun k=>k=g) (fun k e=>by cases e;rfl)) (fun _ h=>.inl h))
 have ep:((ps.length - 1:Nat):Int)=(ps.length:Int) - 1:=by omega
 clear ho5 hg5 hy1 hy2 HO4 HK4
 go_wp2
 go_ret
 exact⟨rfl,HO5.out,HK5.out⟩
theorem set2_heap {w:World} {p:Nat} {c0 c1:Value} {ty:TypeId} (h:w.heap[p]?=some (.cells #[c0,c1] ty (0,0))) (v0 v1:Value):((w.setCell ⟨p,0,none⟩ v0).setCell ⟨p,1,none⟩ v1).heap[p]?=some (.cells #[v0,v1] ty (0,0)):=hSt (hSt h)
set_option maxHeartbeats 3200000 in
theorem refused_is (w:World) (c:Int):Calls Tryz.prog 71 #[.int .i64 c] w fun e w'=>e=.returned (vRs (c,0))/\Below w.heap.size w w':=by
 go_enter Tryz.func71,Tryz.ntmps71
 go_wp2
 exact bodyPost_ret (leaves1 (cs:=#[.int .i64 c,.int .i64 0]) rfl (heap_alloc_new w _) Tryz.underlying94 size_result _ rfl) rfl ⟨rfl,ba (Below.refl _ w) _⟩
theorem TrP.pushN {base:Nat} {w w1:World} {p:Nat} {nv v1 gv:Value} {ps:List Np} {t:Tr} {x:Nd} (h:TrP base w p nv gv ps t) (hx:x.ts=[]) (hown:w1.ownsRow base 69 7 v1 (ps.length+1) (ps.flatMap c7 ++ c7 (x,none,0))) (hg:w.grownBy w1 nv.ownBlock) (hat:v1.ownBlock=nv.ownBlock ∨ v1.ownBlock=some w.heap.size) :
  TrP base (w1.setCell ⟨p,0,none⟩ v1) p v1 gv (ps ++ [(x,none,0)]) ⟨t.ns ++ [x],t.gs,t.last,t.now⟩:=by
 have hk:=Kept.grown hg (F:=fun k=>nv.ownBlock=some k) (fun k hk=>hk)
 have hk1:=Kept.setCell (F:=fun k=>k=p) w1 (p:=⟨p,0,none⟩) rfl v1
 have hpl:=lOh h.blk
 have hv:∀ k,v1.ownBlock=some k->nv.ownBlock=some k ∨ k=w.heap.size:=fun k e=>by
  rcases hat with a | a
  ·exact .inl (a ▸ e)
  ·rw [a] at e;simp at e;exact .inr e.symm
 have hpn:v1.ownBlock ≠ some p:=fun e=>by
  rcases hv p e with a | a
  ·exact h.pn a
  ·omega
 have hz:∀ k,(tvN (x,none,0)).ownBlock=some k->False:=fun k e=>by simp [Value.ownBlock] at e
 refine⟨hSt ((hk.block p hpl h.pn).trans h.blk),⟨?_,fun u hu=>?_, ?_,fun u hu k e e2=>?_,fun u hu k e e2=>?_,fun k e e2=>?_⟩, ?_,h.bp,hpn,h.pg,fun u hu e=>?_⟩
 ·rw [List.flatMap_append,List.length_append]
  refine oNk ?_ hk1 (fun k e e2=>hpn (by rw [<- e2];exact e))
  simpa using hown
 ·rcases List.mem_append.mp hu with m | m
  ·exact oNk (oNk (h.o.tk u m) hk (fun k e e2=>h.o.tn u m k e e2)) hk1 (fun k e e2=>h.pt u m (by rw [<- e2];exact e))
  ·simp at m;subst m
   rw [hx]
   simp only [tvN,hx,List.length_nil]
   exact World.ownsRow_nil _ _ _ _
 ·exact oNk (oNk h.o.gown hk (fun k e e2=>h.o.ng k e2 e)) hk1 (fun k e e2=>h.pg (by rw [<- e2];exact e))
 ·rcases List.mem_append.mp hu with m | m
  ·rcases hv k e2 with a | a
   ·exact h.o.tn u m k e a
   ·have:=((h.o.tk u m).lt k e).2;omega
  ·simp at m;subst m;exact hz k e
 ·rcases List.mem_append.mp hu with m | m
  ·exact h.o.tg u m k e e2
  ·simp at m;subst m;exact hz k e
 ·rcases hv k e with a | a
  ·exact h.o.ng k a e2
  ·have:=(h.o.gown.lt k e2).2;omega
 ·rw [nds,List.map_append]
  show nds ps ++ _=_
  rw [h.e];rfl
 ·rcases List.mem_append.mp hu with m | m
  ·exact h.pt u m e
  ·simp at m;subst m;exact hz p e
theorem TrP.pushG {base:Nat} {w w1:World} {p:Nat} {nv v1 gv:Value} {ps:List Np} {t:Tr} {x:Gh} (h:TrP base w p nv gv ps t) (hown:w1.ownsRow base 111 5 v1 (t.gs.length+1) (t.gs.flatMap c5 ++ c5 x)) (hg:w.grownBy w1 gv.ownBlock) (hat:v1.ownBlock=gv.ownBlock ∨ v1.ownBlock=some w.heap.size) :
  TrP base (w1.setCell ⟨p,1,none⟩ v1) p nv v1 ps ⟨t.ns,t.gs ++ [x],t.last,t.now⟩:=by
 have hk:=Kept.grown hg (F:=fun k=>gv.ownBlock=some k) (fun k hk=>hk)
 have hk1:=Kept.setCell (F:=fun k=>k=p) w1 (p:=⟨p,1,none⟩) rfl v1
 have hpl:=lOh h.blk
 have hv:∀ k,v1.ownBlock=some k->gv.ownBlock=some k ∨ k=w.heap.size:=fun k e=>by
  rcases hat with a | a
  ·exact .inl (a ▸ e)
  ·rw [a] at e;simp at e;exact .inr e.symm
 have hpg:v1.ownBlock ≠ some p:=fun e=>by
  rcases hv p e with a | a
  ·exact h.pg a
  ·omega
 refine⟨hSt ((hk.block p hpl h.pg).trans h.blk),⟨?_,fun u m=>?_, ?_,h.o.tn,fun u m k e e2=>?_,fun k e e2=>?_⟩,h.e,h.bp,h.pn,hpg,h.pt⟩
 ·exact oNk (oNk h.o.nown hk (fun k e e2=>h.o.ng k e e2)) hk1 (fun k e e2=>h.pn (by rw [<- e2];exact e))
 ·exact oNk (oNk (h.o.tk u m) hk (fun k e e2=>h.o.tg u m k e e2)) hk1 (fun k e e2=>h.pt u m (by rw [<- e2];exact e))
 ·rw [List.flatMap_append,List.length_append]
  refine oNk ?_ hk1 (fun k e e2=>hpg (by rw [<- e2];exact e))
  simpa using hown
 ·rcases hv k e2 with a | a
  ·exact h.o.tg u m k e a
  ·have:=((h.o.tk u m).lt k e).2;omega
 ·rcases hv k e2 with a | a
  ·exact h.o.ng k e a
  ·have:=(h.o.nown.lt k e).2;omega
theorem eight_f {w:World} {p:Nat} {c:Array Value} {ty:TypeId} (h:w.heap[p]?=some (.cells c ty (0,0))) (i:Nat):w.frozen? ⟨p,i,none⟩=false:=fOb h
theorem two {w:World} {p:Nat} {c0 c1:Value} {ty:TypeId} (h:w.heap[p]?=some (.cells #[c0,c1] ty (0,0))):w.cell? ⟨p,0,none⟩=some c0/\w.cell? ⟨p,1,none⟩=some c1:=⟨cOb h rfl,cOb h rfl⟩
abbrev oRs:Obj:=.cells #[.int .i64 0,.int .i64 0] 94
theorem TrP.off {base:Nat} {w w':World} {p:Nat} {nv gv:Value} {ps:List Np} {t:Tr} {F:Nat->Prop} (h:TrP base w p nv gv ps t) (hk:Kept F w w') (hF:∀ k,F k->¬ k=p/\nv.ownBlock ≠ some k/\gv.ownBlock ≠ some k/\∀ x ∈ ps,(tvN x).ownBlock ≠ some k):TrP base w' p nv gv ps t:=
 ⟨(hk.block p (lOh h.blk) (fun e=>(hF p e).1 rfl)).trans h.blk,h.o.kept hk (fun k e=>.inl (hF k e).2),h.e,h.bp,h.pn,h.pg,h.pt⟩
set_option maxHeartbeats 25600000 in
theorem create_is (A:Ops) (base:Nat) (w0 w:World) (p:Nat) (t:Tr) (nv gv:Value) (ps:List Np) (o:Od) (oa:Option Addr) (oc:Nat) (a:Nat->Addr) (hw0:Below base w0 w) (hbs:base=w0.heap.size) (h:TrP base w p nv gv ps t) (hs:t.Sm 900) (hn0:0<=t.now) (hn1:t.now<=1099511627776) (hl0:0<=t.last) (E:Er6 w0 a) (hot:Tks w0 (.slice oa o.ts.length oc) o.ts) (hoc:o.ts.length<=oc) (hot8:o.ts.length * 32<=140737488355328) :
  Calls Tryz.prog 95 #[.pointer (some ⟨p,0,none⟩),vOd o (.slice oa o.ts.length oc)] w fun e w'=>∃ nv' gv' ps',e=.returned (vRs (t.create A o).2)/\TrP base w' p nv' gv' ps' (t.create A o).1/\Below base w w':=by
 have hs':t.Sm 1000:=⟨by have:=hs.n;omega,by have:=hs.g;omega,by have:=hs.l;omega,hs.s⟩
 have hlate:∀ W,Below base w W->Below w0.heap.size w0 W:=fun W hW=>by rw [<- hbs];exact hw0.trans hW
 have HBS:Hid (base<=w.heap.size):=mH (by have:=h.bp;have:=lOh h.blk;omega)
 have HCD:Hid (∀ W,Below w.heap.size w W->Calls Tryz.prog 116 #[vTr nv gv t,vOd o (.slice oa o.ts.length oc)] W fun e w'=>e=.returned (.int .i64 (t.crC A o))/\Below W.heap.size W w'):=mH (fun W hW=>crC_is A W t nv gv ps o oa oc _ a ((h.trw hs').below hW) hs' (E.late (hlate W (hW.mono HBS.out))) (hot.below (hlate W (hW.mono HBS.out))) hoc rfl)
 obtain⟨TC,hTC⟩:∃ TC,TC=t.create A o:=⟨_,rfl⟩
 rw [<- hTC]
 unfold Tr.create at hTC
 have HH:=mH h
 obtain⟨na,nc,hnv,_⟩:=own_sh h.o.nown
 obtain⟨ga,gc,hgv,_⟩:=own_sh h.o.gown
 subst hnv hgv
 have hll:=hs.l
 have hnn:=hs.n
 have HPL:Hid (ps.length<=900):=mH (by have:=hs.n;rw [<- h.e,List.length_map] at this;exact this)
 obtain⟨ie,hi,hz0,hz1,hz2⟩:=info_parts info_node
 have hie:=mH (And.intro hi (And.intro hz0 (And.intro hz1 hz2)))
 clear hi hz0 hz1 hz2
 obtain⟨ki,id,⟨sk,sq,sT⟩,po,ts,tm⟩:=o
 simp only at HCD hTC ⊢
 obtain⟨C,hC⟩:∃ C,C=t.crC A ⟨ki,id,(sk,sq,sT),po,ts,tm⟩:=⟨_,rfl⟩
 rw [<- hC] at HCD hTC
 have HC:=mH hC
 clear hC
 have HTC:=mH hTC
 have HLT:=mH (And.intro hlate (And.intro hs (And.intro E (And.intro hn0 hn1))))
 clear hTC h hs hs' hw0 hot hoc E hlate hn0 hn1
 go_enter Tryz.func95,Tryz.ntmps95
 go_wp2
 obtain⟨W,hW⟩:∃ W,W=(w.alloc (oOd ⟨ki,id,(sk,sq,sT),po,ts,tm⟩ (.slice oa ts.length oc))).alloc oRs:=⟨_,rfl⟩
 have HPW:Hid (TrP base W p (.slice na ps.length nc) (.slice ga t.gs.length gc) ps t):=mH (by rw [hW];exact HH.out.below (ba (ba (Below.refl _ _) _) _))
 have HBW:Hid (Below w.heap.size w W):=mH (by rw [hW];exact ba (ba (Below.refl _ _) _) _)
 have HFW:Hid (W.heap[w.heap.size]?=some (oOd ⟨ki,id,(sk,sq,sT),po,ts,tm⟩ (.slice oa ts.length oc))/\W.heap[w.heap.size+1]?=some oRs):=mH (by
  rw [hW]
  exact⟨(heap_alloc_old _ _ (by simp)).trans (heap_alloc_new w _),by have:=heap_alloc_new (w.alloc (oOd ⟨ki,id,(sk,sq,sT),po,ts,tm⟩ (.slice oa ts.length oc))) oRs;simpa using this⟩)
 have HNE:Hid (p < w.heap.size/\(∀ k,(Value.slice na ps.length nc).ownBlock=some k->k < w.heap.size)/\(∀ k,(Value.slice ga t.gs.length gc).ownBlock=some k->k < w.heap.size)):=mH ⟨lOh HH.out.blk,fun k e=>(HH.out.o.nown.lt k e).2,fun k e=>(HH.out.o.gown.lt k e).2⟩
 rw [<- hW]
 clear hW
 obtain⟨B0,hB0⟩:∃ B0,B0=w.heap.size:=⟨_,rfl⟩
 obtain⟨B1,hB1⟩:∃ B1,B1=w.heap.size+1:=⟨_,rfl⟩
 rw [<- hB1,<- hB0] at HFW
 rw [<- hB1,<- hB0]
 have HBB:Hid (p < B0/\B1=B0+1/\B0=w.heap.size/\base<=B0):=mH ⟨by have:=HNE.out.1;omega,by omega,hB0,by have:=HBS.out;omega⟩
 clear hB0 hB1
 obtain⟨c0,c1,c2,c3⟩:=HPW.out.cells
 obtain⟨d0,d1,d2,d3,d4,d5,d6,d7⟩:=eight HFW.out.1
 have HNB:Hid (∀ k,k=B1->¬ k=p/\(Value.slice na ps.length nc).ownBlock ≠ some k/\(Value.slice ga t.gs.length gc).ownBlock ≠ some k/\∀ x ∈ ps,(tvN x).ownBlock ≠ some k):=mH (fun k e=>by
  have hb:=HBB.out
  have hn:=HNE.out
  refine⟨by omega,fun e2=>?_,fun e2=>?_,fun x hx e2=>?_⟩
  ·have:=hn.2.1 k e2;omega
  ·have:=hn.2.2 k e2;omega
  ·have:=((HH.out.o.tk x hx).lt k e2).2;omega)
 refine wp_region_held_drew (S:=fun w'=>w'.cell? ⟨p,0,none⟩=some (.slice na ps.length nc)/\w'.cell? ⟨p,1,none⟩=some (.slice ga t.gs.length gc)/\w'.cell? ⟨p,2,none⟩=some (.int .i64 t.last)/\w'.cell? ⟨p,3,none⟩=some (.int .i64 t.now)/\w'.cell? ⟨B0,0,none⟩=some (.int .i64 ki)/\w'.cell? ⟨B0,1,none⟩=some (.int .i64 id)/\w'.cell? ⟨B0,2,none⟩=some (.int .i64 sk)/\w'.cell? ⟨B0,3,none⟩=some (.int .i64 sq)/\w'.cell? ⟨B0,4,none⟩=some (.int .i64 sT)/\w'.cell? ⟨B0,5,none⟩=some (.int .i64 po)/\w'.cell? ⟨B0,6,none⟩=some (.slice oa ts.length oc)/\w'.cell? ⟨B0,7,none⟩=some (.int .i64 tm)) (by kernel_rfl) ⟨c0,c1,c2,c3,d0,d1,d2,d3,d4,d5,d6,d7⟩ (fun hHeld=>?_)
 refine tkE 0 6 (.pointer (some ⟨p,0,none⟩)) rfl rfl hHeld ?_
 simp only [sZ,sS]
 refine tkE 1 7 (.pointer (some ⟨p,0,none⟩)) rfl rfl hHeld ?_
 simp only [sZ,sS]
 refine tkE 2 8 (vTr (.slice na ps.length nc) (.slice ga t.gs.length gc) t) rfl rfl hHeld ?_
 simp only [sZ,sS]
 refine tkE 3 9 (.agg #[.int .i64 ki,.int .i64 id,.int .i64 sk,.int .i64 sq,.int .i64 sT,.int .i64 po,.slice oa ts.length oc,.int .i64 tm]) rfl rfl hHeld ?_
 simp only [sZ,sS]
 refine wpAnyH_ready (rs:=[4]) (by kernel_rfl) (by simp) (AllReadyH.cons rfl (fun K hK=>?_) AllReadyH.nil)
 go_simp
 refine(HCD.out W.drew HBW.out.drew).mono ?_
 rintro e w1 ⟨rfl,b1⟩
 have y0:w1.cell? ⟨p,0,none⟩=some (.slice na ps.length nc):=kc (show W.drew.cell? _=_ from c0) b1
 have y1:w1.cell? ⟨p,1,none⟩=some (.slice ga t.gs.length gc):=kc (show W.drew.cell? _=_ from c1) b1
 have y2:w1.cell? ⟨p,2,none⟩=some (.int .i64 t.last):=kc (show W.drew.cell? _=_ from c2) b1
 have y3:w1.cell? ⟨p,3,none⟩=some (.int .i64 t.now):=kc (show W.drew.cell? _=_ from c3) b1
 have y4:w1.cell? ⟨B0,0,none⟩=some (.int .i64 ki):=kc (show W.drew.cell? _=_ from d0) b1
 have y5:w1.cell? ⟨B0,1,none⟩=some (.int .i64 id):=kc (show W.drew.cell? _=_ from d1) b1
 have y6:w1.cell? ⟨B0,2,none⟩=some (.int .i64 sk):=kc (show W.drew.cell? _=_ from d2) b1
 have y7:w1.cell? ⟨B0,3,none⟩=some (.int .i64 sq):=kc (show W.drew.cell? _=_ from d3) b1
 have y8:w1.cell? ⟨B0,4,none⟩=some (.int .i64 sT):=kc (show W.drew.cell? _=_ from d4) b1
 have y9:w1.cell? ⟨B0,5,none⟩=some (.int .i64 po):=kc (show W.drew.cell? _=_ from d5) b1
 have y10:w1.cell? ⟨B0,6,none⟩=some (.slice oa ts.length oc):=kc (show W.drew.cell? _=_ from d6) b1
 have y11:w1.cell? ⟨B0,7,none⟩=some (.int .i64 tm):=kc (show W.drew.cell? _=_ from d7) b1
 have HP1:Hid (TrP base w1 p (.slice na ps.length nc) (.slice ga t.gs.length gc) ps t):=mH ((HPW.out.below (Below.refl _ W).drew).below b1)
 have HB1:Hid (Below w.heap.size w w1):=mH (bt HBW.out.drew b1)
 have HF1:Hid (w1.heap[B0]?=some (oOd ⟨ki,id,(sk,sq,sT),po,ts,tm⟩ (.slice oa ts.length oc))/\w1.heap[B1]?=some oRs):=mH ⟨bLt (w:=W.drew) HFW.out.1 b1,bLt (w:=W.drew) HFW.out.2 b1⟩
 clear b1 hHeld
 refine hK.out _ _ ⟨y0,y1,y2,y3,y4,y5,y6,y7,y8,y9,y10,y11⟩ (fun hHeld=>?_)
 clear hK K c0 c1 c2 c3 d0 d1 d2 d3 d4 d5 d6 d7
 (try simp only [Act.put])
 refine tkE 5 5 (.int .i64 C) rfl rfl hHeld ?_
 simp only [sZ,sS]
 refine wpAnyH_done (by kernel_rfl) ?_ _
 clear hHeld
 by_cases hC0:C=0
 ·subst hC0
  have ht:=HTC.out
  rw [if_neg (by omega)] at ht
  have HT2:=mH ht
  clear ht HTC
  have ew:IntKind.i64.wrap (t.last+1)=t.last+1:=wfit (by omega) (by omega)
  have f2:=HP1.out.frozen 2
  go_wp2
  have HP3:Hid (TrP base (w1.setCell ⟨p,2,none⟩ (.int .i64 (t.last+1))) p (.slice na ps.length nc) (.slice ga t.gs.length gc) ps ⟨t.ns,t.gs,t.last+1,t.now⟩):=mH (HP1.out.setLast (t.last+1))
  have hk3:=Kept.setCell (F:=fun k=>k=p) w1 (p:=⟨p,2,none⟩) rfl (.int .i64 (t.last+1))
  have HF3:Hid ((w1.setCell ⟨p,2,none⟩ (.int .i64 (t.last+1))).heap[B0]?=some (oOd ⟨ki,id,(sk,sq,sT),po,ts,tm⟩ (.slice oa ts.length oc))/\(w1.setCell ⟨p,2,none⟩ (.int .i64 (t.last+1))).heap[B1]?=some oRs):=mH ⟨(hk3.block _ (lOh HF1.out.1) (by have:=HBB.out;omega)).trans HF1.out.1,(hk3.block _ (lOh HF1.out.2) (by have:=HBB.out;omega)).trans HF1.out.2⟩
  have HB3:Hid (Below base w (w1.setCell ⟨p,2,none⟩ (.int .i64 (t.last+1)))/\base<=(w1.setCell ⟨p,2,none⟩ (.int .i64 (t.last+1))).heap.size):=mH ⟨setG_below (HB1.out.mono HBS.out) HP1.out.bp _ (by have:=HB1.out.size;have:=HBS.out;omega),by have:=HB1.out.size;have:=HBS.out;simp [World.setCell];omega⟩
  clear hk3 f2 y0 y1 y2 y3 y4 y5 y6 y7 y8 y9 y10 y11 HP1 HF1 HB1 HPW HFW
  generalize w1.setCell ⟨p,2,none⟩ (.int .i64 (t.last+1))=W3 at *
  obtain⟨c0,c1,c2,c3⟩:=HP3.out.cells
  simp only at c2 c3
  obtain⟨d0,d1,d2,d3,d4,d5,d6,d7⟩:=eight HF3.out.1
  have hT:W3.drew.cell? ⟨p,0,none⟩=some (.slice na ps.length nc)/\W3.drew.cell? ⟨p,2,none⟩=some (.int .i64 (t.last+1))/\W3.drew.cell? ⟨B0,1,none⟩=some (.int .i64 id)/\W3.drew.cell? ⟨B0,2,none⟩=some (.int .i64 sk)/\W3.drew.cell? ⟨B0,3,none⟩=some (.int .i64 sq)/\W3.drew.cell? ⟨B0,4,none⟩=some (.int .i64 sT):=⟨c0,c2,d1,d2,d3,d4⟩
  refine wp_region_till (fun w'=>w'.cell? ⟨p,0,none⟩=some (.slice na ps.length nc)/\w'.cell? ⟨p,2,none⟩=some (.int .i64 (t.last+1))/\w'.cell? ⟨B0,1,none⟩=some (.int .i64 id)/\w'.cell? ⟨B0,2,none⟩=some (.int .i64 sk)/\w'.cell? ⟨B0,3,none⟩=some (.int .i64 sq)/\w'.cell? ⟨B0,4,none⟩=some (.int .i64 sT)) 18 (by kernel_rfl) ?_
  refine frE 0 22 (.pointer (some ⟨p,0,none⟩)) rfl rfl (fun _=>hT) ?_
  simp only [sZ,sS]
  refine frE 1 23 (.pointer (some ⟨p,0,none⟩)) rfl rfl (fun _=>hT) ?_
  simp only [sZ,sS]
  refine frE 2 24 (.pointer (some ⟨p,0,none⟩)) rfl rfl (fun _=>hT) ?_
  simp only [sZ,sS]
  refine frE 3 25 (.pointer (some ⟨p,0,none⟩)) rfl rfl (fun _=>hT) ?_
  simp only [sZ,sS]
  refine fiE 4 26 (.slice na ps.length nc) rfl rfl hT ?_
  simp only [sZ,sS]
  refine frE 5 27 (.pointer (some ⟨p,0,none⟩)) rfl rfl (fun _=>hT) ?_
  simp only [sZ,sS]
  refine frE 6 28 (.pointer (some ⟨p,0,none⟩)) rfl rfl (fun _=>hT) ?_
  simp only [sZ,sS]
  refine frE 7 29 (.pointer (some ⟨p,2,none⟩)) rfl rfl (fun _=>hT) ?_
  simp only [sZ,sS]
  refine fiE 8 30 (.int .i64 (t.last+1)) rfl rfl hT ?_
  simp only [sZ,sS]
  refine frE 9 31 (.pointer (some ⟨B0,1,none⟩)) rfl rfl (fun _=>hT) ?_
  simp only [sZ,sS]
  refine fiE 10 32 (.int .i64 id) rfl rfl hT ?_
  simp only [sZ,sS]
  refine frE 11 33 (.pointer (some ⟨B0,2,none⟩)) rfl rfl (fun _=>hT) ?_
  simp only [sZ,sS]
  refine fiE 12 34 (.agg #[.int .i64 sk,.int .i64 sq,.int .i64 sT]) rfl rfl hT ?_
  simp only [sZ,sS]
  refine frE 13 35 (.agg #[.int .i64 (t.last+1),.int .i64 id,.int .i64 sk,.int .i64 sq,.int .i64 sT,.int .i64 0,.slice none 0 0]) rfl rfl (fun _=>hT) ?_
  simp only [sZ,sS]
  refine wpT_ready (rs:=[14]) (by kernel_rfl) (by simp) (AllT.cons rfl (fun K hK=>?_) AllT.nil)
  go_simp
  obtain⟨W4,hW4⟩:∃ W4,W4=(W3.alloc (.cells #[.int .i64 (t.last+1),.int .i64 id,.int .i64 sk,.int .i64 sq,.int .i64 sT,.int .i64 0,.slice none 0 0] 69)).drew:=⟨_,rfl⟩
  have b4:Below W3.heap.size W3 W4:=by rw [hW4];exact(ba (Below.refl _ _) _).drew
  have HR4:Hid (RowIn 7 c7 W4 (.slice (some ⟨W3.heap.size,0,none⟩) 1 1) [((⟨t.last+1,id,(sk,sq,sT),0,[]⟩:Nd),(none:Option Addr),0)]):=mH (by
   rw [hW4]
   exact RowIn.below (rowOne (f:=c7) ((⟨t.last+1,id,(sk,sq,sT),0,[]⟩:Nd),(none:Option Addr),0) W3 69) (Below.refl _ _).drew)
  have HP4:=mH (HP3.out.below b4)
  have HF4:Hid (W4.heap[B0]?=some (oOd ⟨ki,id,(sk,sq,sT),po,ts,tm⟩ (.slice oa ts.length oc))/\W4.heap[B1]?=some oRs):=mH ⟨bLt HF3.out.1 b4,bLt HF3.out.2 b4⟩
  have HB4:Hid (Below base w W4/\base<=W4.heap.size):=mH ⟨HB3.out.1.trans (b4.mono HB3.out.2),by have:=b4.size;have:=HB3.out.2;omega⟩
  rw [<- hW4]
  clear hW4 b4 hT c0 c1 c2 c3 d0 d1 d2 d3 d4 d5 d6 d7 HP3 HF3 HB3
  obtain⟨c0,c1,c2,c3⟩:=HP4.out.cells
  simp only at c2 c3
  obtain⟨d0,d1,d2,d3,d4,d5,d6,d7⟩:=eight HF4.out.1
  refine hK.out _ _ (fun _=>⟨c0,c2,d1,d2,d3,d4⟩) ?_
  clear hK K
  (try simp only [Act.put])
  generalize W3.heap.size=z3 at *
  refine wpT_ready (rs:=[15]) (by kernel_rfl) (by simp) (AllT.cons rfl (fun K hK=>?_) AllT.nil)
  refine step_append_src7 (w:=W4) rfl (.tmp 26) (.tmp 36) 27 27 rfl base 69 ie Tryz.underlying27 hie.out.1 (.agg #[.int .i64 0,.int .i64 0,.int .i64 0,.int .i64 0,.int .i64 0,.int .i64 0,.slice none 0 0]) 72 hie.out.2.1 rfl hie.out.2.2.1 hie.out.2.2.2 (.slice na ps.length nc) ps.length (ps.flatMap c7) (by simp [Act.eval]) HP4.out.o.nown _ 1 (c7 ((⟨t.last+1,id,(sk,sq,sT),0,[]⟩:Nd),(none:Option Addr),0)) (by simp [Act.eval]) (srcOne (f:=c7) (x:=((⟨t.last+1,id,(sk,sq,sT),0,[]⟩:Nd),(none:Option Addr),0)) Tryz.underlying27 (by omega) c7_len one7 HR4.out) (by have:=HPL.out;unfold maxLen;omega) (by have:=HPL.out;omega) HB4.out.2 ?_
  intro v6 w6 ho6 hg6 hat6
  have HPN:=mH (HP4.out.pushN (x:=⟨t.last+1,id,(sk,sq,sT),0,[]⟩) rfl ho6 hg6 hat6)
  have hk6:=Kept.grown hg6 (F:=fun k=>(Value.slice na ps.length nc).ownBlock=some k) (fun k hk=>hk)
  obtain⟨na6,nc6,hv6,_⟩:=own_sh ho6
  subst hv6
  have hpb:=(hk6.block p (lOh HP4.out.blk) HP4.out.pn).trans HP4.out.blk
  obtain⟨e0,e1,e2,e3⟩:=four hpb
  simp only at e2 e3
  have g0:w6.frozen? ⟨p,0,none⟩=false:=fOb hpb
  have HNN:Hid ((Value.slice na6 (ps.length+1) nc6).ownBlock ≠ some B1):=mH (fun e=>by
   rcases hat6 with a | a
   ·rw [a] at e;have:=HNE.out.2.1 _ e;have:=HBB.out;omega
   ·rw [a] at e;simp at e;have:=lOh HF4.out.2;omega)
  have HGL:Hid (∀ k,k=B0 ∨ k=B1->(Value.slice ga t.gs.length gc).ownBlock ≠ some k):=mH (fun k e e2=>by have:=HNE.out.2.2 k e2;have:=HBB.out;omega)
  have HFL:Hid (∀ k,k=B0 ∨ k=B1->(Value.slice na ps.length nc).ownBlock ≠ some k):=mH (fun k e e2=>by have:=HNE.out.2.1 k e2;have:=HBB.out;omega)
  have HF6:Hid (w6.heap[B0]?=some (oOd ⟨ki,id,(sk,sq,sT),po,ts,tm⟩ (.slice oa ts.length oc))/\w6.heap[B1]?=some oRs):=mH ⟨(hk6.block _ (lOh HF4.out.1) (HFL.out _ (.inl rfl))).trans HF4.out.1,(hk6.block _ (lOh HF4.out.2) (HFL.out _ (.inr rfl))).trans HF4.out.2⟩
  have HB6:Hid (Below base w w6/\base<=w6.heap.size):=mH ⟨HB4.out.1.grown hg6 HB4.out.2 (fun k hk=>(HP4.out.o.nown.lt k hk).1),by have:=hk6.size;have:=HB4.out.2;omega⟩
  clear c0 c1 c2 c3 d0 d1 d2 d3 d4 d5 d6 d7 ho6 hg6 hat6 hk6 hpb
  obtain⟨d0,d1,d2,d3,d4,d5,d6,d7⟩:=eight HF6.out.1
  refine hK.out _ _ (fun _=>⟨e0,e2,d1,d2,d3,d4⟩) ?_
  clear hK K
  (try simp only [Act.put])
  refine freeD 16 38 (.pointer (some ⟨p,0,none⟩)) rfl rfl (by kernel_rfl) (by kernel_rfl) (by kernel_rfl) (by decide) (fun _ _ _ h=>h) (fun _=>⟨e0,e2,d1,d2,d3,d4⟩) (Or.inl ⟨by kernel_rfl,by intro w _;go_simp⟩) ?_
  simp only [sZ,sS]
  refine freeD 17 39 (.pointer (some ⟨p,0,none⟩)) rfl rfl (by kernel_rfl) (by kernel_rfl) (by kernel_rfl) (by decide) (fun _ _ _ h=>h) (fun _=>⟨e0,e2,d1,d2,d3,d4⟩) (Or.inl ⟨by kernel_rfl,by intro w _;go_simp⟩) ?_
  simp only [sZ,sS]
  refine wpT_ready (rs:=[18]) (by kernel_rfl) (by simp) (AllT.cons rfl (fun K hK=>?_) AllT.nil)
  go_simp
  refine hK.out _ _ (bool_no (by kernel_rfl)) ?_
  clear hK K e0 e1 e2 e3 g0 d0 d1 d2 d3 d4 d5 d6 d7
  refine wpT_done (by kernel_rfl) ?_ _
  have hk7:=Kept.setCell (F:=fun k=>k=p) w6 (p:=⟨p,0,none⟩) rfl (.slice na6 (ps.length+1) nc6)
  have HF7:Hid ((w6.setCell ⟨p,0,none⟩ (.slice na6 (ps.length+1) nc6)).heap[B0]?=some (oOd ⟨ki,id,(sk,sq,sT),po,ts,tm⟩ (.slice oa ts.length oc))/\(w6.setCell ⟨p,0,none⟩ (.slice na6 (ps.length+1) nc6)).heap[B1]?=some oRs):=mH ⟨(hk7.block _ (lOh HF6.out.1) (by have:=HBB.out;omega)).trans HF6.out.1,(hk7.block _ (lOh HF6.out.2) (by have:=HBB.out;omega)).trans HF6.out.2⟩
  have HB7:Hid (Below base w (w6.setCell ⟨p,0,none⟩ (.slice na6 (ps.length+1) nc6))/\base<=(w6.setCell ⟨p,0,none⟩ (.slice na6 (ps.length+1) nc6)).heap.size):=mH ⟨setG_below HB6.out.1 HP4.out.bp _ HB6.out.2,by have:=HB6.out.2;simpa [World.setCell] using this⟩
  clear hk7 HF6 HB6 HP4 HF4 HB4 HR4
  generalize w6.setCell ⟨p,0,none⟩ (.slice na6 (ps.length+1) nc6)=W7 at *
  obtain⟨d0,d1,d2,d3,d4,d5,d6,d7⟩:=eight HF7.out.1
  have HSM:Hid (Tr.Sm ⟨t.ns ++ [⟨t.last+1,id,(sk,sq,sT),0,[]⟩],t.gs,t.last+1,t.now⟩ 1000):=mH ⟨by have:=HLT.out.2.1.n;simp;omega,by have:=HLT.out.2.1.g;simp only;omega,by have:=HLT.out.2.1.l;simp only;omega,fun x hx=>by
   rcases List.mem_append.mp hx with m | m
   ·exact HLT.out.2.1.s x m
   ·simp at m;subst m;simp⟩
  go_wp2_with (go_at_call 117;refine(hold_is A base W7 p _ _ _ _ id a HPN.out HSM.out HLT.out.2.2.2.1 HLT.out.2.2.2.2 (HLT.out.2.2.1.late (HLT.out.1 _ HB7.out.1))).mono ?_;rintro e w8 ⟨⟨v8,rfl⟩,hp8,b8,k8⟩;have HP8:=mH hp8;have HB8:Hid (Below base w w8/\base<=w8.heap.size):=mH ⟨HB7.out.1.trans b8,by have:=b8.size;have:=HB7.out.2;omega⟩;have hx8:=(k8.block _ (lOh HF7.out.2) (HGL.out _ (.inr rfl))).trans HF7.out.2;obtain⟨r0,r1⟩:=two hx8;have f0:=eight_f hx8 0;have f1:=eight_f hx8 1;have HX8:=mH hx8;clear hp8 b8 k8 hx8 d0 d1 d2 d3 d4 d5 d6 d7;obtain⟨_,_,c2,_⟩:=HP8.out.cells;simp only [Tr.hold] at c2)
  have hkr:Kept (fun k=>k=B1) w8 ((w8.setCell ⟨B1,0,none⟩ (.int .i64 0)).setCell ⟨B1,1,none⟩ (.int .i64 (t.last+1))):=kset (F:=fun k=>k=B1) (kset (F:=fun k=>k=B1) (Kept.refl _ _) (.inl rfl) 0 _) (.inl rfl) 1 _
  rw [HT2.out]
  refine bodyPost_ret (leaves1 rfl (set2_heap HX8.out _ _) Tryz.underlying94 size_result _ rfl) rfl ⟨_,_,_,rfl,HP8.out.off hkr (fun k e=>?_),HB8.out.1.trans (hkr.below (fun k e=>by have:=HBB.out;omega) HB8.out.2)⟩
  subst e
  refine⟨(HNB.out _ rfl).1,HNN.out,(HNB.out _ rfl).2.2.1,fun x hx=>?_⟩
  rcases List.mem_append.mp hx with m | m
  ·exact(HNB.out _ rfl).2.2.2 x m
  ·simp at m;subst m;simp [Value.ownBlock]
 ·have ht:=HTC.out
  rw [if_pos hC0] at ht
  have HT2:=mH ht
  clear ht HTC
  have hC0':(C == 0)=false:=by simpa using hC0
  clear hC0
  obtain⟨r0,r1⟩:=two HF1.out.2
  have f0:=eight_f HF1.out.2 0
  have f1:=eight_f HF1.out.2 1
  go_wp2_with (go_at_call 71;refine(refused_is _ _).mono ?_;rintro e w2 ⟨rfl,b2⟩;have hx2:=bLt HF1.out.2 b2;clear r0 r1 f0 f1;obtain⟨r0,r1⟩:=two hx2;have f0:=eight_f hx2 0;have f1:=eight_f hx2 1;have HX2:=mH hx2;have HP2:=mH (HP1.out.below b2);have HB2:=mH (bt HB1.out b2);clear hx2 b2)
  have hkr:Kept (fun k=>k=B1) w2 ((w2.setCell ⟨B1,0,none⟩ (.int .i64 C)).setCell ⟨B1,1,none⟩ (.int .i64 0)):=kset (F:=fun k=>k=B1) (kset (F:=fun k=>k=B1) (Kept.refl _ _) (.inl rfl) 0 _) (.inl rfl) 1 _
  rw [HT2.out]
  refine bodyPost_ret (leaves1 rfl (set2_heap HX2.out _ _) Tryz.underlying94 size_result _ rfl) rfl ⟨_,_,ps,rfl,HP2.out.off hkr HNB.out,(HB2.out.mono HBS.out).trans (hkr.below (fun k e=>by have:=HBB.out;omega) (by have:=HB2.out.size;have:=HBS.out;omega))⟩
theorem TrP.setN {base:Nat} {w:World} {p:Nat} {gv:Value} {g n cap:Nat} {ps:List Np} {t:Tr} (h:TrP base w p (.slice (some ⟨g,0,none⟩) n cap) gv ps t) {j r:Nat} {x y:Np} {u:Value} (hx:ps[j]?=some x) (hr:r < 7) (hy:c7 y=(c7 x).set r u) (htk:w.ownsRow base 45 4 (tvN y) y.1.ts.length (y.1.ts.flatMap c4)) (hne:∀ k,(tvN y).ownBlock=some k->¬ k=g/\gv.ownBlock ≠ some k/\¬ k=p) :
  TrP base (w.setCell ⟨g,j * 7+r,none⟩ u) p (.slice (some ⟨g,0,none⟩) n cap) gv (ps.set j y) ⟨nds (ps.set j y),t.gs,t.last,t.now⟩:=by
 have hk:=Kept.setCell (F:=fun k=>k=g) w (p:=⟨g,j * 7+r,none⟩) rfl u
 have hn:n=ps.length:=by obtain⟨_,_,e,_⟩:=own_sh h.o.nown;simp only [Value.slice.injEq] at e;exact e.2.1
 have hg:=h.o.nown
 rw [<- hn] at hg
 have hm:∀ z ∈ ps.set j y,z=y ∨ z ∈ ps:=fun z hz=>by
  rcases List.mem_or_eq_of_mem_set hz with a | a
  ·exact .inr a
  ·exact .inl a
 refine⟨(hk.block p (lOh h.blk) (fun e=>h.pn (by rw [e];rfl))).trans h.blk,⟨?_,fun z hz=>?_,oNk h.o.gown hk (fun k e e2=>h.o.ng k (by rw [e2];rfl) e),fun z hz k e e2=>?_,fun z hz k e e2=>?_,h.o.ng⟩,rfl,h.bp,h.pn,h.pg,fun z hz e=>?_⟩
 ·have:=own_put hg (j * 7+r) u
  rw [fl_set c7 7 c7_len ps j r x y u hx hr hy] at this
  rw [List.length_set,<- hn]
  exact this
 ·rcases hm z hz with rfl | a
  ·exact oNk htk hk (fun k e e2=>(hne k e).1 e2)
  ·exact oNk (h.o.tk z a) hk (fun k e e2=>h.o.tn z a k e (by rw [e2];rfl))
 ·rcases hm z hz with rfl | a
  ·exact(hne k e).1 (by simpa [Value.ownBlock] using e2.symm)
  ·exact h.o.tn z a k e e2
 ·rcases hm z hz with rfl | a
  ·exact(hne k e).2.1 e2
  ·exact h.o.tg z a k e e2
 ·rcases hm z hz with rfl | a
  ·exact(hne p e).2.2 rfl
  ·exact h.pt z a e
theorem TrP.keepT {base:Nat} {w:World} {p:Nat} {gv:Value} {g n cap:Nat} {ps:List Np} {t:Tr} (h:TrP base w p (.slice (some ⟨g,0,none⟩) n cap) gv ps t) {x:Np} (hx:x ∈ ps):w.ownsRow base 45 4 (tvN x) x.1.ts.length (x.1.ts.flatMap c4)/\∀ k,(tvN x).ownBlock=some k->¬ k=g/\gv.ownBlock ≠ some k/\¬ k=p:=
 ⟨h.o.tk x hx,fun k e=>⟨fun e2=>h.o.tn x hx k e (by rw [e2];rfl),h.o.tg x hx k e,fun e2=>h.pt x hx (by rw [<- e2];exact e)⟩⟩
theorem set_mid {α:Type} (la lb:List α) (x y:α):(la ++ x :: lb).set la.length y=la ++ y :: lb:=by
 rw [List.set_append_right _ _ (Nat.le_refl _),Nat.sub_self,List.set_cons_zero]
theorem nds_set (ps:List Np) (j:Nat) (y:Np):nds (ps.set j y)=(nds ps).set j y.1:=by rw [nds,List.map_set]
theorem Tr.Sm.wide {t:Tr} (h:t.Sm 900):t.Sm 1000:=⟨by have:=h.n;omega,by have:=h.g;omega,by have:=h.l;omega,h.s⟩
set_option maxHeartbeats 25600000 in
theorem resize_is (A:Ops) (base:Nat) (w0 w:World) (p:Nat) (t:Tr) (nv gv:Value) (ps:List Np) (o:Od) (oa:Option Addr) (oc:Nat) (a:Nat->Addr) (hw0:Below base w0 w) (hbs:base=w0.heap.size) (h:TrP base w p nv gv ps t) (hs:t.Sm 900) (hn0:0<=t.now) (hn1:t.now<=1099511627776) (hl0:0<=t.last) (E:Er6 w0 a) (hot:Tks w0 (.slice oa o.ts.length oc) o.ts) (hoc:o.ts.length<=oc) (hot8:o.ts.length * 32<=140737488355328) :
  Calls Tryz.prog 96 #[.pointer (some ⟨p,0,none⟩),vOd o (.slice oa o.ts.length oc)] w fun e w'=>∃ nv' gv' ps',e=.returned (vRs (t.resize A o).2)/\TrP base w' p nv' gv' ps' (t.resize A o).1/\Below base w w':=by
 have hs':t.Sm 1000:=⟨by have:=hs.n;omega,by have:=hs.g;omega,by have:=hs.l;omega,hs.s⟩
 have hlate:∀ W,Below base w W->Below w0.heap.size w0 W:=fun W hW=>by rw [<- hbs];exact hw0.trans hW
 have HBS:Hid (base<=w.heap.size):=mH (by have:=h.bp;have:=lOh h.blk;omega)
 have HCD:Hid (∀ W,Below w.heap.size w W->Calls Tryz.prog 118 #[vTr nv gv t,vOd o (.slice oa o.ts.length oc)] W fun e w'=>e=.returned (.int .i64 (t.rsC A o))/\Below W.heap.size W w'):=mH (fun W hW=>rsC_is A W t nv gv ps o oa oc _ a ((h.trw hs').below hW) hs' (E.late (hlate W (hW.mono HBS.out))) (hot.below (hlate W (hW.mono HBS.out))) hoc rfl)
 obtain⟨TC,hTC⟩:∃ TC,TC=t.resize A o:=⟨_,rfl⟩
 rw [<- hTC]
 unfold Tr.resize at hTC
 have HH:=mH h
 obtain⟨na,nc,hnv,_⟩:=own_sh h.o.nown
 obtain⟨ga,gc,hgv,_⟩:=own_sh h.o.gown
 subst hnv hgv
 obtain⟨ie,hi,hz0,hz1,hz2⟩:=info_parts info_ghost
 have hie:=mH (And.intro hi (And.intro hz0 (And.intro hz1 hz2)))
 clear hi hz0 hz1 hz2
 obtain⟨ki,id,⟨sk,sq,sT⟩,po,ts,tm⟩:=o
 simp only at HCD hTC ⊢
 obtain⟨C,hC⟩:∃ C,C=t.rsC A ⟨ki,id,(sk,sq,sT),po,ts,tm⟩:=⟨_,rfl⟩
 rw [<- hC] at HCD hTC
 have HC:=mH hC
 clear hC
 have HTC:=mH hTC
 have HLT:=mH (And.intro hlate (And.intro hs (And.intro E (And.intro hn0 hn1))))
 clear hTC h hs hs' hw0 hot hoc E hlate hn0 hn1
 go_enter Tryz.func96,Tryz.ntmps96
 go_wp2
 obtain⟨W,hW⟩:∃ W,W=(w.alloc (oOd ⟨ki,id,(sk,sq,sT),po,ts,tm⟩ (.slice oa ts.length oc))).alloc oRs:=⟨_,rfl⟩
 have HPW:Hid (TrP base W p (.slice na ps.length nc) (.slice ga t.gs.length gc) ps t):=mH (by rw [hW];exact HH.out.below (ba (ba (Below.refl _ _) _) _))
 have HBW:Hid (Below w.heap.size w W):=mH (by rw [hW];exact ba (ba (Below.refl _ _) _) _)
 have HFW:Hid (W.heap[w.heap.size]?=some (oOd ⟨ki,id,(sk,sq,sT),po,ts,tm⟩ (.slice oa ts.length oc))/\W.heap[w.heap.size+1]?=some oRs):=mH (by
  rw [hW]
  exact⟨(heap_alloc_old _ _ (by simp)).trans (heap_alloc_new w _),by have:=heap_alloc_new (w.alloc (oOd ⟨ki,id,(sk,sq,sT),po,ts,tm⟩ (.slice oa ts.length oc))) oRs;simpa using this⟩)
 have HNE:Hid (p < w.heap.size/\(∀ k,(Value.slice na ps.length nc).ownBlock=some k->k < w.heap.size)/\(∀ k,(Value.slice ga t.gs.length gc).ownBlock=some k->k < w.heap.size)):=mH ⟨lOh HH.out.blk,fun k e=>(HH.out.o.nown.lt k e).2,fun k e=>(HH.out.o.gown.lt k e).2⟩
 rw [<- hW]
 clear hW
 obtain⟨B0,hB0⟩:∃ B0,B0=w.heap.size:=⟨_,rfl⟩
 obtain⟨B1,hB1⟩:∃ B1,B1=w.heap.size+1:=⟨_,rfl⟩
 rw [<- hB1,<- hB0] at HFW
 rw [<- hB1,<- hB0]
 have HBB:Hid (p < B0/\B1=B0+1/\B0=w.heap.size/\base<=B0):=mH ⟨by have:=HNE.out.1;omega,by omega,hB0,by have:=HBS.out;omega⟩
 clear hB0 hB1
 obtain⟨c0,c1,c2,c3⟩:=HPW.out.cells
 obtain⟨d0,d1,d2,d3,d4,d5,d6,d7⟩:=eight HFW.out.1
 have HNB:Hid (∀ k,k=B1->¬ k=p/\(Value.slice na ps.length nc).ownBlock ≠ some k/\(Value.slice ga t.gs.length gc).ownBlock ≠ some k/\∀ x ∈ ps,(tvN x).ownBlock ≠ some k):=mH (fun k e=>by
  have hb:=HBB.out
  have hn:=HNE.out
  refine⟨by omega,fun e2=>?_,fun e2=>?_,fun x hx e2=>?_⟩
  ·have:=hn.2.1 k e2;omega
  ·have:=hn.2.2 k e2;omega
  ·have:=((HH.out.o.tk x hx).lt k e2).2;omega)
 refine wp_region_held_drew (S:=fun w'=>w'.cell? ⟨p,0,none⟩=some (.slice na ps.length nc)/\w'.cell? ⟨p,1,none⟩=some (.slice ga t.gs.length gc)/\w'.cell? ⟨p,2,none⟩=some (.int .i64 t.last)/\w'.cell? ⟨p,3,none⟩=some (.int .i64 t.now)/\w'.cell? ⟨B0,0,none⟩=some (.int .i64 ki)/\w'.cell? ⟨B0,1,none⟩=some (.int .i64 id)/\w'.cell? ⟨B0,2,none⟩=some (.int .i64 sk)/\w'.cell? ⟨B0,3,none⟩=some (.int .i64 sq)/\w'.cell? ⟨B0,4,none⟩=some (.int .i64 sT)/\w'.cell? ⟨B0,5,none⟩=some (.int .i64 po)/\w'.cell? ⟨B0,6,none⟩=some (.slice oa ts.length oc)/\w'.cell? ⟨B0,7,none⟩=some (.int .i64 tm)) (by kernel_rfl) ⟨c0,c1,c2,c3,d0,d1,d2,d3,d4,d5,d6,d7⟩ (fun hHeld=>?_)
 refine tkE 0 7 (.pointer (some ⟨p,0,none⟩)) rfl rfl hHeld ?_
 simp only [sZ,sS]
 refine tkE 1 8 (.pointer (some ⟨p,0,none⟩)) rfl rfl hHeld ?_
 simp only [sZ,sS]
 refine tkE 2 9 (vTr (.slice na ps.length nc) (.slice ga t.gs.length gc) t) rfl rfl hHeld ?_
 simp only [sZ,sS]
 refine tkE 3 10 (.agg #[.int .i64 ki,.int .i64 id,.int .i64 sk,.int .i64 sq,.int .i64 sT,.int .i64 po,.slice oa ts.length oc,.int .i64 tm]) rfl rfl hHeld ?_
 simp only [sZ,sS]
 refine wpAnyH_ready (rs:=[4]) (by kernel_rfl) (by simp) (AllReadyH.cons rfl (fun K hK=>?_) AllReadyH.nil)
 go_simp
 refine(HCD.out W.drew HBW.out.drew).mono ?_
 rintro e w1 ⟨rfl,b1⟩
 have y0:w1.cell? ⟨p,0,none⟩=some (.slice na ps.length nc):=kc (show W.drew.cell? _=_ from c0) b1
 have y1:w1.cell? ⟨p,1,none⟩=some (.slice ga t.gs.length gc):=kc (show W.drew.cell? _=_ from c1) b1
 have y2:w1.cell? ⟨p,2,none⟩=some (.int .i64 t.last):=kc (show W.drew.cell? _=_ from c2) b1
 have y3:w1.cell? ⟨p,3,none⟩=some (.int .i64 t.now):=kc (show W.drew.cell? _=_ from c3) b1
 have y4:w1.cell? ⟨B0,0,none⟩=some (.int .i64 ki):=kc (show W.drew.cell? _=_ from d0) b1
 have y5:w1.cell? ⟨B0,1,none⟩=some (.int .i64 id):=kc (show W.drew.cell? _=_ from d1) b1
 have y6:w1.cell? ⟨B0,2,none⟩=some (.int .i64 sk):=kc (show W.drew.cell? _=_ from d2) b1
 have y7:w1.cell? ⟨B0,3,none⟩=some (.int .i64 sq):=kc (show W.drew.cell? _=_ from d3) b1
 have y8:w1.cell? ⟨B0,4,none⟩=some (.int .i64 sT):=kc (show W.drew.cell? _=_ from d4) b1
 have y9:w1.cell? ⟨B0,5,none⟩=some (.int .i64 po):=kc (show W.drew.cell? _=_ from d5) b1
 have y10:w1.cell? ⟨B0,6,none⟩=some (.slice oa ts.length oc):=kc (show W.drew.cell? _=_ from d6) b1
 have y11:w1.cell? ⟨B0,7,none⟩=some (.int .i64 tm):=kc (show W.drew.cell? _=_ from d7) b1
 have HP1:Hid (TrP base w1 p (.slice na ps.length nc) (.slice ga t.gs.length gc) ps t):=mH ((HPW.out.below (Below.refl _ W).drew).below b1)
 have HB1:Hid (Below w.heap.size w w1):=mH (bt HBW.out.drew b1)
 have HF1:Hid (w1.heap[B0]?=some (oOd ⟨ki,id,(sk,sq,sT),po,ts,tm⟩ (.slice oa ts.length oc))/\w1.heap[B1]?=some oRs):=mH ⟨bLt (w:=W.drew) HFW.out.1 b1,bLt (w:=W.drew) HFW.out.2 b1⟩
 clear b1 hHeld
 refine hK.out _ _ ⟨y0,y1,y2,y3,y4,y5,y6,y7,y8,y9,y10,y11⟩ (fun hHeld=>?_)
 clear hK K c0 c1 c2 c3 d0 d1 d2 d3 d4 d5 d6 d7
 (try simp only [Act.put])
 refine tkE 5 5 (.int .i64 C) rfl rfl hHeld ?_
 simp only [sZ,sS]
 refine wpAnyH_done (by kernel_rfl) ?_ _
 clear hHeld
 by_cases hC0:C=0
 ·subst hC0
  have ht:=HTC.out
  rw [if_neg (by omega)] at ht
  have HT2:=mH ht
  clear ht HTC
  obtain⟨⟨n,hn⟩,_⟩:=leaf_facts ((rsC_zero HC.out.symm).2.1)
  obtain⟨la,lb,hsp,hla⟩:=nd_split hn
  have hid:=(nd_some hn).2
  obtain⟨ax,cx,hpx⟩:=(HH.out.trw HLT.out.2.1.wide).split hsp
  obtain⟨J,hJ⟩:∃ J,J=la.length:=⟨_,rfl⟩
  rw [<- hJ] at hpx
  have hJl:J < ps.length:=(List.getElem?_eq_some_iff.mp hpx).1
  obtain⟨g,cg,hga,hbg,hgl⟩:=own_addr HH.out.o.nown hJl
  simp only [Value.slice.injEq] at hga
  obtain⟨rfl,_,rfl⟩:=hga
  have HPL:Hid (∀ W,Below w.heap.size w W->Calls Tryz.prog 119 #[vTr (.slice (some ⟨g,0,none⟩) ps.length nc) (.slice ga t.gs.length gc) t,.int .i64 id] W fun e w'=>e=.returned (.int .i64 (J:Int))/\Below W.heap.size W w'):=mH (fun W hW=>place_is W t _ _ ps id J ((HH.out.trw HLT.out.2.1.wide).below hW) (.inr ⟨la,n,lb,hsp,hid,hn,hla,by rw [hJ]⟩))
  have HGB:Hid (base<=g/\g < w.heap.size):=mH ⟨hbg,hgl⟩
  have hJi:(J:Int) < ps.length:=by omega
  have hpl9:(ps.length:Int)<=900:=by have:=HLT.out.2.1.n;have e:=congrArg List.length HH.out.e;rw [List.length_map] at e;omega
  have HND:=mH (And.intro hn (And.intro hsp (And.intro hla (And.intro hid (And.intro hJ hpx)))))
  clear hn hsp hla hid hJ hpx hJl hbg hgl
  obtain⟨nid,npa,⟨nk,nq,nT⟩,npo,nts⟩:=n
  go_wp2
  refine wp_region_held_drew (S:=fun w'=>w'.cell? ⟨p,0,none⟩=some (.slice (some ⟨g,0,none⟩) ps.length nc)/\w'.cell? ⟨p,1,none⟩=some (.slice ga t.gs.length gc)/\w'.cell? ⟨p,2,none⟩=some (.int .i64 t.last)/\w'.cell? ⟨p,3,none⟩=some (.int .i64 t.now)/\w'.cell? ⟨B0,0,none⟩=some (.int .i64 ki)/\w'.cell? ⟨B0,1,none⟩=some (.int .i64 id)/\w'.cell? ⟨B0,2,none⟩=some (.int .i64 sk)/\w'.cell? ⟨B0,3,none⟩=some (.int .i64 sq)/\w'.cell? ⟨B0,4,none⟩=some (.int .i64 sT)/\w'.cell? ⟨B0,5,none⟩=some (.int .i64 po)/\w'.cell? ⟨B0,6,none⟩=some (.slice oa ts.length oc)/\w'.cell? ⟨B0,7,none⟩=some (.int .i64 tm)) (by kernel_rfl) ⟨y0,y1,y2,y3,y4,y5,y6,y7,y8,y9,y10,y11⟩ (fun hHeld=>?_)
  refine tkE 0 16 (.pointer (some ⟨p,0,none⟩)) rfl rfl hHeld ?_
  simp only [sZ,sS]
  refine tkE 1 17 (.pointer (some ⟨p,0,none⟩)) rfl rfl hHeld ?_
  simp only [sZ,sS]
  refine tkE 2 18 (.pointer (some ⟨p,0,none⟩)) rfl rfl hHeld ?_
  simp only [sZ,sS]
  refine tkE 3 19 (.slice (some ⟨g,0,none⟩) ps.length nc) rfl rfl hHeld ?_
  simp only [sZ,sS]
  refine tkE 4 20 (.pointer (some ⟨p,0,none⟩)) rfl rfl hHeld ?_
  simp only [sZ,sS]
  refine tkE 5 21 (.pointer (some ⟨p,0,none⟩)) rfl rfl hHeld ?_
  simp only [sZ,sS]
  refine tkE 6 22 (vTr (.slice (some ⟨g,0,none⟩) ps.length nc) (.slice ga t.gs.length gc) t) rfl rfl hHeld ?_
  simp only [sZ,sS]
  refine tkE 7 23 (.pointer (some ⟨B0,1,none⟩)) rfl rfl hHeld ?_
  simp only [sZ,sS]
  refine tkE 8 24 (.int .i64 id) rfl rfl hHeld ?_
  simp only [sZ,sS]
  refine wpAnyH_ready (rs:=[9]) (by kernel_rfl) (by simp) (AllReadyH.cons rfl (fun K hK=>?_) AllReadyH.nil)
  go_simp
  refine(HPL.out w1.drew HB1.out.drew).mono ?_
  rintro e w2 ⟨rfl,b2⟩
  have x0:w2.cell? ⟨p,0,none⟩=some (.slice (some ⟨g,0,none⟩) ps.length nc):=kc (show w1.drew.cell? _=_ from y0) b2
  have x1:w2.cell? ⟨p,1,none⟩=some (.slice ga t.gs.length gc):=kc (show w1.drew.cell? _=_ from y1) b2
  have x2:w2.cell? ⟨p,2,none⟩=some (.int .i64 t.last):=kc (show w1.drew.cell? _=_ from y2) b2
  have x3:w2.cell? ⟨p,3,none⟩=some (.int .i64 t.now):=kc (show w1.drew.cell? _=_ from y3) b2
  have x4:w2.cell? ⟨B0,0,none⟩=some (.int .i64 ki):=kc (show w1.drew.cell? _=_ from y4) b2
  have x5:w2.cell? ⟨B0,1,none⟩=some (.int .i64 id):=kc (show w1.drew.cell? _=_ from y5) b2
  have x6:w2.cell? ⟨B0,2,none⟩=some (.int .i64 sk):=kc (show w1.drew.cell? _=_ from y6) b2
  have x7:w2.cell? ⟨B0,3,none⟩=some (.int .i64 sq):=kc (show w1.drew.cell? _=_ from y7) b2
  have x8:w2.cell? ⟨B0,4,none⟩=some (.int .i64 sT):=kc (show w1.drew.cell? _=_ from y8) b2
  have x9:w2.cell? ⟨B0,5,none⟩=some (.int .i64 po):=kc (show w1.drew.cell? _=_ from y9) b2
  have x10:w2.cell? ⟨B0,6,none⟩=some (.slice oa ts.length oc):=kc (show w1.drew.cell? _=_ from y10) b2
  have x11:w2.cell? ⟨B0,7,none⟩=some (.int .i64 tm):=kc (show w1.drew.cell? _=_ from y11) b2
  have HP2:=mH ((HP1.out.below (Below.refl _ w1).drew).below b2)
  have HB2:Hid (Below w.heap.size w w2):=mH (bt HB1.out.drew b2)
  have HF2:Hid (w2.heap[B0]?=some (oOd ⟨ki,id,(sk,sq,sT),po,ts,tm⟩ (.slice oa ts.length oc))/\w2.heap[B1]?=some oRs):=mH ⟨bLt (w:=w1.drew) HF1.out.1 b2,bLt (w:=w1.drew) HF1.out.2 b2⟩
  clear b2 hHeld
  refine hK.out _ _ ⟨x0,x1,x2,x3,x4,x5,x6,x7,x8,x9,x10,x11⟩ (fun hHeld=>?_)
  clear hK K y0 y1 y2 y3 y4 y5 y6 y7 y8 y9 y10 y11
  (try simp only [Act.put])
  refine tkE 10 26 (.pointer (some ⟨g,J * 7,none⟩)) rfl rfl hHeld ?_
  simp only [sZ,sS]
  refine tkE 11 6 (.pointer (some ⟨g,J * 7,none⟩)) rfl rfl hHeld ?_
  simp only [sZ,sS]
  refine wpAnyH_done (by kernel_rfl) ?_ _
  clear hHeld
  have hnc:=node_cells HP2.out.o.nown HND.out.2.2.2.2.2
  obtain⟨⟨q0,q1,q2,q3,q4,q5,q6⟩,_⟩:=hnc
  simp only [tvN] at q0 q1 q2 q3 q4 q5 q6
  go_wp2
  have hT:w2.drew.cell? ⟨p,1,none⟩=some (.slice ga t.gs.length gc)/\w2.drew.cell? ⟨g,J * 7+1,none⟩=some (.int .i64 npa)/\w2.drew.cell? ⟨g,J * 7+2,none⟩=some (.int .i64 nk)/\w2.drew.cell? ⟨g,J * 7+3,none⟩=some (.int .i64 nq)/\w2.drew.cell? ⟨g,J * 7+4,none⟩=some (.int .i64 nT):=⟨x1,q1,q2,q3,q4⟩
  refine wp_region_till (fun w'=>w'.cell? ⟨p,1,none⟩=some (.slice ga t.gs.length gc)/\w'.cell? ⟨g,J * 7+1,none⟩=some (.int .i64 npa)/\w'.cell? ⟨g,J * 7+2,none⟩=some (.int .i64 nk)/\w'.cell? ⟨g,J * 7+3,none⟩=some (.int .i64 nq)/\w'.cell? ⟨g,J * 7+4,none⟩=some (.int .i64 nT)) 18 (by kernel_rfl) ?_
  refine frE 0 27 (.pointer (some ⟨p,0,none⟩)) rfl rfl (fun _=>hT) ?_
  simp only [sZ,sS]
  refine frE 1 28 (.pointer (some ⟨p,0,none⟩)) rfl rfl (fun _=>hT) ?_
  simp only [sZ,sS]
  refine frE 2 29 (.pointer (some ⟨p,0,none⟩)) rfl rfl (fun _=>hT) ?_
  simp only [sZ,sS]
  refine frE 3 30 (.pointer (some ⟨p,1,none⟩)) rfl rfl (fun _=>hT) ?_
  simp only [sZ,sS]
  refine fiE 4 31 (.slice ga t.gs.length gc) rfl rfl hT ?_
  simp only [sZ,sS]
  refine frE 5 32 (.pointer (some ⟨g,J * 7,none⟩)) rfl rfl (fun _=>hT) ?_
  simp only [sZ,sS]
  refine frE 6 33 (.pointer (some ⟨g,J * 7,none⟩)) rfl rfl (fun _=>hT) ?_
  simp only [sZ,sS]
  refine frE 7 34 (.pointer (some ⟨g,J * 7+1,none⟩)) rfl rfl (fun _=>hT) ?_
  simp only [sZ,sS]
  refine fiE 8 35 (.int .i64 npa) rfl rfl hT ?_
  simp only [sZ,sS]
  refine frE 9 36 (.pointer (some ⟨g,J * 7,none⟩)) rfl rfl (fun _=>hT) ?_
  simp only [sZ,sS]
  refine frE 10 37 (.pointer (some ⟨g,J * 7,none⟩)) rfl rfl (fun _=>hT) ?_
  simp only [sZ,sS]
  refine frE 11 38 (.pointer (some ⟨g,J * 7+2,none⟩)) rfl rfl (fun _=>hT) ?_
  simp only [sZ,sS]
  refine fiE 12 39 (.agg #[.int .i64 nk,.int .i64 nq,.int .i64 nT]) rfl rfl hT ?_
  simp only [sZ,sS]
  refine frE 13 40 (.agg #[.int .i64 npa,.int .i64 nk,.int .i64 nq,.int .i64 nT,.int .i64 0]) rfl rfl (fun _=>hT) ?_
  simp only [sZ,sS]
  refine wpT_ready (rs:=[14]) (by kernel_rfl) (by simp) (AllT.cons rfl (fun K hK=>?_) AllT.nil)
  go_simp
  obtain⟨W4,hW4⟩:∃ W4,W4=(w2.alloc (.cells #[.int .i64 npa,.int .i64 nk,.int .i64 nq,.int .i64 nT,.int .i64 0] 111)).drew:=⟨_,rfl⟩
  have b4:Below w2.heap.size w2 W4:=by rw [hW4];exact(ba (Below.refl _ _) _).drew
  have HR4:Hid (RowIn 5 c5 W4 (.slice (some ⟨w2.heap.size,0,none⟩) 1 1) [(⟨npa,(nk,nq,nT),0⟩:Gh)]):=mH (by
   rw [hW4]
   exact RowIn.below (rowOne (f:=c5) (⟨npa,(nk,nq,nT),0⟩:Gh) w2 111) (Below.refl _ _).drew)
  have HP4:=mH (HP2.out.below b4)
  have HF4:Hid (W4.heap[B0]?=some (oOd ⟨ki,id,(sk,sq,sT),po,ts,tm⟩ (.slice oa ts.length oc))/\W4.heap[B1]?=some oRs):=mH ⟨bLt HF2.out.1 b4,bLt HF2.out.2 b4⟩
  have HB4:Hid (Below base w W4/\base<=W4.heap.size):=mH ⟨(bt HB2.out b4).mono HBS.out,by have:=b4.size;have:=HB2.out.size;have:=HBS.out;omega⟩
  rw [<- hW4]
  clear hW4 b4 hT x0 x1 x2 x3 x4 x5 x6 x7 x8 x9 x10 x11 q0 q1 q2 q3 q4 q5 q6 HF2 HB2 HP1 HB1 HF1 HPW HFW HBW
  obtain⟨⟨q0,q1,q2,q3,q4,q5,q6⟩,_⟩:=node_cells HP4.out.o.nown HND.out.2.2.2.2.2
  simp only [tvN] at q0 q1 q2 q3 q4 q5 q6
  obtain⟨c0,c1,c2,c3⟩:=HP4.out.cells
  refine hK.out _ _ (fun _=>⟨c1,q1,q2,q3,q4⟩) ?_
  clear hK K
  (try simp only [Act.put])
  generalize w2.heap.size=z3 at *
  refine wpT_ready (rs:=[15]) (by kernel_rfl) (by simp) (AllT.cons rfl (fun K hK=>?_) AllT.nil)
  refine step_append_src5 (w:=W4) rfl (.tmp 31) (.tmp 41) 28 28 rfl base 111 ie Tryz.underlying28 hie.out.1 (.agg #[.int .i64 0,.int .i64 0,.int .i64 0,.int .i64 0,.int .i64 0]) 40 hie.out.2.1 rfl hie.out.2.2.1 hie.out.2.2.2 (.slice ga t.gs.length gc) t.gs.length (t.gs.flatMap c5) (by simp [Act.eval]) HP4.out.o.gown _ 1 (c5 (⟨npa,(nk,nq,nT),0⟩:Gh)) (by simp [Act.eval]) (srcOne (f:=c5) (x:=(⟨npa,(nk,nq,nT),0⟩:Gh)) Tryz.underlying28 (by omega) c5_len one5 HR4.out) (by have:=HLT.out.2.1.g;unfold maxLen;omega) (by have:=HLT.out.2.1.g;omega) HB4.out.2 ?_
  intro v6 w6 ho6 hg6 hat6
  have HPN:=mH (HP4.out.pushG (x:=⟨npa,(nk,nq,nT),0⟩) ho6 hg6 hat6)
  have hk6:=Kept.grown hg6 (F:=fun k=>(Value.slice ga t.gs.length gc).ownBlock=some k) (fun k hk=>hk)
  obtain⟨ga6,gc6,hv6,_⟩:=own_sh ho6
  subst hv6
  have hpb:=(hk6.block p (lOh HP4.out.blk) HP4.out.pg).trans HP4.out.blk
  obtain⟨e0,e1,e2,e3⟩:=four hpb
  have g1:w6.frozen? ⟨p,1,none⟩=false:=fOb hpb
  have hgg:¬ (Value.slice ga t.gs.length gc).ownBlock=some g:=HP4.out.o.ng g rfl
  have s1:=hk6.cell q1 hgg
  have s2:=hk6.cell q2 hgg
  have s3:=hk6.cell q3 hgg
  have s4:=hk6.cell q4 hgg
  have HGL:Hid (∀ k,k=B0 ∨ k=B1->(Value.slice ga t.gs.length gc).ownBlock ≠ some k):=mH (fun k e e2=>by have:=HNE.out.2.2 k e2;have:=HBB.out;omega)
  have HGN:Hid ((Value.slice ga6 (t.gs.length+1) gc6).ownBlock ≠ some B1):=mH (fun e=>by
   rcases hat6 with a | a
   ·rw [a] at e;have:=HNE.out.2.2 _ e;have:=HBB.out;omega
   ·rw [a] at e;simp at e;have:=lOh HF4.out.2;omega)
  have HF6:Hid (w6.heap[B0]?=some (oOd ⟨ki,id,(sk,sq,sT),po,ts,tm⟩ (.slice oa ts.length oc))/\w6.heap[B1]?=some oRs):=mH ⟨(hk6.block _ (lOh HF4.out.1) (HGL.out _ (.inl rfl))).trans HF4.out.1,(hk6.block _ (lOh HF4.out.2) (HGL.out _ (.inr rfl))).trans HF4.out.2⟩
  have HB6:Hid (Below base w w6/\base<=w6.heap.size):=mH ⟨HB4.out.1.grown hg6 HB4.out.2 (fun k hk=>(HP4.out.o.gown.lt k hk).1),by have:=hk6.size;have:=HB4.out.2;omega⟩
  clear c0 c1 c2 c3 q0 q1 q2 q3 q4 q5 q6 ho6 hg6 hat6 hk6 hpb hgg
  refine hK.out _ _ (fun _=>⟨e1,s1,s2,s3,s4⟩) ?_
  clear hK K
  (try simp only [Act.put])
  refine freeD 16 43 (.pointer (some ⟨p,0,none⟩)) rfl rfl (by kernel_rfl) (by kernel_rfl) (by kernel_rfl) (by decide) (fun _ _ _ h=>h) (fun _=>⟨e1,s1,s2,s3,s4⟩) (Or.inl ⟨by kernel_rfl,by intro w _;go_simp⟩) ?_
  simp only [sZ,sS]
  refine freeD 17 44 (.pointer (some ⟨p,1,none⟩)) rfl rfl (by kernel_rfl) (by kernel_rfl) (by kernel_rfl) (by decide) (fun _ _ _ h=>h) (fun _=>⟨e1,s1,s2,s3,s4⟩) (Or.inl ⟨by kernel_rfl,by intro w _;go_simp⟩) ?_
  simp only [sZ,sS]
  refine wpT_ready (rs:=[18]) (by kernel_rfl) (by simp) (AllT.cons rfl (fun K hK=>?_) AllT.nil)
  go_simp
  refine hK.out _ _ (bool_no (by kernel_rfl)) ?_
  clear hK K e0 e1 e2 e3 g1 s1 s2 s3 s4
  refine wpT_done (by kernel_rfl) ?_ _
  have hk7:=Kept.setCell (F:=fun k=>k=p) w6 (p:=⟨p,1,none⟩) rfl (.slice ga6 (t.gs.length+1) gc6)
  have HF7:Hid ((w6.setCell ⟨p,1,none⟩ (.slice ga6 (t.gs.length+1) gc6)).heap[B0]?=some (oOd ⟨ki,id,(sk,sq,sT),po,ts,tm⟩ (.slice oa ts.length oc))/\(w6.setCell ⟨p,1,none⟩ (.slice ga6 (t.gs.length+1) gc6)).heap[B1]?=some oRs):=mH ⟨(hk7.block _ (lOh HF6.out.1) (by have:=HBB.out;omega)).trans HF6.out.1,(hk7.block _ (lOh HF6.out.2) (by have:=HBB.out;omega)).trans HF6.out.2⟩
  have HB7:Hid (Below base w (w6.setCell ⟨p,1,none⟩ (.slice ga6 (t.gs.length+1) gc6))/\base<=(w6.setCell ⟨p,1,none⟩ (.slice ga6 (t.gs.length+1) gc6)).heap.size):=mH ⟨setG_below HB6.out.1 HP4.out.bp _ HB6.out.2,by have:=HB6.out.2;simpa [World.setCell] using this⟩
  clear hk7 HF6 HB6 HP4 HF4 HB4 HR4 HP2
  generalize w6.setCell ⟨p,1,none⟩ (.slice ga6 (t.gs.length+1) gc6)=W7 at *
  obtain⟨d0,d1,d2,d3,d4,d5,d6,d7⟩:=eight HF7.out.1
  obtain⟨⟨q0,q1,q2,q3,q4,q5,q6⟩,f0,f1,f2,f3,f4,f5,f6⟩:=node_cells HPN.out.o.nown HND.out.2.2.2.2.2
  simp only [tvN] at q0 q1 q2 q3 q4 q5 q6
  have hx0:=HND.out.2.2.2.2.2
  have hJl:J < ps.length:=(List.getElem?_eq_some_iff.mp hx0).1
  have t0:=HPN.out.keepT (List.mem_of_getElem? hx0)
  have n1:=HPN.out.setN (r:=2) (y:=(⟨nid,npa,(sk,nq,nT),npo,nts⟩,ax,cx)) hx0 (by omega) rfl t0.1 t0.2
  have hx1:(ps.set J ((⟨nid,npa,(sk,nq,nT),npo,nts⟩:Nd),ax,cx))[J]?=some ((⟨nid,npa,(sk,nq,nT),npo,nts⟩:Nd),ax,cx):=by simp [hJl]
  have t1:=n1.keepT (List.mem_of_getElem? hx1)
  have n2:=n1.setN (r:=3) (y:=(⟨nid,npa,(sk,sq,nT),npo,nts⟩,ax,cx)) hx1 (by omega) rfl t1.1 t1.2
  rw [List.set_set] at n2
  have hx2:(ps.set J ((⟨nid,npa,(sk,sq,nT),npo,nts⟩:Nd),ax,cx))[J]?=some ((⟨nid,npa,(sk,sq,nT),npo,nts⟩:Nd),ax,cx):=by simp [hJl]
  have t2:=n2.keepT (List.mem_of_getElem? hx2)
  have n3:=n2.setN (r:=4) (y:=(⟨nid,npa,(sk,sq,sT),npo,nts⟩,ax,cx)) hx2 (by omega) rfl t2.1 t2.2
  rw [List.set_set] at n3
  have hx3:(ps.set J ((⟨nid,npa,(sk,sq,sT),npo,nts⟩:Nd),ax,cx))[J]?=some ((⟨nid,npa,(sk,sq,sT),npo,nts⟩:Nd),ax,cx):=by simp [hJl]
  have hk8:Kept (fun k=>k=g) W7 (((W7.setCell ⟨g,J * 7+2,none⟩ (.int .i64 sk)).setCell ⟨g,J * 7+3,none⟩ (.int .i64 sq)).setCell ⟨g,J * 7+4,none⟩ (.int .i64 sT)):=kset (F:=fun k=>k=g) (kset (F:=fun k=>k=g) (kset (F:=fun k=>k=g) (Kept.refl _ _) (.inl rfl) _ _) (.inl rfl) _ _) (.inl rfl) _ _
  have hg8:=HGB.out
  have HF8:Hid ((((W7.setCell ⟨g,J * 7+2,none⟩ (.int .i64 sk)).setCell ⟨g,J * 7+3,none⟩ (.int .i64 sq)).setCell ⟨g,J * 7+4,none⟩ (.int .i64 sT)).heap[B1]?=some oRs):=mH ((hk8.block _ (lOh HF7.out.2) (by have:=HBB.out;omega)).trans HF7.out.2)
  have HB8:Hid (Below base w (((W7.setCell ⟨g,J * 7+2,none⟩ (.int .i64 sk)).setCell ⟨g,J * 7+3,none⟩ (.int .i64 sq)).setCell ⟨g,J * 7+4,none⟩ (.int .i64 sT))/\base<=(((W7.setCell ⟨g,J * 7+2,none⟩ (.int .i64 sk)).setCell ⟨g,J * 7+3,none⟩ (.int .i64 sq)).setCell ⟨g,J * 7+4,none⟩ (.int .i64 sT)).heap.size):=mH ⟨HB7.out.1.trans (hk8.below (fun k e=>by omega) HB7.out.2),by have:=hk8.size;have:=HB7.out.2;omega⟩
  have HP8:=mH n3
  have HX3:=mH hx3
  have HSM:Hid (Tr.Sm ⟨nds (ps.set J ((⟨nid,npa,(sk,sq,sT),npo,nts⟩:Nd),ax,cx)),t.gs ++ [⟨npa,(nk,nq,nT),0⟩],t.last,t.now⟩ 1000):=mH ⟨by have:=HLT.out.2.1.n;have e:=congrArg List.length HH.out.e;rw [List.length_map] at e;simp;omega,by have:=HLT.out.2.1.g;simp;omega,by have:=HLT.out.2.1.l;simp only;omega,fun x hx=>by
   obtain⟨z,hz,rfl⟩:=List.mem_map.mp hx
   rcases List.mem_or_eq_of_mem_set hz with a | a
   ·exact HLT.out.2.1.s _ (by rw [<- HH.out.e];exact List.mem_map.mpr ⟨z,a,rfl⟩)
   ·subst a
    exact HLT.out.2.1.s ⟨nid,npa,(nk,nq,nT),npo,nts⟩ (nd_some HND.out.1).1⟩
  clear hx0 hx1 hx2 hx3 t0 t1 t2 n1 n2 n3 hk8 hg8 hJl
  go_wp2_with (go_at_call 117;refine(hold_is A base _ p _ _ _ _ npa a HP8.out HSM.out HLT.out.2.2.2.1 HLT.out.2.2.2.2 (HLT.out.2.2.1.late (HLT.out.1 _ HB8.out.1))).mono ?_;rintro e w9 ⟨⟨v9,rfl⟩,hp9,b9,k9⟩;have HP9:=mH hp9;have HB9:Hid (Below base w w9/\base<=w9.heap.size):=mH ⟨HB8.out.1.trans b9,by have:=b9.size;have:=HB8.out.2;omega⟩;have hx9:=(k9.block _ (lOh HF8.out) HGN.out).trans HF8.out;obtain⟨r0,r1⟩:=two hx9;have u0:=eight_f hx9 0;have u1:=eight_f hx9 1;have HX9:=mH hx9;clear q0 q1 q2 q3 q4 q5 q6 f0 f1 f2 f3 f4 f5 f6 d0 d1 d2 d3 d4 d5 d6 d7;have hno9:=hp9.o.nown;rw [List.length_set] at hno9;obtain⟨⟨q0,_⟩,_⟩:=node_cells hno9 HX3.out;simp only at q0;clear hno9 hp9 b9 k9 hx9)
  have hkr:Kept (fun k=>k=B1) w9 ((w9.setCell ⟨B1,0,none⟩ (.int .i64 0)).setCell ⟨B1,1,none⟩ (.int .i64 nid)):=kset (F:=fun k=>k=B1) (kset (F:=fun k=>k=B1) (Kept.refl _ _) (.inl rfl) 0 _) (.inl rfl) 1 _
  obtain⟨hn,hsp,hla,hid,hJ,hpx⟩:=HND.out
  have hpar:t.par id=npa:=par_of hn
  have hown:t.own id=(nk,nq,nT):=own_of hn
  have hset:setAtL t.ns id (fun n=>⟨n.id,n.pa,(sk,sq,sT),n.po,n.ts⟩)=nds (ps.set J ((⟨nid,npa,(sk,sq,sT),npo,nts⟩:Nd),ax,cx)):=by
   rw [nds_set,HH.out.e,hsp,hJ,set_mid,setAtL_split _ hid hla]
  rw [HT2.out,hpar,hown,hset]
  refine bodyPost_ret (leaves1 rfl (set2_heap HX9.out _ _) Tryz.underlying94 size_result _ rfl) rfl ⟨_,_,_,by show _=Ending.returned (vRs (0,id));rw [<- hid],HP9.out.off hkr (fun k e=>?_),HB9.out.1.trans (hkr.below (fun k e=>by have:=HBB.out;omega) HB9.out.2)⟩
  subst e
  refine⟨(HNB.out _ rfl).1,(HNB.out _ rfl).2.1,HGN.out,fun x hx=>?_⟩
  rcases List.mem_or_eq_of_mem_set hx with m | m
  ·exact(HNB.out _ rfl).2.2.2 x m
  ·subst m
   have hq:=(HNB.out _ rfl).2.2.2 (⟨nid,npa,(nk,nq,nT),npo,nts⟩,ax,cx) (List.mem_of_getElem? hpx)
   exact hq
 ·have ht:=HTC.out
  rw [if_pos hC0] at ht
  have HT2:=mH ht
  clear ht HTC
  have hC0':(C == 0)=false:=by simpa using hC0
  clear hC0
  obtain⟨r0,r1⟩:=two HF1.out.2
  have f0:=eight_f HF1.out.2 0
  have f1:=eight_f HF1.out.2 1
  go_wp2_with (go_at_call 71;refine(refused_is _ _).mono ?_;rintro e w2 ⟨rfl,b2⟩;have hx2:=bLt HF1.out.2 b2;clear r0 r1 f0 f1;obtain⟨r0,r1⟩:=two hx2;have f0:=eight_f hx2 0;have f1:=eight_f hx2 1;have HX2:=mH hx2;have HP2:=mH (HP1.out.below b2);have HB2:=mH (bt HB1.out b2);clear hx2 b2)
  have hkr:Kept (fun k=>k=B1) w2 ((w2.setCell ⟨B1,0,none⟩ (.int .i64 C)).setCell ⟨B1,1,none⟩ (.int .i64 0)):=kset (F:=fun k=>k=B1) (kset (F:=fun k=>k=B1) (Kept.refl _ _) (.inl rfl) 0 _) (.inl rfl) 1 _
  rw [HT2.out]
  refine bodyPost_ret (leaves1 rfl (set2_heap HX2.out _ _) Tryz.underlying94 size_result _ rfl) rfl ⟨_,_,ps,rfl,HP2.out.off hkr HNB.out,(HB2.out.mono HBS.out).trans (hkr.below (fun k e=>by have:=HBB.out;omega) (by have:=HB2.out.size;have:=HBS.out;omega))⟩
theorem erase_mid {α:Type} (la lb:List α) (x:α):(la ++ x :: lb).eraseIdx la.length=la ++ lb:=by
 rw [List.eraseIdx_append_of_length_le (Nat.le_refl _),Nat.sub_self,List.eraseIdx_cons_zero]
theorem nds_erase (ps:List Np) (j:Nat):nds (ps.eraseIdx j)=(nds ps).eraseIdx j:=by
 apply List.ext_getElem?
 intro i
 rw [nds,List.getElem?_map,List.getElem?_eraseIdx,List.getElem?_eraseIdx,nds,List.getElem?_map,List.getElem?_map]
 split <;> rfl
theorem TrP.dropN {base:Nat} {w w1:World} {p:Nat} {gv:Value} {g n cap:Nat} {ps:List Np} {t:Tr} {j:Nat} (h:TrP base w p (.slice (some ⟨g,0,none⟩) n cap) gv ps t) (hj:j < ps.length) (hown:w1.ownsRow base 69 7 (.slice (some ⟨g,0,none⟩) (ps.length - 1) cap) (ps.length - 1) ((ps.eraseIdx j).flatMap c7)) (hk:Kept (fun k=>k=g) w w1) :
  TrP base (w1.setCell ⟨p,0,none⟩ (.slice (some ⟨g,0,none⟩) (ps.length - 1) cap)) p (.slice (some ⟨g,0,none⟩) (ps.length - 1) cap) gv (ps.eraseIdx j) ⟨nds (ps.eraseIdx j),t.gs,t.last,t.now⟩:=by
 have hk1:=Kept.setCell (F:=fun k=>k=p) w1 (p:=⟨p,0,none⟩) rfl (.slice (some ⟨g,0,none⟩) (ps.length - 1) cap)
 have hpg:¬ p=g:=fun e=>h.pn (by rw [e];rfl)
 have hm:∀ z ∈ ps.eraseIdx j,z ∈ ps:=fun z hz=>List.mem_of_mem_eraseIdx hz
 refine⟨hSt ((hk.block p (lOh h.blk) hpg).trans h.blk),⟨?_,fun z hz=>?_, ?_,fun z hz=>h.o.tn z (hm z hz),fun z hz=>h.o.tg z (hm z hz),h.o.ng⟩,rfl,h.bp,h.pn,h.pg,fun z hz=>h.pt z (hm z hz)⟩
 ·rw [List.length_eraseIdx,if_pos hj]
  exact oNk hown hk1 (fun k e e2=>hpg (by rw [<- e2];simpa [Value.ownBlock] using e.symm))
 ·exact oNk (oNk (h.o.tk z (hm z hz)) hk (fun k e e2=>h.o.tn z (hm z hz) k e (by rw [e2];rfl))) hk1 (fun k e e2=>h.pt z (hm z hz) (by rw [<- e2];exact e))
 ·exact oNk (oNk h.o.gown hk (fun k e e2=>h.o.ng g rfl (by rw [<- e2];exact e))) hk1 (fun k e e2=>h.pg (by rw [<- e2];exact e))
set_option maxHeartbeats 25600000 in
theorem remove_is (A:Ops) (base:Nat) (w0 w:World) (p:Nat) (t:Tr) (nv gv:Value) (ps:List Np) (o:Od) (oa:Option Addr) (oc:Nat) (a:Nat->Addr) (hw0:Below base w0 w) (hbs:base=w0.heap.size) (h:TrP base w p nv gv ps t) (hs:t.Sm 900) (hn0:0<=t.now) (hn1:t.now<=1099511627776) (hl0:0<=t.last) (E:Er6 w0 a) (hot:Tks w0 (.slice oa o.ts.length oc) o.ts) (hoc:o.ts.length<=oc) (hot8:o.ts.length * 32<=140737488355328) :
  Calls Tryz.prog 97 #[.pointer (some ⟨p,0,none⟩),vOd o (.slice oa o.ts.length oc)] w fun e w'=>∃ nv' gv' ps',e=.returned (vRs (t.remove A o).2)/\TrP base w' p nv' gv' ps' (t.remove A o).1/\Below base w w':=by
 have hs':t.Sm 1000:=⟨by have:=hs.n;omega,by have:=hs.g;omega,by have:=hs.l;omega,hs.s⟩
 have hlate:∀ W,Below base w W->Below w0.heap.size w0 W:=fun W hW=>by rw [<- hbs];exact hw0.trans hW
 have HBS:Hid (base<=w.heap.size):=mH (by have:=h.bp;have:=lOh h.blk;omega)
 have HCD:Hid (∀ W,Below w.heap.size w W->Calls Tryz.prog 120 #[vTr nv gv t,.int .i64 o.id] W fun e w'=>e=.returned (.int .i64 (t.leafC o.id))/\Below W.heap.size W w'):=mH (fun W hW=>leafC_is W t nv gv ps o.id _ ((h.trw hs').below hW) hs' rfl)
 obtain⟨TC,hTC⟩:∃ TC,TC=t.remove A o:=⟨_,rfl⟩
 rw [<- hTC]
 unfold Tr.remove at hTC
 have HH:=mH h
 obtain⟨na,nc,hnv,_⟩:=own_sh h.o.nown
 obtain⟨ga,gc,hgv,_⟩:=own_sh h.o.gown
 subst hnv hgv
 obtain⟨ie,hi,hz0,hz1,hz2⟩:=info_parts info_ghost
 have hie:=mH (And.intro hi (And.intro hz0 (And.intro hz1 hz2)))
 clear hi hz0 hz1 hz2
 obtain⟨ki,id,⟨sk,sq,sT⟩,po,ts,tm⟩:=o
 simp only at HCD hTC ⊢
 obtain⟨C,hC⟩:∃ C,C=t.leafC id:=⟨_,rfl⟩
 rw [<- hC] at HCD hTC
 have HC:=mH hC
 clear hC
 have HTC:=mH hTC
 have HLT:=mH (And.intro hlate (And.intro hs (And.intro E (And.intro hn0 hn1))))
 clear hTC h hs hs' hw0 hot hoc E hlate hn0 hn1 hbs
 go_enter Tryz.func97,Tryz.ntmps97
 go_wp2
 obtain⟨W,hW⟩:∃ W,W=(w.alloc (oOd ⟨ki,id,(sk,sq,sT),po,ts,tm⟩ (.slice oa ts.length oc))).alloc oRs:=⟨_,rfl⟩
 have HPW:Hid (TrP base W p (.slice na ps.length nc) (.slice ga t.gs.length gc) ps t):=mH (by rw [hW];exact HH.out.below (ba (ba (Below.refl _ _) _) _))
 have HBW:Hid (Below w.heap.size w W):=mH (by rw [hW];exact ba (ba (Below.refl _ _) _) _)
 have HFW:Hid (W.heap[w.heap.size]?=some (oOd ⟨ki,id,(sk,sq,sT),po,ts,tm⟩ (.slice oa ts.length oc))/\W.heap[w.heap.size+1]?=some oRs):=mH (by
  rw [hW]
  exact⟨(heap_alloc_old _ _ (by simp)).trans (heap_alloc_new w _),by have:=heap_alloc_new (w.alloc (oOd ⟨ki,id,(sk,sq,sT),po,ts,tm⟩ (.slice oa ts.length oc))) oRs;simpa using this⟩)
 have HNE:Hid (p < w.heap.size/\(∀ k,(Value.slice na ps.length nc).ownBlock=some k->k < w.heap.size)/\(∀ k,(Value.slice ga t.gs.length gc).ownBlock=some k->k < w.heap.size)):=mH ⟨lOh HH.out.blk,fun k e=>(HH.out.o.nown.lt k e).2,fun k e=>(HH.out.o.gown.lt k e).2⟩
 rw [<- hW]
 clear hW
 obtain⟨B0,hB0⟩:∃ B0,B0=w.heap.size:=⟨_,rfl⟩
 obtain⟨B1,hB1⟩:∃ B1,B1=w.heap.size+1:=⟨_,rfl⟩
 rw [<- hB1,<- hB0] at HFW
 rw [<- hB1,<- hB0]
 have HBB:Hid (p < B0/\B1=B0+1/\B0=w.heap.size/\base<=B0):=mH ⟨by have:=HNE.out.1;omega,by omega,hB0,by have:=HBS.out;omega⟩
 clear hB0 hB1
 obtain⟨c0,c1,c2,c3⟩:=HPW.out.cells
 obtain⟨d0,d1,d2,d3,d4,d5,d6,d7⟩:=eight HFW.out.1
 have HNB:Hid (∀ k,k=B1->¬ k=p/\(Value.slice na ps.length nc).ownBlock ≠ some k/\(Value.slice ga t.gs.length gc).ownBlock ≠ some k/\∀ x ∈ ps,(tvN x).ownBlock ≠ some k):=mH (fun k e=>by
  have hb:=HBB.out
  have hn:=HNE.out
  refine⟨by omega,fun e2=>?_,fun e2=>?_,fun x hx e2=>?_⟩
  ·have:=hn.2.1 k e2;omega
  ·have:=hn.2.2 k e2;omega
  ·have:=((HH.out.o.tk x hx).lt k e2).2;omega)
 refine wp_region_held_drew (S:=fun w'=>w'.cell? ⟨p,0,none⟩=some (.slice na ps.length nc)/\w'.cell? ⟨p,1,none⟩=some (.slice ga t.gs.length gc)/\w'.cell? ⟨p,2,none⟩=some (.int .i64 t.last)/\w'.cell? ⟨p,3,none⟩=some (.int .i64 t.now)/\w'.cell? ⟨B0,0,none⟩=some (.int .i64 ki)/\w'.cell? ⟨B0,1,none⟩=some (.int .i64 id)/\w'.cell? ⟨B0,2,none⟩=some (.int .i64 sk)/\w'.cell? ⟨B0,3,none⟩=some (.int .i64 sq)/\w'.cell? ⟨B0,4,none⟩=some (.int .i64 sT)/\w'.cell? ⟨B0,5,none⟩=some (.int .i64 po)/\w'.cell? ⟨B0,6,none⟩=some (.slice oa ts.length oc)/\w'.cell? ⟨B0,7,none⟩=some (.int .i64 tm)) (by kernel_rfl) ⟨c0,c1,c2,c3,d0,d1,d2,d3,d4,d5,d6,d7⟩ (fun hHeld=>?_)
 refine tkE 0 8 (.pointer (some ⟨p,0,none⟩)) rfl rfl hHeld ?_
 simp only [sZ,sS]
 refine tkE 1 9 (.pointer (some ⟨p,0,none⟩)) rfl rfl hHeld ?_
 simp only [sZ,sS]
 refine tkE 2 10 (vTr (.slice na ps.length nc) (.slice ga t.gs.length gc) t) rfl rfl hHeld ?_
 simp only [sZ,sS]
 refine tkE 3 11 (.pointer (some ⟨B0,1,none⟩)) rfl rfl hHeld ?_
 simp only [sZ,sS]
 refine tkE 4 12 (.int .i64 id) rfl rfl hHeld ?_
 simp only [sZ,sS]
 refine wpAnyH_ready (rs:=[5]) (by kernel_rfl) (by simp) (AllReadyH.cons rfl (fun K hK=>?_) AllReadyH.nil)
 go_simp
 refine(HCD.out W.drew HBW.out.drew).mono ?_
 rintro e w1 ⟨rfl,b1⟩
 have y0:w1.cell? ⟨p,0,none⟩=some (.slice na ps.length nc):=kc (show W.drew.cell? _=_ from c0) b1
 have y1:w1.cell? ⟨p,1,none⟩=some (.slice ga t.gs.length gc):=kc (show W.drew.cell? _=_ from c1) b1
 have y2:w1.cell? ⟨p,2,none⟩=some (.int .i64 t.last):=kc (show W.drew.cell? _=_ from c2) b1
 have y3:w1.cell? ⟨p,3,none⟩=some (.int .i64 t.now):=kc (show W.drew.cell? _=_ from c3) b1
 have y4:w1.cell? ⟨B0,0,none⟩=some (.int .i64 ki):=kc (show W.drew.cell? _=_ from d0) b1
 have y5:w1.cell? ⟨B0,1,none⟩=some (.int .i64 id):=kc (show W.drew.cell? _=_ from d1) b1
 have y6:w1.cell? ⟨B0,2,none⟩=some (.int .i64 sk):=kc (show W.drew.cell? _=_ from d2) b1
 have y7:w1.cell? ⟨B0,3,none⟩=some (.int .i64 sq):=kc (show W.drew.cell? _=_ from d3) b1
 have y8:w1.cell? ⟨B0,4,none⟩=some (.int .i64 sT):=kc (show W.drew.cell? _=_ from d4) b1
 have y9:w1.cell? ⟨B0,5,none⟩=some (.int .i64 po):=kc (show W.drew.cell? _=_ from d5) b1
 have y10:w1.cell? ⟨B0,6,none⟩=some (.slice oa ts.length oc):=kc (show W.drew.cell? _=_ from d6) b1
 have y11:w1.cell? ⟨B0,7,none⟩=some (.int .i64 tm):=kc (show W.drew.cell? _=_ from d7) b1
 have HP1:Hid (TrP base w1 p (.slice na ps.length nc) (.slice ga t.gs.length gc) ps t):=mH ((HPW.out.below (Below.refl _ W).drew).below b1)
 have HB1:Hid (Below w.heap.size w w1):=mH (bt HBW.out.drew b1)
 have HF1:Hid (w1.heap[B0]?=some (oOd ⟨ki,id,(sk,sq,sT),po,ts,tm⟩ (.slice oa ts.length oc))/\w1.heap[B1]?=some oRs):=mH ⟨bLt (w:=W.drew) HFW.out.1 b1,bLt (w:=W.drew) HFW.out.2 b1⟩
 clear b1 hHeld
 refine hK.out _ _ ⟨y0,y1,y2,y3,y4,y5,y6,y7,y8,y9,y10,y11⟩ (fun hHeld=>?_)
 clear hK K c0 c1 c2 c3 d0 d1 d2 d3 d4 d5 d6 d7
 (try simp only [Act.put])
 refine tkE 6 5 (.int .i64 C) rfl rfl hHeld ?_
 simp only [sZ,sS]
 refine wpAnyH_done (by kernel_rfl) ?_ _
 clear hHeld
 by_cases hC0:C=0
 ·subst hC0
  have ht:=HTC.out
  rw [if_neg (by omega)] at ht
  have HT2:=mH ht
  clear ht HTC
  obtain⟨⟨n,hn⟩,_⟩:=leaf_facts (HC.out.symm)
  obtain⟨la,lb,hsp,hla⟩:=nd_split hn
  have hid:=(nd_some hn).2
  obtain⟨ax,cx,hpx⟩:=(HH.out.trw HLT.out.2.1.wide).split hsp
  obtain⟨J,hJ⟩:∃ J,J=la.length:=⟨_,rfl⟩
  rw [<- hJ] at hpx
  have hJl:J < ps.length:=(List.getElem?_eq_some_iff.mp hpx).1
  obtain⟨g,cg,hga,hbg,hgl⟩:=own_addr HH.out.o.nown hJl
  simp only [Value.slice.injEq] at hga
  obtain⟨rfl,_,rfl⟩:=hga
  have HPL:Hid (∀ W,Below w.heap.size w W->Calls Tryz.prog 119 #[vTr (.slice (some ⟨g,0,none⟩) ps.length nc) (.slice ga t.gs.length gc) t,.int .i64 id] W fun e w'=>e=.returned (.int .i64 (J:Int))/\Below W.heap.size W w'):=mH (fun W hW=>place_is W t _ _ ps id J ((HH.out.trw HLT.out.2.1.wide).below hW) (.inr ⟨la,n,lb,hsp,hid,hn,hla,by rw [hJ]⟩))
  have HGB:Hid (base<=g/\g < w.heap.size):=mH ⟨hbg,hgl⟩
  have hJi:(J:Int) < ps.length:=by omega
  have hpl9:(ps.length:Int)<=900:=by have:=HLT.out.2.1.n;have e:=congrArg List.length HH.out.e;rw [List.length_map] at e;omega
  have HND:=mH (And.intro hn (And.intro hsp (And.intro hla (And.intro hid (And.intro hJ hpx)))))
  clear hn hsp hla hid hJ hpx hJl hbg hgl
  obtain⟨nid,npa,⟨nk,nq,nT⟩,npo,nts⟩:=n
  go_wp2
  refine wp_region_held_drew (S:=fun w'=>w'.cell? ⟨p,0,none⟩=some (.slice (some ⟨g,0,none⟩) ps.length nc)/\w'.cell? ⟨p,1,none⟩=some (.slice ga t.gs.length gc)/\w'.cell? ⟨p,2,none⟩=some (.int .i64 t.last)/\w'.cell? ⟨p,3,none⟩=some (.int .i64 t.now)/\w'.cell? ⟨B0,0,none⟩=some (.int .i64 ki)/\w'.cell? ⟨B0,1,none⟩=some (.int .i64 id)/\w'.cell? ⟨B0,2,none⟩=some (.int .i64 sk)/\w'.cell? ⟨B0,3,none⟩=some (.int .i64 sq)/\w'.cell? ⟨B0,4,none⟩=some (.int .i64 sT)/\w'.cell? ⟨B0,5,none⟩=some (.int .i64 po)/\w'.cell? ⟨B0,6,none⟩=some (.slice oa ts.length oc)/\w'.cell? ⟨B0,7,none⟩=some (.int .i64 tm)) (by kernel_rfl) ⟨y0,y1,y2,y3,y4,y5,y6,y7,y8,y9,y10,y11⟩ (fun hHeld=>?_)
  refine tkE 0 18 (.pointer (some ⟨p,0,none⟩)) rfl rfl hHeld ?_
  simp only [sZ,sS]
  refine tkE 1 19 (.pointer (some ⟨p,0,none⟩)) rfl rfl hHeld ?_
  simp only [sZ,sS]
  refine tkE 2 20 (vTr (.slice (some ⟨g,0,none⟩) ps.length nc) (.slice ga t.gs.length gc) t) rfl rfl hHeld ?_
  simp only [sZ,sS]
  refine tkE 3 21 (.pointer (some ⟨B0,1,none⟩)) rfl rfl hHeld ?_
  simp only [sZ,sS]
  refine tkE 4 22 (.int .i64 id) rfl rfl hHeld ?_
  simp only [sZ,sS]
  refine wpAnyH_ready (rs:=[5]) (by kernel_rfl) (by simp) (AllReadyH.cons rfl (fun K hK=>?_) AllReadyH.nil)
  go_simp
  refine(HPL.out w1.drew HB1.out.drew).mono ?_
  rintro e w2 ⟨rfl,b2⟩
  have x0:w2.cell? ⟨p,0,none⟩=some (.slice (some ⟨g,0,none⟩) ps.length nc):=kc (show w1.drew.cell? _=_ from y0) b2
  have x1:w2.cell? ⟨p,1,none⟩=some (.slice ga t.gs.length gc):=kc (show w1.drew.cell? _=_ from y1) b2
  have x2:w2.cell? ⟨p,2,none⟩=some (.int .i64 t.last):=kc (show w1.drew.cell? _=_ from y2) b2
  have x3:w2.cell? ⟨p,3,none⟩=some (.int .i64 t.now):=kc (show w1.drew.cell? _=_ from y3) b2
  have x4:w2.cell? ⟨B0,0,none⟩=some (.int .i64 ki):=kc (show w1.drew.cell? _=_ from y4) b2
  have x5:w2.cell? ⟨B0,1,none⟩=some (.int .i64 id):=kc (show w1.drew.cell? _=_ from y5) b2
  have x6:w2.cell? ⟨B0,2,none⟩=some (.int .i64 sk):=kc (show w1.drew.cell? _=_ from y6) b2
  have x7:w2.cell? ⟨B0,3,none⟩=some (.int .i64 sq):=kc (show w1.drew.cell? _=_ from y7) b2
  have x8:w2.cell? ⟨B0,4,none⟩=some (.int .i64 sT):=kc (show w1.drew.cell? _=_ from y8) b2
  have x9:w2.cell? ⟨B0,5,none⟩=some (.int .i64 po):=kc (show w1.drew.cell? _=_ from y9) b2
  have x10:w2.cell? ⟨B0,6,none⟩=some (.slice oa ts.length oc):=kc (show w1.drew.cell? _=_ from y10) b2
  have x11:w2.cell? ⟨B0,7,none⟩=some (.int .i64 tm):=kc (show w1.drew.cell? _=_ from y11) b2
  have HP2:=mH ((HP1.out.below (Below.refl _ w1).drew).below b2)
  have HB2:Hid (Below w.heap.size w w2):=mH (bt HB1.out.drew b2)
  have HF2:Hid (w2.heap[B0]?=some (oOd ⟨ki,id,(sk,sq,sT),po,ts,tm⟩ (.slice oa ts.length oc))/\w2.heap[B1]?=some oRs):=mH ⟨bLt (w:=w1.drew) HF1.out.1 b2,bLt (w:=w1.drew) HF1.out.2 b2⟩
  clear b2 hHeld
  refine hK.out _ _ ⟨x0,x1,x2,x3,x4,x5,x6,x7,x8,x9,x10,x11⟩ (fun hHeld=>?_)
  clear hK K y0 y1 y2 y3 y4 y5 y6 y7 y8 y9 y10 y11
  (try simp only [Act.put])
  refine tkE 6 6 (.int .i64 (J:Int)) rfl rfl hHeld ?_
  simp only [sZ,sS]
  refine wpAnyH_done (by kernel_rfl) ?_ _
  clear hHeld
  obtain⟨⟨q0,q1,q2,q3,q4,q5,q6⟩,_⟩:=node_cells HP2.out.o.nown HND.out.2.2.2.2.2
  simp only [tvN] at q0 q1 q2 q3 q4 q5 q6
  go_wp2
  refine wp_region_held_drew (S:=fun w'=>w'.cell? ⟨p,0,none⟩=some (.slice (some ⟨g,0,none⟩) ps.length nc)/\w'.cell? ⟨g,J * 7+1,none⟩=some (.int .i64 npa)/\w'.cell? ⟨g,J * 7+2,none⟩=some (.int .i64 nk)/\w'.cell? ⟨g,J * 7+3,none⟩=some (.int .i64 nq)/\w'.cell? ⟨g,J * 7+4,none⟩=some (.int .i64 nT)) (by kernel_rfl) ⟨x0,q1,q2,q3,q4⟩ (fun hHeld=>?_)
  refine tkE 0 24 (.pointer (some ⟨p,0,none⟩)) rfl rfl hHeld ?_
  simp only [sZ,sS]
  refine tkE 1 25 (.pointer (some ⟨p,0,none⟩)) rfl rfl hHeld ?_
  simp only [sZ,sS]
  refine tkE 2 26 (.pointer (some ⟨p,0,none⟩)) rfl rfl hHeld ?_
  simp only [sZ,sS]
  refine tkE 3 27 (.slice (some ⟨g,0,none⟩) ps.length nc) rfl rfl hHeld ?_
  simp only [sZ,sS]
  refine tkE 4 28 (.int .i64 (J:Int)) rfl rfl hHeld ?_
  simp only [sZ,sS]
  refine tkE 5 29 (.pointer (some ⟨g,J * 7,none⟩)) rfl rfl hHeld ?_
  simp only [sZ,sS]
  refine tkE 6 30 (.pointer (some ⟨g,J * 7+1,none⟩)) rfl rfl hHeld ?_
  simp only [sZ,sS]
  refine tkE 7 31 (.int .i64 npa) rfl rfl hHeld ?_
  simp only [sZ,sS]
  refine tkE 8 32 (.pointer (some ⟨p,0,none⟩)) rfl rfl hHeld ?_
  simp only [sZ,sS]
  refine tkE 9 33 (.pointer (some ⟨p,0,none⟩)) rfl rfl hHeld ?_
  simp only [sZ,sS]
  refine tkE 10 34 (.pointer (some ⟨p,0,none⟩)) rfl rfl hHeld ?_
  simp only [sZ,sS]
  refine tkE 11 35 (.slice (some ⟨g,0,none⟩) ps.length nc) rfl rfl hHeld ?_
  simp only [sZ,sS]
  refine tkE 12 36 (.int .i64 (J:Int)) rfl rfl hHeld ?_
  simp only [sZ,sS]
  refine tkE 13 37 (.pointer (some ⟨g,J * 7,none⟩)) rfl rfl hHeld ?_
  simp only [sZ,sS]
  refine tkE 14 38 (.pointer (some ⟨g,J * 7+2,none⟩)) rfl rfl hHeld ?_
  simp only [sZ,sS]
  refine tkE 15 39 (.agg #[.int .i64 nk,.int .i64 nq,.int .i64 nT]) rfl rfl hHeld ?_
  simp only [sZ,sS]
  refine tkE 16 40 (.agg #[.int .i64 npa,.int .i64 nk,.int .i64 nq,.int .i64 nT,.int .i64 0]) rfl rfl hHeld ?_
  simp only [sZ,sS]
  refine wpAnyH_ready (rs:=[17]) (by kernel_rfl) (by simp) (AllReadyH.cons rfl (fun K hK=>?_) AllReadyH.nil)
  go_simp
  have b3:Below w2.heap.size w2 (w2.alloc (.cells #[.int .i64 0,.int .i64 0,.int .i64 0,.int .i64 0,.int .i64 0] 111)).drew:=(ba (Below.refl _ _) _).drew
  have hbx3:(w2.alloc (.cells #[.int .i64 0,.int .i64 0,.int .i64 0,.int .i64 0,.int .i64 0] 111)).drew.heap[w2.heap.size]?=some (.cells #[.int .i64 0,.int .i64 0,.int .i64 0,.int .i64 0,.int .i64 0] 111 (0,0)):=heap_alloc_new w2 _
  have HP3:=mH (HP2.out.below b3)
  have HF3:Hid (((w2.alloc (.cells #[.int .i64 0,.int .i64 0,.int .i64 0,.int .i64 0,.int .i64 0] 111)).drew).heap[B0]?=some (oOd ⟨ki,id,(sk,sq,sT),po,ts,tm⟩ (.slice oa ts.length oc))/\((w2.alloc (.cells #[.int .i64 0,.int .i64 0,.int .i64 0,.int .i64 0,.int .i64 0] 111)).drew).heap[B1]?=some oRs):=mH ⟨bLt HF2.out.1 b3,bLt HF2.out.2 b3⟩
  have HB3:=mH (bt HB2.out b3)
  have z0:=kc x0 b3
  have z1:=kc q1 b3
  have z2:=kc q2 b3
  have z3:=kc q3 b3
  have z4:=kc q4 b3
  refine hK.out _ _ ⟨z0,z1,z2,z3,z4⟩ (fun hHeld=>?_)
  clear hK K x0 x1 x2 x3 x4 x5 x6 x7 x8 x9 x10 x11 q0 q1 q2 q3 q4 q5 q6
  (try simp only [Act.put])
  have HW2:Hid (p < w2.heap.size/\g < w2.heap.size/\B0 < w2.heap.size/\B1 < w2.heap.size/\(Value.slice ga t.gs.length gc).ownBlock ≠ some w2.heap.size/\(∀ x ∈ ps,(tvN x).ownBlock ≠ some w2.heap.size)):=mH ⟨lOh HP2.out.blk,(HP2.out.o.nown.lt g rfl).2,lOh HF2.out.1,lOh HF2.out.2,fun e=>by have:=(HP2.out.o.gown.lt _ e).2;omega,fun x hx e=>by have:=((HP2.out.o.tk x hx).lt _ e).2;omega⟩
  obtain⟨W3,hW3⟩:∃ W3,W3=(w2.alloc (.cells #[.int .i64 0,.int .i64 0,.int .i64 0,.int .i64 0,.int .i64 0] 111)).drew:=⟨_,rfl⟩
  rw [<- hW3] at hbx3 HP3 HF3 HB3 z0 z1 z2 z3 z4 hHeld ⊢
  clear hW3 b3 HP2 HF2 HB2 HP1 HF1 HB1 HPW HFW HBW
  generalize w2.heap.size=Bg at *
  obtain⟨b0,b1,b2,b3,b4⟩:W3.cell? ⟨Bg,0,none⟩=some (.int .i64 0)/\W3.cell? ⟨Bg,1,none⟩=some (.int .i64 0)/\W3.cell? ⟨Bg,2,none⟩=some (.int .i64 0)/\W3.cell? ⟨Bg,3,none⟩=some (.int .i64 0)/\W3.cell? ⟨Bg,4,none⟩=some (.int .i64 0):=⟨cOb hbx3 rfl,cOb hbx3 rfl,cOb hbx3 rfl,cOb hbx3 rfl,cOb hbx3 rfl⟩
  have fz:∀ i,W3.frozen? ⟨Bg,i,none⟩=false:=fun i=>fOb hbx3
  have f0:=fz 0
  have f1:=fz 1
  have f2:=fz 2
  have f3:=fz 3
  have f4:=fz 4
  clear fz
  refine wpAnyH_ready (rs:=[18]) (by kernel_rfl) (by simp) (AllReadyH.cons rfl (fun K hK=>?_) AllReadyH.nil)
  go_simp
  have hk4:=set5_kept (F:=fun k=>k=Bg) (Kept.refl _ W3) (g:=Bg) (.inl rfl) 0 (.int .i64 npa) (.int .i64 nk) (.int .i64 nq) (.int .i64 nT) (.int .i64 0)
  simp only [Nat.zero_add] at hk4
  have hbx4:=hSt (i:=4) (v:=.int .i64 0) (hSt (i:=3) (v:=.int .i64 nT) (hSt (i:=2) (v:=.int .i64 nq) (hSt (i:=1) (v:=.int .i64 nk) (hSt (i:=0) (v:=.int .i64 npa) hbx3))))
  have hne:=HW2.out
  refine hK.out _ _ ⟨hk4.cell z0 (by show ¬ p=Bg;omega),hk4.cell z1 (by show ¬ g=Bg;omega),hk4.cell z2 (by show ¬ g=Bg;omega),hk4.cell z3 (by show ¬ g=Bg;omega),hk4.cell z4 (by show ¬ g=Bg;omega)⟩ (fun hHeld=>?_)
  clear hK K b0 b1 b2 b3 b4 f0 f1 f2 f3 f4 z0 z1 z2 z3 z4 hHeld
  refine wpAnyH_done (by kernel_rfl) ?_ _
  obtain⟨W4,hW4⟩:∃ W4,W4=((((W3.setCell ⟨Bg,0,none⟩ (.int .i64 npa)).setCell ⟨Bg,1,none⟩ (.int .i64 nk)).setCell ⟨Bg,2,none⟩ (.int .i64 nq)).setCell ⟨Bg,3,none⟩ (.int .i64 nT)).setCell ⟨Bg,4,none⟩ (.int .i64 0):=⟨_,rfl⟩
  rw [<- hW4] at hk4 hbx4 ⊢
  have hbx4':W4.heap[Bg]?=some (.cells #[.int .i64 npa,.int .i64 nk,.int .i64 nq,.int .i64 nT,.int .i64 0] 111 (0,0)):=by rw [hbx4];kernel_rfl
  have HBX:=mH hbx4'
  have HP4:=mH (HP3.out.off hk4 (fun k e=>by subst e;exact⟨by omega,fun e2=>by simp [Value.ownBlock] at e2;omega,hne.2.2.2.2.1,hne.2.2.2.2.2⟩))
  have HF4:Hid (W4.heap[B0]?=some (oOd ⟨ki,id,(sk,sq,sT),po,ts,tm⟩ (.slice oa ts.length oc))/\W4.heap[B1]?=some oRs):=mH ⟨(hk4.block _ (lOh HF3.out.1) (by omega)).trans HF3.out.1,(hk4.block _ (lOh HF3.out.2) (by omega)).trans HF3.out.2⟩
  have HBG:Hid (w.heap.size<=Bg):=mH (by have:=HBB.out;omega)
  have HB4:Hid (Below w.heap.size w W4):=mH (HB3.out.trans (hk4.below (fun k e=>by have:=HBG.out;omega) HB3.out.size))
  clear hW4 hk4 hbx4 hbx4' hbx3 hne HP3 HF3 HB3
  go_wp2
  obtain⟨c0,c1,c2,c3⟩:=HP4.out.cells
  have g0:W4.cell? ⟨Bg,0,none⟩=some (.int .i64 npa):=cOb HBX.out rfl
  have HFR:Hid (∀ W,Below w.heap.size w W->TrW W (.slice (some ⟨g,0,none⟩) ps.length nc) (.slice ga t.gs.length gc) ps t->Calls Tryz.prog 121 #[vTr (.slice (some ⟨g,0,none⟩) ps.length nc) (.slice ga t.gs.length gc) t,.int .i64 npa] W fun e w'=>e=.returned (.int .i64 (t.fr A npa))/\Below W.heap.size W w'):=mH (fun W hW ht=>freed_is A W t _ _ ps npa _ a ht HLT.out.2.1.wide HLT.out.2.2.2.1 HLT.out.2.2.2.2 (HLT.out.2.2.1.late (HLT.out.1 _ (hW.mono HBS.out))) rfl)
  obtain⟨U,hU⟩:∃ U,U=t.fr A npa:=⟨_,rfl⟩
  rw [<- hU] at HFR
  have HU:=mH hU
  clear hU
  refine wp_region_held_drew (S:=fun w'=>w'.cell? ⟨p,0,none⟩=some (.slice (some ⟨g,0,none⟩) ps.length nc)/\w'.cell? ⟨p,1,none⟩=some (.slice ga t.gs.length gc)/\w'.cell? ⟨p,2,none⟩=some (.int .i64 t.last)/\w'.cell? ⟨p,3,none⟩=some (.int .i64 t.now)/\w'.cell? ⟨Bg,0,none⟩=some (.int .i64 npa)) (by kernel_rfl) ⟨c0,c1,c2,c3,g0⟩ (fun hHeld=>?_)
  refine tkE 0 41 (.pointer (some ⟨p,0,none⟩)) rfl rfl hHeld ?_
  simp only [sZ,sS]
  refine tkE 1 42 (.pointer (some ⟨p,0,none⟩)) rfl rfl hHeld ?_
  simp only [sZ,sS]
  refine tkE 2 43 (vTr (.slice (some ⟨g,0,none⟩) ps.length nc) (.slice ga t.gs.length gc) t) rfl rfl hHeld ?_
  simp only [sZ,sS]
  refine tkE 3 44 (.pointer (some ⟨Bg,0,none⟩)) rfl rfl hHeld ?_
  simp only [sZ,sS]
  refine tkE 4 45 (.int .i64 npa) rfl rfl hHeld ?_
  simp only [sZ,sS]
  refine wpAnyH_ready (rs:=[5]) (by kernel_rfl) (by simp) (AllReadyH.cons rfl (fun K hK=>?_) AllReadyH.nil)
  go_simp
  refine(HFR.out W4.drew HB4.out.drew ((HP4.out.below (Below.refl _ _).drew).trw HLT.out.2.1.wide)).mono ?_
  rintro e w5 ⟨rfl,b5⟩
  have y0:=kc (show W4.drew.cell? _=_ from c0) b5
  have y1:=kc (show W4.drew.cell? _=_ from c1) b5
  have y2:=kc (show W4.drew.cell? _=_ from c2) b5
  have y3:=kc (show W4.drew.cell? _=_ from c3) b5
  have y4:=kc (show W4.drew.cell? _=_ from g0) b5
  have HP5:=mH ((HP4.out.below (Below.refl _ W4).drew).below b5)
  have HB5:=mH (bt HB4.out.drew b5)
  have HF5:Hid (w5.heap[B0]?=some (oOd ⟨ki,id,(sk,sq,sT),po,ts,tm⟩ (.slice oa ts.length oc))/\w5.heap[B1]?=some oRs):=mH ⟨bLt (w:=W4.drew) HF4.out.1 b5,bLt (w:=W4.drew) HF4.out.2 b5⟩
  have hbx5:=bLt (w:=W4.drew) HBX.out b5
  have g4:w5.cell? ⟨Bg,4,none⟩=some (.int .i64 0):=cOb hbx5 rfl
  have f4:w5.frozen? ⟨Bg,4,none⟩=false:=fOb hbx5
  have HBX5:=mH hbx5
  clear b5 hbx5 hHeld
  refine hK.out _ _ ⟨y0,y1,y2,y3,y4⟩ (fun hHeld=>?_)
  clear hK K c0 c1 c2 c3 g0 HP4 HB4 HF4 HBX
  (try simp only [Act.put])
  refine tkE 6 47 (.pointer (some ⟨Bg,4,none⟩)) rfl rfl hHeld ?_
  simp only [sZ,sS]
  refine wpAnyH_ready (rs:=[7]) (by kernel_rfl) (by simp) (AllReadyH.cons rfl (fun K hK=>?_) AllReadyH.nil)
  go_simp
  have hk6:=Kept.setCell (F:=fun k=>k=Bg) w5 (p:=⟨Bg,4,none⟩) rfl (.int .i64 U)
  have hne:=HW2.out
  have hbx6:=hSt (i:=4) (v:=.int .i64 U) HBX5.out
  have hbx6':(w5.setCell ⟨Bg,4,none⟩ (.int .i64 U)).heap[Bg]?=some (.cells #[.int .i64 npa,.int .i64 nk,.int .i64 nq,.int .i64 nT,.int .i64 U] 111 (0,0)):=by rw [hbx6];kernel_rfl
  refine hK.out _ _ ⟨hk6.cell y0 (by show ¬ p=Bg;omega),hk6.cell y1 (by show ¬ p=Bg;omega),hk6.cell y2 (by show ¬ p=Bg;omega),hk6.cell y3 (by show ¬ p=Bg;omega),cOb hbx6' rfl⟩ (fun hHeld=>?_)
  clear hK K y0 y1 y2 y3 y4 g4 f4 hHeld hbx6
  refine wpAnyH_done (by kernel_rfl) ?_ _
  have HBX6:=mH hbx6'
  have HP6:=mH (HP5.out.off hk6 (fun k e=>by subst e;exact⟨by omega,fun e2=>by simp [Value.ownBlock] at e2;omega,hne.2.2.2.2.1,hne.2.2.2.2.2⟩))
  have HF6:Hid ((w5.setCell ⟨Bg,4,none⟩ (.int .i64 U)).heap[B0]?=some (oOd ⟨ki,id,(sk,sq,sT),po,ts,tm⟩ (.slice oa ts.length oc))/\(w5.setCell ⟨Bg,4,none⟩ (.int .i64 U)).heap[B1]?=some oRs):=mH ⟨(hk6.block _ (lOh HF5.out.1) (by omega)).trans HF5.out.1,(hk6.block _ (lOh HF5.out.2) (by omega)).trans HF5.out.2⟩
  have HB6:Hid (Below w.heap.size w (w5.setCell ⟨Bg,4,none⟩ (.int .i64 U))):=mH (HB5.out.trans (hk6.below (fun k e=>by have:=HBG.out;omega) HB5.out.size))
  clear hk6 hbx6' hne HP5 HF5 HB5 HBX5
  generalize w5.setCell ⟨Bg,4,none⟩ (.int .i64 U)=W6 at *
  obtain⟨c0,c1,c2,c3⟩:=HP6.out.cells
  have ewJ:IntKind.i64.wrap ((J:Int)+1)=(J:Int)+1:=wfit (by omega) (by omega)
  have HJL:Hid (J < ps.length/\ps.length<=1000):=mH ⟨by omega,by omega⟩
  go_wp2_with (go_at_call 122;refine(delN_is base _ g nc J ps HP6.out.o.nown HJL.out.2 HJL.out.1).mono ?_;rintro e w7 ⟨rfl,ho7,k7⟩;have HO7:=mH (And.intro ho7 k7);have hb7:=(k7.block p (lOh HP6.out.blk) (fun e=>HP6.out.pn (by rw [e];rfl))).trans HP6.out.blk;clear c0 c1 c2 c3;obtain⟨c0,c1,c2,c3⟩:=four hb7;have u0:w7.frozen? ⟨p,0,none⟩=false:=fOb hb7;clear ho7 k7 hb7)
  have HP8:=mH (HP6.out.dropN HJL.out.1 HO7.out.1 HO7.out.2)
  have hk8:Kept (fun k=>k=g ∨ k=p) W6 (w7.setCell ⟨p,0,none⟩ (.slice (some ⟨g,0,none⟩) (ps.length - 1) nc)):=kset (F:=fun k=>k=g ∨ k=p) (HO7.out.2.mono (fun _ h=>.inl h)) (.inl (.inr rfl)) 0 _
  have hne:=HW2.out
  have hgb:=HGB.out
  have hbb:=HBB.out
  have HF8:Hid ((w7.setCell ⟨p,0,none⟩ (.slice (some ⟨g,0,none⟩) (ps.length - 1) nc)).heap[B0]?=some (oOd ⟨ki,id,(sk,sq,sT),po,ts,tm⟩ (.slice oa ts.length oc))/\(w7.setCell ⟨p,0,none⟩ (.slice (some ⟨g,0,none⟩) (ps.length - 1) nc)).heap[B1]?=some oRs):=mH ⟨(hk8.block _ (lOh HF6.out.1) (by omega)).trans HF6.out.1,(hk8.block _ (lOh HF6.out.2) (by omega)).trans HF6.out.2⟩
  have HBX8:Hid ((w7.setCell ⟨p,0,none⟩ (.slice (some ⟨g,0,none⟩) (ps.length - 1) nc)).heap[Bg]?=some (.cells #[.int .i64 npa,.int .i64 nk,.int .i64 nq,.int .i64 nT,.int .i64 U] 111 (0,0))):=mH ((hk8.block _ (lOh HBX6.out) (by omega)).trans HBX6.out)
  have HB8:Hid (Below base w (w7.setCell ⟨p,0,none⟩ (.slice (some ⟨g,0,none⟩) (ps.length - 1) nc))/\base<=(w7.setCell ⟨p,0,none⟩ (.slice (some ⟨g,0,none⟩) (ps.length - 1) nc)).heap.size):=mH ⟨(HB6.out.mono HBS.out).trans (hk8.below (fun k e=>by have:=HP6.out.bp;omega) (by have:=HB6.out.size;have:=HBS.out;omega)),by have:=hk8.size;have:=HB6.out.size;have:=HBS.out;omega⟩
  clear hk8 hne hgb hbb c0 c1 c2 c3 u0 HP6 HF6 HB6 HBX6 HO7
  generalize w7.setCell ⟨p,0,none⟩ (.slice (some ⟨g,0,none⟩) (ps.length - 1) nc)=W8 at *
  obtain⟨c0,c1,c2,c3⟩:=HP8.out.cells
  simp only at c1 c2 c3
  obtain⟨g0,g1,g2,g3,g4⟩:W8.cell? ⟨Bg,0,none⟩=some (.int .i64 npa)/\W8.cell? ⟨Bg,1,none⟩=some (.int .i64 nk)/\W8.cell? ⟨Bg,2,none⟩=some (.int .i64 nq)/\W8.cell? ⟨Bg,3,none⟩=some (.int .i64 nT)/\W8.cell? ⟨Bg,4,none⟩=some (.int .i64 U):=⟨cOb HBX8.out rfl,cOb HBX8.out rfl,cOb HBX8.out rfl,cOb HBX8.out rfl,cOb HBX8.out rfl⟩
  have hT:W8.drew.cell? ⟨p,1,none⟩=some (.slice ga t.gs.length gc)/\W8.drew.cell? ⟨Bg,0,none⟩=some (.int .i64 npa)/\W8.drew.cell? ⟨Bg,1,none⟩=some (.int .i64 nk)/\W8.drew.cell? ⟨Bg,2,none⟩=some (.int .i64 nq)/\W8.drew.cell? ⟨Bg,3,none⟩=some (.int .i64 nT)/\W8.drew.cell? ⟨Bg,4,none⟩=some (.int .i64 U):=⟨c1,g0,g1,g2,g3,g4⟩
  refine wp_region_till (fun w'=>w'.cell? ⟨p,1,none⟩=some (.slice ga t.gs.length gc)/\w'.cell? ⟨Bg,0,none⟩=some (.int .i64 npa)/\w'.cell? ⟨Bg,1,none⟩=some (.int .i64 nk)/\w'.cell? ⟨Bg,2,none⟩=some (.int .i64 nq)/\w'.cell? ⟨Bg,3,none⟩=some (.int .i64 nT)/\w'.cell? ⟨Bg,4,none⟩=some (.int .i64 U)) 10 (by kernel_rfl) ?_
  refine frE 0 59 (.pointer (some ⟨p,0,none⟩)) rfl rfl (fun _=>hT) ?_
  simp only [sZ,sS]
  refine frE 1 60 (.pointer (some ⟨p,0,none⟩)) rfl rfl (fun _=>hT) ?_
  simp only [sZ,sS]
  refine frE 2 61 (.pointer (some ⟨p,0,none⟩)) rfl rfl (fun _=>hT) ?_
  simp only [sZ,sS]
  refine frE 3 62 (.pointer (some ⟨p,1,none⟩)) rfl rfl (fun _=>hT) ?_
  simp only [sZ,sS]
  refine fiE 4 63 (.slice ga t.gs.length gc) rfl rfl hT ?_
  simp only [sZ,sS]
  refine fiE 5 64 (.agg #[.int .i64 npa,.int .i64 nk,.int .i64 nq,.int .i64 nT,.int .i64 U]) rfl rfl hT ?_
  simp only [sZ,sS]
  refine wpT_ready (rs:=[6]) (by kernel_rfl) (by simp) (AllT.cons rfl (fun K hK=>?_) AllT.nil)
  go_simp
  obtain⟨W9,hW9⟩:∃ W9,W9=(W8.alloc (.cells #[.int .i64 npa,.int .i64 nk,.int .i64 nq,.int .i64 nT,.int .i64 U] 111)).drew:=⟨_,rfl⟩
  have b9:Below W8.heap.size W8 W9:=by rw [hW9];exact(ba (Below.refl _ _) _).drew
  have HR9:Hid (RowIn 5 c5 W9 (.slice (some ⟨W8.heap.size,0,none⟩) 1 1) [(⟨npa,(nk,nq,nT),U⟩:Gh)]):=mH (by
   rw [hW9]
   exact RowIn.below (rowOne (f:=c5) (⟨npa,(nk,nq,nT),U⟩:Gh) W8 111) (Below.refl _ _).drew)
  have HP9:=mH (HP8.out.below b9)
  have HF9:Hid (W9.heap[B0]?=some (oOd ⟨ki,id,(sk,sq,sT),po,ts,tm⟩ (.slice oa ts.length oc))/\W9.heap[B1]?=some oRs):=mH ⟨bLt HF8.out.1 b9,bLt HF8.out.2 b9⟩
  have HBX9:=mH (bLt HBX8.out b9)
  have HB9:Hid (Below base w W9/\base<=W9.heap.size):=mH ⟨HB8.out.1.trans (b9.mono HB8.out.2),by have:=b9.size;have:=HB8.out.2;omega⟩
  rw [<- hW9]
  clear hW9 b9 hT c0 c1 c2 c3 g0 g1 g2 g3 g4 HP8 HF8 HB8 HBX8
  obtain⟨c0,c1,c2,c3⟩:=HP9.out.cells
  simp only at c1 c2 c3
  obtain⟨g0,g1,g2,g3,g4⟩:W9.cell? ⟨Bg,0,none⟩=some (.int .i64 npa)/\W9.cell? ⟨Bg,1,none⟩=some (.int .i64 nk)/\W9.cell? ⟨Bg,2,none⟩=some (.int .i64 nq)/\W9.cell? ⟨Bg,3,none⟩=some (.int .i64 nT)/\W9.cell? ⟨Bg,4,none⟩=some (.int .i64 U):=⟨cOb HBX9.out rfl,cOb HBX9.out rfl,cOb HBX9.out rfl,cOb HBX9.out rfl,cOb HBX9.out rfl⟩
  refine hK.out _ _ (fun _=>⟨c1,g0,g1,g2,g3,g4⟩) ?_
  clear hK K
  (try simp only [Act.put])
  generalize W8.heap.size=z8 at *
  refine wpT_ready (rs:=[7]) (by kernel_rfl) (by simp) (AllT.cons rfl (fun K hK=>?_) AllT.nil)
  refine step_append_src5 (w:=W9) rfl (.tmp 63) (.tmp 65) 28 28 rfl base 111 ie Tryz.underlying28 hie.out.1 (.agg #[.int .i64 0,.int .i64 0,.int .i64 0,.int .i64 0,.int .i64 0]) 40 hie.out.2.1 rfl hie.out.2.2.1 hie.out.2.2.2 (.slice ga t.gs.length gc) t.gs.length (t.gs.flatMap c5) (by simp [Act.eval]) HP9.out.o.gown _ 1 (c5 (⟨npa,(nk,nq,nT),U⟩:Gh)) (by simp [Act.eval]) (srcOne (f:=c5) (x:=(⟨npa,(nk,nq,nT),U⟩:Gh)) Tryz.underlying28 (by omega) c5_len one5 HR9.out) (by have:=HLT.out.2.1.g;unfold maxLen;omega) (by have:=HLT.out.2.1.g;omega) HB9.out.2 ?_
  intro v10 w10 ho10 hg10 hat10
  have HPN:=mH (HP9.out.pushG (x:=⟨npa,(nk,nq,nT),U⟩) ho10 hg10 hat10)
  have hk10:=Kept.grown hg10 (F:=fun k=>(Value.slice ga t.gs.length gc).ownBlock=some k) (fun k hk=>hk)
  obtain⟨ga6,gc6,hv6,_⟩:=own_sh ho10
  subst hv6
  have hpb:=(hk10.block p (lOh HP9.out.blk) HP9.out.pg).trans HP9.out.blk
  obtain⟨e0,e1,e2,e3⟩:=four hpb
  have u1:w10.frozen? ⟨p,1,none⟩=false:=fOb hpb
  simp only at e1 e2 e3
  have HGL:Hid (∀ k,k=B0 ∨ k=B1->(Value.slice ga t.gs.length gc).ownBlock ≠ some k):=mH (fun k e e2=>by have:=HNE.out.2.2 k e2;have:=HBB.out;omega)
  have hgg:¬ (Value.slice ga t.gs.length gc).ownBlock=some Bg:=HW2.out.2.2.2.2.1
  have s0:=hk10.cell g0 hgg
  have s1:=hk10.cell g1 hgg
  have s2:=hk10.cell g2 hgg
  have s3:=hk10.cell g3 hgg
  have s4:=hk10.cell g4 hgg
  have HGN:Hid ((Value.slice ga6 (t.gs.length+1) gc6).ownBlock ≠ some B1):=mH (fun e=>by
   rcases hat10 with a | a
   ·rw [a] at e;have:=HNE.out.2.2 _ e;have:=HBB.out;omega
   ·rw [a] at e;simp at e;have:=lOh HF9.out.2;omega)
  have HF10:Hid (w10.heap[B0]?=some (oOd ⟨ki,id,(sk,sq,sT),po,ts,tm⟩ (.slice oa ts.length oc))/\w10.heap[B1]?=some oRs):=mH ⟨(hk10.block _ (lOh HF9.out.1) (HGL.out _ (.inl rfl))).trans HF9.out.1,(hk10.block _ (lOh HF9.out.2) (HGL.out _ (.inr rfl))).trans HF9.out.2⟩
  have HB10:Hid (Below base w w10/\base<=w10.heap.size):=mH ⟨HB9.out.1.grown hg10 HB9.out.2 (fun k hk=>(HP9.out.o.gown.lt k hk).1),by have:=hk10.size;have:=HB9.out.2;omega⟩
  clear c0 c1 c2 c3 g0 g1 g2 g3 g4 ho10 hg10 hat10 hk10 hpb hgg
  refine hK.out _ _ (fun _=>⟨e1,s0,s1,s2,s3,s4⟩) ?_
  clear hK K
  (try simp only [Act.put])
  refine freeD 8 67 (.pointer (some ⟨p,0,none⟩)) rfl rfl (by kernel_rfl) (by kernel_rfl) (by kernel_rfl) (by decide) (fun _ _ _ h=>h) (fun _=>⟨e1,s0,s1,s2,s3,s4⟩) (Or.inl ⟨by kernel_rfl,by intro w _;go_simp⟩) ?_
  simp only [sZ,sS]
  refine freeD 9 68 (.pointer (some ⟨p,1,none⟩)) rfl rfl (by kernel_rfl) (by kernel_rfl) (by kernel_rfl) (by decide) (fun _ _ _ h=>h) (fun _=>⟨e1,s0,s1,s2,s3,s4⟩) (Or.inl ⟨by kernel_rfl,by intro w _;go_simp⟩) ?_
  simp only [sZ,sS]
  refine wpT_ready (rs:=[10]) (by kernel_rfl) (by simp) (AllT.cons rfl (fun K hK=>?_) AllT.nil)
  go_simp
  refine hK.out _ _ (bool_no (by kernel_rfl)) ?_
  clear hK K e0 e1 e2 e3 u1 s0 s1 s2 s3 s4
  refine wpT_done (by kernel_rfl) ?_ _
  have hk11:=Kept.setCell (F:=fun k=>k=p) w10 (p:=⟨p,1,none⟩) rfl (.slice ga6 (t.gs.length+1) gc6)
  have HF11:Hid ((w10.setCell ⟨p,1,none⟩ (.slice ga6 (t.gs.length+1) gc6)).heap[B0]?=some (oOd ⟨ki,id,(sk,sq,sT),po,ts,tm⟩ (.slice oa ts.length oc))/\(w10.setCell ⟨p,1,none⟩ (.slice ga6 (t.gs.length+1) gc6)).heap[B1]?=some oRs):=mH ⟨(hk11.block _ (lOh HF10.out.1) (by have:=HBB.out;omega)).trans HF10.out.1,(hk11.block _ (lOh HF10.out.2) (by have:=HBB.out;omega)).trans HF10.out.2⟩
  have HB11:Hid (Below base w (w10.setCell ⟨p,1,none⟩ (.slice ga6 (t.gs.length+1) gc6))/\base<=(w10.setCell ⟨p,1,none⟩ (.slice ga6 (t.gs.length+1) gc6)).heap.size):=mH ⟨setG_below HB10.out.1 HP9.out.bp _ HB10.out.2,by have:=HB10.out.2;simpa [World.setCell] using this⟩
  clear hk11 HF10 HB10 HP9 HF9 HB9 HR9 HBX9
  generalize w10.setCell ⟨p,1,none⟩ (.slice ga6 (t.gs.length+1) gc6)=W11 at *
  obtain⟨d0,d1,d2,d3,d4,d5,d6,d7⟩:=eight HF11.out.1
  obtain⟨r0,r1⟩:=two HF11.out.2
  have v0:=eight_f HF11.out.2 0
  have v1:=eight_f HF11.out.2 1
  go_wp2
  have hkr:Kept (fun k=>k=B1) W11 ((W11.setCell ⟨B1,0,none⟩ (.int .i64 0)).setCell ⟨B1,1,none⟩ (.int .i64 id)):=kset (F:=fun k=>k=B1) (kset (F:=fun k=>k=B1) (Kept.refl _ _) (.inl rfl) 0 _) (.inl rfl) 1 _
  obtain⟨hn,hsp,hla,hid,hJ,hpx⟩:=HND.out
  have hpar:t.par id=npa:=par_of hn
  have hown:t.own id=(nk,nq,nT):=own_of hn
  have hset:dropL t.ns id=nds (ps.eraseIdx J):=by
   rw [nds_erase,HH.out.e,hsp,hJ,erase_mid,dropL_split hid hla]
  rw [HT2.out,hpar,hown,hset,<- HU.out]
  have hfin:=HPN.out.off hkr (fun k e=>by
   subst e
   exact⟨(HNB.out _ rfl).1,(HNB.out _ rfl).2.1,HGN.out,fun x hx=>(HNB.out _ rfl).2.2.2 x (List.mem_of_mem_eraseIdx hx)⟩)
  have hfb:=HB11.out.1.trans (hkr.below (fun k e=>by have:=HBB.out;omega) HB11.out.2)
  first
   |exact bodyPost_ret (leaves1 rfl (set2_heap HF11.out.2 _ _) Tryz.underlying94 size_result _ rfl) rfl ⟨_,_,_,rfl,hfin,hfb⟩
   |exact bodyPost_ret (leaves1 rfl (set2_heap HF11.out.2 _ _) Tryz.underlying94 size_result _ rfl) rfl ⟨rfl,⟨_,_,_,hfin⟩,hfb⟩
 ·have ht:=HTC.out
  rw [if_pos hC0] at ht
  have HT2:=mH ht
  clear ht HTC
  have hC0':(C == 0)=false:=by simpa using hC0
  clear hC0
  obtain⟨r0,r1⟩:=two HF1.out.2
  have f0:=eight_f HF1.out.2 0
  have f1:=eight_f HF1.out.2 1
  go_wp2_with (go_at_call 71;refine(refused_is _ _).mono ?_;rintro e w2 ⟨rfl,b2⟩;have hx2:=bLt HF1.out.2 b2;clear r0 r1 f0 f1;obtain⟨r0,r1⟩:=two hx2;have f0:=eight_f hx2 0;have f1:=eight_f hx2 1;have HX2:=mH hx2;have HP2:=mH (HP1.out.below b2);have HB2:=mH (bt HB1.out b2);clear hx2 b2)
  have hkr:Kept (fun k=>k=B1) w2 ((w2.setCell ⟨B1,0,none⟩ (.int .i64 C)).setCell ⟨B1,1,none⟩ (.int .i64 0)):=kset (F:=fun k=>k=B1) (kset (F:=fun k=>k=B1) (Kept.refl _ _) (.inl rfl) 0 _) (.inl rfl) 1 _
  rw [HT2.out]
  refine bodyPost_ret (leaves1 rfl (set2_heap HX2.out _ _) Tryz.underlying94 size_result _ rfl) rfl ⟨_,_,ps,rfl,HP2.out.off hkr HNB.out,(HB2.out.mono HBS.out).trans (hkr.below (fun k e=>by have:=HBB.out;omega) (by have:=HB2.out.size;have:=HBS.out;omega))⟩
set_option maxHeartbeats 25600000 in
theorem bind_is (A:Ops) (base:Nat) (w0 w:World) (p:Nat) (t:Tr) (nv gv:Value) (ps:List Np) (o:Od) (oa:Option Addr) (oc:Nat) (a:Nat->Addr) (hw0:Below base w0 w) (hbs:base=w0.heap.size) (h:TrP base w p nv gv ps t) (hs:t.Sm 900) (hn0:0<=t.now) (hn1:t.now<=1099511627776) (hl0:0<=t.last) (E:Er6 w0 a) (hot:Tks w0 (.slice oa o.ts.length oc) o.ts) (hoc:o.ts.length<=oc) (hot8:o.ts.length * 32<=140737488355328) :
  Calls Tryz.prog 98 #[.pointer (some ⟨p,0,none⟩),vOd o (.slice oa o.ts.length oc)] w fun e w'=>∃ nv' gv' ps',e=.returned (vRs (t.bind A o).2)/\TrP base w' p nv' gv' ps' (t.bind A o).1/\Below base w w':=by
 have hs':t.Sm 1000:=⟨by have:=hs.n;omega,by have:=hs.g;omega,by have:=hs.l;omega,hs.s⟩
 have hlate:∀ W,Below base w W->Below w0.heap.size w0 W:=fun W hW=>by rw [<- hbs];exact hw0.trans hW
 have HBS:Hid (base<=w.heap.size):=mH (by have:=h.bp;have:=lOh h.blk;omega)
 have HCD:Hid (∀ W,Below w.heap.size w W->Calls Tryz.prog 123 #[vTr nv gv t,vOd o (.slice oa o.ts.length oc)] W fun e w'=>e=.returned (.int .i64 (t.bdC A o))/\Below W.heap.size W w'):=mH (fun W hW=>bdC_is A W t nv gv ps o oa oc _ a ((h.trw hs').below hW) hs' (E.late (hlate W (hW.mono HBS.out))) (hot.below (hlate W (hW.mono HBS.out))) hoc rfl)
 have HCT:Hid (∀ W,Below w.heap.size w W->Calls Tryz.prog 28 #[.slice oa o.ts.length oc] W fun r w'=>∃ a2 c2,r=.returned (.slice a2 o.ts.length c2)/\w'.ownsRow W.heap.size 45 4 (.slice a2 o.ts.length c2) o.ts.length (o.ts.flatMap c4)/\Below W.heap.size W w'):=mH (fun W hW=>cloneT_any W oa oc o.ts (fun X hX=>(hot.below (hlate X ((hW.mono HBS.out).trans (hX.mono (by have:=hW.size;have:=HBS.out;omega))))).src) (fun e=>tks_nil hot e) (by omega))
 obtain⟨TC,hTC⟩:∃ TC,TC=t.bind A o:=⟨_,rfl⟩
 rw [<- hTC]
 unfold Tr.bind at hTC
 have HH:=mH h
 obtain⟨na,nc,hnv,_⟩:=own_sh h.o.nown
 obtain⟨ga,gc,hgv,_⟩:=own_sh h.o.gown
 subst hnv hgv
 obtain⟨ki,id,⟨sk,sq,sT⟩,po,ts,tm⟩:=o
 simp only at HCD hTC HCT ⊢
 obtain⟨C,hC⟩:∃ C,C=t.bdC A ⟨ki,id,(sk,sq,sT),po,ts,tm⟩:=⟨_,rfl⟩
 rw [<- hC] at HCD hTC
 have HC:=mH hC
 clear hC
 have HTC:=mH hTC
 have HLT:=mH (And.intro hlate (And.intro hs (And.intro E (And.intro hn0 hn1))))
 clear hTC h hs hs' hw0 hot hoc E hlate hn0 hn1 hbs
 go_enter Tryz.func98,Tryz.ntmps98
 go_wp2
 obtain⟨W,hW⟩:∃ W,W=(w.alloc (oOd ⟨ki,id,(sk,sq,sT),po,ts,tm⟩ (.slice oa ts.length oc))).alloc oRs:=⟨_,rfl⟩
 have HPW:Hid (TrP base W p (.slice na ps.length nc) (.slice ga t.gs.length gc) ps t):=mH (by rw [hW];exact HH.out.below (ba (ba (Below.refl _ _) _) _))
 have HBW:Hid (Below w.heap.size w W):=mH (by rw [hW];exact ba (ba (Below.refl _ _) _) _)
 have HFW:Hid (W.heap[w.heap.size]?=some (oOd ⟨ki,id,(sk,sq,sT),po,ts,tm⟩ (.slice oa ts.length oc))/\W.heap[w.heap.size+1]?=some oRs):=mH (by
  rw [hW]
  exact⟨(heap_alloc_old _ _ (by simp)).trans (heap_alloc_new w _),by have:=heap_alloc_new (w.alloc (oOd ⟨ki,id,(sk,sq,sT),po,ts,tm⟩ (.slice oa ts.length oc))) oRs;simpa using this⟩)
 have HNE:Hid (p < w.heap.size/\(∀ k,(Value.slice na ps.length nc).ownBlock=some k->k < w.heap.size)/\(∀ k,(Value.slice ga t.gs.length gc).ownBlock=some k->k < w.heap.size)):=mH ⟨lOh HH.out.blk,fun k e=>(HH.out.o.nown.lt k e).2,fun k e=>(HH.out.o.gown.lt k e).2⟩
 rw [<- hW]
 clear hW
 obtain⟨B0,hB0⟩:∃ B0,B0=w.heap.size:=⟨_,rfl⟩
 obtain⟨B1,hB1⟩:∃ B1,B1=w.heap.size+1:=⟨_,rfl⟩
 rw [<- hB1,<- hB0] at HFW
 rw [<- hB1,<- hB0]
 have HBB:Hid (p < B0/\B1=B0+1/\B0=w.heap.size/\base<=B0):=mH ⟨by have:=HNE.out.1;omega,by omega,hB0,by have:=HBS.out;omega⟩
 clear hB0 hB1
 obtain⟨c0,c1,c2,c3⟩:=HPW.out.cells
 obtain⟨d0,d1,d2,d3,d4,d5,d6,d7⟩:=eight HFW.out.1
 have HNB:Hid (∀ k,k=B1->¬ k=p/\(Value.slice na ps.length nc).ownBlock ≠ some k/\(Value.slice ga t.gs.length gc).ownBlock ≠ some k/\∀ x ∈ ps,(tvN x).ownBlock ≠ some k):=mH (fun k e=>by
  have hb:=HBB.out
  have hn:=HNE.out
  refine⟨by omega,fun e2=>?_,fun e2=>?_,fun x hx e2=>?_⟩
  ·have:=hn.2.1 k e2;omega
  ·have:=hn.2.2 k e2;omega
  ·have:=((HH.out.o.tk x hx).lt k e2).2;omega)
 refine wp_region_held_drew (S:=fun w'=>w'.cell? ⟨p,0,none⟩=some (.slice na ps.length nc)/\w'.cell? ⟨p,1,none⟩=some (.slice ga t.gs.length gc)/\w'.cell? ⟨p,2,none⟩=some (.int .i64 t.last)/\w'.cell? ⟨p,3,none⟩=some (.int .i64 t.now)/\w'.cell? ⟨B0,0,none⟩=some (.int .i64 ki)/\w'.cell? ⟨B0,1,none⟩=some (.int .i64 id)/\w'.cell? ⟨B0,2,none⟩=some (.int .i64 sk)/\w'.cell? ⟨B0,3,none⟩=some (.int .i64 sq)/\w'.cell? ⟨B0,4,none⟩=some (.int .i64 sT)/\w'.cell? ⟨B0,5,none⟩=some (.int .i64 po)/\w'.cell? ⟨B0,6,none⟩=some (.slice oa ts.length oc)/\w'.cell? ⟨B0,7,none⟩=some (.int .i64 tm)) (by kernel_rfl) ⟨c0,c1,c2,c3,d0,d1,d2,d3,d4,d5,d6,d7⟩ (fun hHeld=>?_)
 refine tkE 0 7 (.pointer (some ⟨p,0,none⟩)) rfl rfl hHeld ?_
 simp only [sZ,sS]
 refine tkE 1 8 (.pointer (some ⟨p,0,none⟩)) rfl rfl hHeld ?_
 simp only [sZ,sS]
 refine tkE 2 9 (vTr (.slice na ps.length nc) (.slice ga t.gs.length gc) t) rfl rfl hHeld ?_
 simp only [sZ,sS]
 refine tkE 3 10 (.agg #[.int .i64 ki,.int .i64 id,.int .i64 sk,.int .i64 sq,.int .i64 sT,.int .i64 po,.slice oa ts.length oc,.int .i64 tm]) rfl rfl hHeld ?_
 simp only [sZ,sS]
 refine wpAnyH_ready (rs:=[4]) (by kernel_rfl) (by simp) (AllReadyH.cons rfl (fun K hK=>?_) AllReadyH.nil)
 go_simp
 refine(HCD.out W.drew HBW.out.drew).mono ?_
 rintro e w1 ⟨rfl,b1⟩
 have y0:w1.cell? ⟨p,0,none⟩=some (.slice na ps.length nc):=kc (show W.drew.cell? _=_ from c0) b1
 have y1:w1.cell? ⟨p,1,none⟩=some (.slice ga t.gs.length gc):=kc (show W.drew.cell? _=_ from c1) b1
 have y2:w1.cell? ⟨p,2,none⟩=some (.int .i64 t.last):=kc (show W.drew.cell? _=_ from c2) b1
 have y3:w1.cell? ⟨p,3,none⟩=some (.int .i64 t.now):=kc (show W.drew.cell? _=_ from c3) b1
 have y4:w1.cell? ⟨B0,0,none⟩=some (.int .i64 ki):=kc (show W.drew.cell? _=_ from d0) b1
 have y5:w1.cell? ⟨B0,1,none⟩=some (.int .i64 id):=kc (show W.drew.cell? _=_ from d1) b1
 have y6:w1.cell? ⟨B0,2,none⟩=some (.int .i64 sk):=kc (show W.drew.cell? _=_ from d2) b1
 have y7:w1.cell? ⟨B0,3,none⟩=some (.int .i64 sq):=kc (show W.drew.cell? _=_ from d3) b1
 have y8:w1.cell? ⟨B0,4,none⟩=some (.int .i64 sT):=kc (show W.drew.cell? _=_ from d4) b1
 have y9:w1.cell? ⟨B0,5,none⟩=some (.int .i64 po):=kc (show W.drew.cell? _=_ from d5) b1
 have y10:w1.cell? ⟨B0,6,none⟩=some (.slice oa ts.length oc):=kc (show W.drew.cell? _=_ from d6) b1
 have y11:w1.cell? ⟨B0,7,none⟩=some (.int .i64 tm):=kc (show W.drew.cell? _=_ from d7) b1
 have HP1:Hid (TrP base w1 p (.slice na ps.length nc) (.slice ga t.gs.length gc) ps t):=mH ((HPW.out.below (Below.refl _ W).drew).below b1)
 have HB1:Hid (Below w.heap.size w w1):=mH (bt HBW.out.drew b1)
 have HF1:Hid (w1.heap[B0]?=some (oOd ⟨ki,id,(sk,sq,sT),po,ts,tm⟩ (.slice oa ts.length oc))/\w1.heap[B1]?=some oRs):=mH ⟨bLt (w:=W.drew) HFW.out.1 b1,bLt (w:=W.drew) HFW.out.2 b1⟩
 clear b1 hHeld
 refine hK.out _ _ ⟨y0,y1,y2,y3,y4,y5,y6,y7,y8,y9,y10,y11⟩ (fun hHeld=>?_)
 clear hK K c0 c1 c2 c3 d0 d1 d2 d3 d4 d5 d6 d7
 (try simp only [Act.put])
 refine tkE 5 5 (.int .i64 C) rfl rfl hHeld ?_
 simp only [sZ,sS]
 refine wpAnyH_done (by kernel_rfl) ?_ _
 clear hHeld
 by_cases hC0:C=0
 ·subst hC0
  have ht:=HTC.out
  rw [if_neg (by omega)] at ht
  have HT2:=mH ht
  clear ht HTC
  obtain⟨⟨n,hn⟩,_⟩:=leaf_facts ((bdC_zero HC.out.symm).2.1)
  obtain⟨la,lb,hsp,hla⟩:=nd_split hn
  have hid:=(nd_some hn).2
  obtain⟨ax,cx,hpx⟩:=(HH.out.trw HLT.out.2.1.wide).split hsp
  obtain⟨J,hJ⟩:∃ J,J=la.length:=⟨_,rfl⟩
  rw [<- hJ] at hpx
  have hJl:J < ps.length:=(List.getElem?_eq_some_iff.mp hpx).1
  obtain⟨g,cg,hga,hbg,hgl⟩:=own_addr HH.out.o.nown hJl
  simp only [Value.slice.injEq] at hga
  obtain⟨rfl,_,rfl⟩:=hga
  have HPL:Hid (∀ W,Below w.heap.size w W->Calls Tryz.prog 119 #[vTr (.slice (some ⟨g,0,none⟩) ps.length nc) (.slice ga t.gs.length gc) t,.int .i64 id] W fun e w'=>e=.returned (.int .i64 (J:Int))/\Below W.heap.size W w'):=mH (fun W hW=>place_is W t _ _ ps id J ((HH.out.trw HLT.out.2.1.wide).below hW) (.inr ⟨la,n,lb,hsp,hid,hn,hla,by rw [hJ]⟩))
  have HGB:Hid (base<=g/\g < w.heap.size):=mH ⟨hbg,hgl⟩
  have hJi:(J:Int) < ps.length:=by omega
  have hpl9:(ps.length:Int)<=900:=by have:=HLT.out.2.1.n;have e:=congrArg List.length HH.out.e;rw [List.length_map] at e;omega
  have HND:=mH (And.intro hn (And.intro hsp (And.intro hla (And.intro hid (And.intro hJ hpx)))))
  clear hn hsp hla hid hJ hpx hJl hbg hgl
  obtain⟨nid,npa,⟨nk,nq,nT⟩,npo,nts⟩:=n
  go_wp2
  refine wp_region_held_drew (S:=fun w'=>w'.cell? ⟨p,0,none⟩=some (.slice (some ⟨g,0,none⟩) ps.length nc)/\w'.cell? ⟨p,1,none⟩=some (.slice ga t.gs.length gc)/\w'.cell? ⟨p,2,none⟩=some (.int .i64 t.last)/\w'.cell? ⟨p,3,none⟩=some (.int .i64 t.now)/\w'.cell? ⟨B0,0,none⟩=some (.int .i64 ki)/\w'.cell? ⟨B0,1,none⟩=some (.int .i64 id)/\w'.cell? ⟨B0,2,none⟩=some (.int .i64 sk)/\w'.cell? ⟨B0,3,none⟩=some (.int .i64 sq)/\w'.cell? ⟨B0,4,none⟩=some (.int .i64 sT)/\w'.cell? ⟨B0,5,none⟩=some (.int .i64 po)/\w'.cell? ⟨B0,6,none⟩=some (.slice oa ts.length oc)/\w'.cell? ⟨B0,7,none⟩=some (.int .i64 tm)) (by kernel_rfl) ⟨y0,y1,y2,y3,y4,y5,y6,y7,y8,y9,y10,y11⟩ (fun hHeld=>?_)
  refine tkE 0 16 (.pointer (some ⟨p,0,none⟩)) rfl rfl hHeld ?_
  simp only [sZ,sS]
  refine tkE 1 17 (.pointer (some ⟨p,0,none⟩)) rfl rfl hHeld ?_
  simp only [sZ,sS]
  refine tkE 2 18 (.pointer (some ⟨p,0,none⟩)) rfl rfl hHeld ?_
  simp only [sZ,sS]
  refine tkE 3 19 (.slice (some ⟨g,0,none⟩) ps.length nc) rfl rfl hHeld ?_
  simp only [sZ,sS]
  refine tkE 4 20 (.pointer (some ⟨p,0,none⟩)) rfl rfl hHeld ?_
  simp only [sZ,sS]
  refine tkE 5 21 (.pointer (some ⟨p,0,none⟩)) rfl rfl hHeld ?_
  simp only [sZ,sS]
  refine tkE 6 22 (vTr (.slice (some ⟨g,0,none⟩) ps.length nc) (.slice ga t.gs.length gc) t) rfl rfl hHeld ?_
  simp only [sZ,sS]
  refine tkE 7 23 (.pointer (some ⟨B0,1,none⟩)) rfl rfl hHeld ?_
  simp only [sZ,sS]
  refine tkE 8 24 (.int .i64 id) rfl rfl hHeld ?_
  simp only [sZ,sS]
  refine wpAnyH_ready (rs:=[9]) (by kernel_rfl) (by simp) (AllReadyH.cons rfl (fun K hK=>?_) AllReadyH.nil)
  go_simp
  refine(HPL.out w1.drew HB1.out.drew).mono ?_
  rintro e w2 ⟨rfl,b2⟩
  have x0:w2.cell? ⟨p,0,none⟩=some (.slice (some ⟨g,0,none⟩) ps.length nc):=kc (show w1.drew.cell? _=_ from y0) b2
  have x1:w2.cell? ⟨p,1,none⟩=some (.slice ga t.gs.length gc):=kc (show w1.drew.cell? _=_ from y1) b2
  have x2:w2.cell? ⟨p,2,none⟩=some (.int .i64 t.last):=kc (show w1.drew.cell? _=_ from y2) b2
  have x3:w2.cell? ⟨p,3,none⟩=some (.int .i64 t.now):=kc (show w1.drew.cell? _=_ from y3) b2
  have x4:w2.cell? ⟨B0,0,none⟩=some (.int .i64 ki):=kc (show w1.drew.cell? _=_ from y4) b2
  have x5:w2.cell? ⟨B0,1,none⟩=some (.int .i64 id):=kc (show w1.drew.cell? _=_ from y5) b2
  have x6:w2.cell? ⟨B0,2,none⟩=some (.int .i64 sk):=kc (show w1.drew.cell? _=_ from y6) b2
  have x7:w2.cell? ⟨B0,3,none⟩=some (.int .i64 sq):=kc (show w1.drew.cell? _=_ from y7) b2
  have x8:w2.cell? ⟨B0,4,none⟩=some (.int .i64 sT):=kc (show w1.drew.cell? _=_ from y8) b2
  have x9:w2.cell? ⟨B0,5,none⟩=some (.int .i64 po):=kc (show w1.drew.cell? _=_ from y9) b2
  have x10:w2.cell? ⟨B0,6,none⟩=some (.slice oa ts.length oc):=kc (show w1.drew.cell? _=_ from y10) b2
  have x11:w2.cell? ⟨B0,7,none⟩=some (.int .i64 tm):=kc (show w1.drew.cell? _=_ from y11) b2
  have HP2:=mH ((HP1.out.below (Below.refl _ w1).drew).below b2)
  have HB2:Hid (Below w.heap.size w w2):=mH (bt HB1.out.drew b2)
  have HF2:Hid (w2.heap[B0]?=some (oOd ⟨ki,id,(sk,sq,sT),po,ts,tm⟩ (.slice oa ts.length oc))/\w2.heap[B1]?=some oRs):=mH ⟨bLt (w:=w1.drew) HF1.out.1 b2,bLt (w:=w1.drew) HF1.out.2 b2⟩
  clear b2 hHeld
  refine hK.out _ _ ⟨x0,x1,x2,x3,x4,x5,x6,x7,x8,x9,x10,x11⟩ (fun hHeld=>?_)
  clear hK K y0 y1 y2 y3 y4 y5 y6 y7 y8 y9 y10 y11
  (try simp only [Act.put])
  refine tkE 10 26 (.pointer (some ⟨g,J * 7,none⟩)) rfl rfl hHeld ?_
  simp only [sZ,sS]
  refine tkE 11 6 (.pointer (some ⟨g,J * 7,none⟩)) rfl rfl hHeld ?_
  simp only [sZ,sS]
  refine wpAnyH_done (by kernel_rfl) ?_ _
  clear hHeld
  go_wp2
  refine wp_region_held_drew (S:=fun w'=>w'.cell? ⟨B0,5,none⟩=some (.int .i64 po)/\w'.cell? ⟨B0,6,none⟩=some (.slice oa ts.length oc)) (by kernel_rfl) ⟨x9,x10⟩ (fun hHeld=>?_)
  refine tkE 0 27 (.pointer (some ⟨g,J * 7,none⟩)) rfl rfl hHeld ?_
  simp only [sZ,sS]
  refine tkE 1 28 (.pointer (some ⟨g,J * 7,none⟩)) rfl rfl hHeld ?_
  simp only [sZ,sS]
  refine tkE 2 29 (.pointer (some ⟨B0,5,none⟩)) rfl rfl hHeld ?_
  simp only [sZ,sS]
  refine tkE 3 30 (.int .i64 po) rfl rfl hHeld ?_
  simp only [sZ,sS]
  refine tkE 4 31 (.pointer (some ⟨B0,6,none⟩)) rfl rfl hHeld ?_
  simp only [sZ,sS]
  refine tkE 5 32 (.slice oa ts.length oc) rfl rfl hHeld ?_
  simp only [sZ,sS]
  refine wpAnyH_ready (rs:=[6]) (by kernel_rfl) (by simp) (AllReadyH.cons rfl (fun K hK=>?_) AllReadyH.nil)
  go_simp
  refine(HCT.out w2.drew HB2.out.drew).mono ?_
  rintro e w3 ⟨a3,c3,rfl,ho3,b3⟩
  have y5:=kc (show w2.drew.cell? _=_ from x9) b3
  have y6:=kc (show w2.drew.cell? _=_ from x10) b3
  have HP3:=mH ((HP2.out.below (Below.refl _ w2).drew).below b3)
  have HB3:=mH (bt HB2.out.drew b3)
  have HF3:Hid (w3.heap[B0]?=some (oOd ⟨ki,id,(sk,sq,sT),po,ts,tm⟩ (.slice oa ts.length oc))/\w3.heap[B1]?=some oRs):=mH ⟨bLt (w:=w2.drew) HF2.out.1 b3,bLt (w:=w2.drew) HF2.out.2 b3⟩
  have HO3:Hid (w3.ownsRow base 45 4 (.slice a3 ts.length c3) ts.length (ts.flatMap c4)/\∀ k,(Value.slice a3 ts.length c3).ownBlock=some k->¬ k=g/\(Value.slice ga t.gs.length gc).ownBlock ≠ some k/\¬ k=p/\¬ k=B1):=mH ⟨own_lower ho3 (by have h1:=HB2.out.size;have h2:=HBS.out;have h3:w2.drew.heap.size=w2.heap.size:=rfl;omega),fun k e=>by
   have h1:=(ho3.lt k e).1
   have h3:w2.drew.heap.size=w2.heap.size:=rfl
   refine⟨?_,fun e2=>?_, ?_, ?_⟩
   ·have:=(HP2.out.o.nown.lt g rfl).2;omega
   ·have:=(HP2.out.o.gown.lt k e2).2;omega
   ·have:=lOh HP2.out.blk;omega
   ·have:=lOh HF2.out.2;omega⟩
  clear b3 ho3 hHeld
  refine hK.out _ _ ⟨y5,y6⟩ (fun hHeld=>?_)
  clear hK K x0 x1 x2 x3 x4 x5 x6 x7 x8 x9 x10 x11 HP2 HF2 HB2 HP1 HF1 HB1 HPW HFW HBW
  (try simp only [Act.put])
  obtain⟨⟨q0,q1,q2,q3,q4,q5,q6⟩,f0,f1,f2,f3,f4,f5,f6⟩:=node_cells HP3.out.o.nown HND.out.2.2.2.2.2
  simp only [tvN] at q0 q1 q2 q3 q4 q5 q6
  refine tkE 7 34 (.pointer (some ⟨g,J * 7,none⟩)) rfl rfl hHeld ?_
  simp only [sZ,sS]
  refine tkE 8 35 (.pointer (some ⟨g,J * 7+5,none⟩)) rfl rfl hHeld ?_
  simp only [sZ,sS]
  have hgb:¬ B0=g:=by have:=HGB.out;have:=HBB.out;omega
  have hk4:=Kept.setCell (F:=fun k=>k=g) w3 (p:=⟨g,J * 7+5,none⟩) rfl (.int .i64 po)
  have hk5:=Kept.setCell (F:=fun k=>k=g) (w3.setCell ⟨g,J * 7+5,none⟩ (.int .i64 po)) (p:=⟨g,J * 7+6,none⟩) rfl (.slice a3 ts.length c3)
  refine wpAnyH_ready (rs:=[9]) (by kernel_rfl) (by simp) (AllReadyH.cons rfl (fun K hK=>?_) AllReadyH.nil)
  go_simp
  refine hK.out _ _ ⟨hk4.cell y5 hgb,hk4.cell y6 hgb⟩ (fun hHeld=>?_)
  clear hK K
  (try simp only [Act.put])
  refine tkE 10 36 (.pointer (some ⟨g,J * 7,none⟩)) rfl rfl hHeld ?_
  simp only [sZ,sS]
  refine tkE 11 37 (.pointer (some ⟨g,J * 7+6,none⟩)) rfl rfl hHeld ?_
  simp only [sZ,sS]
  refine wpAnyH_ready (rs:=[12]) (by kernel_rfl) (by simp) (AllReadyH.cons rfl (fun K hK=>?_) AllReadyH.nil)
  go_simp
  refine hK.out _ _ ⟨hk5.cell (hk4.cell y5 hgb) hgb,hk5.cell (hk4.cell y6 hgb) hgb⟩ (fun hHeld=>?_)
  clear hK K hHeld y5 y6 q0 q1 q2 q3 q4 q5 q6 f0 f1 f2 f3 f4 f5 f6
  refine wpAnyH_done (by kernel_rfl) ?_ _
  have hx0:=HND.out.2.2.2.2.2
  have hJl:J < ps.length:=(List.getElem?_eq_some_iff.mp hx0).1
  have t0:=HP3.out.keepT (List.mem_of_getElem? hx0)
  have n1:=HP3.out.setN (r:=5) (y:=(⟨nid,npa,(nk,nq,nT),po,nts⟩,ax,cx)) hx0 (by omega) rfl t0.1 t0.2
  have hx1:(ps.set J ((⟨nid,npa,(nk,nq,nT),po,nts⟩:Nd),ax,cx))[J]?=some ((⟨nid,npa,(nk,nq,nT),po,nts⟩:Nd),ax,cx):=by simp [hJl]
  have n2:=n1.setN (r:=6) (y:=(⟨nid,npa,(nk,nq,nT),po,ts⟩,a3,c3)) hx1 (by omega) rfl (oNk HO3.out.1 hk4 (fun k e e2=>(HO3.out.2 k e).1 e2)) (fun k e=>⟨(HO3.out.2 k e).1,(HO3.out.2 k e).2.1,(HO3.out.2 k e).2.2.1⟩)
  rw [List.set_set] at n2
  have hx2:(ps.set J ((⟨nid,npa,(nk,nq,nT),po,ts⟩:Nd),a3,c3))[J]?=some ((⟨nid,npa,(nk,nq,nT),po,ts⟩:Nd),a3,c3):=by simp [hJl]
  have kk:=hk4.trans hk5 (fun _ h=>.inl h)
  have hgg:=HGB.out
  have HF5:Hid (((w3.setCell ⟨g,J * 7+5,none⟩ (.int .i64 po)).setCell ⟨g,J * 7+6,none⟩ (.slice a3 ts.length c3)).heap[B1]?=some oRs):=mH ((kk.block _ (lOh HF3.out.2) (by have:=HBB.out;omega)).trans HF3.out.2)
  have HB5:Hid (Below base w ((w3.setCell ⟨g,J * 7+5,none⟩ (.int .i64 po)).setCell ⟨g,J * 7+6,none⟩ (.slice a3 ts.length c3))/\base<=((w3.setCell ⟨g,J * 7+5,none⟩ (.int .i64 po)).setCell ⟨g,J * 7+6,none⟩ (.slice a3 ts.length c3)).heap.size):=mH ⟨(HB3.out.mono HBS.out).trans (kk.below (fun k e=>by omega) (by have:=HB3.out.size;have:=HBS.out;omega)),by have:=kk.size;have:=HB3.out.size;have:=HBS.out;omega⟩
  have HP5:=mH n2
  have HX2:=mH hx2
  clear hx0 hx1 hx2 n1 n2 t0 kk hk4 hk5 hgg hgb hJl HP3 HF3 HB3
  generalize (w3.setCell ⟨g,J * 7+5,none⟩ (.int .i64 po)).setCell ⟨g,J * 7+6,none⟩ (.slice a3 ts.length c3)=W5 at *
  have hno:=HP5.out.o.nown
  rw [List.length_set] at hno
  obtain⟨⟨q0,_⟩,_⟩:=node_cells hno HX2.out
  simp only at q0
  obtain⟨r0,r1⟩:=two HF5.out
  have v0:=eight_f HF5.out 0
  have v1:=eight_f HF5.out 1
  clear hno
  go_wp2
  have hkr:Kept (fun k=>k=B1) W5 ((W5.setCell ⟨B1,0,none⟩ (.int .i64 0)).setCell ⟨B1,1,none⟩ (.int .i64 nid)):=kset (F:=fun k=>k=B1) (kset (F:=fun k=>k=B1) (Kept.refl _ _) (.inl rfl) 0 _) (.inl rfl) 1 _
  obtain⟨hn,hsp,hla,hid,hJ,hpx⟩:=HND.out
  have hset:setAtL t.ns id (fun n=>⟨n.id,n.pa,n.sv,po,ts⟩)=nds (ps.set J ((⟨nid,npa,(nk,nq,nT),po,ts⟩:Nd),a3,c3)):=by
   rw [nds_set,HH.out.e,hsp,hJ,set_mid,setAtL_split _ hid hla]
  rw [HT2.out,hset]
  have hfin:=HP5.out.off hkr (fun k e=>by
   subst e
   refine⟨(HNB.out _ rfl).1,(HNB.out _ rfl).2.1,(HNB.out _ rfl).2.2.1,fun x hx=>?_⟩
   rcases List.mem_or_eq_of_mem_set hx with m | m
   ·exact(HNB.out _ rfl).2.2.2 x m
   ·subst m
    exact fun e2=>(HO3.out.2 _ e2).2.2.2 rfl)
  have hfb:=HB5.out.1.trans (hkr.below (fun k e=>by have:=HBB.out;omega) HB5.out.2)
  have hid':nid=id:=hid
  rw [<- hid']
  first
   |exact bodyPost_ret (leaves1 rfl (set2_heap HF5.out _ _) Tryz.underlying94 size_result _ rfl) rfl ⟨_,_,_,rfl,hfin,hfb⟩
   |exact bodyPost_ret (leaves1 rfl (set2_heap HF5.out _ _) Tryz.underlying94 size_result _ rfl) rfl ⟨rfl,⟨_,_,_,hfin⟩,hfb⟩
 ·have ht:=HTC.out
  rw [if_pos hC0] at ht
  have HT2:=mH ht
  clear ht HTC
  have hC0':(C == 0)=false:=by simpa using hC0
  clear hC0
  obtain⟨r0,r1⟩:=two HF1.out.2
  have f0:=eight_f HF1.out.2 0
  have f1:=eight_f HF1.out.2 1
  go_wp2_with (go_at_call 71;refine(refused_is _ _).mono ?_;rintro e w2 ⟨rfl,b2⟩;have hx2:=bLt HF1.out.2 b2;clear r0 r1 f0 f1;obtain⟨r0,r1⟩:=two hx2;have f0:=eight_f hx2 0;have f1:=eight_f hx2 1;have HX2:=mH hx2;have HP2:=mH (HP1.out.below b2);have HB2:=mH (bt HB1.out b2);clear hx2 b2)
  have hkr:Kept (fun k=>k=B1) w2 ((w2.setCell ⟨B1,0,none⟩ (.int .i64 C)).setCell ⟨B1,1,none⟩ (.int .i64 0)):=kset (F:=fun k=>k=B1) (kset (F:=fun k=>k=B1) (Kept.refl _ _) (.inl rfl) 0 _) (.inl rfl) 1 _
  rw [HT2.out]
  refine bodyPost_ret (leaves1 rfl (set2_heap HX2.out _ _) Tryz.underlying94 size_result _ rfl) rfl ⟨_,_,ps,rfl,HP2.out.off hkr HNB.out,(HB2.out.mono HBS.out).trans (hkr.below (fun k e=>by have:=HBB.out;omega) (by have:=HB2.out.size;have:=HBS.out;omega))⟩
end Go.Proofs.YtpdehdomilnmeaaGreatDoor
