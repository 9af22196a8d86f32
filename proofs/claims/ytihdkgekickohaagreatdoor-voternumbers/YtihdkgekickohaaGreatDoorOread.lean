import Derived.Test.YtihdkgekickohaaGreatDoorOwrite
namespace Go.Proofs.YtihdkgekickohaaGreatDoor
open Go.ChangeShapes Go.WideShapes Go.ChangeAt Go.RowKit
set_option maxRecDepth 100000
attribute [local go_sem] World.cell?_alloc_some frozen_alloc_some
theorem rbytes_yes (F:Nat → Prop) (w:World) (p:Nat) (bs:List Int) (i:Nat) (most:Int) (ev:Value) (N:Nat) (r:List Int) (h:Rr F w p bs i) (hl:(bs.length:Int) ≤ 140737488355328) (he:w.cell? ⟨4,0,none⟩ = some ev) (hy:PieceYes bs i most N r) :
  Calls Tryz.prog 171 #[.pointer (some ⟨p,0,none⟩),.int .i64 most] w fun e w'=>∃ v,e = .returned (.tuple #[v,.nilIface]) ∧ w'.ownsRow w.heap.size 5 1 v N ((r.take N).map (Value.int .u8)) ∧ Rr F w' p bs (i + (enc N).length + N) ∧ Kept F w w':=by
 refine (rbytes_any F w p bs i most ev h hl he).mono ?_
 rintro e w' (⟨M,s,v,hy2,rfl,ho,hr,hk⟩ | ⟨v,hno,_⟩)
 ·obtain ⟨rfl,rfl⟩:=enc_free N M r s (hy.1.symm.trans hy2.1)
  rw [hy2.take_len.1] at ho
  exact ⟨v,rfl,ho,hr,hk⟩
 ·exact absurd hy (hno N r)
theorem rbytes_no (F:Nat → Prop) (w:World) (p:Nat) (bs:List Int) (i:Nat) (most:Int) (ev:Value) (h:Rr F w p bs i) (hl:(bs.length:Int) ≤ 140737488355328) (he:w.cell? ⟨4,0,none⟩ = some ev) (hn:PieceNo bs i most) :
  Calls Tryz.prog 171 #[.pointer (some ⟨p,0,none⟩),.int .i64 most] w fun e w'=>∃ v,e = .returned (.tuple #[v,ev]) ∧ Rr F w' p bs i ∧ Kept F w w':=by
 refine (rbytes_any F w p bs i most ev h hl he).mono ?_
 rintro e w' (⟨M,s,v,hy2,_⟩ | ⟨v,_,rfl,_,hr,hk⟩)
 ·exact absurd hy2 (hn M s)
 ·exact ⟨v,rfl,hr,hk⟩
theorem chunk_free {e f:En} (he:inF e) (hf:inF f) {r s:List Int} (h:chunk e ++ r = chunk f ++ s):e = f ∧ r = s:=by
 unfold chunk at h
 rw [List.append_assoc,List.append_assoc] at h
 obtain ⟨h1,h2⟩:=enc_free _ _ _ _ h
 obtain ⟨h3,h4⟩:=List.append_inj h2 h1
 exact ⟨bytesE_inj he hf h3,h4⟩
theorem chunks_pre:∀ (es fs:List En) (rest:List Int),(∀ e ∈ es,inF e) → (∀ e ∈ fs,inF e) → es.length ≤ fs.length → es.flatMap chunk ++ rest = fs.flatMap chunk → rest = (fs.drop es.length).flatMap chunk ∧ es = fs.take es.length
 |[],fs,rest,_,_,_,h=>by simpa using h
 |e :: es,[],rest,_,_,hl,_=>by simp at hl
 |e :: es,f :: fs,rest,he,hf,hl,h=>by
  rw [List.flatMap_cons,List.flatMap_cons,List.append_assoc] at h
  obtain ⟨rfl,h2⟩:=chunk_free (he e (by simp)) (hf f (by simp)) h
  obtain ⟨h3,h4⟩:=chunks_pre es fs rest (fun x hx=>he x (by simp [hx])) (fun x hx=>hf x (by simp [hx])) (by simpa using hl) h2
  exact ⟨by simpa using h3,by simp [← h4]⟩
def NoL (bs:List Int):Prop:=∀ l:List En,l.length ≤ 64 → (∀ e ∈ l,inF e) → bs ≠ bytesL l
structure RL (bs:List Int) (N i:Nat) (es:List En):Prop where
 n64:N ≤ 64
 all:∀ e ∈ es,inF e
 eq:bs = enc N ++ es.flatMap chunk ++ bs.drop i
theorem RL.rest {bs:List Int} {N i:Nat} {es l:List En} (h:RL bs N i es) (hl:∀ e ∈ l,inF e) (hj:es.length ≤ N) (e:bs = bytesL l):l.length = N ∧ bs.drop i = (l.drop es.length).flatMap chunk ∧ es = l.take es.length:=by
 have h1:enc l.length ++ l.flatMap chunk = enc N ++ (es.flatMap chunk ++ bs.drop i):=by
  rw [← bytesL_eq,← e,← List.append_assoc]
  exact h.eq
 obtain ⟨h2,h3⟩:=enc_free _ _ _ _ h1
 have h4:=chunks_pre es l _ h.all hl (by omega) h3.symm
 exact ⟨h2,h4.1,h4.2⟩
theorem RL.no_piece {bs:List Int} {N i:Nat} {es:List En} (h:RL bs N i es) (hi:i ≤ bs.length) (hj:es.length < N) (hp:PieceNo bs i ((bs.length:Int) - i)):NoL bs:=by
 intro l hl hall e
 obtain ⟨h1,h2,_⟩:=h.rest hall (by omega) e
 have hlt:es.length < l.length:=by omega
 rw [List.drop_eq_getElem_cons hlt,List.flatMap_cons,chunk,List.append_assoc] at h2
 refine hp _ _ ⟨h2,?_,by rw [List.length_append];omega⟩
 have:=congrArg List.length h2
 simp only [List.length_drop,List.length_append] at this
 omega
theorem RL.no_get {bs:List Int} {N i M:Nat} {es:List En} {r:List Int} (h:RL bs N i es) (hj:es.length < N) (hp:bs.drop i = enc M ++ r) (hg:∀ e,inF e → r.take M ≠ bytesE e):NoL bs:=by
 intro l hl hall e
 obtain ⟨h1,h2,_⟩:=h.rest hall (by omega) e
 have hlt:es.length < l.length:=by omega
 rw [List.drop_eq_getElem_cons hlt,List.flatMap_cons,chunk,List.append_assoc,hp] at h2
 obtain ⟨rfl,rfl⟩:=enc_free _ _ _ _ h2
 exact hg _ (hall _ (List.getElem_mem hlt)) (by simp)
theorem RL.no_end {bs:List Int} {N i:Nat} {es:List En} (h:RL bs N i es) (hi:i < bs.length) (hj:es.length = N):NoL bs:=by
 intro l hl hall e
 obtain ⟨h1,h2,_⟩:=h.rest hall (by omega) e
 have h3:l.drop es.length = []:=List.drop_of_length_le (by omega)
 rw [h3] at h2
 have:=congrArg List.length h2
 simp only [List.length_drop,List.flatMap_nil,List.length_nil] at this
 omega
theorem RL.push {bs:List Int} {N i M:Nat} {es:List En} {r:List Int} {e:En} (h:RL bs N i es) (hp:bs.drop i = enc M ++ r) (hm:M ≤ r.length) (he:inF e) (hb:r.take M = bytesE e):RL bs N (i + (enc M).length + M) (es ++ [e]):=by
 have hM:(bytesE e).length = M:=by rw [← hb,List.length_take];omega
 refine ⟨h.n64,fun x hx=>?_,?_⟩
 ·rcases List.mem_append.mp hx with m | m
  ·exact h.all x m
  ·simp at m;subst m;exact he
 ·have h1:=h.eq
  have h2:bs.drop i = chunk e ++ bs.drop (i + (enc M).length + M):=by
   rw [← List.drop_drop,← List.drop_drop,hp,List.drop_left,chunk,hM,← hb,List.append_assoc,List.take_append_drop]
  rw [h2] at h1
  rw [List.flatMap_append]
  simpa using h1
theorem RL.done {bs:List Int} {N i:Nat} {es:List En} (h:RL bs N i es) (hi:i = bs.length) (hj:es.length = N):bs = bytesL es:=by
 have:=h.eq
 rw [List.drop_of_length_le (by omega),List.append_nil] at this
 rw [bytesL_eq,hj]
 exact this
theorem get_err (w:World) (v:Value) (bs:List Int) (ea es:Addr) (h:Rd w v bs) (hl:(bs.length:Int) ≤ 140737488355328) (he:w.cell? ⟨4,0,none⟩ = some (vErr ea)) (hes:w.cell? ⟨15,0,none⟩ = some (vErr es)) (hno:∀ e,inF e → bs ≠ bytesE e) :
  Calls Tryz.prog 179 #[v] w fun r w'=>r = .returned (.tuple #[zE,vErr ea]) ∧ Below w.heap.size w w':=by
 refine (get_any w v bs ea es h hl he hes).mono ?_
 rintro r w' (⟨t,hf,hb,_⟩ | ⟨_,rfl,hb⟩)
 ·exact absurd hb (hno _ hf)
 ·exact ⟨rfl,hb⟩
def ReadPost (w:World) (bs:List Int) (ea:Addr) (r:Ending) (w':World):Prop:=
 Below w.heap.size w w' ∧ ((∃ v qs,(∀ t ∈ qs,inF t.1) ∧ qs.length ≤ 64 ∧ bs = bytesL (fs1 qs) ∧ r = .returned (.tuple #[v,.nilIface]) ∧ Led w.heap.size w' v qs) ∨ (NoL bs ∧ r = .returned (.tuple #[.slice none 0 0,vErr ea])))
theorem Led.up {b c:Nat} {w:World} {v:Value} {ps:List Ep} (h:Led c w v ps) (hb:b ≤ c):Led b w v ps:=
 ⟨⟨h.own.1,h.own.2.imp id fun ⟨g,cap,cur,e1,hg,rest⟩=>⟨g,cap,cur,e1,Nat.le_trans hb hg,rest⟩⟩,fun t ht=>own_up4 (h.tk t ht) hb,h.ne⟩
structure RS (F:Nat → Prop) (w w1 wr:World) (p:Nat) (bs:List Int) (N i:Nat) (lv:Value) (qs:List Ep):Prop where
 rr:Rr F wr p bs i
 lt:∀ k,F k → k < w1.heap.size
 ge:∀ k,F k → w.heap.size ≤ k
 rl:RL bs N i (fs1 qs)
 led:Led w1.heap.size wr lv qs
 bel:Below w.heap.size w wr
 sz:w1.heap.size ≤ wr.heap.size
theorem RS.below {F:Nat → Prop} {w w1 wr w':World} {p:Nat} {bs:List Int} {N i:Nat} {lv:Value} {qs:List Ep} (h:RS F w w1 wr p bs N i lv qs) (hb:Below wr.heap.size wr w'):RS F w w1 w' p bs N i lv qs:=
 ⟨h.rr.below hb,h.lt,h.ge,h.rl,h.led.below hb,bt h.bel hb,Nat.le_trans h.sz hb.size⟩
theorem RS.kept {F:Nat → Prop} {w w1 wr w':World} {p:Nat} {bs:List Int} {N i i':Nat} {lv:Value} {qs:List Ep} (h:RS F w w1 wr p bs N i lv qs) (hk:Kept F wr w') (hr:Rr F w' p bs i'):Led w1.heap.size w' lv qs ∧ Below w.heap.size w w' ∧ w1.heap.size ≤ w'.heap.size ∧ Rr F w' p bs i':=
 ⟨h.led.kept hk (fun k f=>.inl (h.lt k f)),h.bel.trans (hk.below h.ge h.bel.size),Nat.le_trans h.sz hk.size,hr⟩
theorem read_step {F:Nat → Prop} {w w1 w3 w4:World} {p:Nat} {bs:List Int} {i':Nat} {lv:Value} {qs:List Ep} {e:En} {ta:Option Addr} {tc:Nat} (h:Led w1.heap.size w3 lv qs ∧ Below w.heap.size w w3 ∧ w1.heap.size ≤ w3.heap.size ∧ Rr F w3 p bs i') (ho:w4.ownsRow w3.heap.size 137 4 (.slice ta e.ts.length tc) e.ts.length (e.ts.flatMap c4)) (hb:Below w3.heap.size w3 w4) :
  Led w1.heap.size ((w4.alloc (oE e (.slice ta e.ts.length tc))).alloc (oE e (.slice ta e.ts.length tc))) lv qs ∧ ((w4.alloc (oE e (.slice ta e.ts.length tc))).alloc (oE e (.slice ta e.ts.length tc))).ownsRow w1.heap.size 137 4 (.slice ta e.ts.length tc) e.ts.length (e.ts.flatMap c4) ∧ (∀ k,(Value.slice ta e.ts.length tc).ownBlock = some k → lv.ownBlock ≠ some k) ∧ Below w.heap.size w ((w4.alloc (oE e (.slice ta e.ts.length tc))).alloc (oE e (.slice ta e.ts.length tc))) ∧ w1.heap.size ≤ ((w4.alloc (oE e (.slice ta e.ts.length tc))).alloc (oE e (.slice ta e.ts.length tc))).heap.size ∧
   Src Tryz.prog 10 40 (.slice (some ⟨w4.heap.size + 1,0,none⟩) 1 1) 1 (c10 (e,ta,tc)) ((w4.alloc (oE e (.slice ta e.ts.length tc))).alloc (oE e (.slice ta e.ts.length tc))) ∧ Rr F ((w4.alloc (oE e (.slice ta e.ts.length tc))).alloc (oE e (.slice ta e.ts.length tc))) p bs i':=by
 obtain ⟨h1,h2,h3,h4⟩:=h
 have b5:Below w4.heap.size w4 ((w4.alloc (oE e (.slice ta e.ts.length tc))).alloc (oE e (.slice ta e.ts.length tc))):=ba (ba (Below.refl _ w4) _) _
 have b35:=bt hb b5
 refine ⟨h1.below b35,own_up4 (own4_below ho b5) h3,fun k e1 e2=>?_,bt h2 b35,Nat.le_trans h3 b35.size,?_,h4.below b35⟩
 ·have:=(ho.lt k e1).1
  have:=(h1.own.lt k e2).2
  omega
 ·have:=src_entry (w4.alloc (oE e (.slice ta e.ts.length tc))) (e,ta,tc)
  rw [show (w4.alloc (oE e (.slice ta e.ts.length tc))).heap.size = w4.heap.size + 1 by simp] at this
  exact this
theorem RS.push {F:Nat → Prop} {w w1 W5 w5:World} {p:Nat} {bs:List Int} {N i':Nat} {lv v5:Value} {qs:List Ep} {t:Ep} (hlt:∀ k,F k → k < w1.heap.size) (hge:∀ k,F k → w.heap.size ≤ k) (hww:w.heap.size ≤ w1.heap.size) (hrl:RL bs N i' (fs1 (qs ++ [t]))) (hl:Led w1.heap.size W5 lv qs) (hl5:Led w1.heap.size w5 v5 (qs ++ [t])) (hg:W5.grownBy w5 lv.ownBlock) (hb:Below w.heap.size w W5) (hs:w1.heap.size ≤ W5.heap.size) (hr:Rr F W5 p bs i'):RS F w w1 w5 p bs N i' v5 (qs ++ [t]):=by
 have hk:=Kept.grown hg (F:=fun k=>lv.ownBlock = some k) (fun k hk=>hk)
 exact ⟨hr.kept hk (fun k f e=>by have:=hlt k f;have:=(hl.own.lt k e).1;omega),hlt,hge,hrl,hl5,hb.grown hg hb.size (fun k hk=>by have:=(hl.own.lt k hk).1;omega),Nat.le_trans hs hk.size⟩
set_option maxHeartbeats 25600000 in
theorem read_any (w:World) (v:Value) (bs:List Int) (ea es:Addr) (h:Rd w v bs) (hl:(bs.length:Int) ≤ 140737488355328) (he:w.cell? ⟨4,0,none⟩ = some (vErr ea)) (hes:w.cell? ⟨15,0,none⟩ = some (vErr es)) :
  Calls Tryz.prog 172 #[v] w (ReadPost w bs ea):=by
 obtain ⟨ie2,hi,hz0,hz1,hz2⟩:=info_parts info_entry
 obtain ⟨zth2,hzth⟩:∃ z:Value,z = .agg #[.int .i64 0,.int .i64 0,.int .i64 0,.int .i64 0,.int .i64 0,.int .i64 0,.int .i64 0,.int .i64 0,.slice none 0 0,.int .i64 0]:=⟨_,rfl⟩
 rw [← hzth] at hz0
 have HZ2:Hid (zth2.cells.size = 10):=mkHid (by rw [hzth];rfl)
 have hie2:=mkHid (And.intro hi (And.intro hz0 (And.intro hz1 hz2)))
 clear hzth hi hz0 hz1 hz2
 have HV:=mkHid h
 have HE:=mkHid he
 have HES:=mkHid hes
 clear h he hes
 by_cases hc:∃ (N:Nat) (r:List Int),(N:Int) ≤ 64 ∧ bs = enc N ++ r
 ·obtain ⟨N,r0,hN,hb0⟩:=hc
  have HB0:=mkHid hb0
  clear hb0
  go_enter Tryz.func172,Tryz.ntmps172
  go_wp2_with (first
   |(go_at_call 122;refine (newReader_any w v bs HV.out hl).mono ?_;rintro r w1 ⟨p,F,rfl,hr1,hF1,b1⟩;have HR1:=mkHid hr1;have HF1:=mkHid hF1;have HB1:=mkHid b1;clear hr1 hF1 b1)
   |(go_at_call 139;refine (rnum_yes F w1 p bs 0 64 (vErr ea) N r0 HR1.out hl (kc HE.out HB1.out) (by rw [List.drop_zero];exact HB0.out) hN (by omega)).mono ?_;rintro r w2 ⟨rfl,q1,q2⟩;have HS2:Hid (RS F w w1 w2 p bs N (0 + (enc N).length) (.slice none 0 0) []):=mkHid ⟨q1,HR1.out.1,HF1.out,⟨by omega,fun e he=>by simp at he,by rw [Nat.zero_add];conv=>{ lhs;rw [HB0.out] };conv=>{ rhs;rw [HB0.out,List.drop_left] };simp⟩,⟨World.ownsRow_nil _ _ _ _,fun t ht=>by simp at ht,fun t ht=>by simp at ht⟩,HB1.out.trans (q2.below HF1.out HB1.out.size),q2.size⟩;clear q1 q2))
  go_loopw [7,23] (fun lv iv wr=>∃ (i:Nat) (qs:List Ep),iv = .int .i64 (qs.length:Int) ∧ qs.length ≤ N ∧ Hid (RS F w w1 wr p bs N i lv qs)) (fun _ iv _=>N - (intOf iv).toNat)
  case atStart=>exact ⟨_,[],rfl,by simp,HS2⟩
  case round=>
   clear HS2
   obtain ⟨i,qs,rfl,hj,HI⟩:=hrel
   obtain ⟨oa,oc,rfl,_⟩:=own_sh HI.out.led.own
   by_cases hlt:qs.length < N
   ·have hji:(qs.length:Int) < N:=by omega
    have HLT:=mkHid hlt
    by_cases hp:∃ (M:Nat) (r:List Int),PieceYes bs i ((bs.length:Int) - i) M r
    ·obtain ⟨M,r1,hp1⟩:=hp
     have HP:=mkHid hp1
     have HRD:Hid (Byts (r1.take M) ∧ (r1.take M).length = M ∧ (M:Int) ≤ 140737488355328):=mkHid (by
      obtain ⟨h1,h2⟩:=hp1.take_len
      refine ⟨?_,h1,by omega⟩
      have hB:Byts bs:=HV.out.1
      have:=hB.drop i
      rw [hp1.1] at this
      exact this.right.take M)
     clear hp1
     by_cases hg:∃ e,inF e ∧ r1.take M = bytesE e
     ·obtain ⟨e,hf,hb⟩:=hg
      have HF:=mkHid (And.intro hf hb)
      clear hf hb
      go_wp2_with (first
       |(go_at_call 153;refine (left_any F wr p bs i HI.out.rr hl).mono ?_;rintro r w2 ⟨rfl,nq,hw2⟩;have HS2:=mkHid (HI.out.below (w':=w2) (by rw [hw2];exact drb (Below.refl _ _) nq));clear hw2)
       |(go_at_call 171;refine (rbytes_yes F w2 p bs i _ (vErr ea) M r1 HS2.out.rr hl (kc HE.out HS2.out.bel) HP.out).mono ?_;rintro r w3 ⟨v3,rfl,ho3,hr3,k3⟩;obtain ⟨a3,c3,rfl⟩:=own_shape ho3;have HS3:=mkHid (HS2.out.kept k3 hr3);have HRD3:Hid (Rd w3 (.slice a3 M c3) (r1.take M)):=mkHid (Rd.of_owns HRD.out.1 (by rw [HRD.out.2.1];exact ho3));clear ho3 hr3 k3)
       |(go_at_call 179;refine (get_yes w3 _ (r1.take M) ea e HRD3.out (by have:=HRD.out;omega) (kc HE.out HS3.out.2.1) HF.out.2 HF.out.1).mono ?_;rintro r w4 ⟨ta,tc,rfl,ho4,b4⟩;simp only [vP,vN,tv];have HS4:=mkHid (read_step HS3.out ho4 b4);clear ho4 b4)
       |(at_builtin;refine wpList_append_src10 _ rfl (.tmp 43) (.tmp 45) 40 40 rfl w1.heap.size 69 ie2 Tryz.underlying40 hie2.out.1 zth2 96 hie2.out.2.1 HZ2.out hie2.out.2.2.1 hie2.out.2.2.2 (.slice oa qs.length oc) qs.length (qs.flatMap c10) rfl HS4.out.1.own _ 1 (c10 (e,ta,tc)) rfl HS4.out.2.2.2.2.2.1 (by unfold maxLen;omega) (by omega) HS4.out.2.2.2.2.1 ?_;intro v5 w5 ho5 hg5 hv5;have HP5:Hid (RS F w w1 w5 p bs N (i + (enc M).length + M) v5 (qs ++ [(e,ta,tc)])):=mkHid (RS.push HI.out.lt HI.out.ge HB1.out.size (by rw [fs1,List.map_append];exact HI.out.rl.push HP.out.1 HP.out.2.2 HF.out.1 HF.out.2) HS4.out.1 (HS4.out.1.push (t:=(e,ta,tc)) ho5 hg5 hv5 HS4.out.2.1 HS4.out.2.2.1) hg5 HS4.out.2.2.2.1 HS4.out.2.2.2.2.1 HS4.out.2.2.2.2.2.2);clear ho5 hg5 hv5))
      go_roundw
      case rel=>exact ⟨_,qs ++ [(e,ta,tc)],by rw [List.length_append];go_num,by rw [List.length_append];simp;omega,HP5⟩
      case measure=>simp [intOf];omega
     ·have HNG:Hid (∀ e,inF e → r1.take M ≠ bytesE e):=mkHid (fun e hf hb=>hg ⟨e,hf,hb⟩)
      clear hg
      go_wp2_with (first
       |(go_at_call 153;refine (left_any F wr p bs i HI.out.rr hl).mono ?_;rintro r w2 ⟨rfl,nq,hw2⟩;have HS2:=mkHid (HI.out.below (w':=w2) (by rw [hw2];exact drb (Below.refl _ _) nq));clear hw2)
       |(go_at_call 171;refine (rbytes_yes F w2 p bs i _ (vErr ea) M r1 HS2.out.rr hl (kc HE.out HS2.out.bel) HP.out).mono ?_;rintro r w3 ⟨v3,rfl,ho3,hr3,k3⟩;obtain ⟨a3,c3,rfl⟩:=own_shape ho3;have HS3:=mkHid (HS2.out.kept k3 hr3);have HRD3:Hid (Rd w3 (.slice a3 M c3) (r1.take M)):=mkHid (Rd.of_owns HRD.out.1 (by rw [HRD.out.2.1];exact ho3));clear ho3 hr3 k3)
       |(go_at_call 179;refine (get_err w3 _ (r1.take M) ea es HRD3.out (by have:=HRD.out;omega) (kc HE.out HS3.out.2.1) (kc HES.out HS3.out.2.1) HNG.out).mono ?_;rintro r w4 ⟨rfl,b4⟩;have HB4:=mkHid (bt HS3.out.2.1 b4);clear b4))
      go_ret2
      exact ⟨ba HB4.out _,.inr ⟨HI.out.rl.no_get (by simpa using HLT.out) HP.out.1 HNG.out,rfl⟩⟩
    ·have HNP:Hid (PieceNo bs i ((bs.length:Int) - i)):=mkHid (fun M r hy=>hp ⟨M,r,hy⟩)
     clear hp
     go_wp2_with (first
      |(go_at_call 153;refine (left_any F wr p bs i HI.out.rr hl).mono ?_;rintro r w2 ⟨rfl,nq,hw2⟩;have HS2:=mkHid (HI.out.below (w':=w2) (by rw [hw2];exact drb (Below.refl _ _) nq));clear hw2)
      |(go_at_call 171;refine (rbytes_no F w2 p bs i _ (vErr ea) HS2.out.rr hl (kc HE.out HS2.out.bel) HNP.out).mono ?_;rintro r w3 ⟨v3,rfl,hr3,k3⟩;have HS3:=mkHid (HS2.out.kept k3 hr3);clear hr3 k3))
     go_ret2
     exact ⟨HS3.out.2.1,.inr ⟨HI.out.rl.no_piece HI.out.rr.parts.choose_spec.2.2.2.2 (by simpa using HLT.out) HNP.out,rfl⟩⟩
   ·have hjN:qs.length = N:=by omega
    have hji:¬ (qs.length:Int) < N:=by omega
    have HJN:Hid ((fs1 qs).length = N):=mkHid (by simpa using hjN)
    by_cases hend:i = bs.length
    ·have HEN:=mkHid hend
     clear hend hjN
     go_wp2_with (go_at_call 124;refine (end_nil F wr p bs i HI.out.rr hl HEN.out).mono ?_;rintro r w2 ⟨rfl,nq,hw2⟩;have HS2:=mkHid (HI.out.below (w':=w2) (by rw [hw2];exact drb (Below.refl _ _) nq));clear hw2)
     go_ret2
     exact ⟨HS2.out.bel,.inl ⟨_,qs,fun t ht=>HI.out.rl.all _ (List.mem_map.mpr ⟨t,ht,rfl⟩),by omega,HI.out.rl.done HEN.out HJN.out,rfl,HS2.out.led.up HB1.out.size⟩⟩
    ·have HEN:Hid (i < bs.length):=mkHid (by have:=HI.out.rr.parts.choose_spec.2.2.2.2;omega)
     clear hend hjN
     go_wp2_with (go_at_call 124;refine (end_err F wr p bs i (vErr ea) HI.out.rr hl (kc HE.out HI.out.bel) HEN.out).mono ?_;rintro r w2 ⟨rfl,nq,hw2⟩;have HS2:=mkHid (HI.out.below (w':=w2) (by rw [hw2];exact drb (Below.refl _ _) nq));clear hw2)
     go_ret2
     exact ⟨HS2.out.bel,.inr ⟨HI.out.rl.no_end HEN.out HJN.out,rfl⟩⟩
 ·have HNO:Hid (∀ (N:Nat) (r:List Int),(N:Int) ≤ 64 → bs.drop 0 ≠ enc N ++ r):=mkHid (fun N r hN e=>hc ⟨N,r,hN,by simpa using e⟩)
  clear hc
  go_enter Tryz.func172,Tryz.ntmps172
  go_wp2_with (first
   |(go_at_call 122;refine (newReader_any w v bs HV.out hl).mono ?_;rintro r w1 ⟨p,F,rfl,hr1,hF1,b1⟩;have HR1:=mkHid hr1;have HF1:=mkHid hF1;have HB1:=mkHid b1;clear hr1 hF1 b1)
   |(go_at_call 139;refine (rnum_no F w1 p bs 0 64 (vErr ea) HR1.out hl (kc HE.out HB1.out) HNO.out).mono ?_;rintro r w2 ⟨rfl,q1,q2⟩;have HB2:=mkHid (HB1.out.trans (q2.below HF1.out HB1.out.size));clear q1 q2))
  go_ret2
  refine ⟨HB2.out,.inr ⟨fun l hl64 _ e=>HNO.out l.length (l.flatMap chunk) (by omega) ?_,rfl⟩⟩
  rw [List.drop_zero,e,bytesL_eq]
end Go.Proofs.YtihdkgekickohaaGreatDoor
