import Derived.Test.YtihdkgekickohaaGreatDoorOfX
namespace Go.Proofs.YtihdkgekickohaaGreatDoor
open Go.ChangeShapes Go.WideShapes Go.ChangeAt Go.RowKit
set_option maxRecDepth 100000
attribute [local go_sem] World.cell?_alloc_some frozen_alloc_some
def chunk (e:En):List Int:=enc (bytesE e).length ++ bytesE e
theorem bytesL_eq (l:List En):bytesL l = enc l.length ++ l.flatMap chunk:=rfl
theorem chunk_byts (l:List En):Byts (l.flatMap chunk):=by
 intro b hb
 obtain ⟨e,_,he⟩:=List.mem_flatMap.mp hb
 rcases List.mem_append.mp he with h | h
 ·exact enc_byts _ b h
 ·exact encL_byts _ b h
theorem bytesL_byts (l:List En):Byts (bytesL l):=Byts.append (enc_byts _) (chunk_byts l)
theorem chunk_len {e:En} (h:inF e):(chunk e).length ≤ 387:=by
 have h1:=h.blen
 have h2:=enc_len9 (bytesE e).length (by omega)
 unfold chunk
 rw [List.length_append]
 omega
theorem chunks_len:∀ (l:List En),(∀ e ∈ l,inF e) → (l.flatMap chunk).length ≤ 387 * l.length
 |[],_=>by simp
 |e :: l,h=>by
  have h1:=chunk_len (h e (by simp))
  have h2:=chunks_len l (fun x hx=>h x (by simp [hx]))
  rw [List.flatMap_cons,List.length_append,List.length_cons]
  omega
theorem chunks_take {l:List En} {j:Nat} {e:En} (h:l[j]? = some e):(l.take (j + 1)).flatMap chunk = (l.take j).flatMap chunk ++ chunk e:=by
 rw [List.take_add_one,h,List.flatMap_append]
 simp
theorem bytesL_len {l:List En} (hl:l.length ≤ 64) (h:∀ e ∈ l,inF e):(bytesL l).length ≤ 30000:=by
 have h1:=chunks_len l h
 have h2:=enc_len9 l.length (by omega)
 rw [bytesL_eq,List.length_append]
 omega
abbrev fs1 (ps:List Ep):List En:=ps.map (·.1)
theorem write_large (w:World) (v:Value) (ps:List Ep) (el:Addr) (h:Ens w v ps) (hl:64 < ps.length) (he:w.cell? ⟨8,0,none⟩ = some (vErr el)):Calls Tryz.prog 42 #[v] w fun r w'=>r = .returned (.tuple #[.slice none 0 0,vErr el]) ∧ Below w.heap.size w w':=by
 obtain ⟨a,cap,rfl,_,_⟩:=h
 have h1:(64:Int) < ps.length:=by omega
 go_enter Tryz.func42,Tryz.ntmps42
 go_wp2
 go_region
 all_goals go_wp2
 all_goals go_ret2
 all_goals exact ⟨rfl,(Below.refl _ _).drew⟩
set_option maxHeartbeats 6400000 in
theorem write_all (w:World) (v:Value) (ps:List Ep) (es:Addr) (h:Ens w v ps) (hl:ps.length ≤ 64) (he:w.cell? ⟨15,0,none⟩ = some (vErr es)):Calls Tryz.prog 42 #[v] w fun r w'=>Below w.heap.size w w' ∧ (((∀ t ∈ ps,inF t.1) ∧ ∃ v',r = .returned (.tuple #[v',.nilIface]) ∧ w'.ownsRow w.heap.size 5 1 v' (bytesL (fs1 ps)).length ((bytesL (fs1 ps)).map (Value.int .u8))) ∨ ((¬ ∀ t ∈ ps,inF t.1) ∧ r = .returned (.tuple #[.slice none 0 0,vErr es]))):=by
 have h':=h
 obtain ⟨a,cap,rfl,_,_⟩:=h'
 have h1:¬ (64:Int) < ps.length:=by omega
 have HE:=mkHid h
 have HES:=mkHid he
 have HL:=mkHid hl
 clear h he hl
 go_enter Tryz.func42,Tryz.ntmps42
 go_wp2_with (first
  |(go_at_call 59;refine (newB w.heap.size w (Nat.le_refl _)).mono ?_;rintro r w1 ⟨rfl,hw1,b1⟩;have HW1:=mkHid hw1;have HB1:=mkHid b1;clear hw1 b1)
  |(go_at_call 61;refine (numB w.heap.size w1 w.heap.size [] ps.length HW1.out (by omega) (by simp)).mono ?_;rintro r w2 ⟨rfl,hw2,b2⟩;have HW2:=mkHid hw2;have HB2:=mkHid (HB1.out.trans b2);clear hw2 b2))
 go_loopw [20] (fun iv wr=>∃ j:Nat,iv = .int .i64 (j:Int) ∧ j ≤ ps.length ∧ Hid ((∀ t ∈ ps.take j,inF t.1) ∧ WrB w.heap.size wr w.heap.size (enc ps.length ++ ((fs1 ps).take j).flatMap chunk) ∧ Below w.heap.size w wr)) (fun iv _=>ps.length - (intOf iv).toNat)
 case atStart=>exact ⟨0,rfl,Nat.zero_le _,mkHid ⟨by simp,by simpa using HW2.out,HB2.out⟩⟩
 case round=>
  obtain ⟨j,rfl,hj,HI⟩:=hrel
  by_cases hlt:j < ps.length
  ·obtain ⟨b,off,t,rfl,hxj,hat,hew⟩:=HE.out.at HI.out.2.2 j hlt
   have hji:(j:Int) < ps.length:=by omega
   obtain ⟨d0,d1,d2,d3,d4,d5,d6,d7,d8,d9⟩:=hat.ten
   obtain ⟨e,ta,tc⟩:=t
   simp only [tv] at d0 d1 d2 d3 d4 d5 d6 d7 d8 d9
   have HXJ:=mkHid hxj
   have HEW:=mkHid (hew.below (ba (Below.refl _ wr) (oE e (.slice ta e.ts.length tc))))
   clear hat hew hxj
   by_cases hf:inF e
   ·have HF:=mkHid hf
    have HLN:Hid (((enc ps.length ++ ((fs1 ps).take j).flatMap chunk).length:Int) + (bytesE e).length ≤ 140737488340000):=mkHid (by
     have q1:=chunks_len ((fs1 ps).take j) (fun x hx=>by
      rw [fs1,← List.map_take] at hx
      obtain ⟨t,ht,rfl⟩:=List.mem_map.mp hx
      exact HI.out.1 t ht)
     have q2:=enc_len9 ps.length (by have:=HL.out;omega)
     have q3:=hf.blen
     have q4:=HL.out
     rw [List.length_take] at q1
     rw [List.length_append]
     omega)
    have HCH:=mkHid (chunks_take (l:=fs1 ps) (j:=j) (e:=e) (by rw [fs1,List.getElem?_map,HXJ.out];rfl))
    clear hf
    go_wp2_with (first
     |(go_at_call 77;refine (put_yes _ (e,ta,tc) HEW.out HF.out).mono ?_;rintro r w3 ⟨v3,rfl,ho3,b3⟩;obtain ⟨a3,c3,rfl⟩:=own_shape ho3;have HO3:=mkHid (And.intro ho3 b3);clear ho3 b3)
     |(go_at_call 62;refine (bytesB w.heap.size (wr.alloc (oE e (.slice ta e.ts.length tc))) w3 w.heap.size _ (bytesE e) _ (HI.out.2.1.below (ba (Below.refl _ wr) _)) (encL_byts _) HLN.out HO3.out.2 HO3.out.1).mono ?_;rintro r w4 ⟨rfl,hw4,b4⟩;rw [List.append_assoc,show enc (bytesE e).length ++ bytesE e = chunk e from rfl,← HCH.out] at hw4;have HW4:=mkHid (And.intro hw4 ((ba HI.out.2.2 _).trans b4));clear hw4 b4))
    go_roundw
    case rel=>
     refine ⟨j + 1,by go_num,by omega,mkHid ⟨fun t ht=>?_,HW4.out.1,HW4.out.2⟩⟩
     rw [List.take_add_one,HXJ.out] at ht
     rcases List.mem_append.mp ht with m | m
     ·exact HI.out.1 t m
     ·simp at m;subst m;exact HF.out
    case measure=>simp [intOf];omega
   ·have HF:=mkHid hf
    clear hf
    go_wp2_with (go_at_call 77;refine (put_no _ (e,ta,tc) es HEW.out HF.out (kl (kc HES.out HI.out.2.2) _)).mono ?_;rintro r w3 ⟨rfl,b3⟩;have HB3:=mkHid (bt (ba HI.out.2.2 _) b3);clear b3)
    go_ret2
    exact ⟨HB3.out,.inr ⟨fun hall=>HF.out (hall _ (List.mem_of_getElem? HXJ.out)),rfl⟩⟩
  ·obtain rfl:j = ps.length:=by omega
   have hq:=HI.out
   rw [List.take_of_length_le (Nat.le_refl _),List.take_of_length_le (by simp)] at hq
   obtain ⟨hall,⟨F,hF,_⟩,hb⟩:=hq
   rw [show enc ps.length ++ (fs1 ps).flatMap chunk = bytesL (fs1 ps) by rw [bytesL_eq];simp] at hF
   have HD:=mkHid (done_ok F wr w.heap.size (bytesL (fs1 ps)) hF (by
    have:=bytesL_len (l:=fs1 ps) (by have:=HL.out;simpa using this) (fun x hx=>by obtain ⟨t,ht,rfl⟩:=List.mem_map.mp hx;exact hall t ht)
    omega))
   have HA:=mkHid (And.intro hall hb)
   clear hF hall hb
   go_wp2_with (go_at_call 63;refine HD.out.mono ?_;rintro r w8 ⟨v8,rfl,ho8,b8⟩;obtain ⟨a8,c8,rfl⟩:=own_shape ho8;have HO8:=mkHid (And.intro ho8 (bt HA.out.2 b8));clear ho8 b8)
   go_ret2
   exact ⟨HO8.out.2,.inl ⟨HA.out.1,_,rfl,own_up HO8.out.1 HA.out.2.size⟩⟩
end Go.Proofs.YtihdkgekickohaaGreatDoor
