import Derived.Test.YtihdkgekickohaaGreatDoorBaseE
import Derived.Test.YtihdkgekickohaaGreatDoorWalMath
import Derived.Test.YtihdkgekickohaaGreatDoorBaseG
namespace Go.Proofs.YtihdkgekickohaaGreatDoor
open Go.ChangeShapes Go.WideShapes Go.ChangeAt Go.RowKit
set_option maxRecDepth 100000
theorem small_is (F:Nat → Prop) (w:World) (p:Nat) (n:Int) (f:Int → List Int) (c:List (Int × List Int)) (nw:Int) (lost:Bool) (h:Dk F w p n f c nw lost) :
  Calls Tryz.prog 64 #[.pointer (some ⟨p,0,none⟩)] w fun e w'=>e = .returned (.bool (decide (n < 4))) ∧ w' = w:=by
 go_enter Tryz.func64,Tryz.ntmps64
 go_wp2_with (go_at_call 102;refine (sectors_is F w p n f c nw lost h).mono ?_;rintro e w1 ⟨rfl,rfl⟩)
 go_ret
 exact ⟨rfl,rfl⟩
theorem wref_ok (F:Nat → Prop) (w:World) (p:Nat) (n:Int) (f:Int → List Int) (c:List (Int × List Int)) (nw:Int) (a:Option Addr) (len cap:Nat) (h:Dk F w p n f c nw false) (hl:(len:Int) ≤ 32000) :
  Calls Tryz.prog 65 #[.pointer (some ⟨p,0,none⟩),.slice a len cap] w fun e w'=>e = .returned .nilIface ∧ w' = w:=by
 go_enter Tryz.func65,Tryz.ntmps65
 go_wp2_with (go_at_call 79;refine (lost_is F w p n f c nw false h).mono ?_;rintro e w1 ⟨rfl,rfl⟩)
 go_ret
 exact ⟨rfl,rfl⟩
theorem wref_lost (F:Nat → Prop) (w:World) (p:Nat) (n:Int) (f:Int → List Int) (c:List (Int × List Int)) (nw:Int) (v ev:Value) (h:Dk F w p n f c nw true) (he:w.cell? ⟨0,0,none⟩ = some ev) :
  Calls Tryz.prog 65 #[.pointer (some ⟨p,0,none⟩),v] w fun e w'=>e = .returned ev ∧ w' = w:=by
 go_enter Tryz.func65,Tryz.ntmps65
 go_wp2_with (go_at_call 79;refine (lost_is F w p n f c nw true h).mono ?_;rintro e w1 ⟨rfl,rfl⟩)
 go_ret
 exact ⟨rfl,rfl⟩
theorem pieces_is (w:World) (m:Nat) (hm:(m:Int) ≤ 1000000000):Calls Tryz.prog 141 #[.int .i64 (m:Int)] w fun e w'=>e = .returned (.int .i64 (npc m:Int)) ∧ w' = w:=by
 obtain ⟨k,hk⟩:∃ k:Nat,k = npc m:=⟨_,rfl⟩
 have hq:((m:Int) + 63 - 1) / 63 = (k:Int):=by rw [hk];unfold npc;omega
 have w1:IntKind.i64.wrap ((m:Int) + 63) = (m:Int) + 63:=by rw [IntKind.wrap_i64];omega
 have w2:IntKind.i64.wrap ((m:Int) + 63 - 1) = (m:Int) + 63 - 1:=by rw [IntKind.wrap_i64];omega
 rw [← hk]
 clear hk
 have HQ:=mkHid hq
 clear hq
 go_enter Tryz.func141,Tryz.ntmps141
 go_wp2
 go_ret
 exact ⟨by rw [← HQ.out];rfl,rfl⟩
theorem head3_all {w:World} {a:Option Addr} {cap:Nat} {bs:List Int} (h:Rd w (.slice a bs.length cap) bs) (W:World):(Instr.slice 74 (.slice a bs.length cap) none (some (.int .i64 (bs.length:Int))) (some (.int .i64 (bs.length:Int)))).run Tryz.prog W = .ok (.slice a bs.length bs.length) W:=by
 obtain ⟨hB,a',cap',e,hc,h0,hr⟩:=h
 simp at e
 obtain ⟨rfl,rfl⟩:=e
 rw [run_slice_hm W 74 _ _ _ elemB.1 .i64 .i64 _ _ (by omega) (by omega) (by omega),elemB.2,size1]
 have e2:sliced a 0 bs.length bs.length 1 = .slice a bs.length bs.length:=by
  unfold sliced
  by_cases hp:bs.length = 0
  ·simp [hp]
  ·obtain ⟨b,off,rfl,_⟩:=hr (by omega)
   simp [hp,add_none]
 simp [Result.andThen,e2]
theorem Rd.cap {w:World} {a:Option Addr} {cap:Nat} {bs:List Int} (h:Rd w (.slice a bs.length cap) bs):Rd w (.slice a bs.length bs.length) bs:=by
 obtain ⟨hB,a',cap',e,hc,h0,hr⟩:=h
 simp at e
 obtain ⟨rfl,rfl⟩:=e
 exact ⟨hB,a,bs.length,rfl,Nat.le_refl _,fun e=>by have:=h0 e;omega,hr⟩
theorem handed_any (w:World) (v:Value) (bs:List Int) (h:Rd w v bs) (hl:(bs.length:Int) ≤ 140737488355328) :
  Calls Tryz.prog 80 #[v] w fun e w'=>∃ a,e = .returned (.slice a bs.length bs.length) ∧ Rd w' (.slice a bs.length bs.length) bs ∧ (∀ k,(Value.slice a bs.length bs.length).ownBlock = some k → w.heap.size ≤ k ∧ k < w'.heap.size) ∧ Below w.heap.size w w':=by
 go_enter Tryz.func80,Tryz.ntmps80
 go_wp2_with (go_at_call 69;refine (clone_any _ v bs h hl).mono ?_;rintro e w1 ⟨v1,rfl,ho,hb⟩;obtain ⟨a1,c1,rfl⟩:=own_shape ho;have s2:=head3_all (Rd.of_owns h.1 ho);have HR:=mkHid (Rd.of_owns h.1 ho);have HO:=mkHid ho;have HB:=mkHid hb;clear ho hb)
 go_ret
 refine ⟨a1,rfl,HR.out.cap,fun k hk=>HO.out.lt k (by cases a1 <;> simp [Value.ownBlock] at hk ⊢;exact hk),HB.out⟩
set_option maxHeartbeats 6400000 in
theorem frame_rec (w:World) (r:Rc) (v:Value) (hr:r.ok) (hd:r.data.length ≤ 32000) (hv:Rd w v r.data) :
  Calls Tryz.prog 140 #[.agg #[.int .i64 (r.gen:Int),.int .i64 (r.epoch:Int),.int .i64 (r.index:Int),v]] w fun e w'=>∃ z,e = .returned (.tuple #[z,.nilIface]) ∧ w'.ownsRow w.heap.size 5 1 z (frm r).length ((frm r).map (Value.int .u8)) ∧ Below w.heap.size w w':=by
 obtain ⟨g,ep,ix,data⟩:=r
 obtain ⟨va,vc,rfl⟩:∃ a c,v = .slice a data.length c:=hv.2.imp fun a h=>h.imp fun c h=>h.1
 simp only at hd hv ⊢
 have HOK:=mkHid hr
 have HV:=mkHid hv
 have HPL:=mkHid (wpay_len hr hd)
 have hg:(g:Int) ≤ 9223372036854775807:=by have:=hr.g;simp at this;omega
 have he:(ep:Int) ≤ 9223372036854775807:=by have:=hr.e;simp at this;omega
 have hi:(ix:Int) ≤ 9223372036854775807:=by have:=hr.i;simp at this;omega
 have HL:Hid ((enc g).length ≤ 6 ∧ (enc ep).length ≤ 6 ∧ (enc ix).length ≤ 6):=mkHid ⟨enc_len6 hr.g,enc_len6 hr.e,enc_len6 hr.i⟩
 clear hr hv
 obtain ⟨W1,hW1⟩:∃ W1,W1 = w.alloc (.cells #[.int .i64 (g:Int),.int .i64 (ep:Int),.int .i64 (ix:Int),.slice va data.length vc] 167):=⟨_,rfl⟩
 have hb1:Below w.heap.size w W1:=by rw [hW1];exact (Below.refl _ w).alloc (Nat.le_refl _) _
 have hz1:W1.heap.size = w.heap.size + 1:=by rw [hW1];simp
 have q0:W1.cell? ⟨w.heap.size,0,none⟩ = some (.int .i64 (g:Int)):=by rw [hW1];go_simp
 have q1:W1.cell? ⟨w.heap.size,1,none⟩ = some (.int .i64 (ep:Int)):=by rw [hW1];go_simp
 have q2:W1.cell? ⟨w.heap.size,2,none⟩ = some (.int .i64 (ix:Int)):=by rw [hW1];go_simp
 have q3:W1.cell? ⟨w.heap.size,3,none⟩ = some (.slice va data.length vc):=by rw [hW1];go_simp
 have HC:Hid (W1.cell? ⟨w.heap.size,0,none⟩ = some (.int .i64 (g:Int)) ∧ W1.cell? ⟨w.heap.size,1,none⟩ = some (.int .i64 (ep:Int)) ∧ W1.cell? ⟨w.heap.size,2,none⟩ = some (.int .i64 (ix:Int)) ∧ W1.cell? ⟨w.heap.size,3,none⟩ = some (.slice va data.length vc)):=mkHid ⟨q0,q1,q2,q3⟩
 have HKEEP:Hid (∀ (w':World) (o:Nat) (u:Value),Below W1.heap.size W1 w' → W1.cell? ⟨w.heap.size,o,none⟩ = some u → w'.cell? ⟨w.heap.size,o,none⟩ = some u):=mkHid (fun w' o u hb hu=>(hb.cell (p:=⟨w.heap.size,o,none⟩) (by show w.heap.size < W1.heap.size;omega)).trans hu)
 clear q0 q1 q2 q3 hz1
 have M1:Hid True:=trivial
 have M2:Hid True:=trivial
 go_enter Tryz.func140,Tryz.ntmps140
 go_wp2_with (first
  |(go_at_call 59;rw [← hW1];clear hW1;refine (new_any W1).mono ?_;rintro e w2 ⟨rfl,hw2,hb2⟩;obtain ⟨P,hP⟩:∃ P,P = W1.heap.size:=⟨_,rfl⟩;rw [← hP] at hw2 ⊢;have HPP:=mkHid hP;clear hP;have r0:=HKEEP.out w2 0 _ hb2 HC.out.1;have HW2:=mkHid hw2;have HB2:=mkHid hb2;clear hw2 hb2)
  |(go_at_call 61;clear M1;refine (num_any _ w2 _ [] false g HW2.out hg (by simp)).mono ?_;rintro e w3 ⟨rfl,F3,hw3,hF3,hk3⟩;have HB3:=mkHid (HB2.out.trans (hk3.below (fun k hk=>by rw [hk,HPP.out];exact Nat.le_refl _) HB2.out.size));have r1:=HKEEP.out w3 1 _ HB3.out HC.out.2.1;have HW3:=mkHid hw3;have HF3:Hid (∀ k,F3 k → W1.heap.size ≤ k):=mkHid (fun k hk=>by rcases hF3 k hk with h | h;(have:=HPP.out;omega);(have:=HB2.out.size;omega));clear hw3 hF3 hk3)
  |(go_at_call 61;clear M2;refine (num_any _ w3 _ _ false ep HW3.out he (by have:=HL.out;simp;omega)).mono ?_;rintro e w4 ⟨rfl,F4,hw4,hF4,hk4⟩;have HB4:=mkHid (HB3.out.trans (hk4.below HF3.out HB3.out.size));have r2:=HKEEP.out w4 2 _ HB4.out HC.out.2.2.1;have HW4:=mkHid hw4;have HF4:Hid (∀ k,F4 k → W1.heap.size ≤ k):=mkHid (fun k hk=>by rcases hF4 k hk with h | h;exact HF3.out k h;(have:=HB3.out.size;omega));clear hw4 hF4 hk4)
  |(go_at_call 61;refine (num_any _ w4 _ _ false ix HW4.out hi (by have:=HL.out;simp;omega)).mono ?_;rintro e w5 ⟨rfl,F5,hw5,hF5,hk5⟩;have HB5:=mkHid (HB4.out.trans (hk5.below HF4.out HB4.out.size));have r3:=HKEEP.out w5 3 _ HB5.out HC.out.2.2.2;have HW5:=mkHid hw5;have HF5:Hid (∀ k,F5 k → W1.heap.size ≤ k):=mkHid (fun k hk=>by rcases hF5 k hk with h | h;exact HF4.out k h;(have:=HB4.out.size;omega));clear hw5 hF5 hk5)
  |(go_at_call 62;refine (bytes_any _ w5 _ _ data false _ HW5.out HV.out.1 (by have:=HL.out;simp;omega) (fun w' hk=>(HV.out.later hb1).later (HB5.out.trans (hk.below HF5.out HB5.out.size)))).mono ?_;rintro e w6 ⟨rfl,F6,hw6,hF6,hk6⟩;have HB6:=mkHid (HB5.out.trans (hk6.below HF5.out HB5.out.size));have HW6:=mkHid hw6;clear hw6 hF6 hk6)
  |(go_at_call 63;refine (done_ok _ w6 _ (wpay ⟨g,ep,ix,data⟩) (by have:=HW6.out;simpa [wpay,List.append_assoc] using this) (by have:=HPL.out;omega)).mono ?_;rintro e w7 ⟨v7,rfl,ho7,hb7⟩;have HB7:=mkHid (HB6.out.trans (hb7.mono HB6.out.size));have HR7:=mkHid (Rd.of_owns (wpay_byts (r:=⟨g,ep,ix,data⟩) HV.out.1) ho7);clear ho7 hb7)
  |(go_at_call 109;refine (frame_any w7 _ (wpay ⟨g,ep,ix,data⟩) HR7.out (by have:=HPL.out;omega)).mono ?_;rintro e w8 ⟨v8,rfl,ho8,hb8⟩;have HB8:=mkHid (HB7.out.trans (hb8.mono HB7.out.size));have HO8:=mkHid ho8;have HS8:=mkHid HB7.out.size;clear ho8 hb8))
 go_ret2
 have hbb:=hb1.trans (HB8.out.mono hb1.size)
 refine ⟨v8,rfl,?_,hbb⟩
 have ho:=HO8.out
 rw [← frame_len] at ho
 refine ⟨ho.1,ho.2.imp id ?_⟩
 rintro ⟨gg,cap,cur,e,hgg,rest⟩
 exact ⟨gg,cap,cur,e,by have:=HS8.out;have:=hb1.size;omega,rest⟩
end Go.Proofs.YtihdkgekickohaaGreatDoor
