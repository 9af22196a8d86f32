/- The layer's example. -/
import Derived.Test.YtaiklaipdocdmaaDoorNt8
import Derived.Lib.SlBytesConst
namespace Go.Proofs.YtaiklaipdocdmaaDoor
open Go.ChangeShapes Go.WideShapes Go.ChangeAt Go.RowKit
set_option maxRecDepth 100000
attribute [local go_sem] World.cell?_alloc_some frozen_alloc_some

theorem rd_one (w : World) (x : Int) (h : 0 ≤ x ∧ x ≤ 255) : Rd (w.alloc (.cells #[.int .u8 x] 5 (1, 2))) (.slice (some ⟨w.heap.size, 0, none⟩) ([x] : List Int).length 1) [x] := by
  refine ⟨Byts.one h.1 h.2, some ⟨w.heap.size, 0, none⟩, 1, rfl, by simp, fun e => by simp at e, fun _ => ⟨w.heap.size, 0, rfl, by simp, fun k hk => ?_⟩⟩
  have : k = 0 := by simp at hk; omega
  subst this
  have hb := heap_alloc_new w (.cells #[.int .u8 x] 5 (1, 2))
  show (w.alloc (.cells #[.int .u8 x] 5 (1, 2))).cell? ⟨w.heap.size, 0, none⟩ = some (.int .u8 x)
  unfold World.cell?
  rw [hb]
  rfl
/-- The errors that a net answers. -/
structure En3 (w : World) (eg en ef : Addr) : Prop where
  g : w.cell? ⟨2, 0, none⟩ = some (vE eg)
  n : w.cell? ⟨3, 0, none⟩ = some (vE en)
  f : w.cell? ⟨7, 0, none⟩ = some (vE ef)
theorem En3.kept {w w' : World} {eg en ef : Addr} {B : Nat} (h : En3 w eg en ef) (h9 : 8 ≤ B) (hb : Below B w w') : En3 w' eg en ef :=
  ⟨(hb.cell (p := ⟨2, 0, none⟩) (by simp only; omega)).trans h.g, (hb.cell (p := ⟨3, 0, none⟩) (by simp only; omega)).trans h.n, (hb.cell (p := ⟨7, 0, none⟩) (by simp only; omega)).trans h.f⟩
theorem NR.low {own own' : Nat → Int × Int} {i : Int} {B : Nat} {w w' : World} {p : Nat} {v' : Value} {ps' : List Lp} {n' : Nt} (h : NR own i w p w' own' v' ps' n') (ho : ∀ k, (own k).1 = i → B ≤ k) (hB : B ≤ w.heap.size) : Below B w w' :=
  h.kp.below (fun k e => ho k (by rcases e with e | e <;> rw [e])) hB
theorem NR.own {own own' : Nat → Int × Int} {i : Int} {B : Nat} {w w' : World} {p : Nat} {v' : Value} {ps' : List Lp} {n' : Nt} (h : NR own i w p w' own' v' ps' n') (ho : ∀ k, (own k).1 = i → B ≤ k) (hB : B ≤ w.heap.size) : ∀ k, (own' k).1 = i → B ≤ k := fun k e => by
  by_cases hk : k < w.heap.size
  · rw [h.old k hk] at e; exact ho k e
  · omega
abbrev nA1 : Nt := Nt.zero.put ⟨0, 0, 1, [97]⟩
abbrev lA1 : Lt := ⟨1, 0, 1, [97]⟩
abbrev nA2 : Nt := nA1.put lA1
theorem nA1_find : nA1.find 1 = some 0 := rfl
theorem nA2_find : nA2.find 1 = some 0 := rfl
theorem nA3_find : (nA2.out 0).find 1 = none := rfl
theorem str97 : strOfNums [97] = ⟨#[97]⟩ := rfl
set_option maxHeartbeats 12800000 in
theorem nalive (w : World) (eg en ef : Addr) (sg : List UInt8) (E : En3 w eg en ef) (hEG : Err w 2 sg eg) (h9 : 8 ≤ w.heap.size) : Calls Tryd.prog 9 #[] w fun e w' => e = .returned (.bool true) ∧ Below w.heap.size w w' := by
  have HE := mkHid E
  have HQ := hEG.eq
  have H9 := mkHid h9
  clear E hEG h9
  go_enter Tryd.func9, Tryd.ntmps9
  have kcv := fun (w : World) (C : Array Value) (n c : Nat) => Lib.run_convert_bytes_const (P := Tryd.prog) w 32 5 C n c Tryd.underlying32 Tryd.underlying5
  have hz1 : ((Nt.zero.last : Nat) : Int) + 1 = 1 := rfl
  have hz2 : ((nA1.last : Nat) : Int) + 1 = 2 := rfl
  go_wp2_with (first
    | (go_at_call 10; refine (nnew_is w).mono ?_; rintro r w1 ⟨rfl, hw1⟩; have hb1 : Below w.heap.size w w1 := (by rw [hw1]; exact ba (Below.refl _ _) _); have hnb := NB.new (fun _ => (0, 0)) 1 w (by decide) (fun _ _ => rfl); rw [← hw1] at hnb; obtain ⟨own1, ho1⟩ : ∃ o, o = (fun k => if k = w.heap.size then ((1 : Int), (1 : Int)) else (0, 0)) := ⟨_, rfl⟩; rw [← ho1] at hnb; have HOW1 : Hid (∀ k, (own1 k).1 = 1 → w.heap.size ≤ k) := mkHid (fun k e => by rw [ho1] at e; simp only at e; split at e; omega; simp at e); have HB1 := mkHid hb1; have HN1 := mkHid hnb; clear hw1 hb1 hnb ho1)
    | (go_at_call 13; have bx := ba HB1.out (.cells #[.int .u8 97] 5 (1, 2)); have hp1 := HN1.out.lt; refine (send_is own1 1 (w1.alloc (.cells #[.int .u8 97] 5 (1, 2))) w.heap.size _ [] Nt.zero (HN1.out.below (ba (Below.refl _ _) _)) 0 1 0 _ [97] (rd_one w1 97 (by decide)) (by simp) (fun w' hk => (rd_one w1 97 (by decide)).kept hk (fun k e e2 => by simp [Value.ownBlock] at e; omega)) (by simp [Nt.zero]) en ef (HE.out.kept H9.out bx).n (HE.out.kept H9.out bx).f).mono ?_; rintro r w2 (⟨hb, _⟩ | ⟨_, ⟨hb, _⟩ | ⟨_, rfl, own2, v2, ps2, hr2⟩⟩) <;> first | (exact absurd hb (by decide)) | (have HR2 := mkHid hr2; have HOW2 : Hid (∀ k, (own2 k).1 = 1 → w.heap.size ≤ k) := mkHid (hr2.own HOW1.out bx.size); have HB2 : Hid (Below w.heap.size w w2) := mkHid (bx.trans (hr2.low HOW1.out bx.size)); clear hr2 bx hp1))
    | (go_at_call 15; refine (copy_is own2 1 w2 w.heap.size _ ps2 nA1 HR2.out.nb 1 (by decide) eg ef (HE.out.kept H9.out HB2.out).g (HE.out.kept H9.out HB2.out).f).mono ?_; rintro r w3 (⟨hb, _⟩ | ⟨K, l, wq, hK, hl, bq, ⟨hb, _⟩ | ⟨_, rfl, own3, v3, ps3, hr3⟩⟩) <;> first | (exact absurd hb (by decide)) | (exact absurd (nA1_find.symm.trans hb) (by simp)) | (obtain rfl : 0 = K := Option.some.inj (nA1_find.symm.trans hK); obtain rfl : lA1 = l := Option.some.inj hl; have HR3 := mkHid hr3; have hbq := bt HB2.out bq; have HOW3 : Hid (∀ k, (own3 k).1 = 1 → w.heap.size ≤ k) := mkHid (hr3.own HOW2.out hbq.size); have HB3 : Hid (Below w.heap.size w w3) := mkHid (hbq.trans (hr3.low HOW2.out hbq.size)); clear hr3 bq hbq hK hl))
    | (go_at_call 17; (with_reducible refine (deliver_is own3 1 w3 w.heap.size _ ps3 nA2 HR3.out.nb 1 eg (HE.out.kept H9.out HB3.out).g).mono ?_); rintro r w4 (⟨hb, _⟩ | ⟨K, l, v4, hK, hl, rfl, hrd, hr4⟩) <;> first | (exact absurd (nA2_find.symm.trans hb) (by simp)) | (obtain rfl : 0 = K := Option.some.inj (nA2_find.symm.trans hK); have hle : lA1 = l.1 := Option.some.inj (HR3.out.nb.ls hl); obtain ⟨l, la, lc⟩ := l; simp only at hle hrd; subst hle; have HR4 := mkHid hr4; have HRD := mkHid hrd; have HOW4 : Hid (∀ k, (own3 k).1 = 1 → w.heap.size ≤ k) := mkHid (hr4.own HOW3.out HB3.out.size); have HB4 : Hid (Below w.heap.size w w4) := mkHid (HB3.out.trans (hr4.low HOW3.out HB3.out.size)); clear hr4 hrd hK hl))
    | (go_at_call 17; refine (deliver_is own3 1 (w4.alloc (oL (lA1, la, lc))) w.heap.size v4 (ps3.eraseIdx 0) (nA2.out 0) (HR4.out.nb.below (ba (Below.refl _ _) _)) 1 eg (HE.out.kept H9.out (ba HB4.out _)).g).mono ?_; rintro r w5 (⟨_, rfl, hb5⟩ | ⟨K, l, v5, hK, _⟩) <;> first | (exact absurd (nA3_find.symm.trans hK) (by simp)) | (have hlb := (hb5.block w4.heap.size (by simp)).trans (heap_alloc_new w4 (oL (lA1, la, lc))); have l1 : w5.cell? ⟨w4.heap.size, 2, none⟩ = some (.int .i64 1) := cell_of_block (i := 2) hlb rfl; have l3 : w5.cell? ⟨w4.heap.size, 3, none⟩ = some (.slice la 1 lc) := cell_of_block (i := 3) hlb rfl; have hb5' := bt (ba (Below.refl _ w4) (oL (lA1, la, lc))) hb5; have cv : (convert 32 9 (.slice la 1 lc)).run Tryd.prog (w5.alloc oZL) = .ok (.string ⟨#[97]⟩) (w5.alloc oZL) := (HRD.out.later (ba hb5' oZL)).conv; have HB5 : Hid (Below w.heap.size w w5) := mkHid (bt HB4.out hb5'); have ce := (HE.out.kept H9.out HB5.out).g; clear hb5 hb5' hlb)))
  go_ret
  exact ⟨rfl, ba HB5.out _⟩
end Go.Proofs.YtaiklaipdocdmaaDoor
