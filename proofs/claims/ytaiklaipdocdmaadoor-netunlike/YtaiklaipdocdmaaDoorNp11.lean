import Derived.Test.YtaiklaipdocdmaaDoorNp4
import Derived.Test.YtaiklaipdocdmaaDoorNpB
import Derived.Test.YtaiklaipdocdmaaDoorErrNum9
/- Put of what is not in form; Get of all bytes; speaks. -/
namespace Go.Proofs.YtaiklaipdocdmaaDoor
open Go.ChangeShapes Go.WideShapes Go.ChangeAt Go.RowKit
set_option maxRecDepth 100000
attribute [local go_sem] World.cell?_alloc_some frozen_alloc_some

theorem putM_no (w : World) (m : Mg) (v : Value) (ps : List Ep) (ea : Addr) (h : Ens w v ps) (hls : fs1 ps = m.ls) (he : w.cell? ⟨0, 0, none⟩ = some (vErr ea)) (hf : ¬ inM m) :
    Calls Tryd.prog 23 #[vM m v] w fun r w' => r = .returned (.tuple #[.slice none 0 0, vErr ea]) ∧ Below w.heap.size w w' := by
  have HC := mkHid (fun W (hW : Below w.heap.size w W) => checkM_any W m v ps ea (h.below hW) hls (kc he hW) (vErr ea) (.inr ⟨hf, rfl⟩))
  obtain ⟨a, cap, rfl⟩ : ∃ a cap, v = .slice a ps.length cap := by obtain ⟨a, cap, e, _⟩ := h; exact ⟨a, cap, e⟩
  clear h hls he hf
  obtain ⟨kd, fr, to, jb, br, bn, ar, an, ls⟩ := m
  simp only [vM] at HC ⊢
  go_enter Tryd.func23, Tryd.ntmps23
  go_wp2_with (go_at_call 22; refine (HC.out _ (ba (Below.refl _ w) _)).mono ?_; rintro r w1 ⟨rfl, b1⟩; have HB1 := mkHid (bt (ba (Below.refl _ w) _) b1); clear b1)
  go_ret2
  exact ⟨rfl, HB1.out⟩
theorem four_split {bs : List Int} (h : 4 ≤ bs.length) : ∃ xs ys n, bs = xs ++ ys ∧ xs.length = n ∧ ys.length = 4 ∧ bs.length = n + 4 :=
  ⟨bs.take (bs.length - 4), bs.drop (bs.length - 4), bs.length - 4, (List.take_append_drop _ _).symm, by simp, by simp; omega, by omega⟩
theorem getM_any (w : World) (v : Value) (bs : List Int) (ea eu es : Addr) (h : Rd w v bs) (hl : (bs.length : Int) ≤ 140737488355320) (he : w.cell? ⟨4, 0, none⟩ = some (vErr ea)) (hu : w.cell? ⟨1, 0, none⟩ = some (vErr eu)) (hes : w.cell? ⟨0, 0, none⟩ = some (vErr es)) : Calls Tryd.prog 26 #[v] w (MGetPost w bs ea eu) := by
  by_cases h4 : bs.length < 4
  · exact getM_short w v bs ea eu h h4 he
  · obtain ⟨xs, ys, n, rfl, hx, hy, hn⟩ := four_split (bs := bs) (by omega)
    obtain ⟨a, c, rfl⟩ : ∃ a c, v = .slice a (n + 4) c := by
      obtain ⟨a, c, e⟩ := h.2.imp fun a h => h.imp fun c h => h.1
      exact ⟨a, c, by rw [e, hn]⟩
    obtain ⟨b, off, rfl, _, _⟩ := h.spot (by omega)
    by_cases hq : ys = sumb (fnv xs)
    · exact getM_good w b off c n xs ys ea eu es hx hy h (by rw [hn] at hl; omega) hq he hes
    · exact getM_bad w b off c n xs ys ea eu hx hy h (by rw [hn] at hl; omega) hq hu
theorem ens_nil (w : World) : Ens w (.slice none 0 0) [] := ⟨none, 0, rfl, by simp, fun hp => by simp at hp, fun t ht => by simp at ht⟩
def mOne : Mg := ⟨1, 0, 0, 0, 1, 0, 0, 0, []⟩
def mNone : Mg := ⟨1, 0, 0, 0, 0, 0, 0, 0, []⟩
theorem mOne_in : inM mOne := ⟨⟨⟨by decide, by decide⟩, ⟨by decide, by decide⟩, ⟨by decide, by decide⟩, ⟨by decide, by decide⟩, by decide, by decide⟩, .inl ⟨.inl rfl, ⟨rfl, rfl⟩, rfl⟩⟩
theorem mNone_out : ¬ inM mNone := fun h => by have := h.1.2.2.2.1.1; simp [mNone] at this
theorem mOne_head : ∃ r, sealM mOne = (1 : Int) :: r := by
  have e : encL (mnum mOne) = (1 : Int) :: encL [0, 0, 0, 1, 0, 0, 0] := by
    show enc 1 ++ encL [0, 0, 0, 1, 0, 0, 0] = _
    rw [enc_lt (by omega)]
    rfl
  unfold sealM bytesM
  rw [e, List.cons_append, List.cons_append]
  exact ⟨_, rfl⟩
theorem own_head {w : World} {base n : Nat} {e : TypeId} {v : Value} {x : Int} {r : List Int} {bs : List Int} (h : w.ownsRow base e 1 v n (bs.map (Value.int .u8))) (hb : bs = x :: r) (hn : bs.length = n) : ∃ g cap, v = .slice (some ⟨g, 0, none⟩) n cap ∧ w.cell? ⟨g, 0, none⟩ = some (.int .u8 x) ∧ n ≤ cap := by
  obtain ⟨g, cap, rfl, _, _, hc⟩ := own_spot h (by rw [← hn, hb]; simp)
  refine ⟨g, cap, rfl, ?_, hc⟩
  have := h.cells (g := g) rfl 0 (.int .u8 x) (by rw [hb]; rfl)
  rwa [add_none] at this
set_option maxHeartbeats 6400000 in
theorem speaks_any (w : World) (es : Addr) (hE : Err w 0 text0 es) : Calls Tryd.prog 20 #[] w fun r w' => r = .returned (.bool true) ∧ Below w.heap.size w w' := by
  have HE := mkHid hE
  have hq := hE.eq
  have HC1 := mkHid (putM_yes w mOne (.slice none 0 0) [] es (ens_nil w) rfl hE.1 mOne_in)
  clear hE
  simp only [vM, mOne] at HC1
  have hlen : (8 : Int) < ((sealM mOne).length : Int) := by have := bytesM_pos mOne; rw [sealM_len]; omega
  have HLEN := mkHid hlen
  obtain ⟨n1, hn1⟩ : ∃ n1, n1 = (sealM mOne).length := ⟨_, rfl⟩
  rw [← hn1] at hlen
  have HN1 := mkHid hn1
  clear hn1
  go_enter Tryd.func20, Tryd.ntmps20
  go_wp2_with (first
    | (go_at_call 23; (with_reducible refine HC1.out.mono ?_); rintro r w1 ⟨v1, rfl, ho1, b1⟩; have ho1' : w1.ownsRow w.heap.size 5 1 v1 (sealM mOne).length ((sealM mOne).map (Value.int .u8)) := ho1; rw [← HN1.out] at ho1'; obtain ⟨r1, hr1⟩ := mOne_head; obtain ⟨g, cap, rfl, hc0, hcap⟩ := own_head ho1' hr1 HN1.out.symm; have HB1 := mkHid b1; have HC0 := mkHid hc0; clear ho1 ho1' hr1 b1 hc0)
    | (go_at_call 23; refine (putM_no w1 mNone (.slice none 0 0) [] es (ens_nil w1) rfl (kc HE.out.1 HB1.out) mNone_out).mono ?_; rintro r w2 ⟨rfl, b2⟩; have hc2 := kc HC0.out b2; have ce := kc HE.out.1 (bt HB1.out b2); have HB2 := mkHid (bt HB1.out b2); clear b2))
  go_ret
  exact ⟨rfl, HB2.out⟩
end Go.Proofs.YtaiklaipdocdmaaDoor
