/- Lists of servers in memory; Servers where one is not legal. -/
import Derived.Test.YtnmmphnaelpjdaaDoorPlan1
import Derived.Test.YtnmmphnaelpjdaaDoorParts2
namespace Go.Proofs.YtnmmphnaelpjdaaDoor
open Go.ChangeShapes Go.WideShapes Go.ChangeAt Go.RowKit
set_option maxRecDepth 100000
attribute [local go_sem] World.cell?_alloc_some frozen_alloc_some

def SvAt (w : World) (b o : Nat) (s : Sv) : Prop := w.cell? ⟨b, o, none⟩ = some (.int .i64 s.1) ∧ w.cell? ⟨b, o + 1, none⟩ = some (.int .i64 s.2.1) ∧ w.cell? ⟨b, o + 2, none⟩ = some (.int .i64 s.2.2)
/-- A list of servers in memory. -/
def Svs (w : World) (v : Value) (xs : List Sv) : Prop :=
  ∃ a cap, v = .slice a xs.length cap ∧ (xs.length : Int) ≤ 9223372036854775807 ∧ (0 < xs.length → ∃ b off, a = some ⟨b, off, none⟩ ∧ ∀ i x, xs[i]? = some x → SvAt w b (off + i * 3) x)
theorem SvAt.below {w w' : World} {b o : Nat} {s : Sv} (h : SvAt w b o s) (hb : Below w.heap.size w w') : SvAt w' b o s := ⟨kc h.1 hb, kc h.2.1 hb, kc h.2.2 hb⟩
theorem Svs.below {w w' : World} {v : Value} {xs : List Sv} (h : Svs w v xs) (hb : Below w.heap.size w w') : Svs w' v xs := by
  obtain ⟨a, cap, rfl, hl, hr⟩ := h
  refine ⟨a, cap, rfl, hl, fun hp => ?_⟩
  obtain ⟨b, off, rfl, hc⟩ := hr hp
  exact ⟨b, off, rfl, fun i x hi => (hc i x hi).below hb⟩
theorem Svs.at {w w' : World} {a : Option Addr} {n cap : Nat} {xs : List Sv} (h : Svs w (.slice a n cap) xs) (hb : Below w.heap.size w w') (i : Nat) (hi : i < xs.length) : ∃ b off k q t, a = some ⟨b, off, none⟩ ∧ xs[i]? = some (k, q, t) ∧ w'.cell? ⟨b, off + i * 3, none⟩ = some (.int .i64 k) ∧ w'.cell? ⟨b, off + i * 3 + 1, none⟩ = some (.int .i64 q) ∧ w'.cell? ⟨b, off + i * 3 + 2, none⟩ = some (.int .i64 t) := by
  obtain ⟨a', cap', e, _, hr⟩ := h.below hb
  simp at e
  obtain ⟨rfl, rfl, rfl⟩ := e
  obtain ⟨b, off, rfl, hc⟩ := hr (by omega)
  obtain ⟨⟨k, q, t⟩, hx⟩ : ∃ x, xs[i]? = some x := ⟨_, List.getElem?_eq_getElem hi⟩
  exact ⟨b, off, k, q, t, rfl, hx, hc i _ hx⟩
abbrev vP (A B C E : Int) : Value := .agg #[.int .u64 A, .int .u64 B, .int .u64 C, .int .u64 E]
abbrev oP (A B C E : Int) : Obj := .cells #[.int .u64 A, .int .u64 B, .int .u64 C, .int .u64 E] 53
/-- A fraction in a block of its own, which may be written. -/
def P4 (w : World) (p : Nat) (A B C E : Int) : Prop :=
  (w.cell? ⟨p, 0, none⟩ = some (.int .u64 A) ∧ w.cell? ⟨p, 1, none⟩ = some (.int .u64 B) ∧ w.cell? ⟨p, 2, none⟩ = some (.int .u64 C) ∧ w.cell? ⟨p, 3, none⟩ = some (.int .u64 E)) ∧
    w.frozen? ⟨p, 0, none⟩ = false ∧ w.frozen? ⟨p, 1, none⟩ = false ∧ w.frozen? ⟨p, 2, none⟩ = false ∧ w.frozen? ⟨p, 3, none⟩ = false
theorem P4.below {w w' : World} {p : Nat} {A B C E : Int} (h : P4 w p A B C E) (hb : Below w.heap.size w w') : P4 w' p A B C E := by
  obtain ⟨⟨h0, h1, h2, h3⟩, g0, g1, g2, g3⟩ := h
  exact ⟨⟨kc h0 hb, kc h1 hb, kc h2 hb, kc h3 hb⟩, kf h0 hb g0, kf h1 hb g1, kf h2 hb g2, kf h3 hb g3⟩
theorem P4.alloc {w : World} {p : Nat} {A B C E : Int} (h : P4 w p A B C E) (o : Obj) : P4 (w.alloc o) p A B C E := h.below ((Below.refl _ _).alloc (Nat.le_refl _) _)
theorem P4.new (w : World) (A B C E : Int) : P4 (w.alloc (oP A B C E)) w.heap.size A B C E := by
  refine ⟨⟨?_, ?_, ?_, ?_⟩, ?_, ?_, ?_, ?_⟩ <;> simp [go_sem]
theorem ErrCell.below {w w' : World} {g : Nat} {a : Addr} (h : w.cell? ⟨g, 0, none⟩ = some (vE a)) (hb : Below w.heap.size w w') : w'.cell? ⟨g, 0, none⟩ = some (vE a) := kc h hb
set_option maxHeartbeats 1600000 in
theorem servers_no (w : World) (v : Value) (xs : List Sv) (a : Addr) (h : Svs w v xs) (hx : ∃ x ∈ xs, ¬ okS x) (he : w.cell? ⟨0, 0, none⟩ = some (vE a)) :
    Calls Tryd.prog 27 #[v] w fun e w' => e = .returned (.tuple #[vP 0 0 0 0, vE a]) ∧ Below w.heap.size w w' := by
  obtain ⟨a0, cap, rfl, hl, h9⟩ := id h
  have HS := mkHid h
  have HX := mkHid hx
  have HE := mkHid he
  clear h hx he h9
  go_enter Tryd.func27, Tryd.ntmps27
  go_wp2
  go_loopw [12] (fun iv wr => ∃ j : Nat, iv = .int .i64 (j : Int) ∧ j ≤ xs.length ∧ Hid (∀ i x, i < j → xs[i]? = some x → okS x) ∧ Hid (Below (w.alloc (oP 0 0 0 0)).heap.size (w.alloc (oP 0 0 0 0)) wr)) (fun iv _ => xs.length - (intOf iv).toNat)
  case atStart => exact ⟨0, rfl, Nat.zero_le _, mkHid (fun i x hi => by omega), Below.refl _ _⟩
  case round =>
    obtain ⟨j, rfl, hj, HO, HB⟩ := hrel
    by_cases hlt : j < xs.length
    · obtain ⟨b, off, k, q, t, rfl, hxj, c0, c1, c2⟩ := HS.out.at (bt (ba (Below.refl _ _) _) HB.out) j hlt
      have hji : (j : Int) < xs.length := by omega
      have HXJ := mkHid hxj
      clear hxj
      by_cases hk : okS (k, q, t)
      · have HK := mkHid hk
        clear hk
        go_wp2_with (go_at_call 50; refine (check_ok _ (k, q, t) HK.out).mono ?_; rintro e w1 ⟨rfl, b1⟩; have HB1 := mkHid (bt (ba HB.out _) b1); clear b1)
        go_roundw
        case rel =>
          refine ⟨j + 1, by go_num, by omega, mkHid (fun i x hi hx => ?_), HB1⟩
          by_cases e : i = j
          · subst e
            rw [HXJ.out] at hx
            simp at hx
            rw [← hx]
            exact HK.out
          · exact HO.out i x (by omega) hx
        case measure => simp [intOf]; omega
      · have HK := mkHid hk
        clear hk
        go_wp2_with (go_at_call 50; refine (check_no _ (k, q, t) HK.out a (kl (kc (kl HE.out _) HB.out) _)).mono ?_; rintro e w1 ⟨rfl, b1⟩; have HB1 := mkHid (bt (ba HB.out _) b1); clear b1; obtain ⟨⟨z0, z1, z2, z3⟩, f0, f1, f2, f3⟩ := (P4.new w 0 0 0 0).below HB1.out)
        exact bodyPost_ret (v := .tuple #[vP 0 0 0 0, vE a]) (by simp [results, Tryd.results27, go_sem, z0, z1, z2, z3]) rfl ⟨rfl, ((((bt (ba (Below.refl _ _) _) HB1.out).setCell (Nat.le_refl _) _).setCell (Nat.le_refl _) _).setCell (Nat.le_refl _) _).setCell (Nat.le_refl _) _⟩
    · exfalso
      obtain ⟨x, hm, hn⟩ := HX.out
      obtain ⟨i, hi, rfl⟩ := List.getElem_of_mem hm
      exact hn (HO.out i _ (by omega) (List.getElem?_eq_getElem hi))
end Go.Proofs.YtnmmphnaelpjdaaDoor
