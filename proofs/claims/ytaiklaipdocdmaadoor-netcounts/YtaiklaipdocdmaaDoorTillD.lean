/- The taking of operations in a region that draws its order, till a store. -/
import Derived.Test.YtaiklaipdocdmaaDoorTill
namespace Go.Proofs.YtaiklaipdocdmaaDoor
open Go.RowKit
set_option maxRecDepth 100000

theorem freeD {P : Program} {md : Region.Mode} {ops : Array Oper} {Q : Exit → Act → World → Prop} {T : World → Prop} {s n : Nat} {l : Array Bool} {t : List Value} {df : List Deferred} {w : World} {oi : Oper} (i d : Nat) (v : Value) (hi : ops[i]? = some oi) (hd : oi.dst = some d) (hs : Region.noSelect ops = true) (hf : Region.free md ops l i = true) (hr : (Region.ready md ops l).contains i = true)
    (his : i ≠ s) (hQ : ∀ c a w, Q (.panic c) (a.put oi.dst v) w → Q (.panic c) a w) (hT : l.getD s true = false → T w) (hy : YieldsIf P ops (fun _ => True) oi v ⟨t.toArray, df⟩) (h : wpT P md ops Q T s n (l.setIfInBounds i true) ⟨(t.set d v).toArray, df⟩ w) : wpT P md ops Q T s (n + 1) l ⟨t.toArray, df⟩ w := by
  refine wpT_free i v hi hs hf hr his hQ hT hy ?_
  rw [hd]
  simpa [Act.put] using h
theorem firstD {P : Program} {md : Region.Mode} {ops : Array Oper} {Q : Exit → Act → World → Prop} {T : World → Prop} {s n : Nat} {l : Array Bool} {t : List Value} {df : List Deferred} {w : World} {oi : Oper} (i d : Nat) (v : Value) (hi : ops[i]? = some oi) (hd : oi.dst = some d) (hs : Region.noSelect ops = true) (hf : Region.free md ops l i = true) (hr : (Region.ready md ops l).contains i = true) (hsf : l.getD s true = false)
    (his : i ≠ s) (hw : waits md ops s i = true) (hQ : ∀ c a w, Q (.panic c) (a.put oi.dst v) w → Q (.panic c) a w) (hy : YieldsIf P ops T oi v ⟨t.toArray, df⟩) (hT : T w) (h : wpT P md ops Q T s n (l.setIfInBounds i true) ⟨(t.set d v).toArray, df⟩ w) : wpT P md ops Q T s (n + 1) l ⟨t.toArray, df⟩ w := by
  refine wpT_first i v hi hs hf hr hsf his hw hQ hy hT ?_
  rw [hd]
  simpa [Act.put] using h
end Go.Proofs.YtaiklaipdocdmaaDoor
