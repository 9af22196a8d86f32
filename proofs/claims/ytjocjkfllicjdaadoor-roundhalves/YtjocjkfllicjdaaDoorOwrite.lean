/- A ledger's bytes: Write. -/
import Derived.Test.YtjocjkfllicjdaaDoorOforms1
namespace Go.Proofs.YtjocjkfllicjdaaDoor
open Go.ChangeShapes Go.WideShapes Go.ChangeAt Go.RowKit
set_option maxRecDepth 100000
attribute [local go_sem] World.cell?_alloc_some frozen_alloc_some

def chunk (e : En) : List Int := enc (bytesE e).length ++ bytesE e
theorem bytesL_eq (l : List En) : bytesL l = enc l.length ++ l.flatMap chunk := rfl
theorem chunk_byts (l : List En) : Byts (l.flatMap chunk) := by
  intro b hb
  obtain ⟨e, _, he⟩ := List.mem_flatMap.mp hb
  rcases List.mem_append.mp he with h | h
  · exact enc_byts _ b h
  · exact encL_byts _ b h
theorem bytesL_byts (l : List En) : Byts (bytesL l) := Byts.append (enc_byts _) (chunk_byts l)
theorem chunk_len {e : En} (h : inF e) : (chunk e).length ≤ 387 := by
  have h1 := h.blen
  have h2 := enc_len9 (bytesE e).length (by omega)
  unfold chunk
  rw [List.length_append]
  omega
theorem chunks_len : ∀ (l : List En), (∀ e ∈ l, inF e) → (l.flatMap chunk).length ≤ 387 * l.length
  | [], _ => by simp
  | e :: l, h => by
    have h1 := chunk_len (h e (by simp))
    have h2 := chunks_len l (fun x hx => h x (by simp [hx]))
    rw [List.flatMap_cons, List.length_append, List.length_cons]
    omega
theorem chunks_take {l : List En} {j : Nat} {e : En} (h : l[j]? = some e) : (l.take (j + 1)).flatMap chunk = (l.take j).flatMap chunk ++ chunk e := by
  rw [List.take_add_one, h, List.flatMap_append]
  simp
theorem bytesL_len {l : List En} (hl : l.length ≤ 64) (h : ∀ e ∈ l, inF e) : (bytesL l).length ≤ 30000 := by
  have h1 := chunks_len l h
  have h2 := enc_len9 l.length (by omega)
  rw [bytesL_eq, List.length_append]
  omega
abbrev fs1 (ps : List Ep) : List En := ps.map (·.1)
end Go.Proofs.YtjocjkfllicjdaaDoor
