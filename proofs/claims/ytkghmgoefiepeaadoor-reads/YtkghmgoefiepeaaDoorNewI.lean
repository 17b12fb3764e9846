/- kin: a new image: it remembers nothing. -/
import Derived.Test.YtkghmgoefiepeaaDoorTab
namespace Go.Proofs.YtkghmgoefiepeaaDoor.reads
open Go.ChangeShapes Go.WideShapes Go.ChangeAt Go.RowKit Kn Go.Proofs.YtkghmgoefiepeaaDoor.img
set_option linter.unusedSimpArgs false
set_option linter.unusedVariables false

theorem noRows_len : ∀ k, (noRows k).length = k * 4
  | 0 => rfl
  | k + 1 => by simp [noRows, noRows_len k]; omega
theorem noRows_get : ∀ (k i j : Nat), i < k → j < 4 → (noRows k)[i * 4 + j]? = ([.pointer none, .string ⟨#[]⟩, .pointer none, .pointer none] : List Value)[j]?
  | 0, i, j, h, _ => by omega
  | k + 1, 0, j, _, hj => by
    match j, hj with
    | 0, _ => rfl
    | 1, _ => rfl
    | 2, _ => rfl
    | 3, _ => rfl
  | k + 1, i + 1, j, h, hj => by
    have ih := noRows_get k i j (by omega) hj
    rw [show (i + 1) * 4 + j = i * 4 + j + 4 from by omega]
    exact ih
theorem img_cell (mb sb : Nat) (p n : Int) (o : Nat) : (newImg mb sb p n)[6 + o]? = (noRows 64 ++ [Value.int .i64 n])[o]? := by
  rw [Nat.add_comm]
  unfold newImg
  simp only [List.getElem?_toArray]
  rfl
theorem new_tab {w : World} {b mb sb : Nat} {p : Int} {n : Nat} (h : w.heap[b]? = some (.cells (newImg mb sb p (n : Nat)) 52)) (h1 : 1 ≤ n) (h2 : n ≤ 64) : TabAt w b n (fun _ => noRow) := by
  have hc : ∀ o, w.cell? ⟨b, 6 + o, none⟩ = (noRows 64 ++ [Value.int .i64 (n : Nat)])[o]? := fun o => by
    simp only [World.cell?, h]
    exact img_cell _ _ _ _ _
  have hr : ∀ i j, i < 64 → j < 4 → w.cell? ⟨b, 6 + (i * 4 + j), none⟩ = ([.pointer none, .string ⟨#[]⟩, .pointer none, .pointer none] : List Value)[j]? := fun i j hi hj => by
    rw [hc, List.getElem?_append_left (by rw [noRows_len]; omega), noRows_get 64 i j hi hj]
  refine ⟨⟨_, _, h⟩, h1, h2, ?_, fun i hi => hr i 0 hi (by omega), fun i hi => hr i 1 hi (by omega), fun i hi => hr i 2 hi (by omega), fun i hi => hr i 3 hi (by omega)⟩
  have := hc 256
  rw [List.getElem?_append_right (by rw [noRows_len]; omega), noRows_len] at this
  exact this
theorem img_heads {w : World} {b mb sb : Nat} {p n : Int} (h : w.heap[b]? = some (.cells (newImg mb sb p n) 52)) :
    w.cell? ⟨b, 0, none⟩ = some (.map (some mb)) ∧ w.cell? ⟨b, 1, none⟩ = some (.slice none 0 0) ∧ w.cell? ⟨b, 2, none⟩ = some (.int .i64 0) ∧ w.cell? ⟨b, 3, none⟩ = some (.int .i64 0) ∧ w.cell? ⟨b, 4, none⟩ = some (.int .i64 p) ∧ w.cell? ⟨b, 5, none⟩ = some (.map (some sb)) := by
  refine ⟨?_, ?_, ?_, ?_, ?_, ?_⟩ <;> (simp only [World.cell?, h]; rfl)
theorem new_snd {w : World} {sb : Nat} (h : w.heap[sb]? = some (.map #[] 0)) : SndAt w sb [] (fun _ => []) :=
  ⟨sMap_empty h, fun s v hv => by simp [List.lookup] at hv, fun s t ib hs => by simp [List.lookup] at hs, fun s ib p hs => by simp [List.lookup] at hs⟩

end Go.Proofs.YtkghmgoefiepeaaDoor.reads
