/- Rows of words: a block that a function of words makes and fills. -/
import Derived.Test.YtpdoddhieblooaaGreatDoorKWrdArgs
import Derived.Test.YtpdoddhieblooaaGreatDoorKBit0
namespace Go.Proofs.YtpdoddhieblooaaGreatDoor
open Go.RowKit

abbrev wrow (l : List Nat) : Array Value := (wcells l).toArray
theorem wcells_set (l : List Nat) (k n : Nat) : wcells (l.set k n) = (wcells l).set k (.int .u32 (n : Int)) := List.map_set ..
theorem Row.wput {w : World} {b : Nat} {l : List Nat} {t : TypeId} (h : Row w b (wrow l) t) (k d : Nat) : Row (w.setCell ⟨b, k, none⟩ (.int .u32 (d : Int))) b (wrow (l.set k d)) t := by
 have h1 : Row (w.setCell ⟨b, k, none⟩ (.int .u32 (d : Int))) b ((wrow l).setIfInBounds k (.int .u32 (d : Int))) t := heap_setCell_same w b k _ t _ h
 have e : (wrow l).setIfInBounds k (.int .u32 (d : Int)) = wrow (l.set k d) := by
   unfold wrow; rw [wcells_set, List.setIfInBounds_toArray]
 rwa [e] at h1
theorem Row.wat {w : World} {b : Nat} {l : List Nat} {t : TypeId} (h : Row w b (wrow l) t) {j : Nat} (hj : j < l.length) : w.cell? ⟨b, j, none⟩ = some (.int .u32 (l[j] : Int)) := by
 rw [h.at j]; simp [wrow, wcells, List.getElem?_eq_getElem hj]
theorem wmade (n : Nat) : madeCells #[Value.int .u32 0] n = wrow (List.replicate n 0) := by
 apply Array.ext'
 apply List.ext_getElem?
 intro i
 by_cases h : i < n
 · simp [madeCells, wcells, h, Nat.mod_one]
 · simp [madeCells, wcells, h]
theorem WArg.of_row {B b cap : Nat} {w : World} {l : List Nat} {t : TypeId} (h : Row w b (wrow l) t) (hB : B ≤ b) (hd : Wrds l) (hc : l.length ≤ cap) : WArg B w (.slice (some ⟨b, 0, none⟩) (wrds (wval l)).length cap) (wval l) := by
 obtain ⟨hle, ht⟩ := wrds_take hd
 refine .inr ⟨b, cap, rfl, by omega, hB, h.lt, fun j hj => ?_⟩
 rw [h.wat (show j < l.length by omega)]
 have : (wrds (wval l))[j] = l[j]'(by omega) := by
   have e : (wrds (wval l))[j]? = (l.take (wrds (wval l)).length)[j]? := by rw [← ht]
   rw [List.getElem?_eq_getElem hj, List.getElem?_take, if_pos hj, List.getElem?_eq_getElem (by omega)] at e
   exact Option.some.inj e
 rw [this]
theorem trim_row {b cap : Nat} {w : World} {l : List Nat} {t : TypeId} (h : Row w b (wrow l) t) (hd : Wrds l) (hc : l.length ≤ cap) (hlen : l.length ≤ 1000000) :
   Calls Tryz.prog 115 #[.slice (some ⟨b, 0, none⟩) l.length cap] w fun e w' => e = .returned (.slice (some ⟨b, 0, none⟩) (wrds (wval l)).length cap) ∧ w = w' :=
 trimmed_any _ b cap l w hd (fun _ => rfl) (.inr rfl) hc (fun h => by cases h) (fun j hj => h.wat hj) hlen
end Go.Proofs.YtpdoddhieblooaaGreatDoor
