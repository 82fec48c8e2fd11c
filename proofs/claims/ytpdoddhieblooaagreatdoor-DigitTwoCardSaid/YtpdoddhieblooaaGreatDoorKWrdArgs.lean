/- digit.word and digit.natural: a word of a number, and a plain number's words. digit.natural: a plain number's words. A slice that holds a number's words, as an argument and as a result. -/
import Derived.Test.YtpdoddhieblooaaGreatDoorKWrdTrim
import Derived.Laws.OwnMore
import Derived.Deep.OwnRows
import Derived.Lib.Hide
import Derived.Deep.RegionHeld
namespace Go.Proofs.YtpdoddhieblooaaGreatDoor
open Go.RowKit

set_option maxHeartbeats 800000 in
theorem word_any (p : Option Addr) (b cap : Nat) (l : List Nat) (i : Nat) (w : World) (hp : 0 < l.length → p = some ⟨b, 0, none⟩) (_hcap : l.length ≤ cap)
   (hc : ∀ j (h : j < l.length), w.cell? ⟨b, j, none⟩ = some (.int .u32 (l[j] : Int))) (hd : Wrds l) (hlen : l.length ≤ 1000000) (hi : i ≤ 1000000) :
   Calls Tryz.prog 143 #[.slice p l.length cap, .int .i64 (i : Int)] w fun e w' => e = .returned (.int .u64 (((l[i]?).getD 0 : Nat) : Int)) ∧ w = w' := by
 by_cases h : i < l.length
 · have hpp := hp (by omega)
   subst hpp
   have hcc := hc i h
   have h9 := hd.at i h
   have e : (l[i]?).getD 0 = l[i] := by rw [List.getElem?_eq_getElem h]; rfl
   rw [e]
   clear hc e
   go_enter Tryz.func143, Tryz.ntmps143
   go_wp2
   go_ret
   first | exact ⟨rfl, rfl⟩ | skip
 · have e : (l[i]?).getD 0 = 0 := by rw [List.getElem?_eq_none (by omega)]; rfl
   rw [e]
   clear hc e
   go_enter Tryz.func143, Tryz.ntmps143
   go_wp2
   go_ret
   exact ⟨rfl, rfl⟩
end Go.Proofs.YtpdoddhieblooaaGreatDoor
namespace Go.Proofs.YtpdoddhieblooaaGreatDoor
open Go.RowKit

set_option maxHeartbeats 1600000 in
set_option maxRecDepth 100000 in
theorem natural_any (n : Nat) (w : World) (hn : n < 9223372036854775808) :
   Calls Tryz.prog 64 #[.int .i64 (n : Int)] w fun e w' => ∃ v, e = .returned v ∧ w'.ownsRow w.heap.size 104 1 v (wrds n).length (wcells (wrds n)) ∧ Below w.heap.size w w' := by
 obtain ⟨i0, hi, hz0, hz1, hz2⟩ := info_parts Tryz.infoWord
 have hlen := wrds_length n 2 (by omega)
 have hmk : (Instr.makeSlice 39 (.int .i64 0) (.int .i64 2)).run Tryz.prog w = .ok (.slice (some ⟨w.heap.size, 0, none⟩) 0 2) (w.alloc (.cells #[.int .u32 0, .int .u32 0] 104)) := by kernel_rfl
 go_enter Tryz.func64, Tryz.ntmps64
 go_wp2
 go_loopw [3, 4] (fun v i wr => ∃ (m : Nat) (l : List Nat), i = .int .u64 (m : Int) ∧ m ≤ n ∧ l ++ wrds m = wrds n ∧ wr.ownsRow w.heap.size 104 1 v l.length (wcells l) ∧ Below w.heap.size w wr)
   (fun _ i _ => (intOf i).toNat)
 case atStart => exact ⟨n, [], rfl, Nat.le_refl _, rfl, ⟨rfl, .inr ⟨w.heap.size, 2, #[.int .u32 0, .int .u32 0], rfl, Nat.le_refl _, heap_alloc_new w _, by decide, by decide, rfl, rfl⟩⟩, (Below.refl _ w).alloc (Nat.le_refl _) _⟩
 case round =>
   obtain ⟨m, l, rfl, hm, hl, hown, hnx⟩ := hrel
   have hll : l.length ≤ 2 := by have := congrArg List.length hl; rw [List.length_append] at this; omega
   have hsz := hnx.size
   by_cases hpos : 0 < m
   · have hc31 : ((m : Int) % 4294967296) = ((m % 4294967296 : Nat) : Int) := by omega
     have HC := Lib.hid hc31
     have HL := Lib.hid hl
     clear hc31 hl
     go_wp2_with (at_builtin; refine wpList_append_own _ rfl _ _ 39 rfl w.heap.size 104 i0 (.int .u32 0) 1 4 Tryz.underlying39 hi hz0 hz1 hz2 rfl (by decide) _ _ _ rfl (hown.alloc _) ⟨wr.heap.size, 0, none⟩ 1 1 [.int .u32 ((m : Int) % 4294967296)] rfl rfl ?c1 ?c2 ?c3 ?c4 ?c5 ?_)
     case c1 =>
       intro j u hj
       match j, hj with
       | 0, hj => simp at hj; subst hj; simp [Addr.add]
     case c2 => intro u hu; simp at hu; subst hu; rfl
     case c3 => unfold maxLen; omega
     case c4 => omega
     case c5 => simp; omega
     intro v' w1 hown' hgrow _
     have R : w1.ownsRow w.heap.size 104 1 v' (l ++ [m % 4294967296]).length (wcells (l ++ [m % 4294967296])) ∧ Below w.heap.size w w1 := by
       rw [HC.out] at hown'
       exact ⟨by simpa [wcells] using hown', (hnx.alloc (by omega) _).grown hgrow (by simp; omega) (fun j hj => (hown.lt j hj).1)⟩
     have HR := Lib.hid R
     clear hown' hgrow hown R
     go_wp2
     case roundEnd =>
       refine ⟨⟨m / 4294967296, l ++ [m % 4294967296], by rw [show ((m / 4294967296 : Nat) : Int) = (m : Int) / 4294967296 by omega], by omega, ?_, HR.out.1, HR.out.2⟩, by simp [intOf]; omega⟩
       rw [List.append_assoc, List.singleton_append, ← wrds_pos m hpos]; exact HL.out
   · have h0 : m = 0 := by omega
     subst h0
     rw [wrds_zero, List.append_nil] at hl
     subst hl
     go_wp2
     go_ret
     exact ⟨_, rfl, hown, hnx⟩
end Go.Proofs.YtpdoddhieblooaaGreatDoor
namespace Go.Proofs.YtpdoddhieblooaaGreatDoor
open Go.RowKit

def WArg (B : Nat) (w : World) (v : Value) (n : Nat) : Prop :=
 (v = .slice none 0 0 ∧ n = 0) ∨ ∃ b cap, v = .slice (some ⟨b, 0, none⟩) (wrds n).length cap ∧ (wrds n).length ≤ cap ∧ B ≤ b ∧ b < w.heap.size ∧
   ∀ j (h : j < (wrds n).length), w.cell? ⟨b, j, none⟩ = some (.int .u32 ((wrds n)[j] : Int))
theorem WArg.of_own {B : Nat} {w : World} {v : Value} {n : Nat} (h : w.ownsRow B 104 1 v (wrds n).length (wcells (wrds n))) : WArg B w v n := by
 rcases h.2 with ⟨rfl, h0⟩ | ⟨g, cap, cur, rfl, hB, hg, hn, hm, hs, htk⟩
 · left
   refine ⟨rfl, ?_⟩
   have := List.length_eq_zero_iff.1 h0
   rw [← wval_digs n, this]; rfl
 · right
   refine ⟨g, cap, rfl, hn, hB, (Array.getElem?_eq_some_iff.1 hg).1, ?_⟩
   intro j hj
   have := h.cells (g := g) rfl j (.int .u32 ((wrds n)[j] : Int)) (by simp [wcells, List.getElem?_eq_getElem hj])
   rw [add_head] at this
   exact this
theorem WArg.parts {B : Nat} {w : World} {v : Value} {n : Nat} (h : WArg B w v n) :
   ∃ p b cap, v = .slice p (wrds n).length cap ∧ (0 < (wrds n).length → p = some ⟨b, 0, none⟩) ∧ (wrds n).length ≤ cap ∧
     (∀ j (h : j < (wrds n).length), w.cell? ⟨b, j, none⟩ = some (.int .u32 ((wrds n)[j] : Int))) ∧ (0 < (wrds n).length → b < w.heap.size) := by
 rcases h with ⟨rfl, rfl⟩ | ⟨b, cap, rfl, h1, h2, h3, h4⟩
 · have e : wrds 0 = [] := wrds_zero
   exact ⟨none, 0, 0, by rw [e]; rfl, fun h => by rw [e] at h; exact absurd h (by simp), by rw [e]; simp, fun j h => by rw [e] at h; exact absurd h (by simp), fun h => by rw [e] at h; exact absurd h (by simp)⟩
 · exact ⟨_, b, cap, rfl, fun _ => rfl, h1, h4, fun _ => h3⟩
theorem WArg.keep {B C : Nat} {w w' : World} {v : Value} {n : Nat} (h : WArg B w v n) (hb : Below C w w') (hC : w.heap.size ≤ C) : WArg B w' v n := by
 have hs := hb.size
 rcases h with h | ⟨b, cap, rfl, h1, h2, h3, h4⟩
 · exact .inl h
 · exact .inr ⟨b, cap, rfl, h1, h2, by omega, fun j hj => (hb.cell (p := ⟨b, j, none⟩) (show b < C by omega)).trans (h4 j hj)⟩
theorem WArg.base {B B' : Nat} {w : World} {v : Value} {n : Nat} (h : WArg B w v n) (hB : B' ≤ B) : WArg B' w v n := by
 rcases h with h | ⟨b, cap, rfl, h1, h2, h3, h4⟩
 · exact .inl h
 · exact .inr ⟨b, cap, rfl, h1, by omega, h3, h4⟩
theorem WArg.setCell {B : Nat} {w : World} {v x : Value} {n : Nat} (h : WArg B w v n) (q : Addr) (hq : q.block < B) : WArg B (w.setCell q x) v n := by
 rcases h with h | ⟨b, cap, rfl, h1, h2, h3, h4⟩
 · exact .inl h
 · exact .inr ⟨b, cap, rfl, h1, h2, by simpa using h3, fun j hj => (World.cell?_setCell_far w q ⟨b, j, none⟩ x (show q.block ≠ b by omega)).trans (h4 j hj)⟩
theorem WArg.drew {B : Nat} {w : World} {v : Value} {n : Nat} (h : WArg B w v n) : WArg B w.drew v n := h.keep (C := w.heap.size) ((Below.refl _ w).drew) (Nat.le_refl _)
theorem WArg.slice {B : Nat} {w : World} {v : Value} {n : Nat} (h : WArg B w v n) : ∃ p cap, v = .slice p (wrds n).length cap := by
 obtain ⟨p, b, cap, rfl, _⟩ := h.parts
 exact ⟨p, cap, rfl⟩
def GivesW (w : World) (n : Nat) (e : Ending) (w' : World) : Prop := ∃ v, e = .returned v ∧ WArg w.heap.size w' v n ∧ Below w.heap.size w w'
theorem givesW_of {w : World} {n : Nat} {e : Ending} {w' : World} (h : ∃ v, e = .returned v ∧ w'.ownsRow w.heap.size 104 1 v (wrds n).length (wcells (wrds n)) ∧ Below w.heap.size w w') : GivesW w n e w' := by
 obtain ⟨v, he, ho, hb⟩ := h
 exact ⟨v, he, .of_own ho, hb⟩
theorem natural_d (n : Nat) (w : World) (hn : n < 9223372036854775808) : Calls Tryz.prog 64 #[.int .i64 (n : Int)] w (GivesW w n) :=
 (natural_any n w hn).mono fun _ _ h => givesW_of h
def wrd (n i : Nat) : Nat := ((wrds n)[i]?).getD 0
theorem wrd_lt (n i : Nat) : wrd n i < 4294967296 := (wrds_digs n).at? i
theorem word_d {B n : Nat} {v : Value} {w : World} (h : WArg B w v n) (i : Nat) (hl : (wrds n).length ≤ 1000000) (hi : i ≤ 1000000) :
   Calls Tryz.prog 143 #[v, .int .i64 (i : Int)] w fun e w' => e = .returned (.int .u64 ((wrd n i : Nat) : Int)) ∧ w = w' := by
 obtain ⟨p, b, c, rfl, a1, a2, a3, _⟩ := h.parts
 exact word_any p b c _ i w a1 a2 a3 (wrds_digs n) hl hi
end Go.Proofs.YtpdoddhieblooaaGreatDoor
