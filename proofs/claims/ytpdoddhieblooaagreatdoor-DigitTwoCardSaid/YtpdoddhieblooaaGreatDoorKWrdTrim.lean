/- digit.trimmed: a list of words without zeros at its end is its number's; and words that the call itself holds. -/
import Derived.Test.YtpdoddhieblooaaGreatDoorKDigFrom
import Derived.Test.YtpdoddhieblooaaGreatDoorKWrdPure
import Derived.WalkKit
namespace Go.Proofs.YtpdoddhieblooaaGreatDoor
open Go.RowKit

theorem Tryz.infoWord : (Tryz.prog.info? 104).map (fun i => (i.zero, i.size, i.bytes)) = some (some (.int .u32 0), 1, 4) := by kernel_rfl
abbrev wcells (l : List Nat) : List Value := l.map fun d : Nat => Value.int .u32 (d : Int)
theorem wtake_of_val {l : List Nat} {k : Nat} (hd : Wrds l) (hk : k ≤ l.length) (hv : wval (l.take k) = wval l) (h : ∀ h0 : 0 < k, l[k - 1] ≠ 0) : wrds (wval l) = l.take k := by
 rw [← hv]
 refine wrds_val (hd.take k) (neat_of_last ?_)
 intro h0
 rw [List.length_take_of_le hk] at h0
 have := h h0
 simpa [List.length_take_of_le hk] using this
theorem wtrim_step {l : List Nat} {k : Nat} (hk : k ≤ l.length) (h0 : 0 < k) (hz : l[k - 1] = 0) (hv : wval (l.take k) = wval l) : wval (l.take (k - 1)) = wval l := by
 have := wval_take_succ l (k - 1) (by omega)
 rw [show k - 1 + 1 = k by omega, hz, Nat.mul_zero, Nat.add_zero] at this
 rw [← this]; exact hv
set_option maxHeartbeats 1600000 in
set_option maxRecDepth 100000 in
theorem trimmed_any (p : Option Addr) (b cap : Nat) (l : List Nat) (w : World) (hd : Wrds l) (hp : 0 < l.length → p = some ⟨b, 0, none⟩) (hp0 : p = none ∨ p = some ⟨b, 0, none⟩) (hcap : l.length ≤ cap) (hnil : p = none → cap = 0)
   (hc : ∀ j (h : j < l.length), w.cell? ⟨b, j, none⟩ = some (.int .u32 (l[j] : Int))) (hlen : l.length ≤ 1000000) :
   Calls Tryz.prog 115 #[.slice p l.length cap] w fun e w' => e = .returned (.slice p (wrds (wval l)).length cap) ∧ w = w' := by
 go_enter Tryz.func115, Tryz.ntmps115
 go_wp2
 go_loopw [3] (fun i wr => ∃ k : Nat, i = .int .i64 (k : Int) ∧ k ≤ l.length ∧ wval (l.take k) = wval l ∧ w = wr)
   (fun i _ => (intOf i).toNat)
 case atStart => exact ⟨l.length, rfl, Nat.le_refl _, by rw [List.take_length], rfl⟩
 case round =>
   obtain ⟨k, rfl, hk, hv, rfl⟩ := hrel
   by_cases h0 : k = 0
   · subst h0
     have hdl := wtake_of_val hd hk hv (fun h => absurd h (by decide))
     have hlz : (wrds (wval l)).length = 0 := by rw [hdl]; rfl
     clear hp hc
     rcases hp0 with rfl | rfl
     · have := hnil rfl
       subst this
       go_wp2
       go_ret
       first
         | exact ⟨by rw [hlz]; rfl, rfl⟩
         | exact ⟨rfl, rfl⟩
         | (rw [hlz]; rfl)
     · go_wp2
       go_ret
       first
         | exact ⟨by rw [hlz]; rfl, rfl⟩
         | exact ⟨rfl, rfl⟩
         | (rw [hlz]; rfl)
   · have hpp := hp (by omega)
     subst hpp
     have hcc := hc (k - 1) (by omega)
     have hcast : ((k : Int) - 1) = ((k - 1 : Nat) : Int) := by omega
     go_wp2
     case roundEnd =>
       have hz : l[k - 1]'(by omega) = 0 := by rename_i hB; simpa using hB
       exact ⟨⟨k - 1, rfl, by omega, wtrim_step hk (by omega) hz hv, trivial⟩, by simp [intOf]; omega⟩
     · have hz : ¬ l[k - 1]'(by omega) = 0 := by rename_i hB; simpa using hB
       have hdl := wtake_of_val hd hk hv (fun _ => hz)
       have hlz : (wrds (wval l)).length = k := by rw [hdl]; exact List.length_take_of_le hk
       go_ret
       first
         | exact ⟨by rw [hlz]; rfl, rfl⟩
         | exact ⟨rfl, rfl⟩
         | (rw [hlz]; rfl)
theorem wtrimmed_take {l : List Nat} (hd : Wrds l) : ∀ m, m ≤ l.length → wval (l.take m) = wval l → ∃ k, k ≤ l.length ∧ wrds (wval l) = l.take k
 | 0, hm, hv => ⟨0, Nat.zero_le _, wtake_of_val hd hm hv fun h => absurd h (by decide)⟩
 | m + 1, hm, hv => by
   by_cases hz : l[m]'(by omega) = 0
   · exact wtrimmed_take hd m (by omega) (by simpa using wtrim_step hm (by omega) (by simpa using hz) hv)
   · exact ⟨m + 1, hm, wtake_of_val hd hm hv fun _ => by simpa using hz⟩
theorem wrds_take {l : List Nat} (hd : Wrds l) : (wrds (wval l)).length ≤ l.length ∧ wrds (wval l) = l.take (wrds (wval l)).length := by
 obtain ⟨k, hk, e⟩ := wtrimmed_take hd l.length (Nat.le_refl _) (by rw [List.take_length])
 have el : (wrds (wval l)).length = k := by rw [e]; exact List.length_take_of_le hk
 exact ⟨by omega, by rw [el]; exact e⟩
end Go.Proofs.YtpdoddhieblooaaGreatDoor
