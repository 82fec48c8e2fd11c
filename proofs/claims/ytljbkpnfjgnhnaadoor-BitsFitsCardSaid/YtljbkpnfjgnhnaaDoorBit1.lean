/- Package bits, the kinds: characters and digits, their items. -/
import Derived.Test.YtljbkpnfjgnhnaaDoorBit0
namespace Go.Proofs.YtljbkpnfjgnhnaaDoor
open Go.RowKit

theorem vlEq (k n q k' n' q' : Int) (s s' : ByteArray) (w : World) :
    (Op.equalIn 10000 23 (vlV k n q s) (vlV k' n' q' s')).run Tryd.prog w = .ok (k == k' && n == n' && q == q' && s.toList == s'.toList) w := by
  have hS : Tryd.prog.underlying 23 = some (.struct (Tryd.prog.fieldsOf 23)) := by kernel_rfl
  have hp : Tryd.prog.stoodInHeld 23 = false := by kernel_rfl
  rw [show (10000 : Nat) = 9999 + 1 from rfl, run_equalIn_agg w 9999 23 _ _ hS hp]
  simp only [Program.fieldsOf, Tryd.underlying23]
  go_simp
  by_cases h1 : k = k' <;> by_cases h2 : n = n' <;> by_cases h3 : q = q' <;> by_cases h6 : s.toList = s'.toList <;> simp [h1, h2, h3, h6]

/-- A kind as a value of the interface. -/
def kdV (k : Int) : Value := if k = 4 then .iface 58 (.agg #[]) else if k = 5 then .iface 76 (.agg #[]) else .nilIface
theorem kdV_4 : kdV 4 = .iface 58 (.agg #[]) := rfl
theorem kdV_5 : kdV 5 = .iface 76 (.agg #[]) := rfl
theorem kdV_no {k : Int} (h : ¬ (k = 4 ∨ k = 5)) : kdV k = .nilIface := by
  unfold kdV; rw [if_neg (fun e => h (.inl e)), if_neg (fun e => h (.inr e))]

set_option maxHeartbeats 400000 in
theorem number_c (w : World) :
    Calls Tryd.prog 88 #[.agg #[]] w fun e w' => e = .returned (.int .i64 4) ∧ Below w.heap.size w w' := by
  go_enter Tryd.func88, Tryd.ntmps88
  go_wp2
  go_ret
  exact ⟨rfl, by go_grown⟩
set_option maxHeartbeats 400000 in
theorem number_d (w : World) :
    Calls Tryd.prog 89 #[.agg #[]] w fun e w' => e = .returned (.int .i64 5) ∧ Below w.heap.size w w' := by
  go_enter Tryd.func89, Tryd.ntmps89
  go_wp2
  go_ret
  exact ⟨rfl, by go_grown⟩

set_option maxHeartbeats 400000 in
theorem bRefuse (n : Int) (w : World) :
    Calls Tryd.prog 41 #[.int .i64 n] w fun e w' => e = .panicked [{ v := .iface 73 (.int .i64 n), recovered := false }] ∧ w = w' := by
  go_enter Tryd.func41, Tryd.ntmps41
  go_wp2
  exact ⟨rfl, rfl, rfl⟩

set_option maxHeartbeats 400000 in
theorem has_any (lo hi c : UInt8) (w : World) :
    Calls Tryd.prog 44 #[.agg #[.int .u8 lo.toNat, .int .u8 hi.toNat], .int .u8 c.toNat] w fun e w' => e = .returned (.bool (decide (lo.toNat ≤ c.toNat) && decide (c.toNat ≤ hi.toNat))) ∧ Below w.heap.size w w' := by
  by_cases h1 : lo.toNat ≤ c.toNat <;> by_cases h2 : c.toNat ≤ hi.toNat
  all_goals
    have h1' : decide ((lo.toNat : Int) ≤ c.toNat) = decide (lo.toNat ≤ c.toNat) := by simp
    have h2' : decide ((c.toNat : Int) ≤ hi.toNat) = decide (c.toNat ≤ hi.toNat) := by simp
    simp only [h1, h2, decide_true, decide_false] at h1' h2'
    go_enter Tryd.func44, Tryd.ntmps44
    go_wp2
    go_ret
    exact ⟨ret_bool (by simp [h1, h2]), by go_grown⟩

set_option maxHeartbeats 1000000 in
theorem hasAll_any (lo hi : UInt8) (s : ByteArray) (w : World) (hs : s.size ≤ 9223372036854775807) :
    Calls Tryd.prog 25 #[.agg #[.int .u8 lo.toNat, .int .u8 hi.toNat], .string s] w fun e w' => e = .returned (.bool (s.data.toList.all fun c => decide (lo.toNat ≤ c.toNat) && decide (c.toNat ≤ hi.toNat))) ∧ Below w.heap.size w w' := by
  go_enter Tryd.func25, Tryd.ntmps25
  go_wp2
  go_loopw [8] (fun i wr => ∃ k : Nat, k ≤ s.size ∧ i = .int .i64 k ∧ Below (w.heap.size + 1) (w.alloc (.cells #[.int .u8 lo.toNat, .int .u8 hi.toNat] 48)) wr ∧ Hid ((s.data.toList.take k).all (fun c => decide (lo.toNat ≤ c.toNat) && decide (c.toNat ≤ hi.toNat)) = true)) (fun i _ => s.size - (intOf i).toNat)
  case atStart => exact ⟨0, Nat.zero_le _, rfl, by simpa using Below.refl _ _, rfl⟩
  case round =>
    obtain ⟨k, hk, rfl, hB, HT⟩ := hrel
    have c0 : wr.cell? ⟨w.heap.size, 0, none⟩ = some (.int .u8 lo.toNat) := (hB.cell (p := ⟨w.heap.size, 0, none⟩) (by simp)).trans (by simp [go_sem])
    have c1 : wr.cell? ⟨w.heap.size, 1, none⟩ = some (.int .u8 hi.toNat) := (hB.cell (p := ⟨w.heap.size, 1, none⟩) (by simp)).trans (by simp [go_sem])
    have hz := hB.size
    simp at hz
    have HB := Lib.hid hB
    clear hB
    by_cases hlt : k < s.size
    · have hsn := take_snoc s k hlt
      cases ht : (decide (lo.toNat ≤ s[k].toNat) && decide (s[k].toNat ≤ hi.toNat)) with
      | true =>
        have HX := Lib.hid ht
        have HS := Lib.hid hsn
        clear ht hsn
        go_wp2
        go_region_held3 (fun w' => w'.cell? ⟨w.heap.size, 0, none⟩ = some (.int .u8 lo.toNat) ∧ w'.cell? ⟨w.heap.size, 1, none⟩ = some (.int .u8 hi.toNat))
          (first | go_keep | (go_split_ands; refine ⟨?_, ?_⟩ <;> (rw [hb2.cell (by simp <;> omega)]; assumption)))
          (first
            | (go_at_call 44; refine (has_any lo hi s[k] _).mono ?_; rw [HX.out]; rintro e w2 ⟨rfl, hb2⟩))
        have hb3 : Below wr.heap.size wr w2 := below_then ((Below.refl _ _).drew) hb2 (by simp)
        clear hb2
        go_wp2
        go_roundw
        case rel => exact ⟨k + 1, by omega, by go_num, below_then HB.out hb3 hz, all_snoc HS.out HT.out HX.out⟩
        case measure => simp [intOf]; omega
      | false =>
        have HX := Lib.hid ht
        clear ht
        have hfin : (s.data.toList.all fun c => decide (lo.toNat ≤ c.toNat) && decide (c.toNat ≤ hi.toNat)) = false := by
          rw [List.all_eq_false]
          exact ⟨s[k], get_mem s k hlt, by rw [HX.out]; decide⟩
        have HF := Lib.hid hfin
        clear hfin
        go_wp2
        go_region_held3 (fun w' => w'.cell? ⟨w.heap.size, 0, none⟩ = some (.int .u8 lo.toNat) ∧ w'.cell? ⟨w.heap.size, 1, none⟩ = some (.int .u8 hi.toNat))
          (first | go_keep | (go_split_ands; refine ⟨?_, ?_⟩ <;> (rw [hb2.cell (by simp <;> omega)]; assumption)))
          (first
            | (go_at_call 44; refine (has_any lo hi s[k] _).mono ?_; rw [HX.out]; rintro e w2 ⟨rfl, hb2⟩))
        have hb3 : Below wr.heap.size wr w2 := below_then ((Below.refl _ _).drew) hb2 (by simp)
        clear hb2
        go_wp2
        go_ret
        exact ⟨ret_bool HF.out.symm, below_boxed (below_then HB.out hb3 hz)⟩
    · have hfin : s.data.toList.take k = s.data.toList := List.take_of_length_le (by rw [lsz]; omega)
      have HF := Lib.hid hfin
      clear hfin
      go_wp2
      go_ret
      exact ⟨ret_bool (by rw [← HF.out, HT.out]), below_boxed HB.out⟩

theorem hasAll_k (k : Int) (s : ByteArray) (w : World) (hs : s.size ≤ 9223372036854775807) :
    Calls Tryd.prog 25 #[.agg #[.int .u8 (fillC k).toNat, .int .u8 (topC k).toNat], .string s] w fun e w' => e = .returned (.bool (s.data.toList.all (okC k))) ∧ Below w.heap.size w w' :=
  hasAll_any (fillC k) (topC k) s w hs

/-! ### kindOf, spanOf -/


theorem as_cc (w : World) : (Instr.typeAssert (.iface 58 (.agg #[])) 52 58 true).run Tryd.prog w = .ok (.tuple #[.agg #[], .bool true]) w := by kernel_rfl
theorem as_dc (w : World) : (Instr.typeAssert (.iface 76 (.agg #[])) 52 58 true).run Tryd.prog w = .ok (.tuple #[.agg #[], .bool false]) w := by kernel_rfl
theorem as_dd (w : World) : (Instr.typeAssert (.iface 76 (.agg #[])) 52 76 true).run Tryd.prog w = .ok (.tuple #[.agg #[], .bool true]) w := by kernel_rfl
theorem as_nc (w : World) : (Instr.typeAssert .nilIface 52 58 true).run Tryd.prog w = .ok (.tuple #[.agg #[], .bool false]) w := by kernel_rfl
theorem as_nd (w : World) : (Instr.typeAssert .nilIface 52 76 true).run Tryd.prog w = .ok (.tuple #[.agg #[], .bool false]) w := by kernel_rfl

abbrev spV (k : Int) : Value := .agg #[.int .u8 (fillC k).toNat, .int .u8 (topC k).toNat]

set_option maxRecDepth 100000 in
set_option maxHeartbeats 400000 in
theorem spanOf_4 (w : World) :
    Calls Tryd.prog 23 #[kdV 4] w fun e w' => e = .returned (.tuple #[.agg #[.int .u8 32, .int .u8 126], .bool true]) ∧ Below w.heap.size w w' := by
  rw [kdV_4]
  have q1 := as_cc
  go_enter Tryd.func23, Tryd.ntmps23
  go_wp2
  refine bodyPost_ret (v := .tuple #[.agg #[.int .u8 32, .int .u8 126], .bool true]) (by simp [results, Tryd.results23, go_sem]) rfl ⟨rfl, by go_grown⟩
set_option maxRecDepth 100000 in
set_option maxHeartbeats 400000 in
theorem spanOf_5 (w : World) :
    Calls Tryd.prog 23 #[kdV 5] w fun e w' => e = .returned (.tuple #[.agg #[.int .u8 48, .int .u8 49], .bool true]) ∧ Below w.heap.size w w' := by
  rw [kdV_5]
  have q1 := as_dc
  have q2 := as_dd
  go_enter Tryd.func23, Tryd.ntmps23
  go_wp2
  refine bodyPost_ret (v := .tuple #[.agg #[.int .u8 48, .int .u8 49], .bool true]) (by simp [results, Tryd.results23, go_sem]) rfl ⟨rfl, by go_grown⟩
set_option maxRecDepth 100000 in
set_option maxHeartbeats 400000 in
theorem spanOf_n (w : World) :
    Calls Tryd.prog 23 #[.nilIface] w fun e w' => e = .returned (.tuple #[.agg #[.int .u8 0, .int .u8 0], .bool false]) ∧ Below w.heap.size w w' := by
  have q1 := as_nc
  have q2 := as_nd
  go_enter Tryd.func23, Tryd.ntmps23
  go_wp2
  refine bodyPost_ret (v := .tuple #[.agg #[.int .u8 0, .int .u8 0], .bool false]) (by simp [results, Tryd.results23, go_sem]) rfl ⟨rfl, by go_grown⟩
theorem spanOf_k (k : Int) (w : World) (h : k = 4 ∨ k = 5) :
    Calls Tryd.prog 23 #[kdV k] w fun e w' => e = .returned (.tuple #[spV k, .bool true]) ∧ Below w.heap.size w w' := by
  rcases h with rfl | rfl
  · exact spanOf_4 w
  · exact spanOf_5 w

/-! kindOf -/
abbrev kd2 : Value := .agg #[.iface 58 (.agg #[]), .iface 76 (.agg #[])]
theorem kd_ix0 (w : World) : (Instr.index 77 kd2 (.int .i64 0)).run Tryd.prog w = .ok (.iface 58 (.agg #[])) w := by kernel_rfl
theorem kd_ix1 (w : World) : (Instr.index 77 kd2 (.int .i64 1)).run Tryd.prog w = .ok (.iface 76 (.agg #[])) w := by kernel_rfl

set_option maxRecDepth 100000 in
set_option maxHeartbeats 1000000 in
theorem kindOf_any (k : Int) (w : World) :
    Calls Tryd.prog 24 #[.int .i64 k] w fun e w' => e = .returned (kdV k) ∧ Below w.heap.size w w' := by
  have q0 := kd_ix0
  have q1 := kd_ix1
  go_enter Tryd.func24, Tryd.ntmps24
  go_wp2
  go_loopw [10] (fun i wr => ∃ n : Nat, n ≤ 2 ∧ i = .int .i64 n ∧ Hid (0 < n → k ≠ 4) ∧ Hid (1 < n → k ≠ 5) ∧ Below w.heap.size w wr) (fun i _ => 2 - (intOf i).toNat)
  case atStart => exact ⟨0, by omega, rfl, fun h => by omega, fun h => by omega, Below.refl _ _⟩
  case round =>
    obtain ⟨n, hn, rfl, H4, H5, hB⟩ := hrel
    have HB := Lib.hid hB
    clear hB
    obtain rfl | rfl | rfl : n = 0 ∨ n = 1 ∨ n = 2 := by omega
    · by_cases h : k = 4
      · subst h
        go_wp2
        go_ret
        exact ⟨rfl, HB.out.alloc HB.out.size _⟩
      · have hk : ((4 : Int) == k) = false := by rw [beq_eq_false_iff_ne]; omega
        have H := Lib.hid h
        clear h
        go_wp2
        go_roundw
        case rel => exact ⟨1, by omega, rfl, fun _ => H.out, fun h => by omega, HB.out.alloc HB.out.size _⟩
        case measure => simp [intOf]
    · by_cases h : k = 5
      · subst h
        go_wp2
        go_ret
        exact ⟨rfl, HB.out.alloc HB.out.size _⟩
      · have hk : ((5 : Int) == k) = false := by rw [beq_eq_false_iff_ne]; omega
        have H := Lib.hid h
        clear h
        go_wp2
        go_roundw
        case rel => exact ⟨2, by omega, rfl, fun _ => H4.out (by omega), fun _ => H.out, HB.out.alloc HB.out.size _⟩
        case measure => simp [intOf]
    · have H : Hid (kdV k = .nilIface) := Lib.hid (kdV_no fun h => by rcases h with h | h; exact H4.out (by omega) h; exact H5.out (by omega) h)
      go_wp2
      go_ret
      exact ⟨congrArg Ending.returned H.out.symm, HB.out⟩
end Go.Proofs.YtljbkpnfjgnhnaaDoor
