/- What the library's variables hold; number, inside, inParentheses of package rule. -/
import Derived.Test.YtcekphfmpjdbmaaGreatDoorShelf
import Derived.Test.YtcekphfmpjdbmaaGreatDoorTextPure
import Derived.Test.YtcekphfmpjdbmaaGreatDoorTurns0
import Derived.Outline
namespace Go.Proofs.YtcekphfmpjdbmaaGreatDoor
open Go.RowKit

theorem TabIs_below {n : String} {g : Nat} {k : IntKind} {zs : List Int} {w w' : World} (hg : Tryz.prog.globalNamed n = some g) (h : Lib.TabIs Tryz.prog w n k zs) (hb : Below w.heap.size w w') : Lib.TabIs Tryz.prog w' n k zs := by
  unfold Lib.TabIs World.var? at h ⊢
  rw [hg] at h ⊢
  simp only [Option.bind_some] at h ⊢
  have hlt : g < w.heap.size := by
    rcases Nat.lt_or_ge g w.heap.size with h' | h'
    · exact h'
    · rw [Array.getElem?_eq_none h'] at h; cases h
  rw [hb.block g hlt]
  exact h

/-- What the library's variables hold. -/
structure EnvT (w : World) : Prop where
  m : ∃ m, w.cell? ⟨0, 0, none⟩ = some (.int .i64 m)
  syn : ∃ ev, w.cell? ⟨2, 0, none⟩ = some ev ∧ (ev = .nilIface ∨ ∃ te pe, ev = .iface te pe)
  rng : ∃ ev, w.cell? ⟨3, 0, none⟩ = some ev ∧ (ev = .nilIface ∨ ∃ te pe, ev = .iface te pe)
  tab : Lib.TabIs Tryz.prog w "internal/strconv.uint64pow10" .u64 Lib.pow10Tab

theorem EnvT.below {w w' : World} (h : EnvT w) (hb : Below w.heap.size w w') : EnvT w' := by
  obtain ⟨⟨m, hm⟩, ⟨ev, hs, hs'⟩, ⟨ev', hr, hr'⟩, ht⟩ := h
  exact ⟨⟨m, (hb.cell (World.block_lt_of_cell? _ _ hm)).trans hm⟩, ⟨ev, (hb.cell (World.block_lt_of_cell? _ _ hs)).trans hs, hs'⟩, ⟨ev', (hb.cell (World.block_lt_of_cell? _ _ hr)).trans hr, hr'⟩, TabIs_below (g := 1) (by kernel_rfl) ht hb⟩

theorem ret_str {a b : ByteArray} (h : a = b) : Ending.returned (.string a) = .returned (.string b) := by rw [h]
abbrev bs (l : List UInt8) : ByteArray := ⟨l.toArray⟩

theorem app_bs (a b : ByteArray) : a ++ b = bs (a.data.toList ++ b.data.toList) := by
  obtain ⟨⟨a⟩⟩ := a
  obtain ⟨⟨b⟩⟩ := b
  apply ByteArray.ext
  rw [ByteArray.data_append]
  simp
theorem size_bs (l : List UInt8) : (bs l).size = l.length := rfl
theorem size_list (s : ByteArray) : s.data.toList.length = s.size := by rw [Lib.size_eq]
theorem trimPrefix_len (s p : List UInt8) : (Lib.trimPrefix s p).length ≤ s.length := by
  unfold Lib.trimPrefix; split <;> simp
theorem trimSuffix_len (s p : List UInt8) : (Lib.trimSuffix s p).length ≤ s.length := by
  unfold Lib.trimSuffix; split <;> simp
theorem inside_len (s : List UInt8) : (insideL s).length ≤ s.length := Nat.le_trans (trimSuffix_len _ _) (trimPrefix_len _ _)

theorem eqlNil (te : TypeId) (p : Value) (w : World) : (binOp .neq 235 (.iface te p) .nilIface).run Tryz.prog w = .ok (.bool true) w := by
  kernel_rfl

set_option maxHeartbeats 400000 in
theorem inside_any (s : ByteArray) (w : World) (hs : s.size ≤ 1000000) :
    Calls Tryz.prog 260 #[.string s] w fun e w' => e = .returned (.string (bs (insideL s.data.toList))) ∧ w = w' := by
  have h1 : (bs (Lib.trimPrefix s.data.toList [40])).size ≤ 9223372036854775807 := by
    have := trimPrefix_len s.data.toList [40]; rw [size_list] at this; rw [size_bs]; omega
  have H := Lib.hid h1; clear h1
  go_enter Tryz.func260, Tryz.ntmps260
  go_wp2_with (first
    | (go_at_call 265; refine (Tryz.strings_TrimPrefix _ _ _).mono ?_; rintro e w' ⟨rfl, rfl⟩)
    | (go_at_call 264; refine (Tryz.strings_TrimSuffix _ _ _ H.out).mono ?_; rintro e w' ⟨rfl, rfl⟩))
  go_ret
  exact ⟨rfl, rfl⟩

set_option maxHeartbeats 400000 in
theorem inPar_any (s : ByteArray) (w : World) (hs : s.size ≤ 1000000) :
    Calls Tryz.prog 257 #[.string s] w fun e w' => e = .returned (.string (bs (40 :: (s.data.toList ++ [41])))) ∧ w = w' := by
  go_enter Tryz.func257, Tryz.ntmps257
  go_wp2
  go_ret
  exact ⟨ret_str (by rw [app_bs, app_bs]; rfl), rfl⟩

set_option maxHeartbeats 400000 in
theorem number_any (s : ByteArray) (w : World) (hs : s.size ≤ 1000000) (hE : EnvT w) :
    Calls Tryz.prog 261 #[.string s] w fun e w' => e = .returned (.int .i64 (numL s.data.toList)) ∧ Below w.heap.size w w' := by
  have hN := eqlNil
  have HE := Lib.hid hE
  clear hE
  cases ha : Lib.atoiAll s.data.toList with
  | ok v =>
    have hn : numL s.data.toList = v := by rw [numL, ha]
    rw [hn]
    have HA := Lib.hid ha
    clear ha hn
    go_enter Tryz.func261, Tryz.ntmps261
    go_wp2_with fail
    go_at_call 305
    refine (Tryz.strconv_Atoi_ok s (by omega) v HA.out _).mono ?_
    rintro e w' ⟨rfl, hw⟩
    have hb : Below w.heap.size w w' := by
      rcases hw with rfl | ⟨t, rfl⟩
      · exact Below.refl _ _
      · exact Lib.bytesWorld_below _ _ _
    clear hw
    go_wp2
    go_ret
    exact ⟨rfl, hb⟩
  | range =>
    have hn : numL s.data.toList = 0 := by rw [numL, ha]
    rw [hn]
    have HA := Lib.hid ha
    clear ha hn
    obtain ⟨ev, hv, hev⟩ := HE.out.rng
    have HV := Lib.hid hv; have HEV := Lib.hid hev
    clear hv hev
    go_enter Tryz.func261, Tryz.ntmps261
    go_wp2_with fail
    go_at_call 305
    refine (Tryz.strconv_Atoi_range s (by omega) HA.out ev _ HV.out HEV.out).mono ?_
    rintro e w' ⟨n, rfl, _, _, hb⟩
    go_wp2
    go_ret
    exact ⟨rfl, hb⟩
  | _ =>
    have hn : numL s.data.toList = 0 := by rw [numL, ha]
    rw [hn]
    have HA := Lib.hid ha
    clear ha hn
    obtain ⟨ev, hv, hev⟩ := HE.out.syn
    have HV := Lib.hid hv; have HEV := Lib.hid hev
    clear hv hev
    go_enter Tryz.func261, Tryz.ntmps261
    go_wp2_with fail
    go_at_call 305
    refine (Tryz.strconv_Atoi_syntax s (by omega) HA.out ev _ HV.out HEV.out).mono ?_
    rintro e w' ⟨n, rfl, _, _, hb⟩
    go_wp2
    go_ret
    exact ⟨rfl, hb⟩
end Go.Proofs.YtcekphfmpjdbmaaGreatDoor
