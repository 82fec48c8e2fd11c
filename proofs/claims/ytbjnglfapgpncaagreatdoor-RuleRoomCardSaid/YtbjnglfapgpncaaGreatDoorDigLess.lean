/- ironbarkref01.Less: the digits of a difference. ironbarkref01.Less: the digits of a difference of a number above 0 and one not greater: the walk. -/
import Derived.Test.YtbjnglfapgpncaaGreatDoorDigPow
namespace Go.Proofs.YtbjnglfapgpncaaGreatDoor
open Go.RowKit

/-- One place of a difference. -/
theorem less_step {a b l : List Nat} {k br : Nat} {S : Int} (hl : l.length = a.length) (hk : k < a.length) (hd : Digs l) (_hb : Digs b) (_hbr : br ≤ 1) (htop : l.drop k = a.drop k)
    (h : (val (l.take k) : Int) + 10 ^ k * ((val (a.drop k) : Int) - val (b.drop k) - br) = S) (n br' : Nat) (hn : (n : Int) = (l[k]'(by omega) : Int) - br - ((b[k]?).getD 0 : Nat) + 10 * br') (hn9 : n < 10) :
    (l.set k n).length = a.length ∧ Digs (l.set k n) ∧ (l.set k n).drop (k + 1) = a.drop (k + 1) ∧
      (val ((l.set k n).take (k + 1)) : Int) + 10 ^ (k + 1) * ((val (a.drop (k + 1)) : Int) - val (b.drop (k + 1)) - br') = S := by
  have hkl : k < l.length := by omega
  have elk : l[k] = a[k] := by
    have h1 := List.drop_eq_getElem_cons hkl
    have h2 := List.drop_eq_getElem_cons hk
    rw [htop, h2] at h1
    exact ((List.cons.inj h1).1).symm
  have etop : l.drop (k + 1) = a.drop (k + 1) := by
    have h1 := List.drop_eq_getElem_cons hkl
    have h2 := List.drop_eq_getElem_cons hk
    rw [htop, h2] at h1
    exact ((List.cons.inj h1).2).symm
  refine ⟨by simpa using hl, hd.set k hn9, by rw [List.drop_set_of_lt (by omega)]; exact etop, ?_⟩
  have e1 := val_take_succ (l.set k n) k (by simpa using hkl)
  rw [List.getElem_set_self, List.take_set_of_le (Nat.le_refl k)] at e1
  have e2 := val_drop a k
  have e3 := val_drop b k
  rw [List.getElem?_eq_getElem hk] at e2
  have e2' : val (a.drop k) = a[k] + 10 * val (a.drop (k + 1)) := e2
  rw [e1, ← h, e2', e3]
  rw [elk] at hn
  push_cast
  rw [hn, Int.pow_succ, Int.mul_assoc, Int.add_assoc, ← Int.mul_add]
  congr 2
  omega

end Go.Proofs.YtbjnglfapgpncaaGreatDoor
namespace Go.Proofs.YtbjnglfapgpncaaGreatDoor
open Go.RowKit

theorem own_shape {B n : Nat} {w : World} {v : Value} {xs : List Value} (h : w.ownsRow B 3 1 v n xs) (hn : 0 < n) : ∃ g cap, v = .slice (some ⟨g, 0, none⟩) n cap ∧ B ≤ g ∧ n ≤ cap ∧ g < w.heap.size := by
  rcases h.2 with ⟨_, h0⟩ | ⟨g, cap, cur, rfl, hB, hg, hc, _⟩
  · omega
  · exact ⟨g, cap, rfl, hB, hc, (Array.getElem?_eq_some_iff.1 hg).1⟩

theorem less_end {a b l : List Nat} {k br : Nat} (hl : l.length = a.length) (hk : ¬ k < a.length) (hka : k ≤ a.length) (hd : Digs l) (hle : val b ≤ val a)
    (h : (val (l.take k) : Int) + 10 ^ k * ((val (a.drop k) : Int) - val (b.drop k) - br) = (val a : Int) - val b) : val l = val a - val b := by
  have ek : k = a.length := by omega
  subst ek
  rw [← hl, List.take_length, hl, val_drop_end a _ (Nat.le_refl _)] at h
  have hlt := val_lt l hd
  rw [hl] at hlt
  by_cases hx : val (b.drop a.length) + br = 0
  · have e : ((0 : Nat) : Int) - (val (b.drop a.length) : Int) - br = 0 := by omega
    rw [e, Int.mul_zero] at h
    omega
  · have e : ((0 : Nat) : Int) - (val (b.drop a.length) : Int) - br = -((val (b.drop a.length) + br : Nat) : Int) := by omega
    rw [e, Int.mul_neg] at h
    have h1 : 10 ^ a.length * 1 ≤ 10 ^ a.length * (val (b.drop a.length) + br) := Nat.mul_le_mul_left _ (by omega)
    have h2 : ((10 ^ a.length * (val (b.drop a.length) + br) : Nat) : Int) = (10 : Int) ^ a.length * ((val (b.drop a.length) + br : Nat) : Int) := by push_cast; rfl
    rw [← h2] at h
    omega

theorem dcells_set (l : List Nat) (k n : Nat) : dcells (l.set k n) = (dcells l).set k (.int .i64 (n : Int)) := List.map_set ..

set_option maxHeartbeats 4000000 in
set_option maxRecDepth 100000 in
theorem less_any (pb : Option Addr) (ba bb ca cb : Nat) (a b : List Nat) (w : World) (ha : Digs a) (hb : Digs b) (hle : val b ≤ val a) (hpos : 0 < a.length)
    (hpb : 0 < b.length → pb = some ⟨bb, 0, none⟩) (_hca : a.length ≤ ca) (_hcb : b.length ≤ cb)
    (hA : ∀ j (h : j < a.length), w.cell? ⟨ba, j, none⟩ = some (.int .i64 (a[j] : Int))) (hB : ∀ j (h : j < b.length), w.cell? ⟨bb, j, none⟩ = some (.int .i64 (b[j] : Int)))
    (hla : a.length ≤ 100000) (hlb : b.length ≤ 100000) (hba : ba < w.heap.size) (hbb : 0 < b.length → bb < w.heap.size) :
    Calls Tryz.prog 29 #[.slice (some ⟨ba, 0, none⟩) a.length ca, .slice pb b.length cb] w fun e w' =>
      ∃ v, e = .returned v ∧ w'.ownsRow w.heap.size 3 1 v (digs (val a - val b)).length (dcells (digs (val a - val b))) ∧ Below w.heap.size w w' := by
  obtain ⟨i0, hi, hz0, hz1, hz2⟩ := info_parts Tryz.infoInt
  have hown0 : (w.alloc (.cells #[] 3)).ownsRow w.heap.size 3 1 (.slice (some ⟨w.heap.size, 0, none⟩) 0 0) 0 [] := World.ownsRow_made w #[] 0 (Nat.le_refl _) (by decide) rfl
  have hnews : ∀ (j : Nat) (u : Value), (dcells a)[j]? = some u → (w.alloc (.cells #[] 3)).cell? ((⟨ba, 0, none⟩ : Addr).add j) = some u := by
    intro j u hj
    rw [add_head]
    by_cases h : j < a.length
    · rw [World.cell?_alloc_past _ _ _ (by exact hba), hA j h]
      simpa [dcells, List.getElem?_eq_getElem h] using hj
    · simp [dcells, h] at hj
  have HN := Lib.hid hnews
  clear hnews
  go_enter Tryz.func29, Tryz.ntmps29
  go_wp2_with (at_builtin; refine wpList_append_own _ rfl _ _ 33 rfl w.heap.size 3 i0 (.int .i64 0) 1 8 Tryz.underlying33 hi hz0 hz1 hz2 rfl (by decide) _ _ _ rfl hown0 ⟨ba, 0, none⟩ a.length ca (dcells a) rfl (by simp [dcells]) HN.out ?c2 ?c3 ?c4 ?c5 ?_)
  case c2 => intro u hu; simp [dcells] at hu; obtain ⟨d, _, rfl⟩ := hu; rfl
  case c3 => unfold maxLen; omega
  case c4 => omega
  case c5 => simp
  intro v' w1 hown1 hgrow _
  have hb1 : Below w.heap.size w w1 := ((Below.refl _ w).alloc (Nat.le_refl _) _).grown hgrow (by simp) (fun j hj => by simp [Value.ownBlock] at hj; omega)
  obtain ⟨g, cap, rfl, hBg, hcap, _⟩ := own_shape hown1 hpos
  have HO1 := Lib.hid hown1
  clear hgrow hown1 hown0 HN
  go_wp2
  go_loopw [6, 7] (fun c i wr => ∃ (k br : Nat) (l : List Nat), i = .int .i64 (k : Int) ∧ c = .int .i64 (br : Int) ∧ k ≤ a.length ∧ br ≤ 1 ∧ l.length = a.length ∧ Digs l ∧ l.drop k = a.drop k ∧
      (val (l.take k) : Int) + 10 ^ k * ((val (a.drop k) : Int) - val (b.drop k) - br) = (val a : Int) - val b ∧ wr.ownsRow w.heap.size 3 1 (.slice (some ⟨g, 0, none⟩) a.length cap) a.length (dcells l) ∧ Below w.heap.size w wr)
    (fun _ i _ => a.length - (intOf i).toNat)
  case atStart => exact ⟨0, 0, a, rfl, rfl, Nat.zero_le _, by decide, rfl, ha, rfl, by simp [val], HO1.out, hb1⟩
  case round =>
    obtain ⟨k, br, l, rfl, rfl, hk, hbr, hl, hd, htop, hs, hown, hnx⟩ := hrel
    have HO := Lib.hid hown
    have HS := Lib.hid hs
    have HT := Lib.hid htop
    have HL := Lib.hid hl
    clear hs htop HO1
    by_cases h1 : k < a.length
    · have hkl : k < l.length := by omega
      have hck : wr.cell? ⟨g, k, none⟩ = some (.int .i64 (l[k] : Int)) := by
        rw [hown.cellAt k (by omega)]
        simp [dcells, List.getElem?_eq_getElem hkl]
      have hfk : wr.frozen? ⟨g, k, none⟩ = false := hown.frozenAt k
      have h9 := hd.at k hkl
      clear hown hl
      by_cases h2 : k < b.length
      · have hppb := hpb (by omega)
        subst hppb
        have hcB := (hnx.cell (hbb (by omega))).trans (hB k h2)
        have h9b := hb.at k h2
        by_cases h3 : (l[k] : Int) - (br : Int) - (b[k] : Int) < 0
        · have hneg : (l[k] : Int) - (br : Int) - (b[k] : Int) < 0 := by omega
          obtain ⟨n, hn⟩ : ∃ n : Nat, (n : Int) = (l[k] : Int) - (br : Int) - (b[k] : Int) + 10 := ⟨((l[k] : Int) - (br : Int) - (b[k] : Int) + 10).toNat, by omega⟩
          have st := less_step HL.out h1 hd hb hbr HT.out HS.out n 1 (by rw [hn, List.getElem?_eq_getElem h2]; show _ = (l[k] : Int) - br - ((b[k] : Nat) : Int) + _; omega) (by omega)
          have ST := Lib.hid st
          have HNN := Lib.hid hn
          clear st hn hA hB
          go_wp2
          case roundEnd =>
            refine ⟨⟨k + 1, 1, l.set k n, by simp, by simp, by omega, by decide, ST.out.1, ST.out.2.1, ST.out.2.2.1, ST.out.2.2.2, ?_, hnx.setCell hBg _⟩, by simp [intOf]; omega⟩
            rw [dcells_set, HNN.out]
            exact (HO.out.stored k _).1
        · have hneg : ¬ (l[k] : Int) - (br : Int) - (b[k] : Int) < 0 := by omega
          obtain ⟨n, hn⟩ : ∃ n : Nat, (n : Int) = (l[k] : Int) - (br : Int) - (b[k] : Int) := ⟨((l[k] : Int) - (br : Int) - (b[k] : Int)).toNat, by omega⟩
          have st := less_step HL.out h1 hd hb hbr HT.out HS.out n 0 (by rw [hn, List.getElem?_eq_getElem h2]; show _ = (l[k] : Int) - br - ((b[k] : Nat) : Int) + _; omega) (by omega)
          have ST := Lib.hid st
          have HNN := Lib.hid hn
          clear st hn hA hB
          go_wp2
          case roundEnd =>
            refine ⟨⟨k + 1, 0, l.set k n, by simp, by simp, by omega, by decide, ST.out.1, ST.out.2.1, ST.out.2.2.1, ST.out.2.2.2, ?_, hnx.setCell hBg _⟩, by simp [intOf]; omega⟩
            rw [dcells_set, HNN.out]
            exact (HO.out.stored k _).1
      · by_cases h3 : (l[k] : Int) - (br : Int) < 0
        · have hneg : (l[k] : Int) - (br : Int) < 0 := by omega
          obtain ⟨n, hn⟩ : ∃ n : Nat, (n : Int) = (l[k] : Int) - (br : Int) + 10 := ⟨((l[k] : Int) - (br : Int) + 10).toNat, by omega⟩
          have st := less_step HL.out h1 hd hb hbr HT.out HS.out n 1 (by rw [hn, List.getElem?_eq_none (by omega : b.length ≤ k)]; show _ = (l[k] : Int) - br - ((0 : Nat) : Int) + _; omega) (by omega)
          have ST := Lib.hid st
          have HNN := Lib.hid hn
          clear st hn hA hB
          go_wp2
          case roundEnd =>
            refine ⟨⟨k + 1, 1, l.set k n, by simp, by simp, by omega, by decide, ST.out.1, ST.out.2.1, ST.out.2.2.1, ST.out.2.2.2, ?_, hnx.setCell hBg _⟩, by simp [intOf]; omega⟩
            rw [dcells_set, HNN.out]
            exact (HO.out.stored k _).1
        · have hneg : ¬ (l[k] : Int) - (br : Int) < 0 := by omega
          obtain ⟨n, hn⟩ : ∃ n : Nat, (n : Int) = (l[k] : Int) - (br : Int) := ⟨((l[k] : Int) - (br : Int)).toNat, by omega⟩
          have st := less_step HL.out h1 hd hb hbr HT.out HS.out n 0 (by rw [hn, List.getElem?_eq_none (by omega : b.length ≤ k)]; show _ = (l[k] : Int) - br - ((0 : Nat) : Int) + _; omega) (by omega)
          have ST := Lib.hid st
          have HNN := Lib.hid hn
          clear st hn hA hB
          go_wp2
          case roundEnd =>
            refine ⟨⟨k + 1, 0, l.set k n, by simp, by simp, by omega, by decide, ST.out.1, ST.out.2.1, ST.out.2.2.1, ST.out.2.2.2, ?_, hnx.setCell hBg _⟩, by simp [intOf]; omega⟩
            rw [dcells_set, HNN.out]
            exact (HO.out.stored k _).1
    · have e2 := less_end HL.out h1 hk hd hle HS.out
      obtain ⟨p, bo, cap', he, t1, t2, t3, t4, t5, t6⟩ := own_trim (l := l) (by rw [hl]; exact hown) hd
      rw [hl] at he
      obtain ⟨rfl, rfl⟩ : some (⟨g, 0, none⟩ : Addr) = p ∧ cap = cap' := by simpa using he
      have tr := trim_any _ bo cap l wr hd t1 t2 t3 t4 t5 (by omega)
      rw [hl, e2] at tr
      rw [e2] at t6
      have TR := Lib.hid tr
      have T6 := Lib.hid t6
      clear tr t1 t2 t3 t4 t5 t6 hown hA hB e2 hl he
      go_wp2_with (go_at_call 38; refine TR.out.mono ?_; rintro e w2 ⟨rfl, rfl⟩)
      go_ret
      exact ⟨_, rfl, T6.out, hnx⟩
end Go.Proofs.YtbjnglfapgpncaaGreatDoor
