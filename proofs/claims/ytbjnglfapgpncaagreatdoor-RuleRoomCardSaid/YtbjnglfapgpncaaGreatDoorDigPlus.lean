/- ironbarkref01.Plus: the digits of a sum. -/
import Derived.Test.YtbjnglfapgpncaaGreatDoorDigFrom
import Derived.Lib.Hide
namespace Go.Proofs.YtbjnglfapgpncaaGreatDoor
open Go.RowKit

theorem plus_step {a b l : List Nat} {k c S : Nat} (hl : l.length = k) (hd : Digs l) (ha : Digs a) (hb : Digs b) (hc : c ≤ 1) (h : val l + 10 ^ k * (c + val (a.drop k) + val (b.drop k)) = S) (d : Nat) (ed : d = c + (a[k]?).getD 0 + (b[k]?).getD 0) :
    (l ++ [d % 10]).length = k + 1 ∧ Digs (l ++ [d % 10]) ∧ d / 10 ≤ 1 ∧ val (l ++ [d % 10]) + 10 ^ (k + 1) * (d / 10 + val (a.drop (k + 1)) + val (b.drop (k + 1))) = S := by
  have h1 := ha.at? k
  have h2 := hb.at? k
  refine ⟨by simp [hl], hd.push (by omega), by omega, ?_⟩
  rw [val_drop a k, val_drop b k] at h
  rw [val_push, hl, Nat.pow_succ, Nat.mul_assoc, Nat.add_assoc, ← Nat.mul_add, ← h]
  congr 2
  omega

theorem plus_keep {B k : Nat} {l : List Nat} {w wr w1 : World} {v v' : Value} {o : Obj} (d : Nat) (hB : B ≤ wr.heap.size) (_hl : l.length = k)
    (hown : wr.ownsRow B 3 1 v k (dcells l)) (hnx : Below B w wr) (x : Int) (hx : x = ((d % 10 : Nat) : Int))
    (hown' : w1.ownsRow B 3 1 v' (k + 1) (dcells l ++ [.int .i64 x])) (hgrow : (wr.alloc o).grownBy w1 v.ownBlock) :
    w1.ownsRow B 3 1 v' (k + 1) (dcells (l ++ [d % 10])) ∧ Below B w w1 := by
  subst hx
  refine ⟨by simpa [dcells] using hown', (hnx.alloc (by omega) o).grown hgrow (by simp; omega) (fun j hj => (hown.lt j hj).1)⟩

set_option maxHeartbeats 4000000 in
set_option maxRecDepth 100000 in
theorem plus_any (pa pb : Option Addr) (ba bb ca cb : Nat) (a b : List Nat) (w : World) (ha : Digs a) (hb : Digs b)
    (hpa : 0 < a.length → pa = some ⟨ba, 0, none⟩) (hpb : 0 < b.length → pb = some ⟨bb, 0, none⟩) (_hca : a.length ≤ ca) (_hcb : b.length ≤ cb)
    (hA : ∀ j (h : j < a.length), w.cell? ⟨ba, j, none⟩ = some (.int .i64 (a[j] : Int))) (hB : ∀ j (h : j < b.length), w.cell? ⟨bb, j, none⟩ = some (.int .i64 (b[j] : Int)))
    (hla : a.length ≤ 100000) (hlb : b.length ≤ 100000) (hba : 0 < a.length → ba < w.heap.size) (hbb : 0 < b.length → bb < w.heap.size) :
    Calls Tryz.prog 28 #[.slice pa a.length ca, .slice pb b.length cb] w fun e w' =>
      ∃ v, e = .returned v ∧ w'.ownsRow w.heap.size 3 1 v (digs (val a + val b)).length (dcells (digs (val a + val b))) ∧ Below w.heap.size w w' := by
  obtain ⟨i0, hi, hz0, hz1, hz2⟩ := info_parts Tryz.infoInt
  go_enter Tryz.func28, Tryz.ntmps28
  go_wp2
  go_loopw [5, 6, 7] (fun v c i wr => ∃ (k cc : Nat) (l : List Nat), i = .int .i64 (k : Int) ∧ c = .int .i64 (cc : Int) ∧ k ≤ max a.length b.length + 1 ∧ cc ≤ 1 ∧ l.length = k ∧ Digs l ∧
      val l + 10 ^ k * (cc + val (a.drop k) + val (b.drop k)) = val a + val b ∧ (max a.length b.length < k → cc = 0) ∧ wr.ownsRow w.heap.size 3 1 v k (dcells l) ∧ Below w.heap.size w wr)
    (fun _ _ i _ => max a.length b.length + 1 - (intOf i).toNat)
  case atStart => exact ⟨0, 0, [], rfl, rfl, Nat.zero_le _, by decide, rfl, Digs.nil, by simp [val], fun h => by omega, World.ownsRow_nil _ _ _ _, Below.refl _ _⟩
  case round =>
    obtain ⟨k, c, l, rfl, rfl, hk, hc, hl, hd, hs, htop, hown, hnx⟩ := hrel
    have hsz := hnx.size
    have hst := plus_step hl hd ha hb hc hs
    have HST := Lib.hid hst
    have HS := Lib.hid hs
    have HT := Lib.hid htop
    have HK := Lib.hid hl
    clear hst hs htop
    by_cases h1 : k < a.length
    · by_cases h2 : k < b.length
      · have hppa := hpa (by omega)
        subst hppa
        have hcA := (hnx.cell (hba (by omega))).trans (hA k h1)
        have h9a := ha.at k h1
        have hppb := hpb (by omega)
        subst hppb
        have hcB := (hnx.cell (hbb (by omega))).trans (hB k h2)
        have h9b := hb.at k h2
        have ed : c + a[k] + b[k] = c + (a[k]?).getD 0 + (b[k]?).getD 0 := by rw [List.getElem?_eq_getElem h1, List.getElem?_eq_getElem h2]; simp
        have ED := Lib.hid ed
        clear ed hA hB
        have hz : (0 : Int) ≤ (c : Int) + (a[k] : Int) + (b[k] : Int) := by omega
        go_wp2_with (at_builtin; refine wpList_append_own _ rfl _ _ 33 rfl w.heap.size 3 i0 (.int .i64 0) 1 8 Tryz.underlying33 hi hz0 hz1 hz2 rfl (by decide) _ _ _ rfl (hown.alloc _) ⟨wr.heap.size, 0, none⟩ 1 1 [.int .i64 (((c : Int) + (a[k] : Int) + (b[k] : Int)) % 10)] rfl rfl ?c1p ?c2p ?c3p ?c4p ?c5p ?_)
        case c2p => rfl
        case c5p => omega
        case c3p => unfold maxLen; omega
        case c4p => omega
        intro v' w1 hown' hgrow _
        have R := plus_keep (c + a[k] + b[k]) hsz HK.out hown hnx _ (by omega) hown' hgrow
        have N := HST.out _ ED.out
        have HN := Lib.hid N
        have HR := Lib.hid R
        clear hown' hgrow hown N R
        go_wp2
        case roundEnd =>
          have hk' : k + 1 ≤ max a.length b.length + 1 := by have := HT.out; omega
          obtain ⟨e1, e2, e3, e4⟩ := HN.out
          exact ⟨⟨k + 1, (c + a[k] + b[k]) / 10, l ++ [(c + a[k] + b[k]) % 10], by simp, by simp, hk', e3, e1, e2, e4, fun hm => by omega, HR.out.1, HR.out.2⟩, by simp [intOf]; omega⟩
      · have hppa := hpa (by omega)
        subst hppa
        have hcA := (hnx.cell (hba (by omega))).trans (hA k h1)
        have h9a := ha.at k h1
        have ed : c + a[k] = c + (a[k]?).getD 0 + (b[k]?).getD 0 := by rw [List.getElem?_eq_getElem h1, List.getElem?_eq_none (by omega : b.length ≤ k)]; simp
        have ED := Lib.hid ed
        clear ed hA hB
        have hz : (0 : Int) ≤ (c : Int) + (a[k] : Int) := by omega
        go_wp2_with (at_builtin; refine wpList_append_own _ rfl _ _ 33 rfl w.heap.size 3 i0 (.int .i64 0) 1 8 Tryz.underlying33 hi hz0 hz1 hz2 rfl (by decide) _ _ _ rfl (hown.alloc _) ⟨wr.heap.size, 0, none⟩ 1 1 [.int .i64 (((c : Int) + (a[k] : Int)) % 10)] rfl rfl ?c1q ?c2q ?c3q ?c4q ?c5q ?_)
        case c2q => rfl
        case c5q => omega
        case c3q => unfold maxLen; omega
        case c4q => omega
        intro v' w1 hown' hgrow _
        have R := plus_keep (c + a[k]) hsz HK.out hown hnx _ (by omega) hown' hgrow
        have N := HST.out _ ED.out
        have HN := Lib.hid N
        have HR := Lib.hid R
        clear hown' hgrow hown N R
        go_wp2
        case roundEnd =>
          have hk' : k + 1 ≤ max a.length b.length + 1 := by have := HT.out; omega
          obtain ⟨e1, e2, e3, e4⟩ := HN.out
          exact ⟨⟨k + 1, (c + a[k]) / 10, l ++ [(c + a[k]) % 10], by simp, by simp, hk', e3, e1, e2, e4, fun hm => by omega, HR.out.1, HR.out.2⟩, by simp [intOf]; omega⟩
    · by_cases h2 : k < b.length
      · have hppb := hpb (by omega)
        subst hppb
        have hcB := (hnx.cell (hbb (by omega))).trans (hB k h2)
        have h9b := hb.at k h2
        have ed : c + b[k] = c + (a[k]?).getD 0 + (b[k]?).getD 0 := by rw [List.getElem?_eq_none (by omega : a.length ≤ k), List.getElem?_eq_getElem h2]; simp
        have ED := Lib.hid ed
        clear ed hA hB
        have hz : (0 : Int) ≤ (c : Int) + (b[k] : Int) := by omega
        go_wp2_with (at_builtin; refine wpList_append_own _ rfl _ _ 33 rfl w.heap.size 3 i0 (.int .i64 0) 1 8 Tryz.underlying33 hi hz0 hz1 hz2 rfl (by decide) _ _ _ rfl (hown.alloc _) ⟨wr.heap.size, 0, none⟩ 1 1 [.int .i64 (((c : Int) + (b[k] : Int)) % 10)] rfl rfl ?c1r ?c2r ?c3r ?c4r ?c5r ?_)
        case c2r => rfl
        case c5r => omega
        case c3r => unfold maxLen; omega
        case c4r => omega
        intro v' w1 hown' hgrow _
        have R := plus_keep (c + b[k]) hsz HK.out hown hnx _ (by omega) hown' hgrow
        have N := HST.out _ ED.out
        have HN := Lib.hid N
        have HR := Lib.hid R
        clear hown' hgrow hown N R
        go_wp2
        case roundEnd =>
          have hk' : k + 1 ≤ max a.length b.length + 1 := by have := HT.out; omega
          obtain ⟨e1, e2, e3, e4⟩ := HN.out
          exact ⟨⟨k + 1, (c + b[k]) / 10, l ++ [(c + b[k]) % 10], by simp, by simp, hk', e3, e1, e2, e4, fun hm => by omega, HR.out.1, HR.out.2⟩, by simp [intOf]; omega⟩
      · by_cases h3 : 0 < c
        · have ed : c = c + (a[k]?).getD 0 + (b[k]?).getD 0 := by rw [List.getElem?_eq_none (by omega : a.length ≤ k), List.getElem?_eq_none (by omega : b.length ≤ k)]; simp
          have ED := Lib.hid ed
          clear ed hA hB
          have hz : (0 : Int) ≤ (c : Int) := by omega
          go_wp2_with (at_builtin; refine wpList_append_own _ rfl _ _ 33 rfl w.heap.size 3 i0 (.int .i64 0) 1 8 Tryz.underlying33 hi hz0 hz1 hz2 rfl (by decide) _ _ _ rfl (hown.alloc _) ⟨wr.heap.size, 0, none⟩ 1 1 [.int .i64 (((c : Int)) % 10)] rfl rfl ?c1s ?c2s ?c3s ?c4s ?c5s ?_)
          case c1s =>
            intro j u hj
            match j, hj with
            | 0, hj => simp at hj; subst hj; simp [Addr.add]
          case c2s => intro u hu; simp at hu; subst hu; rfl
          case c5s => simp; omega
          case c3s => unfold maxLen; omega
          case c4s => omega
          intro v' w1 hown' hgrow _
          have R := plus_keep (c) hsz HK.out hown hnx _ (by omega) hown' hgrow
          have N := HST.out _ ED.out
          have HN := Lib.hid N
          have HR := Lib.hid R
          clear hown' hgrow hown N R
          go_wp2
          case roundEnd =>
            have hk' : k + 1 ≤ max a.length b.length + 1 := by have := HT.out; omega
            obtain ⟨e1, e2, e3, e4⟩ := HN.out
            exact ⟨⟨k + 1, (c) / 10, l ++ [(c) % 10], by simp, by simp, hk', e3, e1, e2, e4, fun hm => by omega, HR.out.1, HR.out.2⟩, by simp [intOf]; omega⟩
        · have e1 := HS.out
          rw [val_drop_end a k (by omega), val_drop_end b k (by omega), show c = 0 by omega] at e1
          have e2 : val l = val a + val b := by simpa using e1
          have E2 := Lib.hid e2
          obtain ⟨p, bo, cap, rfl, t1, t2, t3, t4, t5, t6⟩ := own_trim (l := l) (by rw [hl]; exact hown) hd
          rw [e2] at t6
          have T := Lib.hid (And.intro t1 (And.intro t2 (And.intro t3 (And.intro t4 (And.intro t5 t6)))))
          have tr := trim_any p bo cap l wr hd t1 t2 t3 t4 t5 (by omega)
          rw [hl, e2] at tr
          have TR := Lib.hid tr
          clear tr t1 t2 t3 t4 t5 t6 hown hA hB e1 e2
          go_wp2_with (go_at_call 38; refine TR.out.mono ?_; rintro e w2 ⟨rfl, rfl⟩)
          go_ret
          exact ⟨_, rfl, T.out.2.2.2.2.2, hnx⟩
end Go.Proofs.YtbjnglfapgpncaaGreatDoor
