/- ironbarkref01.Plus: the digits of a sum. ironbarkref01.Int: the number of at most 18 digits; and what the call itself made, as an argument of a later call. ironbarkref01.Pow of 2: the digits of a power of two. ironbarkref01.Pow of 10: the digits of a power of ten. ironbarkref01.Less: the digits of a difference. ironbarkref01.Less: the digits of a difference of a number above 0 and one not greater: the walk. ironbarkref01.Mul: what one place, one row and one carry do to the lists. ironbarkref01.Mul: the digits of a product: the walk of the two loops. ironbarkref01.Cmp: the order of two numbers by their digits. -/
import Derived.Test.YtpdoddhieblooaaGreatDoorKDigFrom
import Derived.Lib.Hide
import Derived.WalkSmall
import Derived.Deep.OwnRows
import Derived.Laws.OwnMore
import Derived.Deep.QuietTactic
import Derived.BigQuiet
namespace Go.Proofs.YtpdoddhieblooaaGreatDoor
open Go.RowKit

theorem plus_step {a b l : List Nat} {k c S : Nat} (hl : l.length = k) (hd : Digs l) (ha : Digs a) (hb : Digs b) (hc : c ≤ 1) (h : val l + 10 ^ k * (c + val (a.drop k) + val (b.drop k)) = S) (d : Nat) (ed : d = c + (a[k]?).getD 0 + (b[k]?).getD 0) :
   (l ++ [d % 10]).length = k + 1 ∧ Digs (l ++ [d % 10]) ∧ d / 10 ≤ 1 ∧ val (l ++ [d % 10]) + 10 ^ (k + 1) * (d / 10 + val (a.drop (k + 1)) + val (b.drop (k + 1))) = S := by
 have h1 := ha.at? k
 have h2 := hb.at? k
 refine ⟨by simp [hl], hd.push (by omega), by omega, ?_⟩
 rw [val_drop a k, val_drop b k] at h
 rw [val_push, hl, Nat.pow_succ, Nat.mul_assoc, Nat.add_assoc, ← Nat.mul_add, ← h]
 congr 2
 omega
theorem plus_keep {B k : Nat} {l : List Nat} {w wr w1 : World} {v v' : Value} {o : Obj} (d : Nat) (hB : B ≤ wr.heap.size) (_hl : l.length = k)
   (hown : wr.ownsRow B 3 1 v k (dcells l)) (hnx : Below B w wr) (x : Int) (hx : x = ((d % 10 : Nat) : Int))
   (hown' : w1.ownsRow B 3 1 v' (k + 1) (dcells l ++ [.int .i64 x])) (hgrow : (wr.alloc o).grownBy w1 v.ownBlock) :
   w1.ownsRow B 3 1 v' (k + 1) (dcells (l ++ [d % 10])) ∧ Below B w w1 := by
 subst hx
 refine ⟨by simpa [dcells] using hown', (hnx.alloc (by omega) o).grown hgrow (by simp; omega) (fun j hj => (hown.lt j hj).1)⟩
set_option maxHeartbeats 4000000 in
set_option maxRecDepth 100000 in
theorem plus_any (pa pb : Option Addr) (ba bb ca cb : Nat) (a b : List Nat) (w : World) (ha : Digs a) (hb : Digs b)
   (hpa : 0 < a.length → pa = some ⟨ba, 0, none⟩) (hpb : 0 < b.length → pb = some ⟨bb, 0, none⟩) (_hca : a.length ≤ ca) (_hcb : b.length ≤ cb)
   (hA : ∀ j (h : j < a.length), w.cell? ⟨ba, j, none⟩ = some (.int .i64 (a[j] : Int))) (hB : ∀ j (h : j < b.length), w.cell? ⟨bb, j, none⟩ = some (.int .i64 (b[j] : Int)))
   (hla : a.length ≤ 100000) (hlb : b.length ≤ 100000) (hba : 0 < a.length → ba < w.heap.size) (hbb : 0 < b.length → bb < w.heap.size) :
   Calls Tryz.prog 71 #[.slice pa a.length ca, .slice pb b.length cb] w fun e w' =>
     ∃ v, e = .returned v ∧ w'.ownsRow w.heap.size 3 1 v (digs (val a + val b)).length (dcells (digs (val a + val b))) ∧ Below w.heap.size w w' := by
 obtain ⟨i0, hi, hz0, hz1, hz2⟩ := info_parts Tryz.infoInt
 go_enter Tryz.func71, Tryz.ntmps71
 go_wp2
 go_loopw [5, 6, 7] (fun v c i wr => ∃ (k cc : Nat) (l : List Nat), i = .int .i64 (k : Int) ∧ c = .int .i64 (cc : Int) ∧ k ≤ max a.length b.length + 1 ∧ cc ≤ 1 ∧ l.length = k ∧ Digs l ∧
     val l + 10 ^ k * (cc + val (a.drop k) + val (b.drop k)) = val a + val b ∧ (max a.length b.length < k → cc = 0) ∧ wr.ownsRow w.heap.size 3 1 v k (dcells l) ∧ Below w.heap.size w wr)
   (fun _ _ i _ => max a.length b.length + 1 - (intOf i).toNat)
 case atStart => exact ⟨0, 0, [], rfl, rfl, Nat.zero_le _, by decide, rfl, Digs.nil, by simp [val], fun h => by omega, World.ownsRow_nil _ _ _ _, Below.refl _ _⟩
 case round =>
   obtain ⟨k, c, l, rfl, rfl, hk, hc, hl, hd, hs, htop, hown, hnx⟩ := hrel
   have hsz := hnx.size
   have hst := plus_step hl hd ha hb hc hs
   have HST := Lib.hid hst
   have HS := Lib.hid hs
   have HT := Lib.hid htop
   have HK := Lib.hid hl
   clear hst hs htop
   by_cases h1 : k < a.length
   · by_cases h2 : k < b.length
     · have hppa := hpa (by omega)
       subst hppa
       have hcA := (hnx.cell (hba (by omega))).trans (hA k h1)
       have h9a := ha.at k h1
       have hppb := hpb (by omega)
       subst hppb
       have hcB := (hnx.cell (hbb (by omega))).trans (hB k h2)
       have h9b := hb.at k h2
       have ed : c + a[k] + b[k] = c + (a[k]?).getD 0 + (b[k]?).getD 0 := by rw [List.getElem?_eq_getElem h1, List.getElem?_eq_getElem h2]; simp
       have ED := Lib.hid ed
       clear ed hA hB
       have hz : (0 : Int) ≤ (c : Int) + (a[k] : Int) + (b[k] : Int) := by omega
       go_wp2_with (at_builtin; refine wpList_append_own _ rfl _ _ 50 rfl w.heap.size 3 i0 (.int .i64 0) 1 8 Tryz.underlying50 hi hz0 hz1 hz2 rfl (by decide) _ _ _ rfl (hown.alloc _) ⟨wr.heap.size, 0, none⟩ 1 1 [.int .i64 (((c : Int) + (a[k] : Int) + (b[k] : Int)) % 10)] rfl rfl ?c1p ?c2p ?c3p ?c4p ?c5p ?_)
       case c2p => rfl
       case c5p => omega
       case c3p => unfold maxLen; omega
       case c4p => omega
       intro v' w1 hown' hgrow _
       have R := plus_keep (c + a[k] + b[k]) hsz HK.out hown hnx _ (by omega) hown' hgrow
       have N := HST.out _ ED.out
       have HN := Lib.hid N
       have HR := Lib.hid R
       clear hown' hgrow hown N R
       go_wp2
       case roundEnd =>
         have hk' : k + 1 ≤ max a.length b.length + 1 := by have := HT.out; omega
         obtain ⟨e1, e2, e3, e4⟩ := HN.out
         exact ⟨⟨k + 1, (c + a[k] + b[k]) / 10, l ++ [(c + a[k] + b[k]) % 10], by simp, by simp, hk', e3, e1, e2, e4, fun hm => by omega, HR.out.1, HR.out.2⟩, by simp [intOf]; omega⟩
     · have hppa := hpa (by omega)
       subst hppa
       have hcA := (hnx.cell (hba (by omega))).trans (hA k h1)
       have h9a := ha.at k h1
       have ed : c + a[k] = c + (a[k]?).getD 0 + (b[k]?).getD 0 := by rw [List.getElem?_eq_getElem h1, List.getElem?_eq_none (by omega : b.length ≤ k)]; simp
       have ED := Lib.hid ed
       clear ed hA hB
       have hz : (0 : Int) ≤ (c : Int) + (a[k] : Int) := by omega
       go_wp2_with (at_builtin; refine wpList_append_own _ rfl _ _ 50 rfl w.heap.size 3 i0 (.int .i64 0) 1 8 Tryz.underlying50 hi hz0 hz1 hz2 rfl (by decide) _ _ _ rfl (hown.alloc _) ⟨wr.heap.size, 0, none⟩ 1 1 [.int .i64 (((c : Int) + (a[k] : Int)) % 10)] rfl rfl ?c1q ?c2q ?c3q ?c4q ?c5q ?_)
       case c2q => rfl
       case c5q => omega
       case c3q => unfold maxLen; omega
       case c4q => omega
       intro v' w1 hown' hgrow _
       have R := plus_keep (c + a[k]) hsz HK.out hown hnx _ (by omega) hown' hgrow
       have N := HST.out _ ED.out
       have HN := Lib.hid N
       have HR := Lib.hid R
       clear hown' hgrow hown N R
       go_wp2
       case roundEnd =>
         have hk' : k + 1 ≤ max a.length b.length + 1 := by have := HT.out; omega
         obtain ⟨e1, e2, e3, e4⟩ := HN.out
         exact ⟨⟨k + 1, (c + a[k]) / 10, l ++ [(c + a[k]) % 10], by simp, by simp, hk', e3, e1, e2, e4, fun hm => by omega, HR.out.1, HR.out.2⟩, by simp [intOf]; omega⟩
   · by_cases h2 : k < b.length
     · have hppb := hpb (by omega)
       subst hppb
       have hcB := (hnx.cell (hbb (by omega))).trans (hB k h2)
       have h9b := hb.at k h2
       have ed : c + b[k] = c + (a[k]?).getD 0 + (b[k]?).getD 0 := by rw [List.getElem?_eq_none (by omega : a.length ≤ k), List.getElem?_eq_getElem h2]; simp
       have ED := Lib.hid ed
       clear ed hA hB
       have hz : (0 : Int) ≤ (c : Int) + (b[k] : Int) := by omega
       go_wp2_with (at_builtin; refine wpList_append_own _ rfl _ _ 50 rfl w.heap.size 3 i0 (.int .i64 0) 1 8 Tryz.underlying50 hi hz0 hz1 hz2 rfl (by decide) _ _ _ rfl (hown.alloc _) ⟨wr.heap.size, 0, none⟩ 1 1 [.int .i64 (((c : Int) + (b[k] : Int)) % 10)] rfl rfl ?c1r ?c2r ?c3r ?c4r ?c5r ?_)
       case c2r => rfl
       case c5r => omega
       case c3r => unfold maxLen; omega
       case c4r => omega
       intro v' w1 hown' hgrow _
       have R := plus_keep (c + b[k]) hsz HK.out hown hnx _ (by omega) hown' hgrow
       have N := HST.out _ ED.out
       have HN := Lib.hid N
       have HR := Lib.hid R
       clear hown' hgrow hown N R
       go_wp2
       case roundEnd =>
         have hk' : k + 1 ≤ max a.length b.length + 1 := by have := HT.out; omega
         obtain ⟨e1, e2, e3, e4⟩ := HN.out
         exact ⟨⟨k + 1, (c + b[k]) / 10, l ++ [(c + b[k]) % 10], by simp, by simp, hk', e3, e1, e2, e4, fun hm => by omega, HR.out.1, HR.out.2⟩, by simp [intOf]; omega⟩
     · by_cases h3 : 0 < c
       · have ed : c = c + (a[k]?).getD 0 + (b[k]?).getD 0 := by rw [List.getElem?_eq_none (by omega : a.length ≤ k), List.getElem?_eq_none (by omega : b.length ≤ k)]; simp
         have ED := Lib.hid ed
         clear ed hA hB
         have hz : (0 : Int) ≤ (c : Int) := by omega
         go_wp2_with (at_builtin; refine wpList_append_own _ rfl _ _ 50 rfl w.heap.size 3 i0 (.int .i64 0) 1 8 Tryz.underlying50 hi hz0 hz1 hz2 rfl (by decide) _ _ _ rfl (hown.alloc _) ⟨wr.heap.size, 0, none⟩ 1 1 [.int .i64 (((c : Int)) % 10)] rfl rfl ?c1s ?c2s ?c3s ?c4s ?c5s ?_)
         case c1s =>
           intro j u hj
           match j, hj with
           | 0, hj => simp at hj; subst hj; simp [Addr.add]
         case c2s => intro u hu; simp at hu; subst hu; rfl
         case c5s => simp; omega
         case c3s => unfold maxLen; omega
         case c4s => omega
         intro v' w1 hown' hgrow _
         have R := plus_keep (c) hsz HK.out hown hnx _ (by omega) hown' hgrow
         have N := HST.out _ ED.out
         have HN := Lib.hid N
         have HR := Lib.hid R
         clear hown' hgrow hown N R
         go_wp2
         case roundEnd =>
           have hk' : k + 1 ≤ max a.length b.length + 1 := by have := HT.out; omega
           obtain ⟨e1, e2, e3, e4⟩ := HN.out
           exact ⟨⟨k + 1, (c) / 10, l ++ [(c) % 10], by simp, by simp, hk', e3, e1, e2, e4, fun hm => by omega, HR.out.1, HR.out.2⟩, by simp [intOf]; omega⟩
       · have e1 := HS.out
         rw [val_drop_end a k (by omega), val_drop_end b k (by omega), show c = 0 by omega] at e1
         have e2 : val l = val a + val b := by simpa using e1
         have E2 := Lib.hid e2
         obtain ⟨p, bo, cap, rfl, t1, t2, t3, t4, t5, t6⟩ := own_trim (l := l) (by rw [hl]; exact hown) hd
         rw [e2] at t6
         have T := Lib.hid (And.intro t1 (And.intro t2 (And.intro t3 (And.intro t4 (And.intro t5 t6)))))
         have tr := trim_any p bo cap l wr hd t1 t2 t3 t4 t5 (by omega)
         rw [hl, e2] at tr
         have TR := Lib.hid tr
         clear tr t1 t2 t3 t4 t5 t6 hown hA hB e1 e2
         go_wp2_with (go_at_call 107; refine TR.out.mono ?_; rintro e w2 ⟨rfl, rfl⟩)
         go_ret
         exact ⟨_, rfl, T.out.2.2.2.2.2, hnx⟩
end Go.Proofs.YtpdoddhieblooaaGreatDoor
namespace Go.Proofs.YtpdoddhieblooaaGreatDoor
open Go.RowKit

theorem own_arg {B : Nat} {w w2 : World} {v : Value} {l : List Nat} (h : w.ownsRow B 3 1 v l.length (dcells l)) (hb : Below w.heap.size w w2) :
   ∃ p b cap, v = .slice p l.length cap ∧ (0 < l.length → p = some ⟨b, 0, none⟩) ∧ l.length ≤ cap ∧
     (∀ j (hj : j < l.length), w2.cell? ⟨b, j, none⟩ = some (.int .i64 (l[j] : Int))) ∧ (0 < l.length → b < w2.heap.size) := by
 have hsz := hb.size
 rcases h.2 with ⟨rfl, h0⟩ | ⟨g, cap, cur, rfl, hB, hg, hn, hm, hs, htk⟩
 · exact ⟨none, 0, 0, by rw [h0], fun hh => absurd hh (by omega), by omega, fun j hj => absurd hj (by omega), fun hh => absurd hh (by omega)⟩
 · have hgl : g < w.heap.size := (Array.getElem?_eq_some_iff.1 hg).1
   refine ⟨some ⟨g, 0, none⟩, g, cap, rfl, fun _ => rfl, hn, ?_, fun _ => by omega⟩
   intro j hj
   have := h.cells (g := g) rfl j (.int .i64 (l[j] : Int)) (by simp [dcells, List.getElem?_eq_getElem hj])
   rw [add_head] at this
   exact (hb.cell hgl).trans this
theorem val_drop_lt {l : List Nat} (hd : Digs l) (h18 : l.length ≤ 18) (k : Nat) (hk : 0 < k) : val (l.drop k) < 100000000000000000 := by
 have h := val_lt (l.drop k) (hd.drop k)
 have : (10 : Nat) ^ (l.drop k).length ≤ 10 ^ 17 := Nat.pow_le_pow_right (by decide) (by rw [List.length_drop]; omega)
 omega
set_option maxHeartbeats 1600000 in
set_option maxRecDepth 100000 in
theorem int_any (p : Option Addr) (b cap : Nat) (l : List Nat) (w : World) (hd : Digs l) (hp : 0 < l.length → p = some ⟨b, 0, none⟩) (_hcap : l.length ≤ cap)
   (hc : ∀ j (h : j < l.length), w.cell? ⟨b, j, none⟩ = some (.int .i64 (l[j] : Int))) (h18 : l.length ≤ 18) :
   Calls Tryz.prog 117 #[.slice p l.length cap] w fun e w' => e = .returned (.int .i64 (val l : Int)) ∧ w = w' := by
 go_enter Tryz.func117, Tryz.ntmps117
 go_wp2
 go_loopw [3, 4] (fun n i wr => ∃ k m : Nat, i = .int .i64 ((k : Int) - 1) ∧ n = .int .i64 (m : Int) ∧ k ≤ l.length ∧ m = val (l.drop k) ∧ w = wr)
   (fun _ i _ => (intOf i + 1).toNat)
 case atStart => exact ⟨l.length, 0, rfl, rfl, Nat.le_refl _, by rw [List.drop_length]; rfl, rfl⟩
 case round =>
   obtain ⟨k, m, rfl, rfl, hk, hm, rfl⟩ := hrel
   by_cases h0 : k = 0
   · subst h0
     have hv : val l = m := hm.symm
     clear hp hc hm
     go_wp2
     go_ret
     first
       | exact ⟨by rw [hv]; rfl, rfl⟩
       | exact ⟨rfl, rfl⟩
   · have hpp := hp (by omega)
     subst hpp
     have hcc := hc (k - 1) (by omega)
     have h9 := hd.at (k - 1) (by omega)
     have hcast : ((k : Int) - 1) = ((k - 1 : Nat) : Int) := by omega
     have hlt := val_drop_lt hd h18 k (by omega)
     rw [← hm] at hlt
     have hs := val_drop l (k - 1)
     rw [show k - 1 + 1 = k by omega, ← hm, List.getElem?_eq_getElem (by omega)] at hs
     have HS := Lib.hid hs
     clear hs hm hc
     go_wp2
     case roundEnd =>
       refine ⟨⟨k - 1, 10 * m + l[k - 1]'(by omega), rfl, ?_, by omega, ?_, trivial⟩, ?_⟩
       · simp
       · rw [HS.out]
         show _ = (some l[k - 1]).getD 0 + 10 * m
         rw [Option.getD_some]; omega
       · simp [intOf]; omega
end Go.Proofs.YtpdoddhieblooaaGreatDoor
namespace Go.Proofs.YtpdoddhieblooaaGreatDoor
open Go.RowKit

theorem own_base {B B' : Nat} {w : World} {v : Value} {n : Nat} {xs : List Value} (h : w.ownsRow B' 3 1 v n xs) (hB : B ≤ B') : w.ownsRow B 3 1 v n xs := by
 refine ⟨h.1, ?_⟩
 rcases h.2 with hn | ⟨g, cap, cur, e, hb, rest⟩
 · exact .inl hn
 · exact .inr ⟨g, cap, cur, e, by omega, rest⟩
theorem digs_one : digs 1 = [1] := by rw [digs_pos 1 (by decide)]; rw [show 1 / 10 = 0 by decide, digs_zero]
theorem pow2_length (k : Nat) (hk : k ≤ 200) : (digs (2 ^ k)).length ≤ 1000 :=
 digs_length _ _ (Nat.lt_of_lt_of_le (Nat.pow_lt_pow_left (by decide : 2 < 10) (by decide : (1000 : Nat) ≠ 0) |> fun h => Nat.lt_of_le_of_lt (Nat.pow_le_pow_right (by decide) (by omega)) h) (Nat.le_refl _))
set_option maxHeartbeats 1600000 in
set_option maxRecDepth 100000 in
theorem pow2_any (n : Nat) (w : World) (hn : n ≤ 100) :
   Calls Tryz.prog 53 #[.int .i64 2, .int .i64 (n : Int)] w fun e w' =>
     ∃ v, e = .returned v ∧ w'.ownsRow w.heap.size 3 1 v (digs (2 ^ n)).length (dcells (digs (2 ^ n))) ∧ Below w.heap.size w w' := by
 go_enter Tryz.func53, Tryz.ntmps53
 go_wp2
 go_loopw [5, 6] (fun v i wr => ∃ k : Nat, i = .int .i64 (k : Int) ∧ k ≤ n ∧ wr.ownsRow w.heap.size 3 1 v (digs (2 ^ k)).length (dcells (digs (2 ^ k))) ∧ Below w.heap.size w wr)
   (fun _ i _ => n - (intOf i).toNat)
 case atStart =>
   refine ⟨0, rfl, Nat.zero_le _, ?_, (Below.refl _ _).alloc (by omega) _⟩
   rw [Nat.pow_zero, digs_one]
   exact ⟨rfl, .inr ⟨w.heap.size, 1, #[.int .i64 1], rfl, Nat.le_refl _, heap_alloc_new w _, by decide, by decide, rfl, rfl⟩⟩
 case round =>
   obtain ⟨k, rfl, hk, hown, hnx⟩ := hrel
   have hsz := hnx.size
   have hlen := pow2_length k (by omega)
   obtain ⟨p, b, cap, rfl, t1, t2, t3, t4⟩ := own_arg hown (Below.refl _ _)
   have pl := plus_any p p b b cap cap _ _ wr (digs_digs (2 ^ k)) (digs_digs (2 ^ k)) t1 t1 t2 t2 t3 t3 (by omega) (by omega) t4 t4
   rw [val_digs, show 2 ^ k + 2 ^ k = 2 ^ (k + 1) by rw [Nat.pow_succ]; omega] at pl
   have PL := Lib.hid pl
   have HO := Lib.hid hown
   clear pl t1 t2 t3 t4 hown
   by_cases hlt : k < n
   · go_wp2_with (go_at_call 71; refine PL.out.mono ?_; rintro e w2 ⟨v2, rfl, hown2, hb2⟩; have HO2 := Lib.hid hown2; clear hown2)
     case roundEnd => exact ⟨⟨k + 1, by simp, by omega, own_base HO2.out hsz, hnx.trans (hb2.mono hsz)⟩, by simp [intOf]; omega⟩
   · have hkn : k = n := by omega
     subst hkn
     go_wp2
     go_ret
     exact ⟨_, rfl, HO.out, hnx⟩
end Go.Proofs.YtpdoddhieblooaaGreatDoor
namespace Go.Proofs.YtpdoddhieblooaaGreatDoor
open Go.RowKit

theorem digs_ten (n : Nat) : digs (10 ^ n) = List.replicate n 0 ++ [1] := by
 have hv : val (List.replicate n 0 ++ [1]) = 10 ^ n := by
   rw [val_push, List.length_replicate, val_zeros _ (fun d hd => List.eq_of_mem_replicate hd), Nat.mul_one, Nat.zero_add]
 rw [← hv]
 refine digs_val (Digs.push (fun d hd => by rw [List.eq_of_mem_replicate hd]; decide) (by decide)) ?_
 unfold Neat
 rw [List.getLast?_concat]
 decide
theorem made_zeros (n : Nat) : (madeCells #[Value.int .i64 0] n).toList = dcells (List.replicate n 0) := by
 apply List.ext_getElem?
 intro i
 by_cases h : i < n
 · simp [madeCells, dcells, h, Nat.mod_one]
 · simp [madeCells, dcells, h]
theorem cell_of_new (w : World) (o : Obj) (t : TypeId) :
   ((w.alloc o).alloc (.cells #[Value.int .i64 1] t)).cell? ⟨w.heap.size + 1, 0, none⟩ = some (.int .i64 1) := by
 have h := heap_alloc_new (w.alloc o) (.cells #[Value.int .i64 1] t)
 rw [World.size_alloc] at h
 exact cell_of_row _ _ _ _ _ _ h |>.trans rfl
set_option maxHeartbeats 1600000 in
set_option maxRecDepth 100000 in
theorem pow10_any (n : Nat) (w : World) (hn : n ≤ 100000) :
   Calls Tryz.prog 53 #[.int .i64 10, .int .i64 (n : Int)] w fun e w' =>
     ∃ v, e = .returned v ∧ w'.ownsRow w.heap.size 3 1 v (digs (10 ^ n)).length (dcells (digs (10 ^ n))) ∧ Below w.heap.size w w' := by
 obtain ⟨i0, hi, hz0, hz1, hz2⟩ := info_parts Tryz.infoInt
 have hmk := run_make_row' 50 3 (.int .i64 0) 8 Tryz.underlying50 Tryz.infoInt rfl .i64 .i64 n (by omega) (by omega)
 have hown : (w.alloc (.cells (madeCells #[Value.int .i64 0] n) 3)).ownsRow w.heap.size 3 1 (.slice (some ⟨w.heap.size, 0, none⟩) n n) n (dcells (List.replicate n 0)) := by
   rw [← made_zeros]
   exact World.ownsRow_lit w _ n (Nat.le_refl _) (by unfold maxLen; omega) (by simp [madeCells])
 go_enter Tryz.func53, Tryz.ntmps53
 go_wp2_with (at_builtin; refine wpList_append_own _ rfl _ _ 50 rfl w.heap.size 3 i0 (.int .i64 0) 1 8 Tryz.underlying50 hi hz0 hz1 hz2 rfl (by decide) _ _ _ rfl (hown.alloc _) ⟨w.heap.size + 1, 0, none⟩ 1 1 [.int .i64 1] rfl rfl ?c1 ?c2 ?c3 ?c4 ?c5 ?_)
 case c1 =>
   intro j u hj
   match j, hj with
   | 0, hj =>
     simp at hj; subst hj
     rw [add_head]
     exact cell_of_new w _ _
 case c2 => intro u hu; simp at hu; subst hu; rfl
 case c3 => unfold maxLen; omega
 case c4 => omega
 case c5 => simp; omega
 intro v' w1 hown' hgrow _
 have hb : Below w.heap.size w w1 := (((Below.refl _ w).alloc (Nat.le_refl _) _).alloc (by simp) _).grown hgrow (by simp; omega) (fun j hj => by simp [Value.ownBlock] at hj; omega)
 have el : (digs (10 ^ n)).length = n + 1 := by rw [digs_ten]; simp
 have ho : w1.ownsRow w.heap.size 3 1 v' (digs (10 ^ n)).length (dcells (digs (10 ^ n))) := by
   rw [el, digs_ten]
   simpa [dcells] using hown'
 have HO := Lib.hid ho
 clear hown' hgrow ho hown hmk
 go_wp2
 go_ret
 exact ⟨_, rfl, HO.out, hb⟩
end Go.Proofs.YtpdoddhieblooaaGreatDoor
namespace Go.Proofs.YtpdoddhieblooaaGreatDoor
open Go.RowKit

theorem less_step {a b l : List Nat} {k br : Nat} {S : Int} (hl : l.length = a.length) (hk : k < a.length) (hd : Digs l) (_hb : Digs b) (_hbr : br ≤ 1) (htop : l.drop k = a.drop k)
   (h : (val (l.take k) : Int) + 10 ^ k * ((val (a.drop k) : Int) - val (b.drop k) - br) = S) (n br' : Nat) (hn : (n : Int) = (l[k]'(by omega) : Int) - br - ((b[k]?).getD 0 : Nat) + 10 * br') (hn9 : n < 10) :
   (l.set k n).length = a.length ∧ Digs (l.set k n) ∧ (l.set k n).drop (k + 1) = a.drop (k + 1) ∧
     (val ((l.set k n).take (k + 1)) : Int) + 10 ^ (k + 1) * ((val (a.drop (k + 1)) : Int) - val (b.drop (k + 1)) - br') = S := by
 have hkl : k < l.length := by omega
 have elk : l[k] = a[k] := by
   have h1 := List.drop_eq_getElem_cons hkl
   have h2 := List.drop_eq_getElem_cons hk
   rw [htop, h2] at h1
   exact ((List.cons.inj h1).1).symm
 have etop : l.drop (k + 1) = a.drop (k + 1) := by
   have h1 := List.drop_eq_getElem_cons hkl
   have h2 := List.drop_eq_getElem_cons hk
   rw [htop, h2] at h1
   exact ((List.cons.inj h1).2).symm
 refine ⟨by simpa using hl, hd.set k hn9, by rw [List.drop_set_of_lt (by omega)]; exact etop, ?_⟩
 have e1 := val_take_succ (l.set k n) k (by simpa using hkl)
 rw [List.getElem_set_self, List.take_set_of_le (Nat.le_refl k)] at e1
 have e2 := val_drop a k
 have e3 := val_drop b k
 rw [List.getElem?_eq_getElem hk] at e2
 have e2' : val (a.drop k) = a[k] + 10 * val (a.drop (k + 1)) := e2
 rw [e1, ← h, e2', e3]
 rw [elk] at hn
 push_cast
 rw [hn, Int.pow_succ, Int.mul_assoc, Int.add_assoc, ← Int.mul_add]
 congr 2
 omega
end Go.Proofs.YtpdoddhieblooaaGreatDoor
namespace Go.Proofs.YtpdoddhieblooaaGreatDoor
open Go.RowKit

theorem own_shape {B n : Nat} {w : World} {v : Value} {xs : List Value} (h : w.ownsRow B 3 1 v n xs) (hn : 0 < n) : ∃ g cap, v = .slice (some ⟨g, 0, none⟩) n cap ∧ B ≤ g ∧ n ≤ cap ∧ g < w.heap.size := by
 rcases h.2 with ⟨_, h0⟩ | ⟨g, cap, cur, rfl, hB, hg, hc, _⟩
 · omega
 · exact ⟨g, cap, rfl, hB, hc, (Array.getElem?_eq_some_iff.1 hg).1⟩
theorem less_end {a b l : List Nat} {k br : Nat} (hl : l.length = a.length) (hk : ¬ k < a.length) (hka : k ≤ a.length) (hd : Digs l) (hle : val b ≤ val a)
   (h : (val (l.take k) : Int) + 10 ^ k * ((val (a.drop k) : Int) - val (b.drop k) - br) = (val a : Int) - val b) : val l = val a - val b := by
 have ek : k = a.length := by omega
 subst ek
 rw [← hl, List.take_length, hl, val_drop_end a _ (Nat.le_refl _)] at h
 have hlt := val_lt l hd
 rw [hl] at hlt
 by_cases hx : val (b.drop a.length) + br = 0
 · have e : ((0 : Nat) : Int) - (val (b.drop a.length) : Int) - br = 0 := by omega
   rw [e, Int.mul_zero] at h
   omega
 · have e : ((0 : Nat) : Int) - (val (b.drop a.length) : Int) - br = -((val (b.drop a.length) + br : Nat) : Int) := by omega
   rw [e, Int.mul_neg] at h
   have h1 : 10 ^ a.length * 1 ≤ 10 ^ a.length * (val (b.drop a.length) + br) := Nat.mul_le_mul_left _ (by omega)
   have h2 : ((10 ^ a.length * (val (b.drop a.length) + br) : Nat) : Int) = (10 : Int) ^ a.length * ((val (b.drop a.length) + br : Nat) : Int) := by push_cast; rfl
   rw [← h2] at h
   omega
theorem dcells_set (l : List Nat) (k n : Nat) : dcells (l.set k n) = (dcells l).set k (.int .i64 (n : Int)) := List.map_set ..
set_option maxHeartbeats 4000000 in
set_option maxRecDepth 100000 in
theorem less_any (pb : Option Addr) (ba bb ca cb : Nat) (a b : List Nat) (w : World) (ha : Digs a) (hb : Digs b) (hle : val b ≤ val a) (hpos : 0 < a.length)
   (hpb : 0 < b.length → pb = some ⟨bb, 0, none⟩) (_hca : a.length ≤ ca) (_hcb : b.length ≤ cb)
   (hA : ∀ j (h : j < a.length), w.cell? ⟨ba, j, none⟩ = some (.int .i64 (a[j] : Int))) (hB : ∀ j (h : j < b.length), w.cell? ⟨bb, j, none⟩ = some (.int .i64 (b[j] : Int)))
   (hla : a.length ≤ 100000) (hlb : b.length ≤ 100000) (hba : ba < w.heap.size) (hbb : 0 < b.length → bb < w.heap.size) :
   Calls Tryz.prog 72 #[.slice (some ⟨ba, 0, none⟩) a.length ca, .slice pb b.length cb] w fun e w' =>
     ∃ v, e = .returned v ∧ w'.ownsRow w.heap.size 3 1 v (digs (val a - val b)).length (dcells (digs (val a - val b))) ∧ Below w.heap.size w w' := by
 obtain ⟨i0, hi, hz0, hz1, hz2⟩ := info_parts Tryz.infoInt
 have hown0 : (w.alloc (.cells #[] 3)).ownsRow w.heap.size 3 1 (.slice (some ⟨w.heap.size, 0, none⟩) 0 0) 0 [] := World.ownsRow_made w #[] 0 (Nat.le_refl _) (by decide) rfl
 have hnews : ∀ (j : Nat) (u : Value), (dcells a)[j]? = some u → (w.alloc (.cells #[] 3)).cell? ((⟨ba, 0, none⟩ : Addr).add j) = some u := by
   intro j u hj
   rw [add_head]
   by_cases h : j < a.length
   · rw [World.cell?_alloc_past _ _ _ (by exact hba), hA j h]
     simpa [dcells, List.getElem?_eq_getElem h] using hj
   · simp [dcells, h] at hj
 have HN := Lib.hid hnews
 clear hnews
 go_enter Tryz.func72, Tryz.ntmps72
 go_wp2_with (at_builtin; refine wpList_append_own _ rfl _ _ 50 rfl w.heap.size 3 i0 (.int .i64 0) 1 8 Tryz.underlying50 hi hz0 hz1 hz2 rfl (by decide) _ _ _ rfl hown0 ⟨ba, 0, none⟩ a.length ca (dcells a) rfl (by simp [dcells]) HN.out ?c2 ?c3 ?c4 ?c5 ?_)
 case c2 => intro u hu; simp [dcells] at hu; obtain ⟨d, _, rfl⟩ := hu; rfl
 case c3 => unfold maxLen; omega
 case c4 => omega
 case c5 => simp
 intro v' w1 hown1 hgrow _
 have hb1 : Below w.heap.size w w1 := ((Below.refl _ w).alloc (Nat.le_refl _) _).grown hgrow (by simp) (fun j hj => by simp [Value.ownBlock] at hj; omega)
 obtain ⟨g, cap, rfl, hBg, hcap, _⟩ := own_shape hown1 hpos
 have HO1 := Lib.hid hown1
 clear hgrow hown1 hown0 HN
 go_wp2
 go_loopw [6, 7] (fun c i wr => ∃ (k br : Nat) (l : List Nat), i = .int .i64 (k : Int) ∧ c = .int .i64 (br : Int) ∧ k ≤ a.length ∧ br ≤ 1 ∧ l.length = a.length ∧ Digs l ∧ l.drop k = a.drop k ∧
     (val (l.take k) : Int) + 10 ^ k * ((val (a.drop k) : Int) - val (b.drop k) - br) = (val a : Int) - val b ∧ wr.ownsRow w.heap.size 3 1 (.slice (some ⟨g, 0, none⟩) a.length cap) a.length (dcells l) ∧ Below w.heap.size w wr)
   (fun _ i _ => a.length - (intOf i).toNat)
 case atStart => exact ⟨0, 0, a, rfl, rfl, Nat.zero_le _, by decide, rfl, ha, rfl, by simp [val], HO1.out, hb1⟩
 case round =>
   obtain ⟨k, br, l, rfl, rfl, hk, hbr, hl, hd, htop, hs, hown, hnx⟩ := hrel
   have HO := Lib.hid hown
   have HS := Lib.hid hs
   have HT := Lib.hid htop
   have HL := Lib.hid hl
   clear hs htop HO1
   by_cases h1 : k < a.length
   · have hkl : k < l.length := by omega
     have hck : wr.cell? ⟨g, k, none⟩ = some (.int .i64 (l[k] : Int)) := by
       rw [hown.cellAt k (by omega)]
       simp [dcells, List.getElem?_eq_getElem hkl]
     have hfk : wr.frozen? ⟨g, k, none⟩ = false := hown.frozenAt k
     have h9 := hd.at k hkl
     clear hown hl
     by_cases h2 : k < b.length
     · have hppb := hpb (by omega)
       subst hppb
       have hcB := (hnx.cell (hbb (by omega))).trans (hB k h2)
       have h9b := hb.at k h2
       by_cases h3 : (l[k] : Int) - (br : Int) - (b[k] : Int) < 0
       · have hneg : (l[k] : Int) - (br : Int) - (b[k] : Int) < 0 := by omega
         obtain ⟨n, hn⟩ : ∃ n : Nat, (n : Int) = (l[k] : Int) - (br : Int) - (b[k] : Int) + 10 := ⟨((l[k] : Int) - (br : Int) - (b[k] : Int) + 10).toNat, by omega⟩
         have st := less_step HL.out h1 hd hb hbr HT.out HS.out n 1 (by rw [hn, List.getElem?_eq_getElem h2]; show _ = (l[k] : Int) - br - ((b[k] : Nat) : Int) + _; omega) (by omega)
         have ST := Lib.hid st
         have HNN := Lib.hid hn
         clear st hn hA hB
         go_wp2
         case roundEnd =>
           refine ⟨⟨k + 1, 1, l.set k n, by simp, by simp, by omega, by decide, ST.out.1, ST.out.2.1, ST.out.2.2.1, ST.out.2.2.2, ?_, hnx.setCell hBg _⟩, by simp [intOf]; omega⟩
           rw [dcells_set, HNN.out]
           exact (HO.out.stored k _).1
       · have hneg : ¬ (l[k] : Int) - (br : Int) - (b[k] : Int) < 0 := by omega
         obtain ⟨n, hn⟩ : ∃ n : Nat, (n : Int) = (l[k] : Int) - (br : Int) - (b[k] : Int) := ⟨((l[k] : Int) - (br : Int) - (b[k] : Int)).toNat, by omega⟩
         have st := less_step HL.out h1 hd hb hbr HT.out HS.out n 0 (by rw [hn, List.getElem?_eq_getElem h2]; show _ = (l[k] : Int) - br - ((b[k] : Nat) : Int) + _; omega) (by omega)
         have ST := Lib.hid st
         have HNN := Lib.hid hn
         clear st hn hA hB
         go_wp2
         case roundEnd =>
           refine ⟨⟨k + 1, 0, l.set k n, by simp, by simp, by omega, by decide, ST.out.1, ST.out.2.1, ST.out.2.2.1, ST.out.2.2.2, ?_, hnx.setCell hBg _⟩, by simp [intOf]; omega⟩
           rw [dcells_set, HNN.out]
           exact (HO.out.stored k _).1
     · by_cases h3 : (l[k] : Int) - (br : Int) < 0
       · have hneg : (l[k] : Int) - (br : Int) < 0 := by omega
         obtain ⟨n, hn⟩ : ∃ n : Nat, (n : Int) = (l[k] : Int) - (br : Int) + 10 := ⟨((l[k] : Int) - (br : Int) + 10).toNat, by omega⟩
         have st := less_step HL.out h1 hd hb hbr HT.out HS.out n 1 (by rw [hn, List.getElem?_eq_none (by omega : b.length ≤ k)]; show _ = (l[k] : Int) - br - ((0 : Nat) : Int) + _; omega) (by omega)
         have ST := Lib.hid st
         have HNN := Lib.hid hn
         clear st hn hA hB
         go_wp2
         case roundEnd =>
           refine ⟨⟨k + 1, 1, l.set k n, by simp, by simp, by omega, by decide, ST.out.1, ST.out.2.1, ST.out.2.2.1, ST.out.2.2.2, ?_, hnx.setCell hBg _⟩, by simp [intOf]; omega⟩
           rw [dcells_set, HNN.out]
           exact (HO.out.stored k _).1
       · have hneg : ¬ (l[k] : Int) - (br : Int) < 0 := by omega
         obtain ⟨n, hn⟩ : ∃ n : Nat, (n : Int) = (l[k] : Int) - (br : Int) := ⟨((l[k] : Int) - (br : Int)).toNat, by omega⟩
         have st := less_step HL.out h1 hd hb hbr HT.out HS.out n 0 (by rw [hn, List.getElem?_eq_none (by omega : b.length ≤ k)]; show _ = (l[k] : Int) - br - ((0 : Nat) : Int) + _; omega) (by omega)
         have ST := Lib.hid st
         have HNN := Lib.hid hn
         clear st hn hA hB
         go_wp2
         case roundEnd =>
           refine ⟨⟨k + 1, 0, l.set k n, by simp, by simp, by omega, by decide, ST.out.1, ST.out.2.1, ST.out.2.2.1, ST.out.2.2.2, ?_, hnx.setCell hBg _⟩, by simp [intOf]; omega⟩
           rw [dcells_set, HNN.out]
           exact (HO.out.stored k _).1
   · have e2 := less_end HL.out h1 hk hd hle HS.out
     obtain ⟨p, bo, cap', he, t1, t2, t3, t4, t5, t6⟩ := own_trim (l := l) (by rw [hl]; exact hown) hd
     rw [hl] at he
     obtain ⟨rfl, rfl⟩ : some (⟨g, 0, none⟩ : Addr) = p ∧ cap = cap' := by simpa using he
     have tr := trim_any _ bo cap l wr hd t1 t2 t3 t4 t5 (by omega)
     rw [hl, e2] at tr
     rw [e2] at t6
     have TR := Lib.hid tr
     have T6 := Lib.hid t6
     clear tr t1 t2 t3 t4 t5 t6 hown hA hB e2 hl he
     go_wp2_with (go_at_call 107; refine TR.out.mono ?_; rintro e w2 ⟨rfl, rfl⟩)
     go_ret
     exact ⟨_, rfl, T6.out, hnx⟩
end Go.Proofs.YtpdoddhieblooaaGreatDoor
namespace Go.Proofs.YtpdoddhieblooaaGreatDoor
open Go.RowKit

theorem mul_place {b l l2 : List Nat} {k m x : Nat} (hm : m < b.length) (hkm : k + m < l2.length) (hv : val l2 = val l + 10 ^ k * (x * val (b.take m))) :
   val (l2.set (k + m) (l2[k + m] + x * b[m])) = val l + 10 ^ k * (x * val (b.take (m + 1))) := by
 rw [val_set l2 (k + m) hkm, hv, val_take_succ b m hm, Nat.mul_add, Nat.mul_add, Nat.add_assoc]
 congr 2
 rw [Nat.pow_add, Nat.mul_assoc]
 congr 1
 rw [← Nat.mul_assoc, ← Nat.mul_assoc, Nat.mul_comm x (10 ^ m)]
theorem mul_bounds {l2 : List Nat} {k m y : Nat} (hkm : k + m < l2.length) (hy : y ≤ 81) (h1 : ∀ (j : Nat) (h : j < l2.length), l2[j] ≤ 81 * (k + 1)) (h2 : ∀ (j : Nat) (h : j < l2.length), k + m ≤ j → l2[j] ≤ 81 * k) :
   (∀ (j : Nat) (h : j < (l2.set (k + m) (l2[k + m] + y)).length), (l2.set (k + m) (l2[k + m] + y))[j] ≤ 81 * (k + 1)) ∧
     (∀ (j : Nat) (h : j < (l2.set (k + m) (l2[k + m] + y)).length), k + (m + 1) ≤ j → (l2.set (k + m) (l2[k + m] + y))[j] ≤ 81 * k) := by
 constructor
 · intro j h
   rw [List.getElem_set]
   split
   · have := h2 (k + m) hkm (Nat.le_refl _); omega
   · exact h1 j (by simpa using h)
 · intro j h hj
   rw [List.getElem_set]
   split
   · omega
   · exact h2 j (by simpa using h) (by omega)
theorem mul_row {a b l l2 : List Nat} {k : Nat} (hk : k < a.length) (hv : val l = val (a.take k) * val b) (hv2 : val l2 = val l + 10 ^ k * (a[k] * val (b.take b.length))) : val l2 = val (a.take (k + 1)) * val b := by
 rw [List.take_length] at hv2
 rw [hv2, hv, val_take_succ a k hk, Nat.add_mul, Nat.mul_assoc]
theorem carry_step {l : List Nat} {k c P : Nat} (hk : k < l.length) (hd : Digs (l.take k)) (h : val (l.take k) + 10 ^ k * (c + val (l.drop k)) = P) (d : Nat) (ed : d = l[k] + c) :
   Digs ((l.set k (d % 10)).take (k + 1)) ∧ val ((l.set k (d % 10)).take (k + 1)) + 10 ^ (k + 1) * (d / 10 + val ((l.set k (d % 10)).drop (k + 1))) = P := by
 have e1 : (l.set k (d % 10)).take (k + 1) = l.take k ++ [d % 10] := by
   rw [List.take_succ_eq_append_getElem (by simpa using hk), List.getElem_set_self, List.take_set_of_le (Nat.le_refl k)]
 have e2 : (l.set k (d % 10)).drop (k + 1) = l.drop (k + 1) := List.drop_set_of_lt (by omega)
 have e3 := val_drop l k
 rw [List.getElem?_eq_getElem hk] at e3
 have e3' : val (l.drop k) = l[k] + 10 * val (l.drop (k + 1)) := e3
 refine ⟨by rw [e1]; exact hd.push (by omega), ?_⟩
 rw [e1, e2, val_push, List.length_take_of_le (by omega), Nat.pow_succ, Nat.mul_assoc, Nat.add_assoc, ← Nat.mul_add, ← h, e3']
 congr 2
 omega
theorem mul_end {a b l : List Nat} {k c : Nat} (ha : Digs a) (hb : Digs b) (hl : l.length = a.length + b.length) (hk : k = l.length) (hd : Digs (l.take k)) (h : val (l.take k) + 10 ^ k * (c + val (l.drop k)) = val a * val b) :
   Digs l ∧ val l = val a * val b := by
 subst hk
 rw [List.take_length] at h hd
 have h1 := val_lt a ha
 have h2 := val_lt b hb
 have h3 : val a * val b < 10 ^ l.length := by
   rw [hl, Nat.pow_add]
   exact Nat.mul_lt_mul'' h1 h2
 rw [val_drop_end l _ (Nat.le_refl _), Nat.add_zero] at h
 by_cases hc : c = 0
 · subst hc
   exact ⟨hd, by simpa using h⟩
 · have : 10 ^ l.length * 1 ≤ 10 ^ l.length * c := Nat.mul_le_mul_left _ (by omega)
   omega
end Go.Proofs.YtpdoddhieblooaaGreatDoor
namespace Go.Proofs.YtpdoddhieblooaaGreatDoor
open Go.RowKit

set_option maxHeartbeats 4000000 in
set_option maxRecDepth 100000 in
theorem mul_any (pa pb : Option Addr) (ba bb ca cb : Nat) (a b : List Nat) (w : World) (ha : Digs a) (hb : Digs b) (hpa : 0 < a.length → pa = some ⟨ba, 0, none⟩) (hpb : 0 < b.length → pb = some ⟨bb, 0, none⟩)
   (_hca : a.length ≤ ca) (_hcb : b.length ≤ cb)
   (hA : ∀ j (h : j < a.length), w.cell? ⟨ba, j, none⟩ = some (.int .i64 (a[j] : Int))) (hB : ∀ j (h : j < b.length), w.cell? ⟨bb, j, none⟩ = some (.int .i64 (b[j] : Int)))
   (hla : a.length ≤ 10000) (hlb : b.length ≤ 10000) (hba : 0 < a.length → ba < w.heap.size) (hbb : 0 < b.length → bb < w.heap.size) :
   Calls Tryz.prog 54 #[.slice pa a.length ca, .slice pb b.length cb] w fun e w' =>
     ∃ v, e = .returned v ∧ w'.ownsRow w.heap.size 3 1 v (digs (val a * val b)).length (dcells (digs (val a * val b))) ∧ Below w.heap.size w w' := by
 have hmk := run_make_row' 50 3 (.int .i64 0) 8 Tryz.underlying50 Tryz.infoInt rfl .i64 .i64 (a.length + b.length) (by omega) (by omega)
 simp only [Int.natCast_add] at hmk
 have hown0 : (w.alloc (.cells (madeCells #[Value.int .i64 0] (a.length + b.length)) 3)).ownsRow w.heap.size 3 1 (.slice (some ⟨w.heap.size, 0, none⟩) (a.length + b.length) (a.length + b.length)) (a.length + b.length) (dcells (List.replicate (a.length + b.length) 0)) := by
   rw [← made_zeros]
   exact World.ownsRow_lit w _ _ (Nat.le_refl _) (by unfold maxLen; omega) (by simp [madeCells])
 have HO0 := Lib.hid hown0
 clear hown0
 go_enter Tryz.func54, Tryz.ntmps54
 go_wp2
 go_loopw [6] (fun i wr => ∃ (k : Nat) (l : List Nat), i = .int .i64 (k : Int) ∧ k ≤ a.length ∧ l.length = a.length + b.length ∧ val l = val (a.take k) * val b ∧ (∀ (j : Nat) (h : j < l.length), l[j] ≤ 81 * k) ∧
     wr.ownsRow w.heap.size 3 1 (.slice (some ⟨w.heap.size, 0, none⟩) (a.length + b.length) (a.length + b.length)) (a.length + b.length) (dcells l) ∧ Below w.heap.size w wr)
   (fun i _ => a.length - (intOf i).toNat)
 case atStart =>
   exact ⟨0, List.replicate (a.length + b.length) 0, rfl, Nat.zero_le _, by simp, by rw [val_zeros _ (fun d hd => List.eq_of_mem_replicate hd)]; simp [val], fun j h => by simp, HO0.out, (Below.refl _ w).alloc (Nat.le_refl _) _⟩
 case round =>
   obtain ⟨k, l, rfl, hk, hl, hv, hm, hown, hnx⟩ := hrel
   have HO := Lib.hid hown
   have HV := Lib.hid hv
   have HM := Lib.hid hm
   clear hown hv hm
   by_cases h1 : k < a.length
   · have hppa := hpa (by omega)
     subst hppa
     have hba' := hba (by omega)
     have n0 : ¬ w.heap.size = ba := by omega
     have hcA := (hnx.cell (by exact hba')).trans (hA k h1)
     clear hmk HO0
     go_wp2
     go_loopw [7] (fun i wr2 => ∃ (m : Nat) (l2 : List Nat), i = .int .i64 (m : Int) ∧ m ≤ b.length ∧ l2.length = a.length + b.length ∧ val l2 = val l + 10 ^ k * (a[k] * val (b.take m)) ∧ (∀ (j : Nat) (h : j < l2.length), l2[j] ≤ 81 * (k + 1)) ∧ (∀ (j : Nat) (h : j < l2.length), k + m ≤ j → l2[j] ≤ 81 * k) ∧
         wr2.ownsRow w.heap.size 3 1 (.slice (some ⟨w.heap.size, 0, none⟩) (a.length + b.length) (a.length + b.length)) (a.length + b.length) (dcells l2) ∧ Below w.heap.size w wr2)
       (fun i _ => b.length - (intOf i).toNat)
     case atStart => exact ⟨0, l, rfl, Nat.zero_le _, hl, by simp [val], fun j h => by have := HM.out j h; omega, fun j h _ => HM.out j h, HO.out, hnx⟩
     case round =>
       obtain ⟨m, l2, rfl, hm, hl2, hv2, hm2, hm3, hown2, hnx2⟩ := hrel
       by_cases h2 : m < b.length
       · have hppb := hpb (by omega)
         subst hppb
         have hbb' := hbb (by omega)
         have n1 : ¬ w.heap.size = bb := by omega
         have hcA2 := (hnx2.cell (by exact hba')).trans (hA k h1)
         have hcB2 := (hnx2.cell (by exact hbb')).trans (hB m h2)
         have hkm : k + m < l2.length := by omega
         have hcO : wr.cell? ⟨w.heap.size, k + m, none⟩ = some (.int .i64 (l2[k + m] : Int)) := by
           rw [hown2.cellAt (k + m) (by omega)]
           simp [dcells, List.getElem?_eq_getElem hkm]
         have hfO : wr.frozen? ⟨w.heap.size, k + m, none⟩ = false := hown2.frozenAt (k + m)
         have b1 := ha.at k h1
         have b2 := hb.at m h2
         have b3 := hm2 (k + m) hkm
         have b4 : a[k] * b[m] ≤ 81 := Nat.le_trans (Nat.mul_le_mul (by omega : a[k] ≤ 9) (by omega : b[m] ≤ 9)) (by decide)
         have b5 : (0 : Int) ≤ (a[k] : Int) * (b[m] : Int) := by rw [← Int.natCast_mul]; omega
         have b6 : (a[k] : Int) * (b[m] : Int) ≤ 81 := by rw [← Int.natCast_mul]; omega
         have MB := Lib.hid (mul_bounds hkm b4 hm2 hm3)
         have MP := Lib.hid (mul_place (x := a[k]) h2 hkm hv2)
         have HO2 := Lib.hid hown2
         clear b4 hown2 hm2 hm3 hv2 hA hB HV HM HO
         go_wp2
         go_region
         go_wp2
         case roundEnd =>
           refine ⟨⟨m + 1, l2.set (k + m) (l2[k + m] + a[k] * b[m]), by simp, by omega, by simpa using hl2, MP.out, MB.out.1, MB.out.2, ?_, (hnx2.setCell (p := ⟨w.heap.size, k + m, none⟩) (Nat.le_refl _) _).drew⟩, by simp [intOf]; omega⟩
           rw [dcells_set]
           have e : ((l2[k + m] + a[k] * b[m] : Nat) : Int) = (l2[k + m] : Int) + (a[k] : Int) * (b[m] : Int) := by push_cast; rfl
           rw [e]
           exact (HO2.out.stored (k + m) _).1
       · have hmb : m = b.length := by omega
         subst hmb
         have MR := Lib.hid (mul_row h1 HV.out hv2)
         have HO2 := Lib.hid hown2
         have HM2 := Lib.hid hm2
         clear hown2 hm2 hm3 hv2 hA hB HV HM HO
         go_wp2
         case roundEnd => exact ⟨⟨k + 1, l2, by simp, by omega, hl2, MR.out, HM2.out, HO2.out, hnx2⟩, by simp [intOf]; omega⟩
   · have hka : k = a.length := by omega
     subst hka
     have hv0 := HV.out
     rw [List.take_length] at hv0
     have HP := Lib.hid hv0
     clear hv0 hA hB hmk HO0 HV
     go_wp2
     go_loopw [8, 9] (fun c i wr3 => ∃ (k cc : Nat) (l3 : List Nat), i = .int .i64 (k : Int) ∧ c = .int .i64 (cc : Int) ∧ k ≤ a.length + b.length ∧ cc ≤ 100000000 ∧ l3.length = a.length + b.length ∧ Digs (l3.take k) ∧
         (∀ (j : Nat) (h : j < l3.length), l3[j] ≤ 81 * a.length + 10) ∧ val (l3.take k) + 10 ^ k * (cc + val (l3.drop k)) = val a * val b ∧
         wr3.ownsRow w.heap.size 3 1 (.slice (some ⟨w.heap.size, 0, none⟩) (a.length + b.length) (a.length + b.length)) (a.length + b.length) (dcells l3) ∧ Below w.heap.size w wr3)
       (fun _ i _ => a.length + b.length - (intOf i).toNat)
     case atStart => exact ⟨0, 0, l, rfl, rfl, Nat.zero_le _, by decide, hl, Digs.nil, fun j h => by have := HM.out j h; omega, by rw [← HP.out]; simp [val], HO.out, hnx⟩
     case round =>
       obtain ⟨k, cc, l3, rfl, rfl, hk3, hcc, hl3, hd3, hm3, hv3, hown3, hnx3⟩ := hrel
       clear HM HP HO hnx
       by_cases h1 : k < a.length + b.length
       · have hkl : k < l3.length := by omega
         have hcO : wr.cell? ⟨w.heap.size, k, none⟩ = some (.int .i64 (l3[k] : Int)) := by
           rw [hown3.cellAt k (by omega)]
           simp [dcells, List.getElem?_eq_getElem hkl]
         have hfO : wr.frozen? ⟨w.heap.size, k, none⟩ = false := hown3.frozenAt k
         have b3 := hm3 k hkl
         have CS := Lib.hid (carry_step hkl hd3 hv3 (l3[k] + cc) rfl)
         have HO3 := Lib.hid hown3
         have HM3 := Lib.hid hm3
         clear hown3 hm3 hv3 hd3
         go_wp2
         case roundEnd =>
           refine ⟨⟨k + 1, (l3[k] + cc) / 10, l3.set k ((l3[k] + cc) % 10), by simp, by simp, by omega, by omega, by simpa using hl3, CS.out.1, ?_, CS.out.2, ?_, hnx3.setCell (p := ⟨w.heap.size, k, none⟩) (Nat.le_refl _) _⟩, by simp [intOf]; omega⟩
           · intro j h
             rw [List.getElem_set]
             split
             · omega
             · exact HM3.out j (by simpa using h)
           · rw [dcells_set]
             have e : (((l3[k] + cc) % 10 : Nat) : Int) = ((l3[k] : Int) + (cc : Int)) % 10 := by omega
             rw [e]
             exact (HO3.out.stored k _).1
       · have hke : k = l3.length := by omega
         obtain ⟨hd4, hv4⟩ := mul_end ha hb hl3 hke hd3 hv3
         obtain ⟨p, bo, cap', he, t1, t2, t3, t4, t5, t6⟩ := own_trim (l := l3) (by rw [hl3]; exact hown3) hd4
         rw [hl3] at he
         obtain ⟨rfl, rfl⟩ : some (⟨w.heap.size, 0, none⟩ : Addr) = p ∧ a.length + b.length = cap' := by simpa using he
         have tr := trim_any _ bo (a.length + b.length) l3 wr hd4 t1 t2 t3 t4 t5 (by omega)
         rw [hl3, hv4] at tr
         rw [hv4] at t6
         have TR := Lib.hid tr
         have T6 := Lib.hid t6
         clear tr t1 t2 t3 t4 t5 t6 hown3 hl3 he hm3 hv3 hd3 hv4 hd4
         go_wp2_with (go_at_call 107; refine TR.out.mono ?_; rintro e w2 ⟨rfl, rfl⟩)
         go_ret
         exact ⟨_, rfl, T6.out, hnx3⟩
end Go.Proofs.YtpdoddhieblooaaGreatDoor
namespace Go.Proofs.YtpdoddhieblooaaGreatDoor
open Go.RowKit

def ord (m n : Nat) : Int := if m < n then -1 else if n < m then 1 else 0
theorem ord_lt {m n : Nat} (h : m < n) : ord m n = -1 := by rw [ord, if_pos h]
theorem ord_gt {m n : Nat} (h : n < m) : ord m n = 1 := by rw [ord, if_neg (by omega), if_pos h]
theorem ord_eq (m : Nat) : ord m m = 0 := by rw [ord, if_neg (by omega), if_neg (by omega)]
set_option maxHeartbeats 1600000 in
set_option maxRecDepth 100000 in
theorem cmp_far (pa pb : Option Addr) (ca cb : Nat) (a b : List Nat) (w : World) (ha : Digs a) (hb : Digs b) (na : Neat a) (nb : Neat b) (hl : ¬ a.length = b.length) (_hla : a.length ≤ 1000000) (_hlb : b.length ≤ 1000000) :
   Calls Tryz.prog 70 #[.slice pa a.length ca, .slice pb b.length cb] w fun e w' => e = .returned (.int .i64 (ord (val a) (val b))) ∧ w = w' := by
 by_cases h : a.length < b.length
 · rw [ord_lt (val_lt_of_length ha nb h)]
   go_enter Tryz.func70, Tryz.ntmps70
   go_wp2
   go_ret
   exact ⟨rfl, rfl⟩
 · rw [ord_gt (val_lt_of_length hb na (by omega))]
   go_enter Tryz.func70, Tryz.ntmps70
   go_wp2
   go_ret
   exact ⟨rfl, rfl⟩
set_option maxHeartbeats 1600000 in
set_option maxRecDepth 100000 in
theorem cmp_near (pa pb : Option Addr) (ba bb ca cb : Nat) (a b : List Nat) (w : World) (ha : Digs a) (hb : Digs b) (hl : b.length = a.length)
   (hpa : 0 < a.length → pa = some ⟨ba, 0, none⟩) (hpb : 0 < b.length → pb = some ⟨bb, 0, none⟩) (_hca : a.length ≤ ca) (_hcb : b.length ≤ cb)
   (hA : ∀ j (h : j < a.length), w.cell? ⟨ba, j, none⟩ = some (.int .i64 (a[j] : Int))) (hB : ∀ j (h : j < b.length), w.cell? ⟨bb, j, none⟩ = some (.int .i64 (b[j] : Int))) (hla : a.length ≤ 1000000) (hba : 0 < a.length → ba < w.heap.size) (hbb : 0 < a.length → bb < w.heap.size) :
   Calls Tryz.prog 70 #[.slice pa a.length ca, .slice pb a.length cb] w fun e w' => e = .returned (.int .i64 (ord (val a) (val b))) ∧ Below w.heap.size w w' := by
 go_enter Tryz.func70, Tryz.ntmps70
 go_wp2
 go_loopw [5] (fun i wr => ∃ k : Nat, i = .int .i64 ((k : Int) - 1) ∧ k ≤ a.length ∧ a.drop k = b.drop k ∧ Below w.heap.size w wr)
   (fun i _ => (intOf i + 1).toNat)
 case atStart => exact ⟨a.length, rfl, Nat.le_refl _, by rw [List.drop_length, ← hl, List.drop_length], Below.refl _ _⟩
 case round =>
   obtain ⟨k, rfl, hk, hd, hnx⟩ := hrel
   by_cases h0 : k = 0
   · subst h0
     have hab : a = b := hd
     have e0 : ord (val a) (val b) = 0 := by rw [hab, ord_eq]
     clear hpa hpb hA hB hd hab
     go_wp2
     go_ret
     first
       | exact ⟨by rw [e0]; rfl, hnx⟩
       | exact ⟨rfl, hnx⟩
   · have hppa := hpa (by omega)
     have hppb := hpb (by omega)
     subst hppa
     subst hppb
     have hca' := (hnx.cell (hba (by omega))).trans (hA (k - 1) (by omega))
     have hcb' := (hnx.cell (hbb (by omega))).trans (hB (k - 1) (by omega))
     have hcast : ((k : Int) - 1) = ((k - 1 : Nat) : Int) := by omega
     have hlt : a[k - 1]'(by omega) < b[k - 1]'(by omega) → val a < val b := fun h => val_lt_of_place (k - 1) ha (by omega) (by omega) (by rw [show k - 1 + 1 = k by omega]; exact hd) h
     have hgt : b[k - 1]'(by omega) < a[k - 1]'(by omega) → val b < val a := fun h => val_lt_of_place (k - 1) hb (by omega) (by omega) (by rw [show k - 1 + 1 = k by omega]; exact hd.symm) h
     have heq : a[k - 1]'(by omega) = b[k - 1]'(by omega) → a.drop (k - 1) = b.drop (k - 1) := fun h => by
       rw [List.drop_eq_getElem_cons (by omega), List.drop_eq_getElem_cons (show k - 1 < b.length by omega), h, show k - 1 + 1 = k by omega, hd]
     have HLT := Lib.hid hlt; have HGT := Lib.hid hgt; have HEQ := Lib.hid heq
     clear hlt hgt heq hA hB
     go_wp2
     go_quiet (fail)
     go_wp2
     · have h : a[k - 1]'(by omega) < b[k - 1]'(by omega) := by assumption
       have e0 := ord_lt (HLT.out h)
       go_ret
       exact ⟨by rw [e0]; rfl, below_drewN hnx _⟩
     · have h : ¬ a[k - 1]'(by omega) < b[k - 1]'(by omega) := by assumption
       go_quiet (fail)
       go_wp2
       case roundEnd =>
         have h' : ¬ b[k - 1]'(by omega) < a[k - 1]'(by omega) := by assumption
         exact ⟨⟨k - 1, rfl, by omega, HEQ.out (by omega), below_drewN hnx _⟩, by simp [intOf]; omega⟩
       · have h' : b[k - 1]'(by omega) < a[k - 1]'(by omega) := by assumption
         have e0 := ord_gt (HGT.out h')
         go_ret
         exact ⟨by rw [e0]; rfl, below_drewN (below_drewN hnx _) _⟩
end Go.Proofs.YtpdoddhieblooaaGreatDoor
