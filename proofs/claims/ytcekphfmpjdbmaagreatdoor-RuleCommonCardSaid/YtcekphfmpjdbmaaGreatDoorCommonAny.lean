/- The law RuleCommon for any list of types. -/
import Derived.Test.YtcekphfmpjdbmaaGreatDoorCommonTwo
namespace Go.Proofs.YtcekphfmpjdbmaaGreatDoor
open Go.RowKit

theorem common_none (sa : Option Addr) (cap : Nat) (w : World) :
    Calls Tryz.prog 5 #[.slice sa 0 cap] w fun e w' => e = .returned (.bool true) ∧ Below w.heap.size w w' :=
  common_err 8 sa 0 cap w (by omega) (by omega) (light_nil sa cap w)
    (fun W _ => Common_no sa 0 cap 8 W fun W' bl _ _ hc hlt => cCommon_8 sa cap bl W' hc hlt)
    (fun W _ => rCommon_8 sa cap W)

/-- What Common's work tells of a list of numbers. -/
theorem cCommon_fine (t : Ty) (ts : List Ty) (b o cap : Nat) (w : World) (hA : TysAt w b o (t :: ts)) (hlen : ts.length ≤ 3000000000) (hb : b < w.heap.size) (hcap : cap ≤ maxLen) (hc : ts.length < cap) (ht : NumT t) (hts : ∀ t ∈ ts, NumT t)
    {k p q : Int} (hE : foldT t ts = nTy k p q) :
    Calls Tryz.prog 28 #[.slice (some ⟨b, o, none⟩) (ts.length + 1) cap] w fun e w' => e = .returned (.tuple #[numV k p q, .int .i64 0]) ∧ Below w.heap.size w w' := by
  refine Common_ok _ _ _ k p q w fun W bl _ hW hl hbl => ?_
  have hA' := hA.below hb hW
  have hb' : b < W.heap.size := Nat.lt_of_lt_of_le hb hW.size
  by_cases h1 : cap = 1
  · subst h1
    obtain rfl : ts = [] := List.length_eq_zero_iff.1 (by omega)
    refine (cCommon_one t b o bl W hA' hb' ht hl hbl).mono fun e w' ⟨he, hw⟩ => ⟨?_, hw⟩
    rw [he, show t = nTy k p q from hE]
  · refine (cCommon_many t ts b o cap bl W hA' hlen hb' (by unfold maxLen at hcap; exact hcap) (by omega) hc ht hts hl hbl).mono fun e w' ⟨he, hw⟩ => ⟨?_, hw⟩
    rw [he, hE]

theorem rCommon_fine (t : Ty) (ts : List Ty) (b o cap : Nat) (w : World) (hA : TysAt w b o (t :: ts)) (hlen : ts.length ≤ 3000000000) (hb : b < w.heap.size) (ht : NumT t) (hts : ∀ t ∈ ts, NumT t)
    {k p q : Int} (hE : foldT t ts = nTy k p q) :
    Calls Tryz.prog 29 #[.slice (some ⟨b, o, none⟩) (ts.length + 1) cap] w fun e w' => e = .returned (.tuple #[numV k p q, .int .i64 0]) ∧ Below w.heap.size w w' :=
  (rCommon_ok t ts b o cap w hA hlen hb ht hts).mono fun e w' ⟨he, hw⟩ => ⟨by rw [he, hE], hw⟩

theorem two_le : 2 ≤ maxLen := by unfold maxLen; omega

theorem common_nums (t : Ty) (r : List Ty) (b o cap : Nat) (w : World) (hA : TysAt w b o (t :: r)) (hb : b < w.heap.size) (h30 : r.length + 1 ≤ 30) (hlen : r.length + 1 ≤ cap) (hcap : cap ≤ maxLen) (ht : NumT t) (hr : ∀ x ∈ r, NumT x)
    (HL : Calls Tryz.prog 11 #[.slice (some ⟨b, o, none⟩) (r.length + 1) cap] w fun e w' => e = .returned (.bool true) ∧ w = w') :
    Calls Tryz.prog 5 #[.slice (some ⟨b, o, none⟩) (r.length + 1) cap] w fun e w' => e = .returned (.bool true) ∧ Below w.heap.size w w' := by
  obtain ⟨k, p, q, hE, hB⟩ := foldT_num ht hr
  have HP := fun W (hW : Below w.heap.size w W) => cCommon_fine t r b o cap W (hA.below hb hW) (by omega) (Nat.lt_of_lt_of_le hb hW.size) hcap (by omega) ht hr hE
  have HR := fun W (hW : Below w.heap.size w W) => rCommon_fine t r b o cap W (hA.below hb hW) (by omega) (Nat.lt_of_lt_of_le hb hW.size) ht hr hE
  by_cases h2 : r.length + 1 = 2
  · obtain ⟨u, rfl⟩ := List.length_eq_one_iff.1 (show r.length = 1 by omega)
    obtain ⟨ka, pa, qa, rfl, _⟩ := id ht
    obtain ⟨kb, pb, qb, rfl, _⟩ := id (hr u (by simp))
    refine common_two k p q ka pa qa kb pb qb b o cap w hB hb hA HL HP HR fun W b' hA' hb' => ?_
    exact cCommon_fine (nTy kb pb qb) [nTy ka pa qa] b' 0 2 W hA' (by simp) hb' two_le (by simp) (hr _ (by simp)) (by simpa using ht) (by
      rw [← hE]; exact cmT_turn _ _)
  · exact common_fine k p q _ _ _ w h30 (by rw [bne_iff_ne]; omega) hB HL HP HR

/- The law RuleCommon, for any list. -/
set_option maxRecDepth 100000 in
theorem common_some (ts : List Ty) (b o cap : Nat) (w : World) (hA : TysAt w b o ts) (hb : b < w.heap.size) (hpic : ∀ t ∈ ts, t.pic.size ≤ maxLen) (hlen : ts.length ≤ cap) (hcap : cap ≤ maxLen) (hne : ts ≠ []) :
    Calls Tryz.prog 5 #[.slice (some ⟨b, o, none⟩) ts.length cap] w fun e w' => e = .returned (.bool true) ∧ Below w.heap.size w w' := by
  have hcap' : cap ≤ 9223372036854775807 := by unfold maxLen at hcap; exact hcap
  by_cases h30 : 30 < ts.length
  · exact common_long _ _ _ w (by omega) h30
  have h30' : ts.length ≤ 30 := by omega
  rcases Classical.em (¬ ∀ t ∈ ts, t.light = true) with hl | hl
  · exact common_heavy _ _ _ w h30' (light_no ts b o cap w hA (by omega) hb hpic hl)
  have hl := Classical.not_not.1 hl
  have HL := light_yes ts b o cap w hA (by omega) hb hpic hl
  rcases Classical.em (¬ ∀ t ∈ ts, t.ok = true) with hv | hv
  · exact common_err 13 _ _ _ w h30' (by omega) HL
      (fun W hW => Common_no _ _ _ 13 W fun W' bl _ hW' hc hlt => cCommon_13 ts b o cap bl W' (hA.below hb (below_then hW hW' hW.size)) (by omega) (Nat.lt_of_lt_of_le hb (below_then hW hW' hW.size).size) hpic hv hc hlt)
      (fun W hW => rCommon_13 ts b o cap W (hA.below hb hW) (by omega) (Nat.lt_of_lt_of_le hb hW.size) hpic hv)
  have hv := Classical.not_not.1 hv
  rcases Classical.em (¬ ∀ t ∈ ts, t.num = true) with hn | hn
  · exact common_err 10 _ _ _ w h30' (by omega) HL
      (fun W hW => Common_no _ _ _ 10 W fun W' bl _ hW' hc hlt => cCommon_10 ts b o cap bl W' (hA.below hb (below_then hW hW' hW.size)) (by omega) (Nat.lt_of_lt_of_le hb (below_then hW hW' hW.size).size) hpic hv hn hc hlt)
      (fun W hW => rCommon_10 ts b o cap W (hA.below hb hW) (by omega) (Nat.lt_of_lt_of_le hb hW.size) hpic hv hn)
  have hn := Classical.not_not.1 hn
  have hN : ∀ t ∈ ts, NumT t := fun t ht => numT_of (hv t ht) (hn t ht)
  obtain ⟨t, r, rfl⟩ := List.exists_cons_of_ne_nil hne
  exact common_nums t r b o cap w hA hb (by simpa using h30') (by simpa using hlen) hcap (hN t (by simp)) (fun x hx => hN x (by simp [hx])) (by simpa using HL)
end Go.Proofs.YtcekphfmpjdbmaaGreatDoor
