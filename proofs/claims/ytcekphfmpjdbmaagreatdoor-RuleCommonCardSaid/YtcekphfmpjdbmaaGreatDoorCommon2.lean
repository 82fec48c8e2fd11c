/- rule.based, the closure of rule.Common. -/
import Derived.Test.YtcekphfmpjdbmaaGreatDoorFolded
import Derived.Test.YtcekphfmpjdbmaaGreatDoorCommon1
import Derived.Deep.RegionHeld3
namespace Go.Proofs.YtcekphfmpjdbmaaGreatDoor
open Go.RowKit

abbrev pcV : Value := .func (.func 85) #[] #[]

set_option maxHeartbeats 400000 in
theorem based_call (w : World) :
    Calls Tryz.prog 84 #[pcV] w fun e w' => e = .returned (fnC w.heap.size) ∧ w'.cell? ⟨w.heap.size, 0, none⟩ = some pcV ∧ w.heap.size < w'.heap.size ∧ Below w.heap.size w w' := by
  have hmf : ∀ (fn : Fn) (first cap : Array Value) (w : World), (Instr.makeFunc fn first cap).run Tryz.prog w = .ok (.func fn first cap) w := fun _ _ _ _ => rfl
  go_enter Tryz.func84, Tryz.ntmps84
  go_wp2
  go_ret
  exact ⟨rfl, by simp [go_sem], by simp, by go_grown⟩

set_option maxHeartbeats 1000000 in
theorem cCommon_13 (ts : List Ty) (b o cap bl : Nat) (w : World) (hA : TysAt w b o ts) (hlen : ts.length ≤ 4000000000) (hb : b < w.heap.size) (hpic : ∀ t ∈ ts, t.pic.size ≤ maxLen) (hv : ¬ ∀ t ∈ ts, t.ok = true)
    (hl : w.cell? ⟨bl, 0, none⟩ = some (.slice (some ⟨b, o, none⟩) ts.length cap)) (hbl : bl < w.heap.size) :
    Calls Tryz.prog 81 #[.pointer (some ⟨bl, 0, none⟩)] w fun e w' => e = refusal 13 ∧ Below w.heap.size w w' := by
  have HA := Lib.hid hA; have HV := Lib.hid hv; have HP := Lib.hid hpic
  clear hA hv hpic
  go_enter Tryz.func81, Tryz.ntmps81
  go_wp2_with fail
  go_at_call 66
  refine (demandNumbers_13 ts b o cap _ (HA.out.below hb (by go_grown)) hlen (by simp; omega) HP.out HV.out).mono ?_
  rintro e w1 ⟨rfl, hb1⟩
  exact ⟨rfl, rfl, below_then (by go_grown) hb1 (by simp <;> omega)⟩

set_option maxHeartbeats 1000000 in
theorem cCommon_10 (ts : List Ty) (b o cap bl : Nat) (w : World) (hA : TysAt w b o ts) (hlen : ts.length ≤ 4000000000) (hb : b < w.heap.size) (hpic : ∀ t ∈ ts, t.pic.size ≤ maxLen) (hv : ∀ t ∈ ts, t.ok = true) (hn : ¬ ∀ t ∈ ts, t.num = true)
    (hl : w.cell? ⟨bl, 0, none⟩ = some (.slice (some ⟨b, o, none⟩) ts.length cap)) (hbl : bl < w.heap.size) :
    Calls Tryz.prog 81 #[.pointer (some ⟨bl, 0, none⟩)] w fun e w' => e = refusal 10 ∧ Below w.heap.size w w' := by
  have HA := Lib.hid hA; have HV := Lib.hid hv; have HP := Lib.hid hpic; have HN := Lib.hid hn
  clear hA hv hpic hn
  go_enter Tryz.func81, Tryz.ntmps81
  go_wp2_with fail
  go_at_call 66
  refine (demandNumbers_10 ts b o cap _ (HA.out.below hb (by go_grown)) hlen (by simp; omega) HP.out HV.out HN.out).mono ?_
  rintro e w1 ⟨rfl, hb1⟩
  exact ⟨rfl, rfl, below_then (by go_grown) hb1 (by simp <;> omega)⟩

set_option maxHeartbeats 1000000 in
theorem cCommon_8 (sa : Option Addr) (cap bl : Nat) (w : World)
    (hl : w.cell? ⟨bl, 0, none⟩ = some (.slice sa 0 cap)) (hbl : bl < w.heap.size) :
    Calls Tryz.prog 81 #[.pointer (some ⟨bl, 0, none⟩)] w fun e w' => e = refusal 8 ∧ Below w.heap.size w w' := by
  have h1 : bl < w.heap.size + 1 := by omega
  go_enter Tryz.func81, Tryz.ntmps81
  go_wp2_with fail
  go_at_call 66
  refine (demandNumbers_nil sa cap _).mono ?_
  rintro e w1 ⟨rfl, rfl⟩
  go_wp2_with fail
  go_at_call 82
  refine (refuse_any _ _).mono ?_
  rintro e w1 ⟨rfl, rfl⟩
  exact ⟨rfl, rfl, by go_grown⟩

theorem allN {P : Ty → Prop} {k p q : Int} {ts : List Ty} (h : NumB k p q) (hts : ∀ t ∈ ts, NumT t) (hP : ∀ t, NumT t → P t) : ∀ t ∈ nTy k p q :: ts, P t := by
  intro t ht
  rcases List.mem_cons.1 ht with rfl | ht
  · exact hP _ ⟨k, p, q, rfl, h⟩
  · exact hP _ (hts t ht)

theorem folded_e (a : Ty) (ts : List Ty) (b o cap bf : Nat) (w : World) (ha : NumT a) (hts : ∀ t ∈ ts, NumT t) (hA : TysAt w b o ts) (hlen : ts.length ≤ 4000000000) (hb : b < w.heap.size)
    (hbf : w.cell? ⟨bf, 0, none⟩ = some pcV) (hlf : bf < w.heap.size) {k p q : Int} (E : Hid (foldT a ts = nTy k p q)) :
    Calls Tryz.prog 83 #[a.v, .slice (some ⟨b, o, none⟩) ts.length cap, fnC bf] w fun e w' => e = .returned (numV k p q) ∧ Below w.heap.size w w' :=
  (folded_any a ts b o cap bf w ha hts hA hlen hb hbf hlf).mono fun _ _ ⟨he, hw⟩ => ⟨by rw [he, E.out], hw⟩

theorem TysAt.tail {w : World} {b o : Nat} {t : Ty} {ts : List Ty} (h : TysAt w b o (t :: ts)) : TysAt w b (o + 6) ts := by
  intro i hi j v hv
  have := h (i + 1) (by simpa using hi) j v (by simpa using hv)
  rwa [show o + (i + 1) * 6 + j = o + 6 + i * 6 + j by omega] at this

set_option maxRecDepth 100000 in
set_option maxHeartbeats 4000000 in
theorem cCommon_many (t : Ty) (ts : List Ty) (b o cap bl : Nat) (w : World) (hA : TysAt w b o (t :: ts)) (hlen : ts.length ≤ 3000000000) (hb : b < w.heap.size) (hcap : cap ≤ 9223372036854775807) (hc1 : 1 < cap) (hc : ts.length < cap) (ht : NumT t) (hts : ∀ t ∈ ts, NumT t)
    (hl : w.cell? ⟨bl, 0, none⟩ = some (.slice (some ⟨b, o, none⟩) (ts.length + 1) cap)) (hbl : bl < w.heap.size) :
    Calls Tryz.prog 81 #[.pointer (some ⟨bl, 0, none⟩)] w fun e w' => e = .returned (foldT t ts).v ∧ Below w.heap.size w w' := by
  obtain ⟨k0, p0, q0, rfl, N0⟩ := ht
  have hA0 := hA.atN 0 (by simp) (kd := k0) (p := p0) (q := q0) rfl
  simp only [Nat.zero_mul, Nat.add_zero] at hA0
  have HA := Lib.hid hA; have HT := Lib.hid hts; have M0 := Lib.hid N0; have HA0 := Lib.hid hA0
  clear hA hts N0 hA0
  have l1 : bl < w.heap.size + 1 := by omega
  go_enter Tryz.func81, Tryz.ntmps81
  go_wp2_with fail
  go_at_call 66
  refine (demandNumbers_ok (nTy k0 p0 q0 :: ts) b o cap _ (HA.out.below hb (by go_grown)) (by simp; omega) (by simp; omega) (allN M0.out HT.out (fun t h => by obtain ⟨k, p, q, rfl, _⟩ := h; exact pic0)) (allN M0.out HT.out (fun t h => h.ok)) (allN M0.out HT.out (fun t h => h.num))).mono ?_
  rintro e w1 ⟨rfl, hb1⟩
  have hb0 : Below w.heap.size w w1 := below_then (by go_grown) hb1 (by simp <;> omega)
  have hz := hb1.size
  have g0 : w.heap.size < w1.heap.size := by simp at hz; omega
  have hl' := (hb0.cell (p := ⟨bl, 0, none⟩) hbl).trans hl
  have hR : BoxAt w1 w.heap.size zTy := BoxAt.fresh hb1
  obtain ⟨r0, r1, r2, r3, r4, r5⟩ := hR.cells
  have rf := hR.free
  obtain ⟨x0, x1, x2, x3, x4, x5⟩ := (HA.out.below hb hb0).atN 0 (by simp) (kd := k0) (p := p0) (q := q0) rfl
  simp only [Nat.zero_mul, Nat.add_zero] at x0 x1 x2 x3 x4 x5
  have HB0 := Lib.hid hb0
  have HR := Lib.hid hR
  have gl : bl < w1.heap.size := by omega
  have gb : b < w1.heap.size := by omega
  have HA1 := Lib.hid (HA.out.below hb hb0)
  clear hb1 hb0 hz hl hR HA HA0
  obtain ⟨kr, pr, qr, er, _⟩ := foldT_num (a := nTy k0 p0 q0) ⟨_, _, _, rfl, M0.out⟩ HT.out
  have ER := Lib.hid er
  clear er
  have s1 : (1 : Int) ≤ ↑ts.length + 1 := by omega
  have s2 : ¬ cap = 1 := by omega
  have s3 : ts.length + 1 ≤ cap := by omega
  have n1 : ¬ w.heap.size = bl := by omega
  have n2 : ¬ bl = w.heap.size := by omega
  have n3 : ¬ w.heap.size = b := by omega
  have n4 : ¬ b = w.heap.size := by omega
  go_wp2_with fail
  go_region_held3 (fun w' => w'.cell? ⟨bl, 0, none⟩ = some (.slice (some ⟨b, o, none⟩) (ts.length + 1) cap) ∧
      (w'.cell? ⟨b, o, none⟩ = some (.int .i64 k0) ∧ w'.cell? ⟨b, o + 1, none⟩ = some (.int .i64 p0) ∧ w'.cell? ⟨b, o + 2, none⟩ = some (.int .i64 q0) ∧ w'.cell? ⟨b, o + 3, none⟩ = some (.int .i64 0) ∧ w'.cell? ⟨b, o + 4, none⟩ = some (.bool false) ∧ w'.cell? ⟨b, o + 5, none⟩ = some (.string ⟨#[]⟩)))
    (first | go_keep | (go_split_ands; refine ⟨?_, ?_, ?_, ?_, ?_, ?_, ?_⟩ <;> first | (rw [hb3.cell (by simp <;> omega)]; assumption) | (rw [hb2.cell (by simp <;> omega)]; assumption)))
    (first
      | (go_at_call 84; refine (based_call _).mono ?_; rintro e w2 ⟨rfl, hcc, hzz, hb2⟩; (try simp at hcc hzz); have hb2' : Below w1.heap.size w1 w2 := below_then ((Below.refl _ _).drew) hb2 (by simp))
      | (go_at_call 83; refine (folded_e (nTy k0 p0 q0) ts b (o + 6) (cap - 1) w1.heap.size _ ⟨_, _, _, rfl, M0.out⟩ HT.out (TysAt.tail (HA1.out.below gb hb2')) (by omega) (by have := hb2'.size; omega) hcc hzz ER).mono ?_; rintro e w3 ⟨rfl, hb3⟩; have hW3 : Below w.heap.size w w3 := below_then (below_then HB0.out hb2' (by omega)) hb3 (by have := hb2'.size; omega); have hb13 : Below w1.heap.size w1 w3 := below_then hb2' hb3 hb2'.size; obtain ⟨y0, y1, y2, y3, y4, y5⟩ := (HR.out.below g0 hb13).cells; have yf := (HR.out.below g0 hb13).free; have gg : w.heap.size < w3.heap.size := (HR.out.below g0 hb13).lt))
  go_wp2
  refine bodyPost_ret (v := numV kr pr qr) (by simp [results, Tryz.results81, go_sem, *]) rfl ⟨by rw [ER.out], ?_⟩
  (repeat refine Below.setCell ?_ (by simp <;> omega) _)
  assumption
set_option maxRecDepth 100000 in
set_option maxHeartbeats 4000000 in
theorem cCommon_one (t : Ty) (b o bl : Nat) (w : World) (hA : TysAt w b o [t]) (hb : b < w.heap.size) (ht : NumT t)
    (hl : w.cell? ⟨bl, 0, none⟩ = some (.slice (some ⟨b, o, none⟩) 1 1)) (hbl : bl < w.heap.size) :
    Calls Tryz.prog 81 #[.pointer (some ⟨bl, 0, none⟩)] w fun e w' => e = .returned t.v ∧ Below w.heap.size w w' := by
  obtain ⟨k0, p0, q0, rfl, N0⟩ := ht
  have hA0 := hA.atN 0 (by simp) (kd := k0) (p := p0) (q := q0) rfl
  simp only [Nat.zero_mul, Nat.add_zero] at hA0
  have HA := Lib.hid hA; have M0 := Lib.hid N0; have HA0 := Lib.hid hA0
  clear hA N0 hA0
  have l1 : bl < w.heap.size + 1 := by omega
  go_enter Tryz.func81, Tryz.ntmps81
  go_wp2_with fail
  go_at_call 66
  refine (demandNumbers_ok [nTy k0 p0 q0] b o 1 _ (HA.out.below hb (by go_grown)) (by simp) (by simp; omega) (allN M0.out (fun _ h => by cases h) (fun t h => by obtain ⟨k, p, q, rfl, _⟩ := h; exact pic0)) (allN M0.out (fun _ h => by cases h) (fun t h => h.ok)) (allN M0.out (fun _ h => by cases h) (fun t h => h.num))).mono ?_
  rintro e w1 ⟨rfl, hb1⟩
  have hb0 : Below w.heap.size w w1 := below_then (by go_grown) hb1 (by simp <;> omega)
  have hz := hb1.size
  have g0 : w.heap.size < w1.heap.size := by simp at hz; omega
  have hl' := (hb0.cell (p := ⟨bl, 0, none⟩) hbl).trans hl
  have hR : BoxAt w1 w.heap.size zTy := BoxAt.fresh hb1
  obtain ⟨r0, r1, r2, r3, r4, r5⟩ := hR.cells
  have rf := hR.free
  obtain ⟨x0, x1, x2, x3, x4, x5⟩ := (HA.out.below hb hb0).atN 0 (by simp) (kd := k0) (p := p0) (q := q0) rfl
  simp only [Nat.zero_mul, Nat.add_zero] at x0 x1 x2 x3 x4 x5
  have HB0 := Lib.hid hb0
  have HR := Lib.hid hR
  have gl : bl < w1.heap.size := by omega
  have gb : b < w1.heap.size := by omega
  have HA1 := Lib.hid (HA.out.below hb hb0)
  clear hb1 hb0 hz hl hR HA HA0
  have n1 : ¬ w.heap.size = bl := by omega
  have n2 : ¬ bl = w.heap.size := by omega
  have n3 : ¬ w.heap.size = b := by omega
  have n4 : ¬ b = w.heap.size := by omega
  go_wp2_with fail
  go_region_held3 (fun w' => w'.cell? ⟨bl, 0, none⟩ = some (.slice (some ⟨b, o, none⟩) 1 1) ∧
      (w'.cell? ⟨b, o, none⟩ = some (.int .i64 k0) ∧ w'.cell? ⟨b, o + 1, none⟩ = some (.int .i64 p0) ∧ w'.cell? ⟨b, o + 2, none⟩ = some (.int .i64 q0) ∧ w'.cell? ⟨b, o + 3, none⟩ = some (.int .i64 0) ∧ w'.cell? ⟨b, o + 4, none⟩ = some (.bool false) ∧ w'.cell? ⟨b, o + 5, none⟩ = some (.string ⟨#[]⟩)))
    (first | go_keep | (go_split_ands; refine ⟨?_, ?_, ?_, ?_, ?_, ?_, ?_⟩ <;> first | (rw [hb3.cell (by simp <;> omega)]; assumption) | (rw [hb2.cell (by simp <;> omega)]; assumption)))
    (first
      | (go_at_call 84; refine (based_call _).mono ?_; rintro e w2 ⟨rfl, hcc, hzz, hb2⟩; (try simp at hcc hzz); have hb2' : Below w1.heap.size w1 w2 := below_then ((Below.refl _ _).drew) hb2 (by simp))
      | (go_at_call 83; refine (folded_nil (nTy k0 p0 q0) _ _ _ _ ⟨_, _, _, rfl, M0.out⟩).mono ?_; rintro e w3 ⟨rfl, hb3⟩; have hW3 : Below w.heap.size w w3 := below_then (below_then HB0.out hb2' (by omega)) hb3 (by have := hb2'.size; omega); have hb13 : Below w1.heap.size w1 w3 := below_then hb2' hb3 hb2'.size; obtain ⟨y0, y1, y2, y3, y4, y5⟩ := (HR.out.below g0 hb13).cells; have yf := (HR.out.below g0 hb13).free; have gg : w.heap.size < w3.heap.size := (HR.out.below g0 hb13).lt))
  go_wp2
  refine bodyPost_ret (v := numV k0 p0 q0) (by simp [results, Tryz.results81, go_sem, *]) rfl ⟨rfl, ?_⟩
  (repeat refine Below.setCell ?_ (by simp <;> omega) _)
  assumption
end Go.Proofs.YtcekphfmpjdbmaaGreatDoor
