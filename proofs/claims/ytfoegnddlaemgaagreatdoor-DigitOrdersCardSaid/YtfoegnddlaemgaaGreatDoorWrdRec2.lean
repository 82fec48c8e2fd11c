/- digit.reckoned, over any operator and whatever fits. -/
import Derived.Test.YtfoegnddlaemgaaGreatDoorWrdRec1
import Derived.Test.YtfoegnddlaemgaaGreatDoorWrdGuard
import Derived.BigRegion
namespace Go.Proofs.YtfoegnddlaemgaaGreatDoor
open Go.RowKit

theorem row_n0 (w : World) (cs : Array Value) (t : TypeId) : Row (w.alloc (.cells cs t)) (w.heap.size) cs t := by
  have := Row.new w cs t
  exact this
theorem row_n1 (w : World) (o0 : Obj) (cs : Array Value) (t : TypeId) : Row ((w.alloc o0).alloc (.cells cs t)) (w.heap.size + 1) cs t := by
  have := Row.new (w.alloc o0) cs t
  rw [World.size_alloc] at this
  exact this
theorem row_n2 (w : World) (o0 : Obj) (o1 : Obj) (cs : Array Value) (t : TypeId) : Row (((w.alloc o0).alloc o1).alloc (.cells cs t)) (w.heap.size + 1 + 1) cs t := by
  have := Row.new ((w.alloc o0).alloc o1) cs t
  rw [World.size_alloc, World.size_alloc] at this
  exact this
theorem row_n3 (w : World) (o0 : Obj) (o1 : Obj) (o2 : Obj) (cs : Array Value) (t : TypeId) : Row ((((w.alloc o0).alloc o1).alloc o2).alloc (.cells cs t)) (w.heap.size + 1 + 1 + 1) cs t := by
  have := Row.new (((w.alloc o0).alloc o1).alloc o2) cs t
  rw [World.size_alloc, World.size_alloc, World.size_alloc] at this
  exact this
theorem row_n4 (w : World) (o0 : Obj) (o1 : Obj) (o2 : Obj) (o3 : Obj) (cs : Array Value) (t : TypeId) : Row (((((w.alloc o0).alloc o1).alloc o2).alloc o3).alloc (.cells cs t)) (w.heap.size + 1 + 1 + 1 + 1) cs t := by
  have := Row.new ((((w.alloc o0).alloc o1).alloc o2).alloc o3) cs t
  rw [World.size_alloc, World.size_alloc, World.size_alloc, World.size_alloc] at this
  exact this
theorem row_n5 (w : World) (o0 : Obj) (o1 : Obj) (o2 : Obj) (o3 : Obj) (o4 : Obj) (cs : Array Value) (t : TypeId) : Row ((((((w.alloc o0).alloc o1).alloc o2).alloc o3).alloc o4).alloc (.cells cs t)) (w.heap.size + 1 + 1 + 1 + 1 + 1) cs t := by
  have := Row.new (((((w.alloc o0).alloc o1).alloc o2).alloc o3).alloc o4) cs t
  rw [World.size_alloc, World.size_alloc, World.size_alloc, World.size_alloc, World.size_alloc] at this
  exact this
theorem row_n6 (w : World) (o0 : Obj) (o1 : Obj) (o2 : Obj) (o3 : Obj) (o4 : Obj) (o5 : Obj) (cs : Array Value) (t : TypeId) : Row (((((((w.alloc o0).alloc o1).alloc o2).alloc o3).alloc o4).alloc o5).alloc (.cells cs t)) (w.heap.size + 1 + 1 + 1 + 1 + 1 + 1) cs t := by
  have := Row.new ((((((w.alloc o0).alloc o1).alloc o2).alloc o3).alloc o4).alloc o5) cs t
  rw [World.size_alloc, World.size_alloc, World.size_alloc, World.size_alloc, World.size_alloc, World.size_alloc] at this
  exact this
theorem row_n7 (w : World) (o0 : Obj) (o1 : Obj) (o2 : Obj) (o3 : Obj) (o4 : Obj) (o5 : Obj) (o6 : Obj) (cs : Array Value) (t : TypeId) : Row ((((((((w.alloc o0).alloc o1).alloc o2).alloc o3).alloc o4).alloc o5).alloc o6).alloc (.cells cs t)) (w.heap.size + 1 + 1 + 1 + 1 + 1 + 1 + 1) cs t := by
  have := Row.new (((((((w.alloc o0).alloc o1).alloc o2).alloc o3).alloc o4).alloc o5).alloc o6) cs t
  rw [World.size_alloc, World.size_alloc, World.size_alloc, World.size_alloc, World.size_alloc, World.size_alloc, World.size_alloc] at this
  exact this

theorem rec_guard {opf : Nat} {ka na qa kb nb qb k p q n L za zb Z N Q c : Int} {ua ub U : Nat} {sa sb pic s : ByteArray} {vy : Bool} {w : World} {F : World → Array Value → Prop}
    (hcf : ∀ (args : Array Value) (W : World), (callFunc opf args).run Tryz.prog W = .ok (.enter opf args) W)
    (hDR : ∀ t ∈ [Va.mk ka na qa sa, Va.mk kb nb qb sb], ∀ W : World, Calls Tryz.prog 4 #[t.v] W (YesD W))
    (hDV : ∀ W, Calls Tryz.prog 84 #[.agg #[.int .i64 k, .int .i64 p, .int .i64 q, .int .i64 n, .bool vy, .string pic]] W fun e w' => e = .returned (.tuple #[]) ∧ Below W.heap.size W w')
    (hXA : ∀ W, Calls Tryz.prog 13 #[vaV ka na qa sa] W fun e w' => ∃ y, e = .returned y ∧ XArg W.heap.size w' y za ua ∧ Below W.heap.size W w')
    (hXB : ∀ W, Calls Tryz.prog 13 #[vaV kb nb qb sb] W fun e w' => ∃ y, e = .returned y ∧ XArg W.heap.size w' y zb ub ∧ Below W.heap.size W w')
    (hFL : ∀ {w w' : World} {cap : Array Value}, F w cap → Below w.heap.size w w' → F w' cap)
    (hFT : ∀ W, Calls Tryz.prog 85 #[.agg #[.int .i64 k, .int .i64 p, .int .i64 q, .int .i64 n, .bool vy, .string pic], .int .i64 0, .int .i64 L] W fun e w' => ∃ cap, e = .returned (.func (.func 106) #[] cap) ∧ F w' cap ∧ Below W.heap.size W w')
    (hOP : ∀ W vx vy, XArg 0 W vx za ua → XArg 0 W vy zb ub → Calls Tryz.prog opf #[vx, vy] W fun e w' => ∃ y, e = .returned y ∧ XArg 0 w' y Z U ∧ Below W.heap.size W w')
    (hFX : ∀ W cap vx, F W cap → XArg 0 W vx Z U → Calls Tryz.prog 106 (#[vx] ++ cap) W fun e w' => e = .returned (.tuple #[vaV k N Q s, .int .i64 c]) ∧ Below W.heap.size W w') :
    Calls Tryz.prog 10 #[.func (.func 83) #[] #[ptD (w.heap.size), ptD (w.heap.size + 1), ptD (w.heap.size + 1 + 1), ptD (w.heap.size + 1 + 1 + 1 + 1), ptD (w.heap.size + 1 + 1 + 1), ptD (w.heap.size + 1 + 1 + 1 + 1 + 1), ptD (w.heap.size + 1 + 1 + 1 + 1 + 1 + 1)]] (((((((w.alloc (.cells (vaC ka na qa sa) 23)).alloc (.cells (vaC kb nb qb sb) 23)).alloc (.cells #[.int .i64 k, .int .i64 p, .int .i64 q, .int .i64 n, .bool vy, .string pic] 42)).alloc (.cells #[fnv opf] 57)).alloc (.cells #[.int .i64 L] 3)).alloc (.cells (vaC 0 0 0 ⟨#[]⟩) 23)).alloc (.cells #[.int .i64 0] 3)) fun e w' => e = .returned (.int .i64 0) ∧ Row w' (w.heap.size + 1 + 1 + 1 + 1 + 1) (vaC k N Q s) 23 ∧ Row w' (w.heap.size + 1 + 1 + 1 + 1 + 1 + 1) #[.int .i64 c] 3 ∧ Below w.heap.size w w' := by
  have hcr : ∀ W : World, (callFunc 83 #[ptD (w.heap.size), ptD (w.heap.size + 1), ptD (w.heap.size + 1 + 1), ptD (w.heap.size + 1 + 1 + 1 + 1), ptD (w.heap.size + 1 + 1 + 1), ptD (w.heap.size + 1 + 1 + 1 + 1 + 1), ptD (w.heap.size + 1 + 1 + 1 + 1 + 1 + 1)]).run Tryz.prog W = .ok (.enter 83 #[ptD (w.heap.size), ptD (w.heap.size + 1), ptD (w.heap.size + 1 + 1), ptD (w.heap.size + 1 + 1 + 1 + 1), ptD (w.heap.size + 1 + 1 + 1), ptD (w.heap.size + 1 + 1 + 1 + 1 + 1), ptD (w.heap.size + 1 + 1 + 1 + 1 + 1 + 1)]) W := fun W => enters_of Tryz.func83 (by kernel_rfl) rfl _ W
  have Rw0 : Row ((((((((w.alloc (.cells (vaC ka na qa sa) 23)).alloc (.cells (vaC kb nb qb sb) 23)).alloc (.cells #[.int .i64 k, .int .i64 p, .int .i64 q, .int .i64 n, .bool vy, .string pic] 42)).alloc (.cells #[fnv opf] 57)).alloc (.cells #[.int .i64 L] 3)).alloc (.cells (vaC 0 0 0 ⟨#[]⟩) 23)).alloc (.cells #[.int .i64 0] 3)).alloc (.cells #[.int .i64 0] 26)) (w.heap.size) _ _ := ((((((((row_n0 w  (vaC ka na qa sa) 23).alloc (.cells (vaC kb nb qb sb) 23)).alloc (.cells #[.int .i64 k, .int .i64 p, .int .i64 q, .int .i64 n, .bool vy, .string pic] 42)).alloc (.cells #[fnv opf] 57)).alloc (.cells #[.int .i64 L] 3)).alloc (.cells (vaC 0 0 0 ⟨#[]⟩) 23)).alloc (.cells #[.int .i64 0] 3)).alloc (.cells #[.int .i64 0] 26))
  have Rw1 : Row ((((((((w.alloc (.cells (vaC ka na qa sa) 23)).alloc (.cells (vaC kb nb qb sb) 23)).alloc (.cells #[.int .i64 k, .int .i64 p, .int .i64 q, .int .i64 n, .bool vy, .string pic] 42)).alloc (.cells #[fnv opf] 57)).alloc (.cells #[.int .i64 L] 3)).alloc (.cells (vaC 0 0 0 ⟨#[]⟩) 23)).alloc (.cells #[.int .i64 0] 3)).alloc (.cells #[.int .i64 0] 26)) (w.heap.size + 1) _ _ := (((((((row_n1 w (.cells (vaC ka na qa sa) 23) (vaC kb nb qb sb) 23).alloc (.cells #[.int .i64 k, .int .i64 p, .int .i64 q, .int .i64 n, .bool vy, .string pic] 42)).alloc (.cells #[fnv opf] 57)).alloc (.cells #[.int .i64 L] 3)).alloc (.cells (vaC 0 0 0 ⟨#[]⟩) 23)).alloc (.cells #[.int .i64 0] 3)).alloc (.cells #[.int .i64 0] 26))
  have Rw2 : Row ((((((((w.alloc (.cells (vaC ka na qa sa) 23)).alloc (.cells (vaC kb nb qb sb) 23)).alloc (.cells #[.int .i64 k, .int .i64 p, .int .i64 q, .int .i64 n, .bool vy, .string pic] 42)).alloc (.cells #[fnv opf] 57)).alloc (.cells #[.int .i64 L] 3)).alloc (.cells (vaC 0 0 0 ⟨#[]⟩) 23)).alloc (.cells #[.int .i64 0] 3)).alloc (.cells #[.int .i64 0] 26)) (w.heap.size + 1 + 1) _ _ := ((((((row_n2 w (.cells (vaC ka na qa sa) 23) (.cells (vaC kb nb qb sb) 23) #[.int .i64 k, .int .i64 p, .int .i64 q, .int .i64 n, .bool vy, .string pic] 42).alloc (.cells #[fnv opf] 57)).alloc (.cells #[.int .i64 L] 3)).alloc (.cells (vaC 0 0 0 ⟨#[]⟩) 23)).alloc (.cells #[.int .i64 0] 3)).alloc (.cells #[.int .i64 0] 26))
  have Rw3 : Row ((((((((w.alloc (.cells (vaC ka na qa sa) 23)).alloc (.cells (vaC kb nb qb sb) 23)).alloc (.cells #[.int .i64 k, .int .i64 p, .int .i64 q, .int .i64 n, .bool vy, .string pic] 42)).alloc (.cells #[fnv opf] 57)).alloc (.cells #[.int .i64 L] 3)).alloc (.cells (vaC 0 0 0 ⟨#[]⟩) 23)).alloc (.cells #[.int .i64 0] 3)).alloc (.cells #[.int .i64 0] 26)) (w.heap.size + 1 + 1 + 1) _ _ := (((((row_n3 w (.cells (vaC ka na qa sa) 23) (.cells (vaC kb nb qb sb) 23) (.cells #[.int .i64 k, .int .i64 p, .int .i64 q, .int .i64 n, .bool vy, .string pic] 42) #[fnv opf] 57).alloc (.cells #[.int .i64 L] 3)).alloc (.cells (vaC 0 0 0 ⟨#[]⟩) 23)).alloc (.cells #[.int .i64 0] 3)).alloc (.cells #[.int .i64 0] 26))
  have Rw4 : Row ((((((((w.alloc (.cells (vaC ka na qa sa) 23)).alloc (.cells (vaC kb nb qb sb) 23)).alloc (.cells #[.int .i64 k, .int .i64 p, .int .i64 q, .int .i64 n, .bool vy, .string pic] 42)).alloc (.cells #[fnv opf] 57)).alloc (.cells #[.int .i64 L] 3)).alloc (.cells (vaC 0 0 0 ⟨#[]⟩) 23)).alloc (.cells #[.int .i64 0] 3)).alloc (.cells #[.int .i64 0] 26)) (w.heap.size + 1 + 1 + 1 + 1) _ _ := ((((row_n4 w (.cells (vaC ka na qa sa) 23) (.cells (vaC kb nb qb sb) 23) (.cells #[.int .i64 k, .int .i64 p, .int .i64 q, .int .i64 n, .bool vy, .string pic] 42) (.cells #[fnv opf] 57) #[.int .i64 L] 3).alloc (.cells (vaC 0 0 0 ⟨#[]⟩) 23)).alloc (.cells #[.int .i64 0] 3)).alloc (.cells #[.int .i64 0] 26))
  have Rw5 : Row ((((((((w.alloc (.cells (vaC ka na qa sa) 23)).alloc (.cells (vaC kb nb qb sb) 23)).alloc (.cells #[.int .i64 k, .int .i64 p, .int .i64 q, .int .i64 n, .bool vy, .string pic] 42)).alloc (.cells #[fnv opf] 57)).alloc (.cells #[.int .i64 L] 3)).alloc (.cells (vaC 0 0 0 ⟨#[]⟩) 23)).alloc (.cells #[.int .i64 0] 3)).alloc (.cells #[.int .i64 0] 26)) (w.heap.size + 1 + 1 + 1 + 1 + 1) _ _ := (((row_n5 w (.cells (vaC ka na qa sa) 23) (.cells (vaC kb nb qb sb) 23) (.cells #[.int .i64 k, .int .i64 p, .int .i64 q, .int .i64 n, .bool vy, .string pic] 42) (.cells #[fnv opf] 57) (.cells #[.int .i64 L] 3) (vaC 0 0 0 ⟨#[]⟩) 23).alloc (.cells #[.int .i64 0] 3)).alloc (.cells #[.int .i64 0] 26))
  have Rw6 : Row ((((((((w.alloc (.cells (vaC ka na qa sa) 23)).alloc (.cells (vaC kb nb qb sb) 23)).alloc (.cells #[.int .i64 k, .int .i64 p, .int .i64 q, .int .i64 n, .bool vy, .string pic] 42)).alloc (.cells #[fnv opf] 57)).alloc (.cells #[.int .i64 L] 3)).alloc (.cells (vaC 0 0 0 ⟨#[]⟩) 23)).alloc (.cells #[.int .i64 0] 3)).alloc (.cells #[.int .i64 0] 26)) (w.heap.size + 1 + 1 + 1 + 1 + 1 + 1) _ _ := ((row_n6 w (.cells (vaC ka na qa sa) 23) (.cells (vaC kb nb qb sb) 23) (.cells #[.int .i64 k, .int .i64 p, .int .i64 q, .int .i64 n, .bool vy, .string pic] 42) (.cells #[fnv opf] 57) (.cells #[.int .i64 L] 3) (.cells (vaC 0 0 0 ⟨#[]⟩) 23) #[.int .i64 0] 3).alloc (.cells #[.int .i64 0] 26))
  have Rw7 : Row ((((((((w.alloc (.cells (vaC ka na qa sa) 23)).alloc (.cells (vaC kb nb qb sb) 23)).alloc (.cells #[.int .i64 k, .int .i64 p, .int .i64 q, .int .i64 n, .bool vy, .string pic] 42)).alloc (.cells #[fnv opf] 57)).alloc (.cells #[.int .i64 L] 3)).alloc (.cells (vaC 0 0 0 ⟨#[]⟩) 23)).alloc (.cells #[.int .i64 0] 3)).alloc (.cells #[.int .i64 0] 26)) (w.heap.size + 1 + 1 + 1 + 1 + 1 + 1 + 1) _ _ := (row_n7 w (.cells (vaC ka na qa sa) 23) (.cells (vaC kb nb qb sb) 23) (.cells #[.int .i64 k, .int .i64 p, .int .i64 q, .int .i64 n, .bool vy, .string pic] 42) (.cells #[fnv opf] 57) (.cells #[.int .i64 L] 3) (.cells (vaC 0 0 0 ⟨#[]⟩) 23) (.cells #[.int .i64 0] 3) #[.int .i64 0] 26)
  have hs : (((((((w.alloc (.cells (vaC ka na qa sa) 23)).alloc (.cells (vaC kb nb qb sb) 23)).alloc (.cells #[.int .i64 k, .int .i64 p, .int .i64 q, .int .i64 n, .bool vy, .string pic] 42)).alloc (.cells #[fnv opf] 57)).alloc (.cells #[.int .i64 L] 3)).alloc (.cells (vaC 0 0 0 ⟨#[]⟩) 23)).alloc (.cells #[.int .i64 0] 3)).heap.size = w.heap.size + 1 + 1 + 1 + 1 + 1 + 1 + 1 := by simp
  have hB : Below w.heap.size w ((((((((w.alloc (.cells (vaC ka na qa sa) 23)).alloc (.cells (vaC kb nb qb sb) 23)).alloc (.cells #[.int .i64 k, .int .i64 p, .int .i64 q, .int .i64 n, .bool vy, .string pic] 42)).alloc (.cells #[fnv opf] 57)).alloc (.cells #[.int .i64 L] 3)).alloc (.cells (vaC 0 0 0 ⟨#[]⟩) 23)).alloc (.cells #[.int .i64 0] 3)).alloc (.cells #[.int .i64 0] 26)) := by go_grown
  have hs8 : ((((((((w.alloc (.cells (vaC ka na qa sa) 23)).alloc (.cells (vaC kb nb qb sb) 23)).alloc (.cells #[.int .i64 k, .int .i64 p, .int .i64 q, .int .i64 n, .bool vy, .string pic] 42)).alloc (.cells #[fnv opf] 57)).alloc (.cells #[.int .i64 L] 3)).alloc (.cells (vaC 0 0 0 ⟨#[]⟩) 23)).alloc (.cells #[.int .i64 0] 3)).alloc (.cells #[.int .i64 0] 26)).heap.size = w.heap.size + 1 + 1 + 1 + 1 + 1 + 1 + 1 + 1 := by simp
  refine (guard_ok (R := fun w' => Row w' (w.heap.size + 1 + 1 + 1 + 1 + 1) (vaC k N Q s) 23 ∧ Row w' (w.heap.size + 1 + 1 + 1 + 1 + 1 + 1) #[.int .i64 c] 3 ∧ Below w.heap.size w w') _ _ _ hcr ?_).mono ?_
  · refine (rec1_x (F := F) Rw0 Rw1 Rw2 Rw4 Rw3 Rw5 Rw6 hcf (by omega) (by omega) (by omega) (by omega) (by omega) (by omega) (by omega) hDR hDV hXA hXB @hFL hFT hOP hFX).mono ?_
    rintro e w' ⟨rfl, h5, h6, hbut⟩
    have hg := hbut.row Rw7 (by omega) (by omega)
    refine ⟨rfl, ?_, ?_, h5, h6, hbut.below hB (by omega) (by omega) (by omega)⟩
    · rw [hs]; exact hg.one
    · rw [hs]; exact hg.free 0
  · rintro e w' ⟨rfl, w1, ⟨h5, h6, hb⟩, rfl⟩
    refine ⟨rfl, h5.set (by rw [hs]; simp <;> omega), h6.set (by rw [hs]; simp <;> omega), hb.setCell (by rw [hs]; simp <;> omega) _⟩

set_option maxRecDepth 100000 in
set_option maxHeartbeats 4000000 in
theorem rec_x {opf : Nat} {ka na qa kb nb qb k p q n L za zb Z N Q c : Int} {ua ub U : Nat} {sa sb pic s : ByteArray} {vy : Bool} {w : World} {F : World → Array Value → Prop}
    (hcf : ∀ (args : Array Value) (W : World), (callFunc opf args).run Tryz.prog W = .ok (.enter opf args) W)
    (hDR : ∀ t ∈ [Va.mk ka na qa sa, Va.mk kb nb qb sb], ∀ W : World, Calls Tryz.prog 4 #[t.v] W (YesD W))
    (hDV : ∀ W, Calls Tryz.prog 84 #[.agg #[.int .i64 k, .int .i64 p, .int .i64 q, .int .i64 n, .bool vy, .string pic]] W fun e w' => e = .returned (.tuple #[]) ∧ Below W.heap.size W w')
    (hXA : ∀ W, Calls Tryz.prog 13 #[vaV ka na qa sa] W fun e w' => ∃ y, e = .returned y ∧ XArg W.heap.size w' y za ua ∧ Below W.heap.size W w')
    (hXB : ∀ W, Calls Tryz.prog 13 #[vaV kb nb qb sb] W fun e w' => ∃ y, e = .returned y ∧ XArg W.heap.size w' y zb ub ∧ Below W.heap.size W w')
    (hFL : ∀ {w w' : World} {cap : Array Value}, F w cap → Below w.heap.size w w' → F w' cap)
    (hFT : ∀ W, Calls Tryz.prog 85 #[.agg #[.int .i64 k, .int .i64 p, .int .i64 q, .int .i64 n, .bool vy, .string pic], .int .i64 0, .int .i64 L] W fun e w' => ∃ cap, e = .returned (.func (.func 106) #[] cap) ∧ F w' cap ∧ Below W.heap.size W w')
    (hOP : ∀ W vx vy, XArg 0 W vx za ua → XArg 0 W vy zb ub → Calls Tryz.prog opf #[vx, vy] W fun e w' => ∃ y, e = .returned y ∧ XArg 0 w' y Z U ∧ Below W.heap.size W w')
    (hFX : ∀ W cap vx, F W cap → XArg 0 W vx Z U → Calls Tryz.prog 106 (#[vx] ++ cap) W fun e w' => e = .returned (.tuple #[vaV k N Q s, .int .i64 c]) ∧ Below W.heap.size W w') :
    Calls Tryz.prog 47 #[vaV ka na qa sa, vaV kb nb qb sb, .agg #[.int .i64 k, .int .i64 p, .int .i64 q, .int .i64 n, .bool vy, .string pic], fnv opf, .int .i64 L] w fun e w' => e = .returned (.tuple #[vaV k N Q s, .int .i64 c, .int .i64 0]) ∧ Below w.heap.size w w' := by
  have hmf : ∀ (fn : Fn) (first cap : Array Value) (w : World), (Instr.makeFunc fn first cap).run Tryz.prog w = .ok (.func fn first cap) w := fun _ _ _ _ => rfl
  have HG := Lib.hid (rec_guard (w := w) (F := F) hcf hDR hDV hXA hXB @hFL hFT hOP hFX)
  clear hcf hDR hDV hXA hXB hFL hFT hOP hFX
  go_enter Tryz.func47, Tryz.ntmps47
  go_wp2_with (go_at_call 10; refine HG.out.mono ?_; rintro e w1 ⟨rfl, h5, h6, hb⟩; have HB := Lib.hid hb; clear hb; obtain ⟨v0, v1, v2, v3⟩ := h5.four; have f0 := h5.free 0; have f1 := h5.free 1; have f2 := h5.free 2; have f3 := h5.free 3; have c0 := h6.one; have g0 := h6.free 0)
  have hV : w.heap.size ≤ w.heap.size + 1 + 1 + 1 + 1 + 1 := by omega
  have HN : w1.heap.size = w1.heap.size := rfl
  clear HG HN
  generalize w.heap.size + 1 + 1 + 1 + 1 + 1 = bV at *
  have n1 : ¬ bV + 1 = bV := by omega
  have n2 : ¬ bV = bV + 1 := by omega
  go_region
  have HE := recEnd_mk (c := c) (k := k) (N := N) (Q := Q) (s := s) h5 h6 n1 n2 (Below.refl _ w1)
  have HW : Below w.heap.size w (((((w1.setCell ⟨bV, 0, none⟩ (.int .i64 k)).setCell ⟨bV, 1, none⟩ (.int .i64 N)).setCell ⟨bV, 2, none⟩ (.int .i64 Q)).setCell ⟨bV, 3, none⟩ (.string s)).setCell ⟨bV + 1, 0, none⟩ (.int .i64 c)).drew := (HE.2.2.below HB.out hV (Nat.le_succ_of_le hV) HB.out.size).drew
  have HE1 : Row (((((w1.setCell ⟨bV, 0, none⟩ (.int .i64 k)).setCell ⟨bV, 1, none⟩ (.int .i64 N)).setCell ⟨bV, 2, none⟩ (.int .i64 Q)).setCell ⟨bV, 3, none⟩ (.string s)).setCell ⟨bV + 1, 0, none⟩ (.int .i64 c)).drew bV (vaC k N Q s) 23 := HE.1.drewN 1
  have HE2 : Row (((((w1.setCell ⟨bV, 0, none⟩ (.int .i64 k)).setCell ⟨bV, 1, none⟩ (.int .i64 N)).setCell ⟨bV, 2, none⟩ (.int .i64 Q)).setCell ⟨bV, 3, none⟩ (.string s)).setCell ⟨bV + 1, 0, none⟩ (.int .i64 c)).drew (bV + 1) #[.int .i64 c] 3 := HE.2.1.drewN 1
  clear HE HB h5 h6 v0 v1 v2 v3 f0 f1 f2 f3 c0 g0
  generalize (((((w1.setCell ⟨bV, 0, none⟩ (.int .i64 k)).setCell ⟨bV, 1, none⟩ (.int .i64 N)).setCell ⟨bV, 2, none⟩ (.int .i64 Q)).setCell ⟨bV, 3, none⟩ (.string s)).setCell ⟨bV + 1, 0, none⟩ (.int .i64 c)).drew = w7 at HW HE1 HE2 ⊢
  have HW := Lib.hid HW
  obtain ⟨z0, z1, z2, z3⟩ := HE1.four
  have z4 := HE2.one
  clear HE1 HE2
  go_wp2
  refine bodyPost_ret (v := .tuple #[vaV k N Q s, .int .i64 c, .int .i64 0]) (by simp [results, Tryz.results47, go_sem, z0, z1, z2, z3, z4]) rfl ⟨rfl, HW.out⟩
end Go.Proofs.YtfoegnddlaemgaaGreatDoor
