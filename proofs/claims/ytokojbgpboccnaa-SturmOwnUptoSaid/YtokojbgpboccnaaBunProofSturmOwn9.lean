import Derived.Test.YtokojbgpboccnaaBunProofSturmOwn8
import Derived.Test.YtokojbgpboccnaaBunProofSturmOwn7
import Derived.BigRegion
import Derived.StillTailTactics
/-
  PACKAGE nat: two successive remainders' leading words in memory.
-/
namespace Go.Proofs.Ytokojbgpboccnaa
open Go.RowKit
open Num
set_option linter.unusedVariables false
set_option maxRecDepth 100000
set_option linter.unusedSimpArgs false

/-- A block of seven cells: a pair. -/
def Pbx (w : World) (g : Nat) (a b xa ya xb yb : Int) (o : Bool) : Prop := w.heap[g]? = some (.cells #[.int .u64 a, .int .u64 b, .int .u64 xa, .int .u64 ya, .int .u64 xb, .int .u64 yb, .bool o] 120 (0, 0))
theorem Pbx.lt {w : World} {g : Nat} {a b xa ya xb yb : Int} {o : Bool} (h : Pbx w g a b xa ya xb yb o) : g < w.heap.size := (Array.getElem?_eq_some_iff.1 h).1
theorem Pbx.cells {w : World} {g : Nat} {a b xa ya xb yb : Int} {o : Bool} (h : Pbx w g a b xa ya xb yb o) : w.cell? ⟨g, 0, none⟩ = some (.int .u64 a) ∧ w.cell? ⟨g, 1, none⟩ = some (.int .u64 b) ∧ w.cell? ⟨g, 2, none⟩ = some (.int .u64 xa) ∧ w.cell? ⟨g, 3, none⟩ = some (.int .u64 ya) ∧ w.cell? ⟨g, 4, none⟩ = some (.int .u64 xb) ∧ w.cell? ⟨g, 5, none⟩ = some (.int .u64 yb) ∧ w.cell? ⟨g, 6, none⟩ = some (.bool o) := by
  have : w.heap[g]? = _ := h
  refine ⟨?_, ?_, ?_, ?_, ?_, ?_, ?_⟩ <;> simp [World.cell?, this]
theorem Pbx.free {w : World} {g : Nat} {a b xa ya xb yb : Int} {o : Bool} (h : Pbx w g a b xa ya xb yb o) (i : Nat) : w.frozen? ⟨g, i, none⟩ = false := by
  have : w.heap[g]? = _ := h
  simp [World.frozen?, this]
theorem Pbx.below {w w' : World} {g K : Nat} {a b xa ya xb yb : Int} {o : Bool} (h : Pbx w g a b xa ya xb yb o) (hb : Below K w w') (hK : g < K) : Pbx w' g a b xa ya xb yb o := (hb.block g hK).trans h
theorem Pbx.dr {w : World} {g : Nat} {a b xa ya xb yb : Int} {o : Bool} (h : Pbx w g a b xa ya xb yb o) : Pbx w.drew g a b xa ya xb yb o := h
theorem Pbx.drN {w : World} {g : Nat} {a b xa ya xb yb : Int} {o : Bool} (h : Pbx w g a b xa ya xb yb o) (n : Nat) : Pbx (w.drewN n) g a b xa ya xb yb o := h
theorem Pbx.made (w : World) (a b xa ya xb yb : Int) (o : Bool) : Below w.heap.size w (w.alloc (.cells #[.int .u64 a, .int .u64 b, .int .u64 xa, .int .u64 ya, .int .u64 xb, .int .u64 yb, .bool o] 120)) ∧ Pbx (w.alloc (.cells #[.int .u64 a, .int .u64 b, .int .u64 xa, .int .u64 ya, .int .u64 xb, .int .u64 yb, .bool o] 120)) w.heap.size a b xa ya xb yb o ∧ (w.alloc (.cells #[.int .u64 a, .int .u64 b, .int .u64 xa, .int .u64 ya, .int .u64 xb, .int .u64 yb, .bool o] 120)).heap.size = w.heap.size + 1 := by
  refine ⟨(Below.refl _ _).alloc (Nat.le_refl _) _, ?_, by simp⟩
  show (w.heap.push _)[w.heap.size]? = _
  simp
theorem Pbx.set0 {w : World} {g : Nat} {a b xa ya xb yb : Int} {o : Bool} (h : Pbx w g a b xa ya xb yb o) (x : Int) : Pbx (w.setCell ⟨g, 0, none⟩ (.int .u64 x)) g x b xa ya xb yb o := by
  have : w.heap[g]? = _ := h
  show (w.setCell ⟨g, 0, none⟩ (.int .u64 x)).heap[g]? = _
  simp only [World.setCell, Array.getElem?_modify, this]
  simp
theorem Pbx.set1 {w : World} {g : Nat} {a b xa ya xb yb : Int} {o : Bool} (h : Pbx w g a b xa ya xb yb o) (x : Int) : Pbx (w.setCell ⟨g, 1, none⟩ (.int .u64 x)) g a x xa ya xb yb o := by
  have : w.heap[g]? = _ := h
  show (w.setCell ⟨g, 1, none⟩ (.int .u64 x)).heap[g]? = _
  simp only [World.setCell, Array.getElem?_modify, this]
  simp
theorem Pbx.set2 {w : World} {g : Nat} {a b xa ya xb yb : Int} {o : Bool} (h : Pbx w g a b xa ya xb yb o) (x : Int) : Pbx (w.setCell ⟨g, 2, none⟩ (.int .u64 x)) g a b x ya xb yb o := by
  have : w.heap[g]? = _ := h
  show (w.setCell ⟨g, 2, none⟩ (.int .u64 x)).heap[g]? = _
  simp only [World.setCell, Array.getElem?_modify, this]
  simp
theorem Pbx.set3 {w : World} {g : Nat} {a b xa ya xb yb : Int} {o : Bool} (h : Pbx w g a b xa ya xb yb o) (x : Int) : Pbx (w.setCell ⟨g, 3, none⟩ (.int .u64 x)) g a b xa x xb yb o := by
  have : w.heap[g]? = _ := h
  show (w.setCell ⟨g, 3, none⟩ (.int .u64 x)).heap[g]? = _
  simp only [World.setCell, Array.getElem?_modify, this]
  simp
theorem Pbx.set4 {w : World} {g : Nat} {a b xa ya xb yb : Int} {o : Bool} (h : Pbx w g a b xa ya xb yb o) (x : Int) : Pbx (w.setCell ⟨g, 4, none⟩ (.int .u64 x)) g a b xa ya x yb o := by
  have : w.heap[g]? = _ := h
  show (w.setCell ⟨g, 4, none⟩ (.int .u64 x)).heap[g]? = _
  simp only [World.setCell, Array.getElem?_modify, this]
  simp
theorem Pbx.set5 {w : World} {g : Nat} {a b xa ya xb yb : Int} {o : Bool} (h : Pbx w g a b xa ya xb yb o) (x : Int) : Pbx (w.setCell ⟨g, 5, none⟩ (.int .u64 x)) g a b xa ya xb x o := by
  have : w.heap[g]? = _ := h
  show (w.setCell ⟨g, 5, none⟩ (.int .u64 x)).heap[g]? = _
  simp only [World.setCell, Array.getElem?_modify, this]
  simp
theorem Pbx.set6 {w : World} {g : Nat} {a b xa ya xb yb : Int} {o : Bool} (h : Pbx w g a b xa ya xb yb o) (x : Bool) : Pbx (w.setCell ⟨g, 6, none⟩ (.bool x)) g a b xa ya xb yb x := by
  have : w.heap[g]? = _ := h
  show (w.setCell ⟨g, 6, none⟩ (.bool x)).heap[g]? = _
  simp only [World.setCell, Array.getElem?_modify, this]
  simp
theorem Pbx.stores {w : World} {g : Nat} {a b xa ya xb yb : Int} {o : Bool} (h : Pbx w g a b xa ya xb yb o) (n0 n1 n2 n3 n4 n5 : Int) (n6 : Bool) :
    w.cell? ⟨g, 0, none⟩ = some (.int .u64 a) ∧
    w.frozen? ⟨g, 0, none⟩ = false ∧
    (w.setCell ⟨g, 0, none⟩ (.int .u64 n0)).cell? ⟨g, 1, none⟩ = some (.int .u64 b) ∧
    (w.setCell ⟨g, 0, none⟩ (.int .u64 n0)).frozen? ⟨g, 1, none⟩ = false ∧
    ((w.setCell ⟨g, 0, none⟩ (.int .u64 n0)).setCell ⟨g, 1, none⟩ (.int .u64 n1)).cell? ⟨g, 2, none⟩ = some (.int .u64 xa) ∧
    ((w.setCell ⟨g, 0, none⟩ (.int .u64 n0)).setCell ⟨g, 1, none⟩ (.int .u64 n1)).frozen? ⟨g, 2, none⟩ = false ∧
    (((w.setCell ⟨g, 0, none⟩ (.int .u64 n0)).setCell ⟨g, 1, none⟩ (.int .u64 n1)).setCell ⟨g, 2, none⟩ (.int .u64 n2)).cell? ⟨g, 3, none⟩ = some (.int .u64 ya) ∧
    (((w.setCell ⟨g, 0, none⟩ (.int .u64 n0)).setCell ⟨g, 1, none⟩ (.int .u64 n1)).setCell ⟨g, 2, none⟩ (.int .u64 n2)).frozen? ⟨g, 3, none⟩ = false ∧
    ((((w.setCell ⟨g, 0, none⟩ (.int .u64 n0)).setCell ⟨g, 1, none⟩ (.int .u64 n1)).setCell ⟨g, 2, none⟩ (.int .u64 n2)).setCell ⟨g, 3, none⟩ (.int .u64 n3)).cell? ⟨g, 4, none⟩ = some (.int .u64 xb) ∧
    ((((w.setCell ⟨g, 0, none⟩ (.int .u64 n0)).setCell ⟨g, 1, none⟩ (.int .u64 n1)).setCell ⟨g, 2, none⟩ (.int .u64 n2)).setCell ⟨g, 3, none⟩ (.int .u64 n3)).frozen? ⟨g, 4, none⟩ = false ∧
    (((((w.setCell ⟨g, 0, none⟩ (.int .u64 n0)).setCell ⟨g, 1, none⟩ (.int .u64 n1)).setCell ⟨g, 2, none⟩ (.int .u64 n2)).setCell ⟨g, 3, none⟩ (.int .u64 n3)).setCell ⟨g, 4, none⟩ (.int .u64 n4)).cell? ⟨g, 5, none⟩ = some (.int .u64 yb) ∧
    (((((w.setCell ⟨g, 0, none⟩ (.int .u64 n0)).setCell ⟨g, 1, none⟩ (.int .u64 n1)).setCell ⟨g, 2, none⟩ (.int .u64 n2)).setCell ⟨g, 3, none⟩ (.int .u64 n3)).setCell ⟨g, 4, none⟩ (.int .u64 n4)).frozen? ⟨g, 5, none⟩ = false ∧
    ((((((w.setCell ⟨g, 0, none⟩ (.int .u64 n0)).setCell ⟨g, 1, none⟩ (.int .u64 n1)).setCell ⟨g, 2, none⟩ (.int .u64 n2)).setCell ⟨g, 3, none⟩ (.int .u64 n3)).setCell ⟨g, 4, none⟩ (.int .u64 n4)).setCell ⟨g, 5, none⟩ (.int .u64 n5)).cell? ⟨g, 6, none⟩ = some (.bool o) ∧
    ((((((w.setCell ⟨g, 0, none⟩ (.int .u64 n0)).setCell ⟨g, 1, none⟩ (.int .u64 n1)).setCell ⟨g, 2, none⟩ (.int .u64 n2)).setCell ⟨g, 3, none⟩ (.int .u64 n3)).setCell ⟨g, 4, none⟩ (.int .u64 n4)).setCell ⟨g, 5, none⟩ (.int .u64 n5)).frozen? ⟨g, 6, none⟩ = false :=
  ⟨h.cells.1, h.free 0, (h.set0 n0).cells.2.1, (h.set0 n0).free 1, ((h.set0 n0).set1 n1).cells.2.2.1, ((h.set0 n0).set1 n1).free 2, (((h.set0 n0).set1 n1).set2 n2).cells.2.2.2.1, (((h.set0 n0).set1 n1).set2 n2).free 3, ((((h.set0 n0).set1 n1).set2 n2).set3 n3).cells.2.2.2.2.1, ((((h.set0 n0).set1 n1).set2 n2).set3 n3).free 4, (((((h.set0 n0).set1 n1).set2 n2).set3 n3).set4 n4).cells.2.2.2.2.2.1, (((((h.set0 n0).set1 n1).set2 n2).set3 n3).set4 n4).free 5, ((((((h.set0 n0).set1 n1).set2 n2).set3 n3).set4 n4).set5 n5).cells.2.2.2.2.2.2, ((((((h.set0 n0).set1 n1).set2 n2).set3 n3).set4 n4).set5 n5).free 6⟩
theorem Pbx.last {K : Nat} {w0 : World} {w : World} {g : Nat} {a b xa ya xb yb : Int} {o : Bool} (h : Pbx w g a b xa ya xb yb o) (hb : Below K w0 w) (hg : K ≤ g) (n0 n1 n2 n3 n4 n5 : Int) (n6 : Bool) :
    Pbx (((((((w.setCell ⟨g, 0, none⟩ (.int .u64 n0)).setCell ⟨g, 1, none⟩ (.int .u64 n1)).setCell ⟨g, 2, none⟩ (.int .u64 n2)).setCell ⟨g, 3, none⟩ (.int .u64 n3)).setCell ⟨g, 4, none⟩ (.int .u64 n4)).setCell ⟨g, 5, none⟩ (.int .u64 n5)).setCell ⟨g, 6, none⟩ (.bool n6)) g n0 n1 n2 n3 n4 n5 n6 ∧ Below K w0 (((((((w.setCell ⟨g, 0, none⟩ (.int .u64 n0)).setCell ⟨g, 1, none⟩ (.int .u64 n1)).setCell ⟨g, 2, none⟩ (.int .u64 n2)).setCell ⟨g, 3, none⟩ (.int .u64 n3)).setCell ⟨g, 4, none⟩ (.int .u64 n4)).setCell ⟨g, 5, none⟩ (.int .u64 n5)).setCell ⟨g, 6, none⟩ (.bool n6)) := by
  refine ⟨(((((((h.set0 n0).set1 n1).set2 n2).set3 n3).set4 n4).set5 n5).set6 n6), ?_⟩
  exact (((((((hb.setCell (p := ⟨g, 0, none⟩) hg _).setCell (p := ⟨g, 1, none⟩) hg _).setCell (p := ⟨g, 2, none⟩) hg _).setCell (p := ⟨g, 3, none⟩) hg _).setCell (p := ⟨g, 4, none⟩) hg _).setCell (p := ⟨g, 5, none⟩) hg _).setCell (p := ⟨g, 6, none⟩) hg _)

/-- A block of two cells: shares. -/
def Shx (w : World) (g : Nat) (x y : Int) : Prop := w.heap[g]? = some (.cells #[.int .u64 x, .int .u64 y] 118 (0, 0))
theorem Shx.lt {w : World} {g : Nat} {x y : Int} (h : Shx w g x y) : g < w.heap.size := (Array.getElem?_eq_some_iff.1 h).1
theorem Shx.cells {w : World} {g : Nat} {x y : Int} (h : Shx w g x y) : w.cell? ⟨g, 0, none⟩ = some (.int .u64 x) ∧ w.cell? ⟨g, 1, none⟩ = some (.int .u64 y) := by
  have : w.heap[g]? = _ := h
  refine ⟨?_, ?_⟩ <;> simp [World.cell?, this]
theorem Shx.made (w : World) (x y : Int) : Below w.heap.size w (w.alloc (.cells #[.int .u64 x, .int .u64 y] 118)) ∧ Shx (w.alloc (.cells #[.int .u64 x, .int .u64 y] 118)) w.heap.size x y := by
  refine ⟨(Below.refl _ _).alloc (Nat.le_refl _) _, ?_⟩
  show (w.heap.push _)[w.heap.size]? = _
  simp

set_option maxHeartbeats 4000000 in
/-- A step that is not certain: what is left is too small. -/
theorem step_no {w : World} {g : Nat} {a b xa ya xb yb : Nat} {o : Bool} (h : Pbx w g a b xa ya xb yb o) (hb : 0 < b) (hqm : a / b < 18446744073709551616) (hX : xa + a / b * xb < 18446744073709551616) (hY : ya + a / b * yb < 18446744073709551616)
    (hno : a % b < ya + a / b * yb) :
    Calls Try.prog 85 #[.pointer (some ⟨g, 0, none⟩)] w fun e w' => e = .returned (.bool false) ∧ Below w.heap.size w w' := by
  have hq0 : (a : Int) / (b : Int) = ((a / b : Nat) : Int) := by rw [Int.natCast_ediv]
  have hr0 : (a : Int) % (b : Int) = ((a % b : Nat) : Int) := by rw [Int.natCast_emod]
  have hlt : a % b < b := Nat.mod_lt _ hb
  generalize a / b = q at *
  generalize a % b = t at *
  generalize hqx : q * xb = qx at *
  generalize hqy : q * yb = qy at *
  generalize hXX : xa + qx = X at *
  generalize hYY : ya + qy = Y at *
  have e1 : (q : Int) * (xb : Int) = (qx : Int) := by rw [← hqx]; push_cast; rfl
  have e2 : (q : Int) * (yb : Int) = (qy : Int) := by rw [← hqy]; push_cast; rfl
  have e3 : (xa : Int) + (qx : Int) = (X : Int) := by rw [← hXX]; push_cast; rfl
  have e4 : (ya : Int) + (qy : Int) = (Y : Int) := by rw [← hYY]; push_cast; rfl
  have w0 : IntKind.u64.wrap (q : Int) = (q : Int) := IntWalk.u64_in _ (by omega)
  have w1 : IntKind.u64.wrap (qx : Int) = (qx : Int) := IntWalk.u64_in _ (by omega)
  have w2 : IntKind.u64.wrap (qy : Int) = (qy : Int) := IntWalk.u64_in _ (by omega)
  have w3 : IntKind.u64.wrap (X : Int) = (X : Int) := IntWalk.u64_in _ (by omega)
  have w4 : IntKind.u64.wrap (Y : Int) = (Y : Int) := IntWalk.u64_in _ (by omega)
  have hn : (t : Int) < (Y : Int) := by omega
  have cc := h.cells
  have HX := hid h
  clear h hqx hqy hXX hYY
  go_enter Try.func85, Try.ntmps85
  go_wp2
  go_quiet (fail)
  rw [hr0]
  go_wp2
  generalize hW : w.drewN _ = w2 at *
  have X2 : Hid (Pbx w2 g a b xa ya xb yb o) := by rw [← hW]; exact HX.out.drN _
  have B2 : Hid (Below w.heap.size w w2) := by rw [← hW]; exact below_drewN (Below.refl _ _) _
  clear hW cc
  have cd := X2.out.dr.cells
  have ce := (X2.out.below ((Below.refl _ _).alloc (Nat.le_refl _) (.cells #[.int .u64 0, .int .u64 0] 118)) X2.out.lt).dr.cells
  go_region
  generalize hW : (w2.alloc (.cells #[.int .u64 X, .int .u64 Y] 118)).drew = w3 at *
  obtain ⟨hb3, hs3⟩ := Shx.made w2 X Y
  have X3 : Hid (Pbx w3 g a b xa ya xb yb o) := by rw [← hW]; exact (X2.out.below hb3 X2.out.lt).dr
  have S3 : Hid (Shx w3 w2.heap.size X Y) := by rw [← hW]; exact hs3
  have B3 : Hid (Below w.heap.size w w3) := by rw [← hW]; exact (B2.out.trans (hb3.mono B2.out.size)).drew
  have L3 : Hid (g < w2.heap.size) := X2.out.lt
  clear hW hb3 hs3 X2 B2 cd ce
  generalize w2.heap.size = g5 at *
  have cp := X3.out.cells
  have cs := S3.out.cells
  go_wp2
  go_quiet (fail)
  go_wp2
  go_ret
  exact ⟨rfl, below_drewN B3.out _⟩

set_option maxHeartbeats 4000000 in
/-- A step that is not certain: what is left is too great. -/
theorem step_no2 {w : World} {g : Nat} {a b xa ya xb yb : Nat} {o : Bool} (h : Pbx w g a b xa ya xb yb o) (hb : 0 < b) (hqm : a / b < 18446744073709551616) (hX : xa + a / b * xb < 18446744073709551616) (hY : ya + a / b * yb < 18446744073709551616)
    (hbm : b < 18446744073709551616) (hZ : yb + (ya + a / b * yb) < 18446744073709551616) (hn1 : ya + a / b * yb ≤ a % b) (hno : b - a % b < yb + (ya + a / b * yb)) :
    Calls Try.prog 85 #[.pointer (some ⟨g, 0, none⟩)] w fun e w' => e = .returned (.bool false) ∧ Below w.heap.size w w' := by
  have hq0 : (a : Int) / (b : Int) = ((a / b : Nat) : Int) := by rw [Int.natCast_ediv]
  have hr0 : (a : Int) % (b : Int) = ((a % b : Nat) : Int) := by rw [Int.natCast_emod]
  have hlt : a % b < b := Nat.mod_lt _ hb
  generalize a / b = q at *
  generalize a % b = t at *
  generalize hqx : q * xb = qx at *
  generalize hqy : q * yb = qy at *
  generalize hXX : xa + qx = X at *
  generalize hYY : ya + qy = Y at *
  have e1 : (q : Int) * (xb : Int) = (qx : Int) := by rw [← hqx]; push_cast; rfl
  have e2 : (q : Int) * (yb : Int) = (qy : Int) := by rw [← hqy]; push_cast; rfl
  have e3 : (xa : Int) + (qx : Int) = (X : Int) := by rw [← hXX]; push_cast; rfl
  have e4 : (ya : Int) + (qy : Int) = (Y : Int) := by rw [← hYY]; push_cast; rfl
  have w0 : IntKind.u64.wrap (q : Int) = (q : Int) := IntWalk.u64_in _ (by omega)
  have w1 : IntKind.u64.wrap (qx : Int) = (qx : Int) := IntWalk.u64_in _ (by omega)
  have w2 : IntKind.u64.wrap (qy : Int) = (qy : Int) := IntWalk.u64_in _ (by omega)
  have w3 : IntKind.u64.wrap (X : Int) = (X : Int) := IntWalk.u64_in _ (by omega)
  have w4 : IntKind.u64.wrap (Y : Int) = (Y : Int) := IntWalk.u64_in _ (by omega)
  have hn : decide ((t : Int) < (Y : Int)) = false := by rw [decide_eq_false_iff_not]; omega
  generalize hdd : b - t = d at *
  generalize hzz : yb + Y = z at *
  have e5 : (b : Int) - (t : Int) = (d : Int) := by omega
  have e6 : (yb : Int) + (Y : Int) = (z : Int) := by omega
  have w5 : IntKind.u64.wrap (d : Int) = (d : Int) := IntWalk.u64_in _ (by omega)
  have w6 : IntKind.u64.wrap (z : Int) = (z : Int) := IntWalk.u64_in _ (by omega)
  have hm : (d : Int) < (z : Int) := by omega
  clear hdd hzz
  have cc := h.cells
  have HX := hid h
  clear h hqx hqy hXX hYY
  go_enter Try.func85, Try.ntmps85
  go_wp2
  go_quiet (fail)
  rw [hr0]
  go_wp2
  generalize hW : w.drewN _ = w2 at *
  have X2 : Hid (Pbx w2 g a b xa ya xb yb o) := by rw [← hW]; exact HX.out.drN _
  have B2 : Hid (Below w.heap.size w w2) := by rw [← hW]; exact below_drewN (Below.refl _ _) _
  clear hW cc
  have cd := X2.out.dr.cells
  have ce := (X2.out.below ((Below.refl _ _).alloc (Nat.le_refl _) (.cells #[.int .u64 0, .int .u64 0] 118)) X2.out.lt).dr.cells
  go_region
  generalize hW : (w2.alloc (.cells #[.int .u64 X, .int .u64 Y] 118)).drew = w3 at *
  obtain ⟨hb3, hs3⟩ := Shx.made w2 X Y
  have X3 : Hid (Pbx w3 g a b xa ya xb yb o) := by rw [← hW]; exact (X2.out.below hb3 X2.out.lt).dr
  have S3 : Hid (Shx w3 w2.heap.size X Y) := by rw [← hW]; exact hs3
  have B3 : Hid (Below w.heap.size w w3) := by rw [← hW]; exact (B2.out.trans (hb3.mono B2.out.size)).drew
  have L3 : Hid (g < w2.heap.size) := X2.out.lt
  clear hW hb3 hs3 X2 B2 cd ce
  generalize w2.heap.size = g5 at *
  have cp := X3.out.cells
  have cs := S3.out.cells
  go_wp2
  go_quiet (fail)
  go_wp2
  go_ret
  exact ⟨rfl, below_drewN B3.out _⟩

set_option maxHeartbeats 4000000 in
/-- A step that is certain. -/
theorem step_yes {w : World} {g : Nat} {a b xa ya xb yb : Nat} {o : Bool} (h : Pbx w g a b xa ya xb yb o) (hb : 0 < b) (hqm : a / b < 18446744073709551616) (hX : xa + a / b * xb < 18446744073709551616) (hY : ya + a / b * yb < 18446744073709551616)
    (hbm : b < 18446744073709551616) (hZ : yb + (ya + a / b * yb) < 18446744073709551616) (hn1 : ya + a / b * yb ≤ a % b) (hn2 : yb + (ya + a / b * yb) ≤ b - a % b) {K : Nat} (hK : K ≤ g) :
    Calls Try.prog 85 #[.pointer (some ⟨g, 0, none⟩)] w fun e w' => e = .returned (.bool true) ∧ Pbx w' g b (a % b : Nat) xb yb (xa + a / b * xb : Nat) (ya + a / b * yb : Nat) (!o) ∧ Below K w w' := by
  have hq0 : (a : Int) / (b : Int) = ((a / b : Nat) : Int) := by rw [Int.natCast_ediv]
  have hr0 : (a : Int) % (b : Int) = ((a % b : Nat) : Int) := by rw [Int.natCast_emod]
  have hlt : a % b < b := Nat.mod_lt _ hb
  generalize a / b = q at *
  generalize a % b = t at *
  generalize hqx : q * xb = qx at *
  generalize hqy : q * yb = qy at *
  generalize hXX : xa + qx = X at *
  generalize hYY : ya + qy = Y at *
  have e1 : (q : Int) * (xb : Int) = (qx : Int) := by rw [← hqx]; push_cast; rfl
  have e2 : (q : Int) * (yb : Int) = (qy : Int) := by rw [← hqy]; push_cast; rfl
  have e3 : (xa : Int) + (qx : Int) = (X : Int) := by rw [← hXX]; push_cast; rfl
  have e4 : (ya : Int) + (qy : Int) = (Y : Int) := by rw [← hYY]; push_cast; rfl
  have w0 : IntKind.u64.wrap (q : Int) = (q : Int) := IntWalk.u64_in _ (by omega)
  have w1 : IntKind.u64.wrap (qx : Int) = (qx : Int) := IntWalk.u64_in _ (by omega)
  have w2 : IntKind.u64.wrap (qy : Int) = (qy : Int) := IntWalk.u64_in _ (by omega)
  have w3 : IntKind.u64.wrap (X : Int) = (X : Int) := IntWalk.u64_in _ (by omega)
  have w4 : IntKind.u64.wrap (Y : Int) = (Y : Int) := IntWalk.u64_in _ (by omega)
  have hn : decide ((t : Int) < (Y : Int)) = false := by rw [decide_eq_false_iff_not]; omega
  generalize hdd : b - t = d at *
  generalize hzz : yb + Y = z at *
  have e5 : (b : Int) - (t : Int) = (d : Int) := by omega
  have e6 : (yb : Int) + (Y : Int) = (z : Int) := by omega
  have w5 : IntKind.u64.wrap (d : Int) = (d : Int) := IntWalk.u64_in _ (by omega)
  have w6 : IntKind.u64.wrap (z : Int) = (z : Int) := IntWalk.u64_in _ (by omega)
  have hm : ¬ (d : Int) < (z : Int) := by omega
  clear hdd hzz
  have cc := h.cells
  have HX := hid h
  clear h hqx hqy hXX hYY
  go_enter Try.func85, Try.ntmps85
  go_wp2
  go_quiet (fail)
  rw [hr0]
  go_wp2
  generalize hW : w.drewN _ = w2 at *
  have X2 : Hid (Pbx w2 g a b xa ya xb yb o) := by rw [← hW]; exact HX.out.drN _
  have B2 : Hid (Below w.heap.size w w2) := by rw [← hW]; exact below_drewN (Below.refl _ _) _
  clear hW cc
  have cd := X2.out.dr.cells
  have ce := (X2.out.below ((Below.refl _ _).alloc (Nat.le_refl _) (.cells #[.int .u64 0, .int .u64 0] 118)) X2.out.lt).dr.cells
  go_region
  generalize hW : (w2.alloc (.cells #[.int .u64 X, .int .u64 Y] 118)).drew = w3 at *
  obtain ⟨hb3, hs3⟩ := Shx.made w2 X Y
  have X3 : Hid (Pbx w3 g a b xa ya xb yb o) := by rw [← hW]; exact (X2.out.below hb3 X2.out.lt).dr
  have S3 : Hid (Shx w3 w2.heap.size X Y) := by rw [← hW]; exact hs3
  have B3 : Hid (Below w.heap.size w w3) := by rw [← hW]; exact (B2.out.trans (hb3.mono B2.out.size)).drew
  have L3 : Hid (g < w2.heap.size) := X2.out.lt
  clear hW hb3 hs3 X2 B2 cd ce
  generalize w2.heap.size = g5 at *
  have cp := X3.out.cells
  have cs := S3.out.cells
  go_wp2
  go_quiet (fail)
  go_wp2
  generalize hW : w3.drewN _ = w4 at *
  have X4 : Hid (Pbx w4 g a b xa ya xb yb o) := by rw [← hW]; exact X3.out.drN _
  have B4 : Hid (Below w.heap.size w w4) := by rw [← hW]; exact below_drewN B3.out _
  have S4 : Hid (Shx w4 g5 X Y) := by rw [← hW]; exact S3.out
  clear hW X3 S3 B3 cp cs
  have cp := X4.out.dr.cells
  have cs : w4.drew.cell? _ = _ ∧ w4.drew.cell? _ = _ := Shx.cells (w := w4.drew) S4.out
  have ss := X4.out.dr.stores b t xb yb X Y (!o)
  have lg : g < w.heap.size := HX.out.lt
  have FIN := hid (X4.out.dr.last (B4.out.mono (show K ≤ w.heap.size by omega)).drew hK b t xb yb X Y (!o))
  go_still_tail 17, (by kernel_rfl)
  change wpList _ _ _ _ _ w4.drew
  generalize w4.drew = w5 at *
  go_wp2
  go_ret
  exact ⟨rfl, FIN.out⟩

end Go.Proofs.Ytokojbgpboccnaa
