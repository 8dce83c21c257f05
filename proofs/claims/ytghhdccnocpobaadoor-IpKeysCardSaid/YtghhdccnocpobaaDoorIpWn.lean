/- A block of a row: eight pieces and how many they are. -/
import Derived.Test.YtghhdccnocpobaaDoorIpWm
namespace Go.Proofs.YtghhdccnocpobaaDoor
open Go.RowKit
set_option linter.unusedVariables false
set_option maxRecDepth 20000
set_option linter.unusedSimpArgs false
abbrev idV (v : Value) : Value := v
/-- Nine cells. -/
abbrev Bk9 (w : World) (g : Nat) (vs : List Value) : Prop := Bk idV 78 w g vs
theorem fill9 {B G : Nat} {w w3 : World} {y0 y1 y2 y3 y4 y5 y6 y7 y8 : Value} (hb : Bk9 w3 G [y0, y1, y2, y3, y4, y5, y6, y7, y8]) (hB : Below B w w3) (hG : B ≤ G) (hs : B ≤ w3.heap.size) (x0 x1 x2 x3 x4 x5 x6 x7 x8 : Value) :
    Bk9 (((((((((w3.setCell ⟨G, 0, none⟩ x0).setCell ⟨G, 1, none⟩ x1).setCell ⟨G, 2, none⟩ x2).setCell ⟨G, 3, none⟩ x3).setCell ⟨G, 4, none⟩ x4).setCell ⟨G, 5, none⟩ x5).setCell ⟨G, 6, none⟩ x6).setCell ⟨G, 7, none⟩ x7).setCell ⟨G, 8, none⟩ x8) G [x0, x1, x2, x3, x4, x5, x6, x7, x8] ∧
    Below B w (((((((((w3.setCell ⟨G, 0, none⟩ x0).setCell ⟨G, 1, none⟩ x1).setCell ⟨G, 2, none⟩ x2).setCell ⟨G, 3, none⟩ x3).setCell ⟨G, 4, none⟩ x4).setCell ⟨G, 5, none⟩ x5).setCell ⟨G, 6, none⟩ x6).setCell ⟨G, 7, none⟩ x7).setCell ⟨G, 8, none⟩ x8) := by
  refine ⟨((((((((hb.set 0 x0).set 1 x1).set 2 x2).set 3 x3).set 4 x4).set 5 x5).set 6 x6).set 7 x7).set 8 x8, ?_⟩
  refine belowSet (belowSet (belowSet (belowSet (belowSet (belowSet (belowSet (belowSet (belowSet hB hG hs 0 _) hG ?_ 1 _) hG ?_ 2 _) hG ?_ 3 _) hG ?_ 4 _) hG ?_ 5 _) hG ?_ 6 _) hG ?_ 7 _) hG ?_ 8 _
  all_goals simpa [World.setCell] using hs
/-- Its cells, each with its not being frozen. -/
theorem cells9 {w : World} {g : Nat} {y0 y1 y2 y3 y4 y5 y6 y7 y8 : Value} (h : Bk9 w g [y0, y1, y2, y3, y4, y5, y6, y7, y8]) :
    (w.cell? ⟨g, 0, none⟩ = some y0 ∧ w.cell? ⟨g, 1, none⟩ = some y1 ∧ w.cell? ⟨g, 2, none⟩ = some y2 ∧ w.cell? ⟨g, 3, none⟩ = some y3 ∧ w.cell? ⟨g, 4, none⟩ = some y4 ∧ w.cell? ⟨g, 5, none⟩ = some y5 ∧ w.cell? ⟨g, 6, none⟩ = some y6 ∧ w.cell? ⟨g, 7, none⟩ = some y7 ∧ w.cell? ⟨g, 8, none⟩ = some y8) ∧
    (w.frozen? ⟨g, 0, none⟩ = false ∧ w.frozen? ⟨g, 1, none⟩ = false ∧ w.frozen? ⟨g, 2, none⟩ = false ∧ w.frozen? ⟨g, 3, none⟩ = false ∧ w.frozen? ⟨g, 4, none⟩ = false ∧ w.frozen? ⟨g, 5, none⟩ = false ∧ w.frozen? ⟨g, 6, none⟩ = false ∧ w.frozen? ⟨g, 7, none⟩ = false ∧ w.frozen? ⟨g, 8, none⟩ = false) := by
  have c := fun i hi => h.cell i hi
  exact ⟨⟨(c 0 (by simp)).1, (c 1 (by simp)).1, (c 2 (by simp)).1, (c 3 (by simp)).1, (c 4 (by simp)).1, (c 5 (by simp)).1, (c 6 (by simp)).1, (c 7 (by simp)).1, (c 8 (by simp)).1⟩,
    ⟨(c 0 (by simp)).2, (c 1 (by simp)).2, (c 2 (by simp)).2, (c 3 (by simp)).2, (c 4 (by simp)).2, (c 5 (by simp)).2, (c 6 (by simp)).2, (c 7 (by simp)).2, (c 8 (by simp)).2⟩⟩
/-- A new one, of zeros. -/
def zero9 : List Value := [.int .u16 0, .int .u16 0, .int .u16 0, .int .u16 0, .int .u16 0, .int .u16 0, .int .u16 0, .int .u16 0, .int .i64 0]
theorem zero9_world (w : World) : Bk9 (w.alloc (.cells #[.int .u16 0, .int .u16 0, .int .u16 0, .int .u16 0, .int .u16 0, .int .u16 0, .int .u16 0, .int .u16 0, .int .i64 0] 78)) w.heap.size zero9 := heap_alloc_new w _
/-- What a reading of pieces answers: a row, and whether there is one. -/
def RowIs (r : Option (List Nat)) (v : Value) : Prop := ∃ x0 x1 x2 x3 x4 x5 x6 x7 c : Nat, v = .agg #[.int .u16 (x0 : Int), .int .u16 (x1 : Int), .int .u16 (x2 : Int), .int .u16 (x3 : Int), .int .u16 (x4 : Int), .int .u16 (x5 : Int), .int .u16 (x6 : Int), .int .u16 (x7 : Int), .int .i64 (c : Int)] ∧ c ≤ 8 ∧ ∀ ns, r = some ns → c = ns.length ∧ [x0, x1, x2, x3, x4, x5, x6, x7] = ns ++ List.replicate (8 - ns.length) 0
def RPost (r : Option (List Nat)) (w : World) (e : Ending) (w' : World) : Prop := ∃ v, RowIs r v ∧ e = .returned (.tuple #[v, .bool r.isSome]) ∧ Below w.heap.size w w'
theorem RPost.no {r : Option (List Nat)} {w w' : World} (x0 x1 x2 x3 x4 x5 x6 x7 c : Nat) (hc : c ≤ 8) (h : r = none) (hb : Below w.heap.size w w') : RPost r w (.returned (.tuple #[.agg #[.int .u16 (x0 : Int), .int .u16 (x1 : Int), .int .u16 (x2 : Int), .int .u16 (x3 : Int), .int .u16 (x4 : Int), .int .u16 (x5 : Int), .int .u16 (x6 : Int), .int .u16 (x7 : Int), .int .i64 (c : Int)], .bool false])) w' :=
  ⟨_, ⟨x0, x1, x2, x3, x4, x5, x6, x7, c, rfl, hc, fun ns e => by rw [h] at e; cases e⟩, by rw [h]; rfl, hb⟩
theorem RPost.yes {r : Option (List Nat)} {w w' : World} {ns : List Nat} (x0 x1 x2 x3 x4 x5 x6 x7 c : Nat) (h : r = some ns) (hc : c = ns.length) (hc8 : c ≤ 8) (hx : [x0, x1, x2, x3, x4, x5, x6, x7] = ns ++ List.replicate (8 - ns.length) 0) (hb : Below w.heap.size w w') : RPost r w (.returned (.tuple #[.agg #[.int .u16 (x0 : Int), .int .u16 (x1 : Int), .int .u16 (x2 : Int), .int .u16 (x3 : Int), .int .u16 (x4 : Int), .int .u16 (x5 : Int), .int .u16 (x6 : Int), .int .u16 (x7 : Int), .int .i64 (c : Int)], .bool true])) w' :=
  ⟨_, ⟨x0, x1, x2, x3, x4, x5, x6, x7, c, rfl, hc8, fun ms e => by rw [h] at e; cases e; exact ⟨hc, hx⟩⟩, by rw [h]; rfl, hb⟩
end Go.Proofs.YtghhdccnocpobaaDoor
