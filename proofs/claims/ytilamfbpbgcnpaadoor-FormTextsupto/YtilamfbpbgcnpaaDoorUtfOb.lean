/- The walk of one, the document's own reader of a sign. -/
import Derived.Test.YtilamfbpbgcnpaaDoorRowWb
import Derived.Test.YtilamfbpbgcnpaaDoorBuF
namespace Go.Proofs.YtilamfbpbgcnpaaDoor.Bg
open Go.RowKit
set_option linter.unusedVariables false
set_option maxRecDepth 20000
/-- What it answers: the sign (0 where there is none), how many bytes, whether it is whole. -/
def OnePost (l : List UInt8) (w : World) (e : Ending) (w' : World) : Prop :=
  (∃ c : Nat, e = .returned (.tuple #[.int .i64 (c : Int), .int .i64 ((nextN l).2.1 : Int), .bool (nextN l).2.2]) ∧ ((nextN l).2.2 = true → c = (nextN l).1)) ∧ w' = w
theorem OnePost.yes {l : List UInt8} {w : World} {c k : Nat} (h : nextN l = (c, k, true)) {e : Ending} (he : e = .returned (.tuple #[.int .i64 (c : Int), .int .i64 (k : Int), .bool true])) : OnePost l w e w := by
  unfold OnePost; rw [h]; exact ⟨⟨c, he, fun _ => rfl⟩, rfl⟩
theorem OnePost.no {l : List UInt8} {w : World} {c k : Nat} (h : nextN l = (c, k, false)) {e : Ending} (he : e = .returned (.tuple #[.int .i64 0, .int .i64 (k : Int), .bool false])) : OnePost l w e w := by
  unfold OnePost; rw [h]; exact ⟨⟨0, he, fun h => by cases h⟩, rfl⟩
set_option maxRecDepth 20000 in
set_option maxHeartbeats 2000000 in
theorem one_a (b off cap p x : Nat) (l : List UInt8) (w : World) (hp : p < l.length) (hlen : l.length ≤ 2500000) (hc : ∀ i (h : i < l.length), w.cell? ⟨b, off + i, none⟩ = some (fb l[i])) (hx : x = l[p].toNat) (h1 : 0 ≤ x) (h2 : x ≤ 127) :
    Calls Tryd.prog 44 #[.slice (some ⟨b, off, none⟩) l.length cap, .int .i64 (p : Int)] w fun e w' => OnePost (l.drop p) w e w' := by
  have hc0 : w.cell? ⟨b, off + p, none⟩ = some (.int .u8 (x : Int)) := by rw [hx]; exact hc p hp
  have HC := hid hc
  have p0 : (p : Int) < (l.length : Int) := by omega
  have l0 : (l.length : Int) ≤ 2500000 := by omega
  have HD := hid (drop_at hp)
  have HE : Hid (nextN (l.drop p) = (x, 1, true)) := by
    show nextN _ = _
    rw [HD.out, next_cons _ _ (st_a (by omega)), goN, ← hx]
  have g0 : (0 : Int) ≤ (x : Int) := by omega
  have g1 : (x : Int) ≤ 127 := by omega
  have t224 : ((x : Int) == 224) = false := by rw [beq_eq_false_iff_ne]; omega
  have t237 : ((x : Int) == 237) = false := by rw [beq_eq_false_iff_ne]; omega
  have t240 : ((x : Int) == 240) = false := by rw [beq_eq_false_iff_ne]; omega
  have t244 : ((x : Int) == 244) = false := by rw [beq_eq_false_iff_ne]; omega
  have HP := hid hp
  clear h1 h2 hc hx HD hp hlen
  go_enter Tryd.func44, Tryd.ntmps44
  go_wp2
  go_ret3
  exact OnePost.yes HE.out rfl
set_option maxRecDepth 20000 in
set_option maxHeartbeats 2000000 in
theorem one_b (b off cap p x : Nat) (l : List UInt8) (w : World) (hp : p < l.length) (hlen : l.length ≤ 2500000) (hc : ∀ i (h : i < l.length), w.cell? ⟨b, off + i, none⟩ = some (fb l[i])) (hx : x = l[p].toNat) (h1 : 128 ≤ x) (h2 : x ≤ 193) :
    Calls Tryd.prog 44 #[.slice (some ⟨b, off, none⟩) l.length cap, .int .i64 (p : Int)] w fun e w' => OnePost (l.drop p) w e w' := by
  have hc0 : w.cell? ⟨b, off + p, none⟩ = some (.int .u8 (x : Int)) := by rw [hx]; exact hc p hp
  have HC := hid hc
  have p0 : (p : Int) < (l.length : Int) := by omega
  have l0 : (l.length : Int) ≤ 2500000 := by omega
  have HD := hid (drop_at hp)
  have HE : Hid (nextN (l.drop p) = (65533, 1, false)) := by
    show nextN _ = _
    rw [HD.out]; exact next_none _ _ (st_b (by omega) (by omega))
  have g0 : (128 : Int) ≤ (x : Int) := by omega
  have g1 : (x : Int) ≤ 193 := by omega
  have t224 : ((x : Int) == 224) = false := by rw [beq_eq_false_iff_ne]; omega
  have t237 : ((x : Int) == 237) = false := by rw [beq_eq_false_iff_ne]; omega
  have t240 : ((x : Int) == 240) = false := by rw [beq_eq_false_iff_ne]; omega
  have t244 : ((x : Int) == 244) = false := by rw [beq_eq_false_iff_ne]; omega
  have HP := hid hp
  clear h1 h2 hc hx HD hp hlen
  go_enter Tryd.func44, Tryd.ntmps44
  go_wp2
  go_ret3
  exact OnePost.no HE.out rfl
set_option maxRecDepth 20000 in
set_option maxHeartbeats 2000000 in
theorem one_f (b off cap p x : Nat) (l : List UInt8) (w : World) (hp : p < l.length) (hlen : l.length ≤ 2500000) (hc : ∀ i (h : i < l.length), w.cell? ⟨b, off + i, none⟩ = some (fb l[i])) (hx : x = l[p].toNat) (h1 : 245 ≤ x) (h2 : x ≤ 255) :
    Calls Tryd.prog 44 #[.slice (some ⟨b, off, none⟩) l.length cap, .int .i64 (p : Int)] w fun e w' => OnePost (l.drop p) w e w' := by
  have hc0 : w.cell? ⟨b, off + p, none⟩ = some (.int .u8 (x : Int)) := by rw [hx]; exact hc p hp
  have HC := hid hc
  have p0 : (p : Int) < (l.length : Int) := by omega
  have l0 : (l.length : Int) ≤ 2500000 := by omega
  have HD := hid (drop_at hp)
  have HE : Hid (nextN (l.drop p) = (65533, 1, false)) := by
    show nextN _ = _
    rw [HD.out]; exact next_none _ _ (st_f (by omega))
  have g0 : (245 : Int) ≤ (x : Int) := by omega
  have g1 : (x : Int) ≤ 255 := by omega
  have t224 : ((x : Int) == 224) = false := by rw [beq_eq_false_iff_ne]; omega
  have t237 : ((x : Int) == 237) = false := by rw [beq_eq_false_iff_ne]; omega
  have t240 : ((x : Int) == 240) = false := by rw [beq_eq_false_iff_ne]; omega
  have t244 : ((x : Int) == 244) = false := by rw [beq_eq_false_iff_ne]; omega
  have HP := hid hp
  clear h1 h2 hc hx HD hp hlen
  go_enter Tryd.func44, Tryd.ntmps44
  go_wp2
  go_ret3
  exact OnePost.no HE.out rfl
end Go.Proofs.YtilamfbpbgcnpaaDoor.Bg
