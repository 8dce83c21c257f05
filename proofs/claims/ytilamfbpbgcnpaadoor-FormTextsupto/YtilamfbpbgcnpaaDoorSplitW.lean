/- strings.SplitSeq at the sign '&': what its value gives, one piece after another, whatever the loop does with them. -/
import Derived.Test.YtilamfbpbgcnpaaDoorBuB
import Derived.Test.YtilamfbpbgcnpaaDoorRangeB
import Derived.Shelf.Abstract
import Derived.Shelf.RegionOpen
import Derived.WalkKit
import Derived.OwnWalkIn
import Derived.TacticsInMore
import Derived.LoopNIn
import Derived.LoopIn
namespace Go.Proofs.YtilamfbpbgcnpaaDoor
open Go.RowKit Go.Shelf
attribute [local go_sem] Oper.semAt_some
set_option linter.unusedVariables false
set_option maxRecDepth 20000
set_option linter.unusedSimpArgs false
def qidxRen : Ren := ⟨fun | 143 => 47 | 217 => 84 | 219 => 72 | 224 => 86 | 225 => 85 | 266 => 94 | 267 => 87 | 314 => 95 | n => n, fun | 3 => 3 | 4 => 4 | 5 => 5 | 9 => 9 | 46 => 67 | 51 => 93 | 146 => 126 | n => n, fun | 1 => 3 | n => n⟩
theorem qidxLays : Lays.n143 Tryd.prog qidxRen :=
  { mixed := by kernel_rfl
    f143 := Tryd.func47.trans (congrArg some (by kernel_rfl))
    f217 := Tryd.func84.trans (congrArg some (by kernel_rfl))
    f219 := Tryd.func72.trans (congrArg some (by kernel_rfl))
    f224 := Tryd.func86.trans (congrArg some (by kernel_rfl))
    f225 := Tryd.func85.trans (congrArg some (by kernel_rfl))
    f266 := Tryd.func94.trans (congrArg some (by kernel_rfl))
    f267 := Tryd.func87.trans (congrArg some (by kernel_rfl))
    f314 := Tryd.func95.trans (congrArg some (by kernel_rfl))
    t3 := Tryd.underlying3
    a3 := Tryd.isAgg3
    z3 := Tryd.sizeOf3
    v3 := Tryd.zeroValue3
    t4 := Tryd.underlying4
    a4 := Tryd.isAgg4
    z4 := Tryd.sizeOf4
    v4 := Tryd.zeroValue4
    t5 := Tryd.underlying5
    a5 := Tryd.isAgg5
    z5 := Tryd.sizeOf5
    v5 := Tryd.zeroValue5
    t9 := Tryd.underlying9
    a9 := Tryd.isAgg9
    z9 := Tryd.sizeOf9
    v9 := Tryd.zeroValue9
    t46 := Tryd.underlying67
    a46 := Tryd.isAgg67
    z46 := Tryd.sizeOf67
    v46 := Tryd.zeroValue67
    t51 := Tryd.underlying93
    a51 := Tryd.isAgg93
    z51 := Tryd.sizeOf93
    v51 := Tryd.zeroValue93
    t146 := Tryd.underlying126
    a146 := Tryd.isAgg126
    z146 := Tryd.sizeOf126
    v146 := Tryd.zeroValue126
    g1 := by kernel_rfl }
/-- What the iterator's three boxes hold: what is left, the sign, nothing kept behind a piece. -/
def SpX (h : Nat) (st : List UInt8) (W : World) : Prop :=
  Boxed W h 9 (.string (strOf st)) ∧ Boxed W (h + 1) 9 (.string ⟨#[38]⟩) ∧ Boxed W (h + 2) 3 (.int .i64 0)
theorem SpX.own (h : Nat) : Go.Own (SpX h) := by
  intro s W W' row ⟨h0, h1, h2⟩ hg hr
  have k : ∀ {B : Nat} {t : TypeId} {v : Value}, Boxed W B t v → Boxed W' B t v := fun {B t v} hb => hb.kept hg (fun e => by
    obtain ⟨o, ho, hc⟩ := hr B e.symm
    rw [show W.heap[B]? = _ from hb] at ho; cases ho; cases hc)
  exact ⟨k h0, k h1, k h2⟩
theorem SpX.set {h : Nat} {st : List UInt8} {W : World} (hx : SpX h st W) (st' : List UInt8) : SpX h st' (W.setCell ⟨h, 0, none⟩ (.string (strOf st'))) :=
  ⟨hx.1.set _, hx.2.1.kept (grownBy_setCell' W h _) (by simp), hx.2.2.kept (grownBy_setCell' W h _) (by simp)⟩
theorem idx38_calls (st : List UInt8) (w : World) : Calls Tryd.prog 47 #[.string (strOf st), .string ⟨#[38]⟩] w fun e w' => e = .returned (.int .i64 (Lib.indexByte st 38)) ∧ w' = w :=
  Any.strings_Index_one qidxLays (strOf st) 38 w
/-- How much is left, read off the world: for the loop's measure. -/
def leftW (B : Nat) (W : World) : Nat := match W.cell? ⟨B, 0, none⟩ with
  | some (.string s) => s.size
  | _ => 0
theorem leftW_eq {h : Nat} {st : List UInt8} {W : World} (hx : SpX h st W) : leftW h W = st.length := by
  unfold leftW; rw [hx.1.cell]; rfl
set_option maxHeartbeats 2000000 in
theorem split_seq (h n : Nat) (hn : 3 ≤ n) (s0 : List UInt8) (hs : s0.length ≤ 100000) :
    BoxSeq Fence.wide n Tryd.prog 45 #[.pointer (some ⟨h + 1, 0, none⟩), .pointer (some ⟨h, 0, none⟩), .pointer (some ⟨h + 2, 0, none⟩)] (fun x : List UInt8 => #[Value.string (strOf x)]) h (SpX h) s0 (splitR 38 s0) := by
  intro l J Jx W hJ hY h0 hX0
  have h1 : 1 ≤ n := by omega
  refine callsIn_of_wp Tryd.func45 rfl trivial ?_ rfl
  simp only [Tryd.ntmps45, List.size_toArray, List.length_cons, List.length_nil, Nat.reduceAdd, Nat.reduceSub, Array.replicate_succ, Array.replicate_zero, List.push_toArray, List.append_toArray, List.nil_append, List.cons_append]
  have c0 := hX0.1.cell
  have c1 := hX0.2.1.cell
  have c2 := hX0.2.2.cell
  gi_wp2
  clear c0 c1 c2
  gi_loopw [] (fun wr => ∃ (pre : List (List UInt8)) (st : List UInt8), splitR 38 s0 = pre ++ splitR 38 st ∧ st.length ≤ 100000 ∧ SpX h st wr ∧ J pre wr)
    (fun wr => leftW h wr)
  case atStart => exact ⟨[], s0, rfl, hs, hX0, h0⟩
  case round =>
    obtain ⟨pre, st, hsp, hst, hx, hj⟩ := hrel
    have c0 := hx.1.cell
    have c1 := hx.2.1.cell
    have c2 := hx.2.2.cell
    have HX := hid hx
    rcases Int.lt_or_le (Lib.indexByte st 38) 0 with hi | hi
    · have he : Lib.indexByte st 38 = -1 := by have := Lib.indexByte_ge st 38; omega
      have hone : splitR 38 st = [st] := by unfold splitR; rw [splitG_none 38 st [] (Lib.indexByte_none he)]; rfl
      obtain ⟨fn, tmps, assign, body, hy, hR⟩ := hY pre st st wr hj hx (by rw [hsp, hone]; exact List.prefix_rfl)
      clear hx hi
      gi_wp2_with (refine ⟨trivial, ?_⟩; gi_at_call 47; refine (callsIn_wide.2 (idx38_calls st _)).mono ?_; rintro e w' ⟨rfl, rfl⟩; rw [he])
      refine hR.mono ?_
      rintro e W2 (⟨rfl, hJ2, _⟩ | ⟨rfl, hJ2⟩)
      · gi_wp2
        go_end0
        exact ⟨⟨_, rfl⟩, .inl (by rw [hsp, hone]; exact hJ2)⟩
      · gi_wp2
        go_end0
        exact ⟨⟨_, rfl⟩, .inr ⟨pre ++ [st], by rw [hsp, hone]; exact List.prefix_rfl, hJ2⟩⟩
    · obtain ⟨k, hk⟩ : ∃ k : Nat, Lib.indexByte st 38 = k := ⟨(Lib.indexByte st 38).toNat, by omega⟩
      obtain ⟨hk1, hk2⟩ := Lib.indexByte_some hk
      have hkl : k < st.length := (List.getElem?_eq_some_iff.1 hk1).1
      have hfound : splitR 38 st = st.take k :: splitR 38 (st.drop (k + 1)) := splitG_found hk1 hk2
      obtain ⟨fn, tmps, assign, body, hy, hR⟩ := hY pre st (st.take k) wr hj hx (by rw [hsp, hfound]; exact ⟨splitR 38 (st.drop (k + 1)), by simp⟩)
      clear hx hi
      have hz : (strOf st).size = st.length := rfl
      have hb1 : ((k : Int) < 0) = False := by simp
      have hb2 : (k : Int) ≤ ((strOf st).size : Int) := by rw [hz]; omega
      have hb3 : (k : Int) + 1 ≤ ((strOf st).size : Int) := by rw [hz]; omega
      have hb4 : ((strOf st).size : Int) ≤ 100000 := by rw [hz]; omega
      have ex1 : (strOf st).extract 0 k = strOf (st.take k) := by rw [cut_mid _ 0 k (by rw [hz]; omega)]; rfl
      have ex2 : (strOf st).extract (k + 1) (strOf st).size = strOf (st.drop (k + 1)) := by
        rw [cut_mid _ (k + 1) _ (Nat.le_refl _)]
        show strOf ((st.drop (k + 1)).take ((strOf st).size - (k + 1))) = _
        rw [List.take_of_length_le (by rw [List.length_drop]; show _ ≤ st.length - (k + 1); omega)]
      clear hz
      gi_wp2_with (refine ⟨trivial, ?_⟩; gi_at_call 47; refine (callsIn_wide.2 (idx38_calls st _)).mono ?_; rintro e w' ⟨rfl, rfl⟩; rw [hk])
      clear c0 c1 c2
      refine hR.mono ?_
      rintro e W2 (⟨rfl, hJ2, hx2⟩ | ⟨rfl, hJ2⟩)
      · have c0 := hx2.1.cell
        have c1 := hx2.2.1.cell
        have f0 := hx2.1.frozen
        gi_wp2
        go_roundw
        case rel => exact ⟨pre ++ [st.take k], st.drop (k + 1), by rw [hsp, hfound]; simp, by rw [List.length_drop]; omega, hx2.set _, hJ _ _ _ hJ2⟩
        case measure => rw [leftW_eq (hx2.set _), leftW_eq HX.out, List.length_drop]; omega
      · gi_wp2
        refine bodyPost_ret (results_none rfl _ _ _) rfl ?_
        exact ⟨⟨_, rfl⟩, .inr ⟨pre ++ [st.take k], by rw [hsp, hfound]; exact ⟨splitR 38 (st.drop (k + 1)), by simp⟩, hJ2⟩⟩
end Go.Proofs.YtilamfbpbgcnpaaDoor
