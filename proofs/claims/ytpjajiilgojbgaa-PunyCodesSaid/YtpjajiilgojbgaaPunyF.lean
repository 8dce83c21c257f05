/- The walks of cut, plainSigns. -/
import Derived.Test.YtpjajiilgojbgaaPunyI
namespace Go.Proofs.Ytpjajiilgojbgaa
open Go.RowKit Go.Shelf
set_option linter.unusedVariables false
theorem last_calls (s : ByteArray) (w : World) (hs : s.size ≤ 5000) : Calls Try.prog 27 #[.string s, .int .u8 45] w fun e w' => e = .returned (.int .i64 (Lib.lastIndexByte s 45)) ∧ w' = w :=
  Any.strings_LastIndexByte lixLays s 45 (by omega) w
theorem cut_some (s : ByteArray) (w : World) (hs : s.size ≤ 5000) (c : Nat) (hc : Lib.lastIndexByte s 45 = (c : Int)) (h0 : 0 < c) (h1 : c < s.size) : Calls Try.prog 20 #[.string s] w fun e w' => e = .returned (.tuple #[.string (s.extract 0 c), .string (s.extract (c + 1) s.size)]) ∧ Below w.heap.size w w' := by
  have HL := hid (last_calls s w hs)
  rw [hc] at HL
  have g0 : (0 : Int) < (c : Int) := by omega
  have g1 : (c : Int) < (s.size : Int) := by omega
  have g2 : (s.size : Int) ≤ 5000 := by omega
  clear hc h0 h1 hs
  go_enter Try.func20, Try.ntmps20
  go_wp2_with fail
  refine HL.out.mono ?_
  rintro e w1 ⟨rfl, rfl⟩
  go_wp2_with fail
  go_quiet (fail)
  have HB := hid (below_drewN (Below.refl w1.heap.size w1) nq)
  generalize w1.drewN nq = wx at *
  go_wp2_with fail
  go_ret2
  exact ⟨rfl, HB.out⟩
theorem cut_none (s : ByteArray) (w : World) (hs : s.size ≤ 5000) (h0 : Lib.lastIndexByte s 45 ≤ 0) : Calls Try.prog 20 #[.string s] w fun e w' => e = .returned (.tuple #[.string (strOf []), .string s]) ∧ Below w.heap.size w w' := by
  have HL := hid (last_calls s w hs)
  generalize Lib.lastIndexByte s 45 = c at *
  clear hs
  go_enter Try.func20, Try.ntmps20
  go_wp2_with fail
  refine HL.out.mono ?_
  rintro e w1 ⟨rfl, rfl⟩
  go_wp2_with fail
  go_ret2
  exact ⟨rfl, Below.refl _ _⟩
theorem make_full {t ts : TypeId} {z : Value} {bytes : Nat} (hu : Try.prog.underlying ts = some (.slice t)) (hin : (Try.prog.info? t).map (fun i => (i.zero, i.size, i.bytes)) = some (some z, 1, bytes)) (hby : bytes ≤ 16) (n : Nat) (hn : n ≤ 1000000) (w : World) :
    (Instr.makeSlice ts (.int .i64 (n : Int)) (.int .i64 (n : Int))).run Try.prog w = .ok (.slice (some ⟨w.heap.size, 0, none⟩) n n) (w.alloc (.cells (madeCells z.cells n) t)) := by
  obtain ⟨i0, hi, hz0, hz1, hz2⟩ := info_parts hin
  have e : ((bytes * n : Nat) : Int) = (bytes : Int) * (n : Int) := by simp
  have hm := Nat.mul_le_mul hby hn
  have h := run_make (P := Try.prog) w ts t i0 z hu hi hz0 .i64 .i64 (n : Int) (n : Int) (by omega) (by omega) (by rw [hz2]; omega) (by omega)
  rw [hz1] at h
  simpa using h
theorem makeFI (n : Nat) (hn : n ≤ 1000000) (w : World) : (Instr.makeSlice 22 (.int .i64 (n : Int)) (.int .i64 (n : Int))).run Try.prog w = .ok (.slice (some ⟨w.heap.size, 0, none⟩) n n) (w.alloc (.cells (madeCells #[.int .i64 0] n) 3)) := make_full Try.underlying22 info_i64 (by decide) n hn w
theorem plain_long (s : ByteArray) (w : World) (hs : 256 < s.size) (hs2 : s.size ≤ 5000) : Calls Try.prog 21 #[.string s] w fun e w' => e = .returned (.tuple #[.slice none 0 0, .bool false]) ∧ Below w.heap.size w w' := by
  have g1 : (256 : Int) < (s.size : Int) := by omega
  have g2 : (s.size : Int) ≤ 5000 := by omega
  clear hs hs2
  go_enter Try.func21, Try.ntmps21
  go_wp2_with fail
  go_ret2
  exact ⟨rfl, Below.refl _ _⟩
def bytesOf (s : ByteArray) : List UInt8 := s.data.toList
theorem bytesOf_len (s : ByteArray) : (bytesOf s).length = s.size := by simp [bytesOf]
/-- What plainSigns answers. -/
def PlainPost (s : ByteArray) (w : World) (e : Ending) (w' : World) : Prop :=
  ((∀ c ∈ bytesOf s, c.toNat < 128) ∧ (∃ v, e = .returned (.tuple #[v, .bool true]) ∧ NOwn w' w.heap.size v ((bytesOf s).map UInt8.toNat)) ∨ (¬ ∀ c ∈ bytesOf s, c.toNat < 128) ∧ e = .returned (.tuple #[.slice none 0 0, .bool false])) ∧ Below w.heap.size w w'
set_option maxHeartbeats 2000000 in
theorem plain_calls (s : ByteArray) (w : World) (hs : s.size ≤ 256) : Calls Try.prog 21 #[.string s] w fun e w' => PlainPost s w e w' := by
  have g2 : (s.size : Int) ≤ 256 := by omega
  have g3 : ¬ (256 : Int) < (s.size : Int) := by omega
  have hmk := makeFI s.size (by omega)
  have HM := hid (World.rowIs_made w (.int .i64 0) s.size 3)
  have HB0 : Hid (Below w.heap.size w (w.alloc (.cells (madeCells #[.int .i64 0] s.size) 3))) := (Below.refl _ _).alloc (Nat.le_refl _) _
  clear hs
  go_enter Try.func21, Try.ntmps21
  go_wp2_with fail
  clear hmk
  generalize w.alloc (.cells (madeCells #[.int .i64 0] s.size) 3) = ws at *
  go_loopw [15] (fun vi wr => ∃ k : Nat, k ≤ s.size ∧ vi = .int .i64 (k : Int) ∧ wr.rowIs w.heap.size 3 s.size (fun j => if j < k then fn (((bytesOf s)[j]?.getD 0).toNat) else .int .i64 0) ∧ Below w.heap.size w wr ∧ ∀ c ∈ (bytesOf s).take k, c.toNat < 128) (fun vi _ => s.size - (intOf vi).toNat)
  case atStart => exact ⟨0, Nat.zero_le _, rfl, HM.out.congr (fun j hj => by rw [if_neg (by omega)]), HB0.out, by simp⟩
  case round =>
    obtain ⟨k, hk, rfl, hr, hb, hall⟩ := hrel
    clear HM HB0
    by_cases hlt : k < s.size
    · have k0 : (0 : Int) ≤ (k : Int) := by omega
      have k1 : (k : Int) < (s.size : Int) := by omega
      have hcell := hr.cell hlt
      have hfz := hr.frozen k
      rw [if_neg (by omega)] at hcell
      have hbl := bytesOf_len s
      have hsk : (bytesOf s)[k]? = some s[k] := by
        rw [List.getElem?_eq_getElem (by omega)]; rfl
      have HS := hid hsk
      have hx256 := byte_lt s[k]
      have HST : Hid ((bytesOf s).take (k + 1) = (bytesOf s).take k ++ [s[k]]) := by
        show _ = _
        rw [List.take_succ_eq_append_getElem (by omega)]; rfl
      have HMem : Hid (s[k] ∈ bytesOf s) := List.mem_of_getElem? hsk
      obtain ⟨x, hx⟩ : ∃ x, x = s[k] := ⟨_, rfl⟩
      rw [← hx] at HS hx256 HST HMem
      obtain ⟨z, hz⟩ : ∃ z, x.toNat = z := ⟨_, rfl⟩
      have hz' : s[k].toNat = z := by rw [← hx, hz]
      have HZ := hid hz
      have HR := hid hr
      have HB := hid hb
      have HAL := hid hall
      have HK := hid hlt
      rw [hz] at hx256
      have z0 : (0 : Int) ≤ (z : Int) := by omega
      have z1 : (z : Int) < 256 := by omega
      clear hr hb hall hbl hsk hx hk hz
      by_cases h128 : z < 128
      · have g4 : ¬ (128 : Int) ≤ (z : Int) := by omega
        have HR2 : Hid ((wr.setCell ⟨w.heap.size, k, none⟩ (.int .i64 (z : Int))).rowIs w.heap.size 3 s.size (fun j => if j < k + 1 then fn (((bytesOf s)[j]?.getD 0).toNat) else .int .i64 0)) := by
          refine (HR.out.set k (.int .i64 (z : Int))).congr (fun j hj => ?_)
          by_cases hjk : j = k
          · subst hjk
            rw [if_pos rfl, if_pos (by omega), HS.out]
            show _ = fn x.toNat
            rw [HZ.out]
          · rw [if_neg hjk]
            by_cases hj2 : j < k
            · rw [if_pos hj2, if_pos (by omega)]
            · rw [if_neg hj2, if_neg (by omega)]
        have HB2 : Hid (Below w.heap.size w (wr.setCell ⟨w.heap.size, k, none⟩ (.int .i64 (z : Int)))) := HB.out.setCell (Nat.le_refl _) _
        have HA2 : Hid (∀ c ∈ (bytesOf s).take (k + 1), c.toNat < 128) := by
          show ∀ c ∈ (bytesOf s).take (k + 1), c.toNat < 128
          intro c hc
          rw [HST.out] at hc
          rcases List.mem_append.1 hc with h | h
          · exact HAL.out c h
          · rw [List.mem_singleton.1 h, HZ.out]; exact h128
        clear h128 hx256
        go_wp2_with fail
        go_roundw
        case rel => exact ⟨k + 1, HK.out, by go_num, HR2.out, HB2.out, HA2.out⟩
        case measure => have := HK.out; simp [intOf]; omega
      · have g4 : (128 : Int) ≤ (z : Int) := by omega
        have HN : Hid (¬ ∀ c ∈ bytesOf s, c.toNat < 128) := by
          intro h
          have := h x HMem.out
          have := HZ.out
          omega
        clear h128 hx256
        go_wp2_with fail
        go_ret2
        exact ⟨.inr ⟨HN.out, rfl⟩, HB.out⟩
    · have hbl := bytesOf_len s
      have hkl : k = s.size := by omega
      have HA2 : Hid (∀ c ∈ bytesOf s, c.toNat < 128) := by
        show ∀ c ∈ bytesOf s, c.toNat < 128
        rw [hkl, ← hbl, List.take_length] at hall; exact hall
      have HO : Hid (NOwn wr w.heap.size (.slice (some ⟨w.heap.size, 0, none⟩) s.size s.size) ((bytesOf s).map UInt8.toNat)) := by
        have := own_of_rowIs (base := w.heap.size) (l := (bytesOf s).map UInt8.toNat) hr (by simp; omega) (by unfold maxLen; omega) (Nat.le_refl _) (fun j c hj => by
          rw [List.getElem?_map] at hj
          have hjl : j < s.size := by
            rcases Nat.lt_or_ge j s.size with h' | h'
            · exact h'
            · rw [List.getElem?_eq_none (by omega)] at hj; cases hj
          rw [if_pos (by omega)]
          cases hq : (bytesOf s)[j]? with
          | none => rw [hq] at hj; cases hj
          | some y => rw [hq] at hj; injection hj with hj; simp [← hj])
        rw [List.length_map, hbl] at this
        exact this
      have HB := hid hb
      have g4 : ¬ (k : Int) < (s.size : Int) := by omega
      clear hr hb hall hbl hkl hk hlt
      go_wp2_with fail
      go_ret2
      exact ⟨.inl ⟨HA2.out, _, rfl, HO.out⟩, HB.out⟩
end Go.Proofs.Ytpjajiilgojbgaa
