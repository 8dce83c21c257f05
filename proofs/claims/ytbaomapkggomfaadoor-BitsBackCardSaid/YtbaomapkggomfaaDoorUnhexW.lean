/- The walk of Unhex (the program's). -/
import Derived.Test.YtbaomapkggomfaaDoorHexP
namespace Go.Proofs.YtbaomapkggomfaaDoor
open Go.RowKit
set_option linter.unusedVariables false
theorem digit_yes (c : UInt8) (d : Nat) (w : World) (h : dv c = some d) : Calls Tryd.prog 34 #[.int .u8 (c.toNat : Int)] w fun e w' => e = .returned (.tuple #[.int .u8 (d : Int), .bool true]) ∧ w' = w := by
  have HD := hid h
  have hcl := byte_lt c
  unfold dv at h
  generalize c.toNat = n at *
  by_cases h1 : 48 ≤ n ∧ n ≤ 57
  · rw [if_pos h1] at h
    obtain ⟨g1, g2⟩ := h1
    have hd : (n : Int) - 48 = (d : Int) := by simp at h; omega
    clear h HD
    go_enter Tryd.func34, Tryd.ntmps34
    go_wp2
    go_ret2
    exact ⟨rfl, rfl⟩
  · rw [if_neg h1] at h
    by_cases h2 : 97 ≤ n ∧ n ≤ 102
    · rw [if_pos h2] at h
      obtain ⟨g1, g2⟩ := h2
      have hd : (n : Int) - 97 + 10 = (d : Int) := by simp at h; omega
      have g3 : ¬ (n : Int) ≤ 57 := by omega
      clear h HD h1
      go_enter Tryd.func34, Tryd.ntmps34
      go_wp2
      go_ret2
      exact ⟨rfl, rfl⟩
    · rw [if_neg h2] at h
      cases h
theorem digit_no (c : UInt8) (w : World) (h : dv c = none) : Calls Tryd.prog 34 #[.int .u8 (c.toNat : Int)] w fun e w' => e = .returned (.tuple #[.int .u8 0, .bool false]) ∧ w' = w := by
  have hcl := byte_lt c
  unfold dv at h
  generalize c.toNat = n at *
  by_cases h1 : 48 ≤ n ∧ n ≤ 57
  · rw [if_pos h1] at h; cases h
  · rw [if_neg h1] at h
    by_cases h2 : 97 ≤ n ∧ n ≤ 102
    · rw [if_pos h2] at h; cases h
    · clear h
      have hc : n < 48 ∨ (57 < n ∧ n < 97) ∨ 102 < n := by omega
      clear h1 h2
      rcases hc with g | ⟨g1, g2⟩ | g
      all_goals
        go_enter Tryd.func34, Tryd.ntmps34
        go_wp2
        go_ret2
        exact ⟨rfl, rfl⟩
theorem digit_any (c : UInt8) (w : World) : Calls Tryd.prog 34 #[.int .u8 (c.toNat : Int)] w fun e w' => (∃ (d : Nat) (b : Bool), e = .returned (.tuple #[.int .u8 (d : Int), .bool b])) ∧ w' = w := by
  cases h : dv c with
  | none => exact (digit_no c w h).mono fun e w' ⟨a, b⟩ => ⟨⟨0, false, a⟩, b⟩
  | some d => exact (digit_yes c d w h).mono fun e w' ⟨a, b⟩ => ⟨⟨d, true, a⟩, b⟩
theorem data_len (s : ByteArray) : s.data.toList.length = s.size := by rw [Array.length_toList]; rfl
theorem data_at (s : ByteArray) (i : Nat) (h : i < s.size) : s.data.toList[i]? = some s[i] := by
  rw [List.getElem?_eq_getElem (by rw [data_len]; exact h)]; rfl
/-- What Unhex answers of a text: the bytes whose digits it is, or none. -/
def UnhexPost (s : ByteArray) (w : World) (e : Ending) (w' : World) : Prop := (∃ v o ok, e = .returned (.tuple #[v, .bool ok]) ∧ BRow w' v o ∧ ((ok = true ∧ hexL o = s.data.toList) ∨ (ok = false ∧ o = [] ∧ ∀ l, hexL l ≠ s.data.toList))) ∧ Below w.heap.size w w'
theorem UnhexPost.yes {s : ByteArray} {w w' : World} {v : Value} {o : List UInt8} (h : BRow w' v o) (he : hexL o = s.data.toList) (hb : Below w.heap.size w w') : UnhexPost s w (.returned (.tuple #[v, .bool true])) w' := ⟨⟨v, o, true, rfl, h, .inl ⟨rfl, he⟩⟩, hb⟩
theorem UnhexPost.no {s : ByteArray} {w w' : World} (hn : ∀ l, hexL l ≠ s.data.toList) (hb : Below w.heap.size w w') : UnhexPost s w (.returned (.tuple #[.slice none 0 0, .bool false])) w' := ⟨⟨_, [], false, rfl, nil_row _, .inr ⟨rfl, rfl, hn⟩⟩, hb⟩
/-- The cells that are filled. -/
def FillAt (m : Nat) (o : List UInt8) (arr : Array Value) : Prop := arr.size = m ∧ ∀ j (h : j < o.length), arr[j]? = some (.int .u8 (o[j].toNat : Int))
theorem FillAt.start (m : Nat) (arr : Array Value) (h : arr.size = m) : FillAt m [] arr := ⟨h, fun j hj => by simp at hj⟩
theorem FillAt.step {m : Nat} {o : List UInt8} {arr : Array Value} (h : FillAt m o arr) (hk : o.length < m) (c : UInt8) : FillAt m (o ++ [c]) (arr.setIfInBounds o.length (.int .u8 (c.toNat : Int))) := by
  refine ⟨by simpa using h.1, fun j hj => ?_⟩
  by_cases e : j = o.length
  · subst e
    rw [Array.getElem?_setIfInBounds_self_of_lt (by rw [h.1]; exact hk)]
    simp
  · have hj' : j < o.length := by simp at hj; omega
    rw [Array.getElem?_setIfInBounds_ne (by omega), h.2 j hj', List.getElem_append_left hj']
theorem FillAt.row {m : Nat} {o : List UInt8} {arr : Array Value} (h : FillAt m o arr) (hm : o.length = m) (hw : m ≤ 1000000) (w : World) : BRow (w.alloc (.cells arr 5)) (.slice (some ⟨w.heap.size, 0, none⟩) m m) o := by
  subst hm
  refine ⟨_, _, rfl, Nat.le_refl _, by unfold maxLen; omega, fun _ => ⟨_, _, rfl, by simp, fun i hi => ?_⟩⟩
  rw [World.cell?_alloc_at _ _ _ _ rfl, Nat.zero_add, h.2 i hi]
theorem u8pack (h l : Nat) (hh : h < 16) (hl : l < 16) : bits .or .u8 ((h : Int) * 16) (l : Int) = ((UInt8.ofNat (h * 16 + l)).toNat : Int) := by
  have e : (UInt8.ofNat (h * 16 + l)).toNat = h * 16 + l := by simp; omega
  have := Nat.two_pow_add_eq_or_of_lt (i := 4) (show l < 2 ^ 4 by omega) h
  rw [e, show h * 16 + l = h * 16 ||| l by rw [Nat.mul_comm h 16]; exact this]
  exact u8_or_nat (h * 16) l (by omega) (by omega)
theorem no_hex {bs : List UInt8} {k : Nat} {c1 c2 : UInt8} (h1 : bs[2 * k]? = some c1) (h2 : bs[2 * k + 1]? = some c2) (hn : dv c1 = none ∨ dv c2 = none) : ∀ l, hexL l ≠ bs := by
  intro l e
  have hl : l.length * 2 = bs.length := by rw [← e, hex_len]; omega
  have hb : 2 * k + 1 < bs.length := by
    rcases Nat.lt_or_ge (2 * k + 1) bs.length with h | h
    · exact h
    · rw [List.getElem?_eq_none h] at h2; cases h2
  obtain ⟨p1, p2⟩ := hex_split l k (by omega)
  rw [e, h1] at p1
  rw [e, h2] at p2
  injection p1 with p1
  injection p2 with p2
  rcases hn with hn | hn
  · rw [p1, (pair_dv _).1] at hn; cases hn
  · rw [p2, (pair_dv _).2] at hn; cases hn
theorem hex_step {bs o : List UInt8} {k : Nat} {c1 c2 : UInt8} {h l : Nat} (ho : o.length = k) (hp : hexL o = bs.take (2 * k)) (h1 : bs[2 * k]? = some c1) (h2 : bs[2 * k + 1]? = some c2) (d1 : dv c1 = some h) (d2 : dv c2 = some l) :
    hexL (o ++ [UInt8.ofNat (h * 16 + l)]) = bs.take (2 * (k + 1)) := by
  rw [hex_append, hex_one, pair_of h l (dv_lt d1) (dv_lt d2), dg_dv d1, dg_dv d2, hp, show 2 * (k + 1) = 2 * k + 1 + 1 by omega, List.take_add_one, List.take_add_one, h1, h2]
  simp
set_option maxHeartbeats 1000000 in
theorem unhex_calls (s : ByteArray) (w : World) (hs : s.size ≤ 100000) :
    Calls Tryd.prog 28 #[.string s] w fun e w' => UnhexPost s w e w' := by
  by_cases hodd : s.size % 2 = 1
  · have hz : ((s.size : Int) % 2 != 0) = true := by rw [bne_iff_ne]; omega
    have HN : Hid (∀ l, hexL l ≠ s.data.toList) := by
      intro l e
      have := congrArg List.length e
      rw [hex_len] at this
      have e2 := data_len s
      omega
    go_enter Tryd.func28, Tryd.ntmps28
    go_wp2
    go_ret2
    exact UnhexPost.no HN.out (Below.refl _ _)
  · obtain ⟨m, hm⟩ : ∃ m, s.size = 2 * m := ⟨s.size / 2, by omega⟩
    have hz : ((s.size : Int) % 2 != 0) = false := by rw [bne_eq_false_iff_eq]; omega
    have hq : (s.size : Int) / 2 = (m : Int) := by omega
    have m1 : s.size ≤ 2 * m := by omega
    have m2 : 2 * m ≤ s.size := by omega
    have hmk := make_bytes m (by omega)
    clear hm hodd
    go_enter Tryd.func28, Tryd.ntmps28
    go_wp2
    go_loopw [20] (fun i wr => ∃ (k : Nat) (o : List UInt8) (arr : Array Value), k ≤ m ∧ i = .int .i64 k ∧ o.length = k ∧ hexL o = s.data.toList.take (2 * k) ∧ wr = w.alloc (.cells arr 5) ∧ FillAt m o arr) (fun i _ => m - (intOf i).toNat)
    case atStart => exact ⟨0, [], _, Nat.zero_le _, rfl, rfl, rfl, rfl, FillAt.start m _ (size_madeCells _ _)⟩
    case round =>
      obtain ⟨k, o, arr, hk, rfl, ho, hp, rfl, hf⟩ := hrel
      clear hmk hq
      by_cases hlt : k < m
      · have HO := hid ho
        have HP := hid hp
        have HF := hid hf
        have hsz : k < arr.size := by rw [hf.1]; exact hlt
        clear ho hp hf
        have A1 := hid (data_at s (2 * k) (by omega))
        have A2 := hid (data_at s (2 * k + 1) (by omega))
        have HB : Hid (Below w.heap.size w (w.alloc (.cells arr 5))) := (Below.refl _ _).alloc (Nat.le_refl _) _
        cases d1 : dv s[2 * k] with
        | none =>
          have HN := hid (no_hex A1.out A2.out (.inl d1))
          have D1 := hid d1
          clear d1
          go_wp2_with fail
          refine (digit_no _ _ D1.out).mono ?_
          rintro e w1 ⟨rfl, rfl⟩
          go_wp2_with fail
          refine (digit_any _ _).mono ?_
          rintro e w1 ⟨⟨d, b, rfl⟩, rfl⟩
          go_wp2_with fail
          go_ret2
          exact UnhexPost.no HN.out (HB.out)
        | some h =>
          have D1 := hid d1
          have hh := dv_lt d1
          clear d1
          cases d2 : dv s[2 * k + 1] with
          | none =>
            have HN := hid (no_hex A1.out A2.out (.inr d2))
            have D2 := hid d2
            clear d2
            go_wp2_with fail
            refine (digit_yes _ _ _ D1.out).mono ?_
            rintro e w1 ⟨rfl, rfl⟩
            go_wp2_with fail
            refine (digit_no _ _ D2.out).mono ?_
            rintro e w1 ⟨rfl, rfl⟩
            go_wp2_with fail
            go_ret2
            exact UnhexPost.no HN.out (HB.out)
          | some l =>
            have D2 := hid d2
            have hl := dv_lt d2
            clear d2
            have HE := hid (hex_step HO.out HP.out A1.out A2.out D1.out D2.out)
            have pk := u8pack h l hh hl
            have HF2 := hid (HF.out.step (by rw [HO.out]; exact hlt) (UInt8.ofNat (h * 16 + l)))
            rw [HO.out] at HF2
            generalize UInt8.ofNat (h * 16 + l) = c at *
            go_wp2_with fail
            refine (digit_yes _ _ _ D1.out).mono ?_
            rintro e w1 ⟨rfl, rfl⟩
            go_wp2_with fail
            refine (digit_yes _ _ _ D2.out).mono ?_
            rintro e w1 ⟨rfl, rfl⟩
            go_wp2_with fail
            go_roundw
            case rel => exact ⟨k + 1, o ++ [c], _, by omega, by go_num, by rw [List.length_append, HO.out]; rfl, HE.out, rfl, HF2.out⟩
            case measure => simp [intOf]; omega
      · have hkm : k = m := by omega
        have HX : Hid (hexL o = s.data.toList) := by
          have e2 := data_len s
          rw [List.take_of_length_le (by omega)] at hp
          exact hp
        have HR := hid (hf.row (by omega) (by omega) w)
        clear ho hp hf hkm
        go_wp2
        go_ret2
        exact UnhexPost.yes HR.out HX.out ((Below.refl _ _).alloc (Nat.le_refl _) _)
end Go.Proofs.YtbaomapkggomfaaDoor
