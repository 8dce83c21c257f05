/- Rows of texts; the document's digits and hex. -/
import Derived.Test.YtghhdccnocpobaaDoorRowW
import Derived.Test.YtghhdccnocpobaaDoorPctC
import Derived.Test.YtghhdccnocpobaaDoorIpA
namespace Go.Proofs.YtghhdccnocpobaaDoor
open Go.RowKit
set_option linter.unusedVariables false
set_option maxRecDepth 20000
abbrev fs (l : List UInt8) : Value := .string (strOf l)
abbrev SRow (w : World) (v : Value) (ps : List (List UInt8)) : Prop := Row fs w v ps
abbrev SOwn (w : World) (base : Nat) (v : Value) (ps : List (List UInt8)) : Prop := Own fs 9 w base v ps
theorem str_data (L : List UInt8) : (strOf L).data.toList = L := rfl
theorem str_size (L : List UInt8) : (strOf L).size = L.length := rfl
theorem of_data (s : ByteArray) : s = strOf s.data.toList := rfl
theorem info_str : (Tryd.prog.info? 9).map (fun i => (i.zero, i.size, i.bytes)) = some (some (.string ⟨#[]⟩), 1, 16) := by kernel_rfl
theorem appendS_run {w : World} {base : Nat} {v : Value} {xs : List (List UInt8)} (hown : SOwn w base v xs) {x : Value} {l : List (List UInt8)} (hx : SRow w x l) (hlen : xs.length + l.length ≤ 1000000) (hbase : base ≤ w.heap.size) :
    ∃ v' w', (Builtin.append_ #[43, 43] 43 #[v, x]).run Tryd.prog w = .ok v' w' ∧ SOwn w' base v' (xs ++ l) ∧ w.grownBy w' v.ownBlock :=
  append_gen (fun _ => rfl) Tryd.underlying43 info_str rfl (by decide) hown hx hlen hbase
theorem oneS_row (w : World) (l : List UInt8) : SRow (w.alloc (.cells #[.string (strOf l)] 9)) (.slice (some ⟨w.heap.size, 0, none⟩) 1 1) [l] := Row.lit fs w [l] 9 (0, 0) (by simp)
theorem cut_mid (s : ByteArray) (a b : Nat) (h : b ≤ s.size) : s.extract a b = strOf ((s.data.toList.drop a).take (b - a)) := by
  apply ByteArray.ext
  rw [ByteArray.data_extract]
  apply Array.toList_inj.1
  rw [Array.toList_extract, List.extract_eq_take_drop]
  rfl
theorem rd_some {n d : Nat} (h : hexV n = some d) : rd n = (d : Int) := by unfold rd; rw [h]
theorem rd_none {n : Nat} (h : hexV n = none) : rd n = -1 := by unfold rd; rw [h]
theorem digB_some {b d : Nat} {c : UInt8} (h : hexV c.toNat = some d) : digB b c = decide (d < b) := by unfold digB; rw [h]
theorem digB_none {b : Nat} {c : UInt8} (h : hexV c.toNat = none) : digB b c = false := by unfold digB; rw [h]
theorem digs_hit {s : ByteArray} {b k : Nat} (h : k < s.size) (ha : digsR b (s.data.toList.take k) = true) (hb : digB b s[k] = true) : digsR b (s.data.toList.take (k + 1)) = true := by
  have hl : k < s.data.toList.length := by rw [bytes_num]; exact h
  unfold digsR at ha ⊢
  rw [List.take_succ_eq_append_getElem hl, List.all_append, ha]
  simp only [List.all_cons, List.all_nil, Bool.and_true, Bool.true_and]
  exact hb
theorem digs_miss {s : ByteArray} {b k : Nat} (h : k < s.size) (hb : digB b s[k] = false) : digsR b s.data.toList = false := by
  unfold digsR
  rw [List.all_eq_false]
  refine ⟨s[k], ?_, by rw [hb]; decide⟩
  have hl : k < s.data.toList.length := by rw [bytes_num]; exact h
  exact List.getElem_mem (l := s.data.toList) (n := k) hl
theorem digs_end {s : ByteArray} {b k : Nat} (h : ¬ k < s.size) (ha : digsR b (s.data.toList.take k) = true) : digsR b s.data.toList = true := by
  rw [List.take_of_length_le (by rw [bytes_num]; omega)] at ha
  exact ha
set_option maxHeartbeats 1000000 in
theorem digits_calls (s : ByteArray) (b : Nat) (w : World) (hs : s.size ≤ 100000) (hb16 : b ≤ 16) :
    Calls Tryd.prog 32 #[.string s, .int .i64 (b : Int)] w fun e w' => e = .returned (.bool (digsR b s.data.toList)) ∧ w' = w := by
  have s1 : (s.size : Int) ≤ 100000 := by omega
  obtain ⟨R, hR⟩ : ∃ R, R = digsR b s.data.toList := ⟨_, rfl⟩
  rw [← hR]
  have HR := hid hR
  clear hR hs
  go_enter Tryd.func32, Tryd.ntmps32
  go_wp2_with fail
  go_loop [5] (fun vi => ∃ k : Nat, k ≤ s.size ∧ vi = .int .i64 (k : Int) ∧ digsR b (s.data.toList.take k) = true) (fun vi => s.size - (intOf vi).toNat)
  case atStart => exact ⟨0, Nat.zero_le _, rfl, by rw [List.take_zero]; rfl⟩
  case round =>
    obtain ⟨k, hk, rfl, hall⟩ := hrel
    have HA := hid hall
    have k0 : (0 : Int) ≤ (k : Int) := by omega
    clear hall
    by_cases hlt : k < s.size
    · have k1 : (k : Int) < (s.size : Int) := by omega
      have HH := hid (fun h => digs_hit (b := b) hlt HA.out h)
      have HM := hid (fun h => digs_miss (b := b) hlt h)
      obtain ⟨z, hz⟩ : ∃ z, (s[k]'hlt).toNat = z := ⟨_, rfl⟩
      have z9 : z < 256 := by rw [← hz]; exact byte_lt _
      have HD0 : Hid (hexV z = none → digB b (s[k]'hlt) = false) := fun h => digB_none (by rw [hz]; exact h)
      have HD : Hid (∀ d, hexV z = some d → digB b (s[k]'hlt) = decide (d < b)) := fun d h => digB_some (by rw [hz]; exact h)
      have HC := hid (rdigit_calls z z9)
      have HK := hid hlt
      clear z9 hk
      cases hv : hexV z with
      | none =>
        rw [rd_none hv] at HC
        have HF : Hid (R = false) := by show R = false; rw [HR.out]; exact HM.out (HD0.out hv)
        clear HH HM HD HD0 hv
        go_wp2_with fail
        refine (HC.out _).mono ?_
        rintro e wz ⟨rfl, rfl⟩
        go_wp2_with fail
        go_ret
        exact ⟨by rw [HF.out]; rfl, rfl⟩
      | some d =>
        rw [rd_some hv] at HC
        by_cases hdb : d < b
        · have HX := hid (HH.out (by rw [HD.out d hv]; simpa using hdb))
          have d0 : (0 : Int) ≤ (d : Int) := by omega
          have d1 : ¬ (b : Int) ≤ (d : Int) := by omega
          clear HH HM HD HD0 hv hdb
          go_wp2_with fail
          refine (HC.out _).mono ?_
          rintro e wz ⟨rfl, rfl⟩
          go_wp2_with fail
          go_round
          case rel => exact ⟨k + 1, HK.out, by go_num, HX.out⟩
          case measure => have := HK.out; simp [intOf]; omega
        · have HF : Hid (R = false) := by show R = false; rw [HR.out]; exact HM.out (by rw [HD.out d hv]; simpa using hdb)
          have d0 : (0 : Int) ≤ (d : Int) := by omega
          have d1 : (b : Int) ≤ (d : Int) := by omega
          clear HH HM HD HD0 hv hdb
          go_wp2_with fail
          refine (HC.out _).mono ?_
          rintro e wz ⟨rfl, rfl⟩
          go_wp2_with fail
          go_ret
          exact ⟨by rw [HF.out]; rfl, rfl⟩
    · have HF : Hid (R = true) := by show R = true; rw [HR.out]; exact digs_end hlt HA.out
      have g : ¬ (k : Int) < (s.size : Int) := by omega
      clear hlt hk
      go_wp2_with fail
      go_ret
      exact ⟨by rw [HF.out]; rfl, rfl⟩
theorem hexR_short {s : ByteArray} (h : ¬ 2 ≤ s.size) : hexR s.data.toList = false := by
  have hl := bytes_num s
  revert hl
  generalize s.data.toList = l
  intro hl
  match l, hl with
  | [], _ => rfl
  | [a], _ => rfl
  | a :: b :: r, hl => exfalso; simp at hl; omega
theorem hexR_long {s : ByteArray} (h : 2 ≤ s.size) : hexR s.data.toList = ((s[0]'(by omega)).toNat == 48 && ((s[1]'(by omega)).toNat == 120 || (s[1]'(by omega)).toNat == 88)) := by
  have h0 := bytes_at s 0 (by omega)
  have h1 := bytes_at s 1 (by omega)
  have hb : ∀ (x : UInt8) (n : UInt8), (x == n) = (x.toNat == n.toNat) := by
    intro x n
    by_cases e : x = n
    · subst e; simp
    · rw [beq_eq_false_iff_ne.2 e, beq_eq_false_iff_ne.2 (fun e' => e (UInt8.toNat_inj.1 e'))]
  revert h0 h1
  generalize s.data.toList = l
  generalize (s[0]'(by omega)) = a
  generalize (s[1]'(by omega)) = b
  intro h0 h1
  match l, h0, h1 with
  | x :: y :: r, h0, h1 =>
    simp at h0 h1
    subst h0 h1
    show (x == 48 && (y == 120 || y == 88)) = _
    rw [hb x 48, hb y 120, hb y 88]
    rfl
  | [x], h0, h1 => simp at h1
  | [], h0, h1 => simp at h0
set_option maxHeartbeats 1000000 in
theorem hex_calls (s : ByteArray) (w : World) (hs : s.size ≤ 100000) :
    Calls Tryd.prog 33 #[.string s] w fun e w' => e = .returned (.bool (hexR s.data.toList)) ∧ w' = w := by
  have s1 : (s.size : Int) ≤ 100000 := by omega
  obtain ⟨R, hR⟩ : ∃ R, R = hexR s.data.toList := ⟨_, rfl⟩
  rw [← hR]
  have HR := hid hR
  clear hR hs
  by_cases h2 : 2 ≤ s.size
  · have HL := hid (hexR_long h2)
    obtain ⟨x, hx⟩ : ∃ x, (s[0]'(by omega)).toNat = x := ⟨_, rfl⟩
    obtain ⟨y, hy⟩ : ∃ y, (s[1]'(by omega)).toNat = y := ⟨_, rfl⟩
    rw [hx, hy] at HL
    have p2 : (2 : Int) ≤ (s.size : Int) := by omega
    have p0 : (0 : Int) < (s.size : Int) := by omega
    have p1 : (1 : Int) < (s.size : Int) := by omega
    have q1 : 1 < s.size := by omega
    have q0 : 0 < s.size := by omega
    by_cases hx48 : x = 48
    · subst hx48
      by_cases hy1 : y = 120
      · subst hy1
        have HF : Hid (R = true) := by show R = true; rw [HR.out, HL.out]; rfl
        clear HL HR
        go_enter Tryd.func33, Tryd.ntmps33
        go_wp2_with fail
        go_ret
        exact ⟨by rw [HF.out]; rfl, rfl⟩
      · have e1 : ((y : Int) == 120) = false := by rw [beq_eq_false_iff_ne]; omega
        by_cases hy2 : y = 88
        · subst hy2
          have HF : Hid (R = true) := by show R = true; rw [HR.out, HL.out]; rfl
          clear HL HR hy1
          go_enter Tryd.func33, Tryd.ntmps33
          go_wp2_with fail
          go_ret
          exact ⟨by rw [HF.out]; rfl, rfl⟩
        · have e2 : ((y : Int) == 88) = false := by rw [beq_eq_false_iff_ne]; omega
          have HF : Hid (R = false) := by show R = false; rw [HR.out, HL.out, beq_eq_false_iff_ne.2 hy1, beq_eq_false_iff_ne.2 hy2]; rfl
          clear HL HR hy1 hy2
          go_enter Tryd.func33, Tryd.ntmps33
          go_wp2_with fail
          go_ret
          exact ⟨by rw [HF.out]; rfl, rfl⟩
    · have e1 : ((x : Int) == 48) = false := by rw [beq_eq_false_iff_ne]; omega
      have HF : Hid (R = false) := by show R = false; rw [HR.out, HL.out, beq_eq_false_iff_ne.2 hx48]; rfl
      clear HL HR hx48
      go_enter Tryd.func33, Tryd.ntmps33
      go_wp2_with fail
      go_ret
      exact ⟨by rw [HF.out]; rfl, rfl⟩
  · have HF : Hid (R = false) := by show R = false; rw [HR.out]; exact hexR_short h2
    have p2 : ¬ (2 : Int) ≤ (s.size : Int) := by omega
    clear h2
    go_enter Tryd.func33, Tryd.ntmps33
    go_wp2_with fail
    go_ret
    exact ⟨by rw [HF.out]; rfl, rfl⟩
end Go.Proofs.YtghhdccnocpobaaDoor
