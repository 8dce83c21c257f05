/- The walk of Decode. -/
import Derived.Test.YtpjajiilgojbgaaPunyH
import Derived.Test.YtpjajiilgojbgaaPunyE
namespace Go.Proofs.Ytpjajiilgojbgaa
open Go.RowKit Go.Shelf
set_option linter.unusedVariables false
def cutOf (s : ByteArray) : Nat := (Lib.lastIndexByte s 45).toNat
def dec (s : ByteArray) : Option (List Nat) :=
  if cutOf s = 0 then insF s.size [] (vals s) 128 0 72 true
  else if 256 < cutOf s then none
  else if ((bytesOf s).take (cutOf s)).all (fun c => decide (c.toNat < 128)) = true then insF (s.size - (cutOf s + 1)) (((bytesOf s).take (cutOf s)).map UInt8.toNat) ((vals s).drop (cutOf s + 1)) 128 0 72 true
  else none
def decR (s : ByteArray) : List Nat × Int := if 4000 < s.size then ([], 11) else match dec s with
  | none => ([], 4)
  | some m => (m, 0)
def ints (m : List Nat) : List Int := m.map (fun n : Nat => (n : Int))
theorem ints_row {w : World} {v : Value} {m : List Nat} (h : NRow w v m) : IRow w v (ints m) := by
  obtain ⟨a, cap, rfl, h1, h2, h3⟩ := h
  have hl : (ints m).length = m.length := by simp [ints]
  refine ⟨a, cap, by rw [hl], by omega, h2, fun hne => ?_⟩
  obtain ⟨b, off, rfl, hb, hc⟩ := h3 (by intro e; subst e; exact hne rfl)
  refine ⟨b, off, rfl, hb, fun i hi => ?_⟩
  rw [hc i (by omega)]
  simp [ints]
def DecPost (D : List Nat × Int) (w : World) (e : Ending) (w' : World) : Prop := (∃ v', e = .returned (.tuple #[v', .int .i64 D.2]) ∧ IRow w' v' (ints D.1)) ∧ Below w.heap.size w w'
theorem DecPost.bad {D : List Nat × Int} {w : World} {e : Ending} {w' : World} {n : Int} (h : D = ([], n)) (he : e = .returned (.tuple #[.slice none 0 0, .int .i64 n])) (hb : Below w.heap.size w w') : DecPost D w e w' := by
  subst h
  exact ⟨⟨_, he, Row.nil _ _⟩, hb⟩
theorem DecPost.good {D : List Nat × Int} {w : World} {e : Ending} {w' : World} {m : List Nat} {v' : Value} {base : Nat} (h : D = (m, 0)) (he : e = .returned (.tuple #[v', .int .i64 0])) (ho : NOwn w' base v' m) (hb : Below w.heap.size w w') : DecPost D w e w' := by
  subst h
  exact ⟨⟨_, he, ints_row ho.row⟩, hb⟩
theorem decR_long {s : ByteArray} (h : 4000 < s.size) : decR s = ([], 11) := by unfold decR; rw [if_pos h]
theorem decR_none {s : ByteArray} (h : ¬ 4000 < s.size) (hd : dec s = none) : decR s = ([], 4) := by unfold decR; rw [if_neg h, hd]
theorem decR_some {s : ByteArray} {m : List Nat} (h : ¬ 4000 < s.size) (hd : dec s = some m) : decR s = (m, 0) := by unfold decR; rw [if_neg h, hd]
theorem last_spec (s : ByteArray) : Lib.lastIndexByte s 45 = -1 ∨ ∃ i : Nat, i < s.size ∧ Lib.lastIndexByte s 45 = i := by
  rcases Lib.lastIdx_spec s 45 s.size with ⟨h, _⟩ | ⟨i, h1, h2, _⟩
  · exact .inl h
  · exact .inr ⟨i, h1, h2⟩
theorem extract_bytes (s : ByteArray) (c : Nat) (h : c ≤ s.size) : bytesOf (s.extract 0 c) = (bytesOf s).take c := by
  unfold bytesOf
  simp [ByteArray.data_extract]
theorem extract_size (s : ByteArray) (c : Nat) (h : c ≤ s.size) : (s.extract 0 c).size = c := by rw [← bytesOf_len, extract_bytes s c h, List.length_take, bytesOf_len]; omega
theorem extract_size2 (s : ByteArray) (c : Nat) (h : c ≤ s.size) : (s.extract c s.size).size = s.size - c := by rw [← vals_len, extract_vals s c h, List.length_drop, vals_len]
/-- Behind the cut. -/
theorem decode_rest (s p t : ByteArray) (w w1 : World) (hb : Below w.heap.size w w1) (hcut : Calls Try.prog 20 #[.string s] w fun e w' => e = .returned (.tuple #[.string p, .string t]) ∧ Below w.heap.size w w') (hs : ¬ 4000 < s.size) (hp : p.size ≤ 256) (ht : t.size ≤ 5000)
    (D : Option (List Nat)) (hD : D = if (bytesOf p).all (fun c => decide (c.toNat < 128)) = true then insF t.size ((bytesOf p).map UInt8.toNat) (vals t) 128 0 72 true else none) (hR : dec s = D) :
    Calls Try.prog 11 #[.string s] w fun e w' => DecPost (decR s) w e w' := by
  have g : ¬ (4000 : Int) < (s.size : Int) := by omega
  have HS := hid hs
  have HPS := hid hp
  have HC := hid hcut
  have HPl := hid (fun w' => plain_calls p w' hp)
  have HIn := hid (fun v l w' base ho hb hl => insert_signs_calls v l t w' base ho hb hl ht)
  have HD := hid hD
  have HR := hid hR
  clear hcut hp ht hD hR hs hb
  obtain ⟨Z, hZ⟩ : ∃ Z, Z = decR s := ⟨_, rfl⟩
  rw [← hZ]
  have HZ := hid hZ
  clear hZ
  go_enter Try.func11, Try.ntmps11
  go_wp2_with fail
  refine HC.out.mono ?_
  rintro e w2 ⟨rfl, hb2⟩
  have HB2 := hid hb2
  clear hb2
  go_wp2_with fail
  refine (HPl.out _).mono ?_
  rintro e w3 ⟨hp3, hb3⟩
  have HB3 := hid (below_trans HB2.out hb3)
  have HSz : Hid (w2.heap.size ≤ w3.heap.size) := hb3.size
  rcases hp3 with ⟨hall, v, rfl, ho⟩ | ⟨hall, rfl⟩
  · have hD1 : D = insF t.size ((bytesOf p).map UInt8.toNat) (vals t) 128 0 72 true := by
      rw [HD.out, if_pos (List.all_eq_true.2 (fun c hc => by simpa using hall c hc))]
    have HD1 := hid hD1
    have HO := hid ho
    clear hall ho hb3 hD1
    go_wp2_with fail
    refine (HIn.out _ _ _ _ HO.out HSz.out (by rw [List.length_map, bytesOf_len]; exact HPS.out)).mono ?_
    rintro e w4 ⟨hp4, hb4⟩
    have HB4 := hid (HB3.out.trans (hb4.mono HB2.out.size))
    clear hb4
    rcases hp4 with ⟨hn, rfl⟩ | ⟨m, v', hm, rfl, ho4⟩
    · have HX : Hid (Z = ([], 4)) := by show _ = _; rw [HZ.out, decR_none HS.out (by rw [HR.out, HD1.out, hn])]
      clear hn
      go_wp2_with fail
      go_ret2
      exact DecPost.bad HX.out rfl HB4.out
    · have HX : Hid (Z = (m, 0)) := by show _ = _; rw [HZ.out, decR_some HS.out (by rw [HR.out, HD1.out, hm])]
      have HO4 := hid ho4
      clear hm ho4
      go_wp2_with fail
      go_ret2
      exact DecPost.good HX.out rfl HO4.out HB4.out
  · have HX : Hid (Z = ([], 4)) := by
      show _ = _
      rw [HZ.out, decR_none HS.out]
      rw [HR.out, HD.out, if_neg]
      intro h
      exact hall (fun c hc => by simpa using List.all_eq_true.1 h c hc)
    clear hall hb3
    go_wp2_with fail
    go_ret2
    exact DecPost.bad HX.out rfl HB3.out
theorem decode_calls (s : ByteArray) (w : World) (hm : s.size ≤ maxLen) : Calls Try.prog 11 #[.string s] w fun e w' => DecPost (decR s) w e w' := by
  by_cases hlong : 4000 < s.size
  · rw [decR_long hlong]
    have g : (4000 : Int) < (s.size : Int) := by omega
    have g2 : (s.size : Int) ≤ 9223372036854775807 := by unfold maxLen at hm; omega
    clear hlong hm
    go_enter Try.func11, Try.ntmps11
    go_wp2_with fail
    go_ret2
    exact DecPost.bad rfl rfl (Below.refl _ _)
  · by_cases h0 : Lib.lastIndexByte s 45 ≤ 0
    · have hc : cutOf s = 0 := by unfold cutOf; omega
      refine decode_rest s (strOf []) s w w (Below.refl _ _) (cut_none s w (by omega) h0) hlong (by decide) (by omega) _ rfl ?_
      unfold dec
      rw [if_pos hc, if_pos (by rfl)]
      rfl
    · obtain ⟨c, hcl, hce⟩ : ∃ i : Nat, i < s.size ∧ Lib.lastIndexByte s 45 = i := by
        rcases last_spec s with h | h
        · omega
        · exact h
      have hc : cutOf s = c := by unfold cutOf; omega
      by_cases hbig : 256 < c
      · have HX : Hid (decR s = ([], 4)) := decR_none hlong (by unfold dec; rw [if_neg (by omega), if_pos (by omega)])
        have HC := hid (cut_some s w (by omega) c hce (by omega) hcl)
        have HPl := hid (fun w' => plain_long (s.extract 0 c) w' (by rw [extract_size s c (by omega)]; exact hbig) (by rw [extract_size s c (by omega)]; omega))
        have g : ¬ (4000 : Int) < (s.size : Int) := by omega
        obtain ⟨Z, hZ⟩ : ∃ Z, Z = decR s := ⟨_, rfl⟩
        rw [← hZ] at HX ⊢
        clear hlong hm h0 hcl hce hc hbig hZ
        go_enter Try.func11, Try.ntmps11
        go_wp2_with fail
        refine HC.out.mono ?_
        rintro e w2 ⟨rfl, hb2⟩
        have HB2 := hid hb2
        clear hb2
        go_wp2_with fail
        refine (HPl.out _).mono ?_
        rintro e w3 ⟨rfl, hb3⟩
        have HB3 := hid (below_trans HB2.out hb3)
        clear hb3
        go_wp2_with fail
        go_ret2
        exact DecPost.bad HX.out rfl HB3.out
      · refine decode_rest s (s.extract 0 c) (s.extract (c + 1) s.size) w w (Below.refl _ _) (cut_some s w (by omega) c hce (by omega) hcl) hlong (by rw [extract_size s c (by omega)]; omega) (by rw [extract_size2 s (c + 1) (by omega)]; omega) _ rfl ?_
        unfold dec
        rw [if_neg (by omega), if_neg (by omega), extract_bytes s c (by omega), extract_size2 s (c + 1) (by omega), extract_vals s (c + 1) (by omega), hc]
end Go.Proofs.Ytpjajiilgojbgaa
