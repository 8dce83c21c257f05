/- Texts of one proof, laid behind one another. -/
import Derived.Test.YtkpkfcoljccimaaDoorBundI
import Derived.Test.YtkpkfcoljccimaaDoorBundH
/- The program's ToASCII. -/
namespace Go.Proofs.YtkpkfcoljccimaaDoor
open Go.RowKit
set_option linter.unusedVariables false
set_option maxRecDepth 20000
theorem goI_count : ∀ (r cur : List Int), (goI cur r).length ≤ r.length + 1
  | [], cur => by simp [goI]
  | c :: r, cur => by
    unfold goI
    split
    · rw [List.length_cons, List.length_cons]; have := goI_count r []; omega
    · rw [List.length_cons]; have := goI_count r (cur ++ [c]); omega
theorem goI_ne : ∀ (r cur : List Int), goI cur r ≠ []
  | [], cur => by simp [goI]
  | c :: r, cur => by
    unfold goI
    split
    · simp
    · exact goI_ne r _
theorem goI_short : ∀ (r cur p : List Int), p ∈ goI cur r → p.length ≤ cur.length + r.length
  | [], cur, p, h => by
    simp [goI] at h
    subst h
    simp
  | c :: r, cur, p, h => by
    unfold goI at h
    split at h
    · rcases List.mem_cons.1 h with rfl | h
      · simp
      · have := goI_short r [] p h
        simp at this ⊢
        omega
    · have := goI_short r (cur ++ [c]) p h
      simp at this ⊢
      omega
theorem joinA_err : ∀ (ps : List (List Int)) (acc : List UInt8) (first : Bool) (k : Nat) (hk : k < ps.length), (∀ p ∈ ps.take k, (labR p).2 = 0) → (labR ps[k]).2 ≠ 0 → joinA acc first ps = (strOf [], (labR ps[k]).2)
  | p :: ps, acc, first, 0, hk, _, he => by
    have he' : ¬ (labR p).2 = 0 := he
    show (if (labR p).2 = 0 then _ else _) = (strOf [], (labR p).2)
    rw [if_neg he']
  | p :: ps, acc, first, k + 1, hk, hall, he => by
    show (if (labR p).2 = 0 then joinA _ false ps else _) = _
    rw [if_pos (hall p (by simp))]
    exact joinA_err ps _ false k (by simpa using hk) (fun q hq => hall q (by simp; exact .inr hq)) (by simpa using he)
theorem joinL_most : ∀ (bs : List (List UInt8)) (first : Bool) (n : Nat), (∀ b ∈ bs, b.length ≤ n) → (joinL first bs).length ≤ bs.length * (n + 1)
  | [], first, n, _ => by simp [joinL]
  | b :: bs, first, n, h => by
    rw [joinL_cons, List.length_append, List.length_append, List.length_cons, Nat.add_mul, Nat.one_mul]
    have h1 := joinL_most bs false n (fun c hc => h c (List.mem_cons_of_mem _ hc))
    have h2 := h b List.mem_cons_self
    have h3 : (dotB first).length ≤ 1 := by unfold dotB; split <;> simp
    omega
/-- How far the labels are told. -/
def LabAt (ps : List (List Int)) (k : Nat) (xs : List ByteArray) : Prop := k ≤ ps.length ∧ xs = (ps.take k).map (fun p => (labR p).1) ∧ ∀ p ∈ ps.take k, (labR p).2 = 0
theorem LabAt.start (ps : List (List Int)) : LabAt ps 0 [] := ⟨Nat.zero_le _, rfl, by simp⟩
theorem LabAt.next {ps : List (List Int)} {k : Nat} {xs : List ByteArray} (h : LabAt ps k xs) (hk : k < ps.length) (he : (labR ps[k]).2 = 0) : LabAt ps (k + 1) (xs ++ [(labR ps[k]).1]) := by
  obtain ⟨_, h1, h2⟩ := h
  refine ⟨hk, ?_, ?_⟩
  · rw [List.take_succ_eq_append_getElem hk, List.map_append, h1]; rfl
  · intro p hp
    rw [List.take_succ_eq_append_getElem hk] at hp
    rcases List.mem_append.1 hp with g | g
    · exact h2 p g
    · rw [List.mem_singleton.1 g]; exact he
theorem LabAt.err {ps : List (List Int)} {k : Nat} {xs : List ByteArray} (h : LabAt ps k xs) (hk : k < ps.length) (he : (labR ps[k]).2 ≠ 0) : joinA [] true ps = (strOf [], (labR ps[k]).2) := joinA_err ps [] true k hk h.2.2 he
theorem LabAt.fin {ps : List (List Int)} {k : Nat} {xs : List ByteArray} (h : LabAt ps k xs) (hk : ¬ k < ps.length) : joinA [] true ps = finA (joinL true (xs.map bytesOf)) ∧ xs.length = ps.length := by
  obtain ⟨h0, h1, h2⟩ := h
  rw [List.take_of_length_le (by omega)] at h1 h2
  subst h1
  refine ⟨?_, by simp⟩
  rw [joinA_ok ps [] true h2]
  simp [Function.comp_def]
theorem LabAt.len {ps : List (List Int)} {k : Nat} {xs : List ByteArray} (h : LabAt ps k xs) : xs.length = k := by
  obtain ⟨h0, h1, h2⟩ := h
  subst h1
  simp; omega
theorem LabAt.sizes {ps : List (List Int)} {k : Nat} {xs : List ByteArray} (h : LabAt ps k xs) (hp : ∀ p ∈ ps, p.length ≤ 100000) : ∀ b ∈ xs.map bytesOf, b.length ≤ 11000000 := by
  obtain ⟨h0, h1, h2⟩ := h
  subst h1
  intro b hb
  simp only [List.mem_map] at hb
  obtain ⟨x, ⟨p, hp1, rfl⟩, rfl⟩ := hb
  rw [bytesOf_len]
  exact labR_size p (hp p (List.mem_of_mem_take hp1))
theorem ascR_map {l : List Int} (h : l.length ≤ 256) (hf : Fine l) : ascR l = joinA [] true (goI [] (mapOf l)) := by
  unfold ascR
  rw [if_neg (by omega), if_pos (fine_all hf), goA_pieces]
theorem ascR_bad {l : List Int} {i : Nat} (h : l.length ≤ 256) (hf : BadAt l i) : ascR l = (strOf [], 4) := by
  unfold ascR
  rw [if_neg (by omega), if_neg (by rw [bad_all hf]; decide)]
theorem ascR_long {l : List Int} (h : 256 < l.length) : ascR l = (strOf [], 11) := by
  unfold ascR
  rw [if_pos h]
set_option maxRecDepth 20000 in
set_option maxHeartbeats 8000000 in
theorem iascii_calls (v : Value) (l : List Int) (w : World) (hv : IRow w v l) :
    Calls Tryd.prog 7 #[v] w fun e w' => e = .returned (.tuple #[.string (ascR l).1, .int .i64 (ascR l).2]) ∧ Below w.heap.size w w' := by
  have HV := hid hv
  obtain ⟨a, cap, rfl, h1, h2, h3⟩ := hv
  unfold maxLen at h2
  have l2 : (l.length : Int) ≤ (cap : Int) := by omega
  have l3 : (cap : Int) ≤ 9223372036854775807 := by omega
  obtain ⟨R, hR⟩ : ∃ R, R = ascR l := ⟨_, rfl⟩
  rw [← hR]
  clear h1 h2 h3
  by_cases hlong : 256 < l.length
  · have HX : Hid (R = (strOf [], 11)) := by show _ = _; rw [hR, ascR_long hlong]
    have g : (256 : Int) < (l.length : Int) := by omega
    clear hlong hR
    go_enter Tryd.func7, Tryd.ntmps7
    go_wp2_with fail
    go_ret2
    exact ⟨by rw [HX.out]; rfl, Below.refl _ _⟩
  · have g : decide ((256 : Int) < (l.length : Int)) = false := decide_eq_false (by omega)
    have hle : l.length ≤ 256 := by omega
    rcases fine_or l with hf | ⟨i0, hf⟩
    · have HR : Hid (R = joinA [] true (goI [] (mapOf l))) := by show _ = _; rw [hR, ascR_map hle hf]
      have HMp := hid (map_fine _ l w HV.out (by omega) hf)
      have HML : Hid ((mapOf l).length ≤ 512) := by show _ ≤ _; have := map_len l; omega
      clear hlong hR hf hle
      generalize mapOf l = m at *
      go_enter Tryd.func7, Tryd.ntmps7
      go_wp2_with fail
      refine HMp.out.mono ?_
      rintro e w1 ⟨⟨vm, rfl, hvm⟩, hb1⟩
      have HB1 := hid hb1
      have HVM := hid hvm.row
      clear hb1 hvm
      go_wp2_with fail
      refine (pieces_calls _ m _ HVM.out (by have := HML.out; omega)).mono ?_
      rintro e w2 ⟨⟨vp, rfl, xs, hvp, hvx⟩, hb2⟩
      have HB2 := hid (below_trans HB1.out hb2)
      have HEa := hid hvx
      have HVP := hid hvp
      have hel := hvx.len
      have hpc := goI_count m []
      have HNe := hid (goI_ne m [])
      have HPc : Hid (∀ p ∈ goI [] m, p.length ≤ 100000) := fun p hp => by have h9 := goI_short m [] p hp; rw [List.length_nil] at h9; have := HML.out; omega
      generalize goI [] m = ps at *
      have HPL : Hid (ps.length ≤ 513) := by show _ ≤ _; have := HML.out; omega
      rcases hvp with ⟨pa, pc, hE0, hE1, hE2, hE3⟩
      subst hE0
      unfold maxLen at hE2
      have mm1 : (xs.length : Int) ≤ (pc : Int) := by omega
      have mm2 : (pc : Int) ≤ 9223372036854775807 := by omega
      have mm3 : (xs.length : Int) ≤ 513 := by have := HPL.out; omega
      have HEL := hid hel
      clear hb2 hvx hE1 hE2 hE3 hpc hel HB1 HVM
      go_wp2_with fail
      go_loopw [7, 27] (fun vo vi wr => ∃ (k : Nat) (ys : List ByteArray), vi = .int .i64 (k : Int) ∧ LabAt ps k ys ∧ SOwn wr w2.heap.size vo ys ∧ Below w2.heap.size w2 wr) (fun _ vi _ => ps.length - (intOf vi).toNat)
      case atStart => exact ⟨0, [], rfl, LabAt.start _, Own.nil _ _ _ _, Below.refl _ _⟩
      case round =>
        obtain ⟨k, ys, rfl, hA, ho, hb⟩ := hrel
        have HA := hid hA
        have HO := hid ho
        have HB := hid hb
        have HBW := hid (below_trans HB2.out hb)
        have HSz : Hid (w2.heap.size ≤ wr.heap.size) := hb.size
        have k0 : (0 : Int) ≤ (k : Int) := by omega
        clear hA ho hb
        by_cases hlt : k < ps.length
        · have hkx : k < xs.length := by have := HEL.out; omega
          obtain ⟨b, off, rfl, hck⟩ := HVP.out.open HB.out k hkx
          have k1 : (k : Int) < (xs.length : Int) := by omega
          have HK := hid hlt
          have HLb := hid (fun w' hb => label_calls _ _ w' ((HEa.out.get k hkx hlt).below hb) (HPc.out _ (List.getElem_mem hlt)))
          have HNx := hid (HA.out.next hlt)
          have HEr := hid (HA.out.err hlt)
          have hlz := labR_size ps[k] (HPc.out _ (List.getElem_mem hlt))
          have HYL := hid HA.out.len
          generalize xs[k] = x at *
          obtain ⟨qa, qn, qc⟩ := x
          unfold fx at hck HLb
          simp only at hck HLb
          generalize labR ps[k] = X at *
          obtain ⟨p, n⟩ := X
          simp only at HNx HEr hlz HLb
          clear hlt hkx hlz
          by_cases hn : n = 0
          · subst hn
            have HN := hid (HNx.out (by first | rfl | trivial))
            clear HEr HNx
            go_wp2_with fail
            refine (HLb.out _ HB.out).mono ?_
            rintro e w4 ⟨rfl, hb4⟩
            have HS4 : Hid (w2.heap.size ≤ w4.heap.size) := Nat.le_trans HSz.out hb4.size
            have HO4 := hid (HO.out.below hb4)
            have HB4 := hid (HB.out.trans (hb4.mono HSz.out))
            obtain ⟨v5, w5, hr5, ho5, hg5⟩ := appendS_run (HO4.out.alloc (.cells #[.string p] 9)) (Row.lit fs w4 [p] 9 (0, 0) (by simp)) (by have := HYL.out; have := HPL.out; have := HK.out; simp; omega) (by have := HS4.out; simp; omega)
            have HO5 := hid ho5
            have HB5 := hid ((HB4.out.alloc HS4.out (.cells #[.string p] 9)).grown hg5 (by have := HS4.out; simp; omega) (Own.lt HO4.out))
            clear hb4 ho5 hg5
            go_wp2_with (at_builtin; go_must (refine wpList_append_run hr5 rfl _ _ rfl rfl rfl rfl ?_))
            go_roundw
            case rel => exact ⟨k + 1, _, by go_num, HN.out, HO5.out, HB5.out⟩
            case measure => have := HK.out; simp [intOf]; omega
          · have HX : Hid (R = (strOf [], n)) := by show _ = _; rw [HR.out]; exact HEr.out hn
            have n1 : (n == 0) = false := by rw [beq_eq_false_iff_ne]; exact hn
            have n2 : (n != 0) = true := by rw [bne_iff_ne]; exact hn
            clear HEr HNx hn
            go_wp2_with fail
            refine (HLb.out _ HB.out).mono ?_
            rintro e w4 ⟨rfl, hb4⟩
            have HB4 := hid (below_trans HBW.out hb4)
            clear hb4
            go_wp2_with fail
            go_ret2
            exact ⟨by rw [HX.out]; rfl, HB4.out⟩
        · have g1 : ¬ (k : Int) < (xs.length : Int) := by have := HEL.out; omega
          have hfin := HA.out.fin hlt
          have hys : ys ≠ [] := by
            intro h
            have h2 := hfin.2
            rw [h] at h2
            exact HNe.out (List.eq_nil_of_length_eq_zero h2.symm)
          have hsz : (joinL true (ys.map bytesOf)).length ≤ 140737488355328 := by
            have h1 := joinL_most (ys.map bytesOf) true 11000000 (HA.out.sizes HPc.out)
            rw [List.length_map, hfin.2] at h1
            have h2 := Nat.mul_le_mul_right (11000000 + 1) HPL.out
            omega
          have HJ := hid (join_calls _ ys wr HO.out.row hys (by rw [hfin.2]; have := HPL.out; omega) hsz)
          have HX : Hid (R = finA (joinL true (ys.map bytesOf))) := by show _ = _; rw [HR.out]; exact hfin.1
          generalize joinL true (ys.map bytesOf) = z at *
          have hzs : (strOf z).size = z.length := strOf_size z
          have z1 : ((strOf z).size : Int) ≤ 140737488355328 := by omega
          by_cases h253 : 253 < z.length
          · have HY : Hid (R = (strOf [], 3)) := by show _ = _; rw [HX.out]; unfold finA; rw [if_pos h253]
            have g2 : (253 : Int) < ((strOf z).size : Int) := by omega
            clear HX hfin hys hsz hzs h253 hlt
            generalize strOf z = s at *
            go_wp2_with fail
            refine HJ.out.mono ?_
            rintro e w4 ⟨rfl, hb4⟩
            have HB4 := hid (below_trans HBW.out hb4)
            clear hb4
            go_wp2_with fail
            go_ret2
            exact ⟨by rw [HY.out]; rfl, HB4.out⟩
          · have HY : Hid (R = (strOf z, 0)) := by show _ = _; rw [HX.out]; unfold finA; rw [if_neg h253]
            have g2 : ¬ (253 : Int) < ((strOf z).size : Int) := by omega
            clear HX hfin hys hsz hzs h253 hlt
            generalize strOf z = s at *
            go_wp2_with fail
            refine HJ.out.mono ?_
            rintro e w4 ⟨rfl, hb4⟩
            have HB4 := hid (below_trans HBW.out hb4)
            clear hb4
            go_wp2_with fail
            go_ret2
            exact ⟨by rw [HY.out]; rfl, HB4.out⟩
    · have HX : Hid (R = (strOf [], 4)) := by show _ = _; rw [hR, ascR_bad hle hf]
      have HMp := hid (map_bad _ l w HV.out (by omega) i0 hf)
      clear hlong hR hf hle
      go_enter Tryd.func7, Tryd.ntmps7
      go_wp2_with fail
      refine HMp.out.mono ?_
      rintro e w1 ⟨rfl, hb1⟩
      have HB1 := hid hb1
      clear hb1
      go_wp2_with fail
      go_ret2
      exact ⟨by rw [HX.out]; rfl, HB1.out⟩
end Go.Proofs.YtkpkfcoljccimaaDoor
/- first: what the chapter's examples fix; signs: of a text's bytes. -/
namespace Go.Proofs.YtkpkfcoljccimaaDoor
open Go.RowKit
set_option linter.unusedVariables false
set_option maxRecDepth 20000
theorem if1 : ascR [66, 220, 67, 72, 69, 82, 46, 100, 101] = (⟨#[120, 110, 45, 45, 98, 99, 104, 101, 114, 45, 107, 118, 97, 46, 100, 101]⟩, 0) := by
  have hm : mapOf [66, 220, 67, 72, 69, 82, 46, 100, 101] = [98, 252, 99, 104, 101, 114, 46, 100, 101] := by decide +kernel
  have hf : Fine [66, 220, 67, 72, 69, 82, 46, 100, 101] := by unfold Fine; decide +kernel
  rw [ascR_map (by decide) hf, hm]
  have hp : goI [] [98, 252, 99, 104, 101, 114, 46, 100, 101] = [[98, 252, 99, 104, 101, 114], [100, 101]] := by decide +kernel
  rw [hp]
  have h1 : labR [98, 252, 99, 104, 101, 114] = (strOf [120, 110, 45, 45, 98, 99, 104, 101, 114, 45, 107, 118, 97], 0) := by
    have he : encR [98, 252, 99, 104, 101, 114] = (strOf [98, 99, 104, 101, 114, 45, 107, 118, 97], 0) := by
      rw [encR_ok (by decide) (by decide +kernel)]
      have : enc (nats [98, 252, 99, 104, 101, 114]) = [98, 99, 104, 101, 114, 45, 107, 118, 97] := by decide +kernel
      rw [this]
    rw [labR_high (by decide +kernel) (by decide +kernel) (by rw [he]), he]
    rfl
  have h2 : labR [100, 101] = (strOf [100, 101], 0) := by
    rw [labR_plain (by decide +kernel) (by decide +kernel)]
    have : textL [100, 101] = [100, 101] := by decide +kernel
    unfold textB
    rw [this]
  rw [joinA_ok _ _ _ (by
    intro p hp
    rcases List.mem_cons.1 hp with rfl | hp
    · rw [h1]
    · rw [List.mem_singleton.1 hp, h2])]
  simp only [List.map_cons, List.map_nil, h1, h2]
  rfl
theorem if2 : (ascR [120, 110, 45, 45, 97]).2 = 4 := by
  have hm : mapOf [120, 110, 45, 45, 97] = [120, 110, 45, 45, 97] := by decide +kernel
  have hf : Fine [120, 110, 45, 45, 97] := by unfold Fine; decide +kernel
  rw [ascR_map (by decide) hf, hm]
  have hp : goI [] [120, 110, 45, 45, 97] = [[120, 110, 45, 45, 97]] := by decide +kernel
  rw [hp]
  have ht : textL [120, 110, 45, 45, 97] = [120, 110, 45, 45, 97] := by decide +kernel
  have hd : backOk (strOf [97]) = false := by
    have hl : Lib.lastIndexByte (strOf [97]) 45 = -1 := last_none [97] (by decide)
    have hn : dec (strOf [97]) = some [128] := by
      unfold dec cutOf
      rw [hl, if_pos (by decide)]
      decide +kernel
    have hr := decR_some (by rw [strOf_size]; decide) hn
    refine backOk_kind (c := 128) (by rw [hr]; decide) (by decide +kernel)
  have h1 : labR [120, 110, 45, 45, 97] = (strOf [], 4) := by
    rw [labR_back (by decide +kernel) (by rw [ht]; decide), ht]
    show (if backOk (strOf [97]) = true then _ else _) = _
    rw [if_neg (by rw [hd]; decide)]
  unfold joinA
  rw [h1]
  rfl
theorem jlitI (w : World) (l : List Int) (h : l.length ≤ 1000) : IRow (w.alloc (.cells (l.map fi).toArray 3)) (.slice (some ⟨w.heap.size, 0, none⟩) l.length l.length) l := Row.lit fi w l 3 (0, 0) h
theorem jbelow_alloc (w : World) (o : Obj) : Below w.heap.size w (w.alloc o) := (Below.refl _ _).alloc (Nat.le_refl _) _
set_option maxHeartbeats 1000000 in
theorem ifirst_calls (w : World) : Calls Tryd.prog 5 #[] w fun e w' => e = .returned (.bool true) ∧ Below w.heap.size w w' := by
  go_enter Tryd.func5, Tryd.ntmps5
  go_wp2_with fail
  refine (iascii_calls _ [66, 220, 67, 72, 69, 82, 46, 100, 101] _ (jlitI w [66, 220, 67, 72, 69, 82, 46, 100, 101] (by decide))).mono ?_
  rintro e w1 ⟨rfl, hb⟩
  rw [if1]
  have HB1 := hid (below_trans (jbelow_alloc w _) hb)
  clear hb
  go_wp2_with fail
  refine (iascii_calls _ [120, 110, 45, 45, 97] _ (jlitI w1 [120, 110, 45, 45, 97] (by decide))).mono ?_
  rintro e w2 ⟨rfl, hb⟩
  rw [if2]
  have HB2 := hid (below_trans HB1.out (below_trans (jbelow_alloc w1 _) hb))
  clear hb HB1
  generalize (ascR [120, 110, 45, 45, 97]).1 = s2
  go_wp2_with fail
  go_ret
  exact ⟨rfl, HB2.out⟩
set_option maxHeartbeats 1000000 in
theorem isigns_calls (s : ByteArray) (w : World) (hs : s.size ≤ 100000) :
    Calls Tryd.prog 14 #[.string s] w fun e w' => (∃ v', e = .returned v' ∧ IOwn w' w.heap.size v' (byteInts (bytesOf s))) ∧ Below w.heap.size w w' := by
  have HS := hid hs
  have s1 : (s.size : Int) ≤ 100000 := by omega
  clear hs
  go_enter Tryd.func14, Tryd.ntmps14
  go_wp2_with fail
  go_loopw [3, 4] (fun vo vk wq => ∃ (k : Nat), k ≤ s.size ∧ vk = .int .i64 (k : Int) ∧ IOwn wq w.heap.size vo (byteInts ((bytesOf s).take k)) ∧ Below w.heap.size w wq) (fun _ vk _ => s.size - (intOf vk).toNat)
  case atStart => exact ⟨0, Nat.zero_le _, rfl, Own.nil _ _ _ _, Below.refl _ _⟩
  case round =>
    obtain ⟨k, hk, rfl, ho, hb⟩ := hrel
    have HO := hid ho
    have HB := hid hb
    have HSz : Hid (w.heap.size ≤ wr.heap.size) := hb.size
    have k0 : (0 : Int) ≤ (k : Int) := by omega
    clear ho hb
    by_cases hkl : k < s.size
    · have k1 : (k : Int) < (s.size : Int) := by omega
      have HSn : Hid (byteInts ((bytesOf s).take (k + 1)) = byteInts ((bytesOf s).take k) ++ [(s[k].toNat : Int)]) := byteInts_snoc (bytesOf s) k (by rw [bytesOf_len]; exact hkl)
      have hx256 := byte_lt s[k]
      obtain ⟨y, hy⟩ : ∃ y, s[k].toNat = y := ⟨_, rfl⟩
      rw [hy] at hx256 HSn
      have y0 : (0 : Int) ≤ (y : Int) := by omega
      have y1 : (y : Int) < 256 := by omega
      have HKl := hid hkl
      have hlen2 : (byteInts ((bytesOf s).take k)).length ≤ 100000 := by unfold byteInts; rw [List.length_map, List.length_take, bytesOf_len]; have := HS.out; omega
      obtain ⟨v7, w7, hr7, ho7, hg7⟩ := appendI_big (HO.out.alloc (.cells #[.int .i64 (y : Int)] 3)) (Row.lit fi wr [(y : Int)] 3 (0, 0) (by simp)) (by simp at hlen2 ⊢; omega) (by have := HSz.out; simp; omega)
      have HO7 := hid ho7
      have HB7 := hid ((HB.out.alloc HSz.out (.cells #[.int .i64 (y : Int)] 3)).grown hg7 (by have := HSz.out; simp; omega) (Own.lt HO.out))
      clear ho7 hg7 hlen2 hx256 hk
      go_wp2_with (at_builtin; go_must (refine wpList_append_run hr7 rfl _ _ rfl rfl rfl rfl ?_))
      go_roundw
      case rel => exact ⟨k + 1, HKl.out, by go_num, by rw [HSn.out]; exact HO7.out, HB7.out⟩
      case measure => have := HKl.out; simp [intOf] <;> omega
    · have g5 : ¬ (k : Int) < (s.size : Int) := by omega
      have HOf : Hid (IOwn wr w.heap.size u3 (byteInts (bytesOf s))) := by
        have h := HO.out
        rw [List.take_of_length_le (by rw [bytesOf_len]; omega)] at h
        exact h
      clear hkl hk
      go_wp2_with fail
      go_ret
      exact ⟨⟨_, rfl, HOf.out⟩, HB.out⟩
end Go.Proofs.YtkpkfcoljccimaaDoor
/- Plain: how long a punycode can be; xn-- ahead, by signs; a label with high signs, told again. -/
namespace Go.Proofs.YtkpkfcoljccimaaDoor
open Go.RowKit
set_option linter.unusedVariables false
set_option maxRecDepth 20000
theorem numF_short : ∀ (g f k b n : Nat), n < 10 ^ g → (numF f k b n).length ≤ g + 1
  | g, 0, k, b, n, h => by simp [numF]
  | 0, f + 1, k, b, n, h => by
    unfold numF
    have := thr_ge k b
    rw [if_pos (by simp at h; omega)]
    simp
  | g + 1, f + 1, k, b, n, h => by
    unfold numF
    split
    · simp
    · have h1 := thr_ge k b
      have h2 := thr_le k b
      have h3 : (n - thr k b) / (36 - thr k b) ≤ (n - thr k b) / 10 := Nat.div_le_div_left (by omega) (by omega)
      have h4 : (n - thr k b) / 10 < 10 ^ g := by rw [Nat.pow_succ] at h; omega
      have := numF_short g f (k + 36) b ((n - thr k b) / (36 - thr k b)) (by omega)
      simp; omega
theorem scanD_short (s plain : Nat) : ∀ (r : List Nat) (delta bias done : Nat), delta + r.length < 1000000000 → (scanD s plain r delta bias done).1.length ≤ 10 * r.countP (· == s)
  | [], delta, bias, done, _ => by simp [scanD]
  | c :: r, delta, bias, done, hd => by
    rw [List.length_cons] at hd
    rcases Nat.lt_trichotomy c s with h | h | h
    · rw [scanD_lt h, List.countP_cons_of_neg (by simp; omega)]; exact scanD_short s plain r _ _ _ (by omega)
    · subst h
      rw [scanD_eq, List.countP_cons_of_pos (by simp)]
      have := scanD_short c plain r 0 (adapt delta (done + 1) (decide (done = plain))) (done + 1) (by omega)
      have h2 := numF_short 9 64 36 bias delta (by omega)
      simp only [List.length_append, num]
      omega
    · rw [scanD_gt h, List.countP_cons_of_neg (by simp; omega)]; exact scanD_short s plain r _ _ _ (by omega)
theorem encD_short (l : List Nat) (plain : Nat) (hl : l.length ≤ 256) (hS : ∀ c ∈ l, c ≤ 1114111) : ∀ (f delta bias n : Nat), n ≤ 1114112 → delta ≤ n * 300 → (encD l plain f delta bias n (l.countP (· < n))).length ≤ 10 * (l.length - l.countP (· < n))
  | 0, delta, bias, n, _, _ => by simp [encD]
  | f + 1, delta, bias, n, hn, hd => by
    unfold encD
    split
    · rename_i hlt
      simp only [List.length_append]
      obtain ⟨hm, hs1, hs2, hs3⟩ := least_spec hS hlt
      generalize least l n = s at *
      have hmul : (s - n) * (l.countP (· < n) + 1) ≤ (s - n) * 257 := Nat.mul_le_mul_left _ (by omega)
      have hdl : delta + (s - n) * (l.countP (· < n) + 1) ≤ s * 300 := by omega
      have h1 := scanD_short s plain l (delta + (s - n) * (l.countP (· < n) + 1)) bias (l.countP (· < n)) (by omega)
      have h2 := scanD_delta s plain l (delta + (s - n) * (l.countP (· < n) + 1)) bias (l.countP (· < n))
      have h3 := scanD_done s plain l (delta + (s - n) * (l.countP (· < n) + 1)) bias (l.countP (· < n))
      have hc1 := countP_le_least hs3 hs1
      have hc2 := countP_next l s
      have hc3 : l.countP (· < s + 1) ≤ l.length := List.countP_le_length
      have he : (scanD s plain l (delta + (s - n) * (l.countP (· < n) + 1)) bias (l.countP (· < n))).2.2.2 = l.countP (· < s + 1) := by rw [h3]; omega
      rw [he]
      have h4 := encD_short l plain hl hS f ((scanD s plain l (delta + (s - n) * (l.countP (· < n) + 1)) bias (l.countP (· < n))).2.1 + 1) (scanD s plain l (delta + (s - n) * (l.countP (· < n) + 1)) bias (l.countP (· < n))).2.2.1 (s + 1) (by omega) (by omega)
      omega
    · simp
theorem enc_short (m : List Nat) (hl : m.length ≤ 256) (hS : ∀ c ∈ m, c ≤ 1114111) : (enc m).length ≤ 11 * m.length + 1 := by
  unfold enc
  have h1 := encD_short m (m.countP (· < 128)) hl hS m.length 0 72 128 (by omega) (by omega)
  have h3 := low_le m
  simp only [List.length_append, List.length_map]
  split <;> simp <;> omega
/-- The first byte of a text tells the first sign. -/
theorem text_cons (c : Int) (r : List Int) : textL (c :: r) = encN (fix c).toNat ++ textL r := by
  simp [textL, encL]
theorem head_low {l : List Int} (hl : ∀ c ∈ l, isS c = true) {x : UInt8} (hx : x.toNat < 128) {n : Nat} {xs : List UInt8} (h : (textL l).take (n + 1) = x :: xs) : ∃ r, l = (x.toNat : Int) :: r ∧ (textL r).take n = xs := by
  cases l with
  | nil => simp [textL, encL] at h
  | cons c r =>
    have hc := hl c List.mem_cons_self
    have hfc : fix c = c := by unfold fix; rw [if_pos hc]
    have hb := isS_iff.1 hc
    rw [text_cons, hfc] at h
    by_cases h7 : c ≤ 127
    · rw [enc_low (by omega) h7] at h
      simp only [List.cons_append, List.nil_append, List.take_succ_cons] at h
      injection h with h1 h2
      refine ⟨r, ?_, h2⟩
      have : x.toNat = c.toNat := by rw [← h1, b8_nat _ (by omega)]
      rw [this]
      congr 1
      omega
    · exfalso
      have hh : ∃ y ys, encN c.toNat = y :: ys ∧ 128 ≤ y.toNat := by
        unfold encN
        rw [if_neg (by omega)]
        split
        · exact ⟨_, _, rfl, by rw [b8_nat _ (by omega)]; omega⟩
        · split
          · exact ⟨_, _, rfl, by rw [b8_nat _ (by omega)]; omega⟩
          · exact ⟨_, _, rfl, by rw [b8_nat _ (by omega)]; omega⟩
      obtain ⟨y, ys, hy, hy2⟩ := hh
      rw [hy] at h
      simp only [List.cons_append, List.take_succ_cons] at h
      injection h with h1 h2
      rw [h1] at hy2
      omega
theorem mark_signs {l : List Int} (hl : ∀ c ∈ l, isS c = true) (h : markB (textL l) = true) : ∃ r, l = 120 :: 110 :: 45 :: 45 :: r := by
  unfold markB at h
  have h := beq_iff_eq.1 h
  obtain ⟨r1, rfl, h1⟩ := head_low hl (by decide) h
  have hl1 : ∀ c ∈ r1, isS c = true := fun c hc => hl c (List.mem_cons_of_mem _ hc)
  obtain ⟨r2, rfl, h2⟩ := head_low hl1 (by decide) h1
  have hl2 : ∀ c ∈ r2, isS c = true := fun c hc => hl1 c (List.mem_cons_of_mem _ hc)
  obtain ⟨r3, rfl, h3⟩ := head_low hl2 (by decide) h2
  have hl3 : ∀ c ∈ r3, isS c = true := fun c hc => hl2 c (List.mem_cons_of_mem _ hc)
  obtain ⟨r4, rfl, h4⟩ := head_low hl3 (by decide) h3
  exact ⟨r4, rfl⟩
theorem low_puny {p : List Int} (hp : ∀ c ∈ p, kindOf c = 1) : ∀ c ∈ [120, 110, 45, 45] ++ enc (nats p), c.toNat < 128 := by
  intro c hc
  rcases List.mem_append.1 hc with h | h
  · simp at h
    rcases h with rfl | rfl | rfl <;> decide
  · unfold enc at h
    rcases List.mem_append.1 h with h | h
    · rcases List.mem_append.1 h with h | h
      · have hl : c.toNat ∈ (low (nats p)).map UInt8.toNat := List.mem_map_of_mem h
        rw [low_nat] at hl
        obtain ⟨h1, h2⟩ := List.mem_filter.1 hl
        simpa using h2
      · split at h
        · cases h
        · rw [List.mem_singleton.1 h]
          decide
    · obtain ⟨d, hd, rfl⟩ := List.mem_map.1 h
      have hq := (letter_ne d (encD_digits _ _ _ _ _ _ _ d hd)).2
      omega
/-- A label with signs above 7F, told, and told again. -/
theorem high_again {p : List Int} (hp : ∀ c ∈ p, kindOf c = 1) (hl : p.length ≤ 100) (ha : asciiB p = false) (hm : markB (textL p) = false) :
    encR p = (strOf (enc (nats p)), 0) ∧ labR p = (strOf ([120, 110, 45, 45] ++ enc (nats p)), 0) ∧ labR (byteInts ([120, 110, 45, 45] ++ enc (nats p))) = (strOf ([120, 110, 45, 45] ++ enc (nats p)), 0) ∧ (enc (nats p)).length ≤ 1101 := by
  have hall : p.all isS = true := List.all_eq_true.2 fun c hc => kind_isS (hp c hc)
  have hen : encR p = (strOf (enc (nats p)), 0) := encR_ok (by omega) hall
  have hben : bytesOf (encR p).1 = enc (nats p) := by rw [hen]; rfl
  have he : (encR p).2 = 0 := by rw [hen]
  have hlab := labR_high ha hm he
  rw [hben] at hlab
  have hnl : (nats p).length = p.length := by simp [nats]
  have hsz := enc_short (nats p) (by omega) (fun c hc => by
    have := isS_iff.1 (nats_le hall c hc).1
    omega)
  have ht := low_puny hp
  have hti := text_bytes ht
  have hmk : markB (textL (byteInts ([120, 110, 45, 45] ++ enc (nats p)))) = true := by rw [hti]; rfl
  have hdr : (textL (byteInts ([120, 110, 45, 45] ++ enc (nats p)))).drop 4 = enc (nats p) := by rw [hti]; rfl
  have hdec : decR (strOf (enc (nats p))) = (nats p, 0) := decR_some (by rw [strOf_size]; omega) (dec_enc_puny _ (by omega) (fun c hc => (nats_le hall c hc).1))
  have hnm : ints (nats p) = p := nats_map hall
  have hok : backOk (strOf (enc (nats p))) = true := by
    refine backOk_yes ?_ ?_ ?_ ?_ ?_ ?_
    · rw [hdec]
    · rw [hdec, hnm]; exact ha
    · rw [hdec, hnm]; exact hm
    · rw [hdec, hnm]; intro c hc; rw [kind_alike]; exact hp c hc
    · rw [hdec, hnm]; exact he
    · rw [hdec, hnm, hben]; exact beq_self_eq_true _
  refine ⟨hen, hlab, ?_, by omega⟩
  rw [labR_back (bytes_ascii ht) hmk, hdr, if_pos hok]
  unfold textB
  rw [hti]
/-- Signs that are Valid and none above 7F: plain. -/
theorem low_ascii {p : List Int} (hp : ∀ c ∈ p, kindOf c = 1) (h : asciiB p = false) : ∃ c ∈ p, 127 < c := by
  unfold asciiB at h
  rw [List.all_eq_false] at h
  obtain ⟨c, hc, hn⟩ := h
  have := isS_iff.1 (kind_isS (hp c hc))
  refine ⟨c, hc, ?_⟩
  simp at hn
  omega
end Go.Proofs.YtkpkfcoljccimaaDoor
/- Plain: labels with points between. -/
namespace Go.Proofs.YtkpkfcoljccimaaDoor
open Go.RowKit
set_option linter.unusedVariables false
set_option maxRecDepth 20000
def dotI (first : Bool) : List Int := if first then [] else [46]
def joinI : Bool → List (List Int) → List Int
  | first, [] => []
  | first, p :: ps => dotI first ++ p ++ joinI false ps
theorem joinI_cons (first : Bool) (p : List Int) (ps : List (List Int)) : joinI first (p :: ps) = dotI first ++ p ++ joinI false ps := rfl
theorem joinI_snoc : ∀ (ps : List (List Int)) (first : Bool) (p : List Int), joinI first (ps ++ [p]) = joinI first ps ++ dotI (first && ps.isEmpty) ++ p
  | [], first, p => by simp [joinI]
  | q :: ps, first, p => by
    rw [List.cons_append, joinI_cons, joinI_cons, joinI_snoc ps false p]
    simp [List.append_assoc]
theorem joinL_snoc : ∀ (bs : List (List UInt8)) (first : Bool) (b : List UInt8), joinL first (bs ++ [b]) = joinL first bs ++ dotB (first && bs.isEmpty) ++ b
  | [], first, b => by simp [joinL]
  | q :: bs, first, b => by
    rw [List.cons_append, joinL_cons, joinL_cons, joinL_snoc bs false b]
    simp [List.append_assoc]
theorem goI_joinI : ∀ (ps : List (List Int)) (p : List Int), (∀ q ∈ p :: ps, ∀ c ∈ q, c ≠ 46) → goI [] (p ++ joinI false ps) = p :: ps
  | [], p, h => by
    have := goI_piece p [] [] (h p List.mem_cons_self)
    rw [List.append_nil] at this
    show goI [] (p ++ []) = _
    rw [List.append_nil, this]; rfl
  | d :: ps, p, h => by
    rw [joinI_cons]
    have e : p ++ (dotI false ++ d ++ joinI false ps) = p ++ 46 :: (d ++ joinI false ps) := by simp [dotI]
    rw [e, goI_piece p [] _ (h p List.mem_cons_self), List.nil_append]
    show (if (46 : Int) = 46 then p :: goI [] _ else _) = _
    rw [if_pos rfl, goI_joinI ps d (fun x hx => h x (List.mem_cons_of_mem _ hx))]
theorem kind_dot : kindOf 46 = 1 := by decide +kernel
theorem joinI_kind : ∀ (ps : List (List Int)) (first : Bool), (∀ p ∈ ps, ∀ c ∈ p, kindOf c = 1) → ∀ c ∈ joinI first ps, kindOf c = 1
  | [], first, _ => by intro c hc; cases hc
  | p :: ps, first, h => by
    intro c hc
    rw [joinI_cons] at hc
    rcases List.mem_append.1 hc with hc | hc
    · rcases List.mem_append.1 hc with hc | hc
      · unfold dotI at hc
        split at hc
        · cases hc
        · rw [List.mem_singleton.1 hc]; exact kind_dot
      · exact h p List.mem_cons_self c hc
    · exact joinI_kind ps false (fun q hq => h q (List.mem_cons_of_mem _ hq)) c hc
/-- How far the pieces are told. -/
def LabsAt (ps : List (List Int)) (i : Nat) (all : List Int) (want : ByteArray) (good : Bool) : Prop :=
  i ≤ ps.length ∧ all = joinI true (ps.take i) ∧ bytesOf want = joinL true ((ps.take i).map fun p => bytesOf (labR p).1) ∧ good = ((ps.take i).all fun p => (labR p).2 == 0) ∧ (∀ p ∈ ps.take i, p.length ≤ 60 ∧ ∀ c ∈ p, kindOf c = 1 ∧ c ≠ 46) ∧ all.length ≤ 61 * i ∧ want.size ≤ 11000001 * i
theorem LabsAt.start (ps : List (List Int)) : LabsAt ps 0 [] (strOf []) true := ⟨Nat.zero_le _, rfl, rfl, rfl, by simp, by simp, by rw [strOf_size]; simp⟩
theorem LabsAt.bounds {ps : List (List Int)} {i : Nat} {all : List Int} {want : ByteArray} {good : Bool} (h : LabsAt ps i all want good) : i ≤ ps.length ∧ all.length ≤ 61 * i ∧ want.size ≤ 11000001 * i := ⟨h.1, h.2.2.2.2.2.1, h.2.2.2.2.2.2⟩
theorem LabsAt.next {ps : List (List Int)} {i : Nat} {all : List Int} {want : ByteArray} {good : Bool} (h : LabsAt ps i all want good) (hi : i < ps.length) (h60 : ps[i].length ≤ 60) (hk : ∀ c ∈ ps[i], kindOf c = 1 ∧ c ≠ 46) (want' : ByteArray) (hw : bytesOf want' = bytesOf want ++ dotB (decide (i = 0)) ++ bytesOf (labR ps[i]).1) :
    LabsAt ps (i + 1) ((all ++ dotI (decide (i = 0))) ++ ps[i]) want' (good && ((labR ps[i]).2 == 0)) := by
  obtain ⟨h1, h2, h3, h4, h5, h6, h7⟩ := h
  have he : (true && (ps.take i).isEmpty) = decide (i = 0) := by
    rw [Bool.true_and]
    cases i with
    | zero => simp
    | succ i =>
      have hln : (ps.take (i + 1)).length = i + 1 := by rw [List.length_take]; omega
      rw [List.isEmpty_eq_false_iff.2 (by intro e; rw [e] at hln; simp at hln)]
      simp
  have hd : (dotI (decide (i = 0))).length ≤ 1 := by unfold dotI; split <;> simp
  have hd2 : (dotB (decide (i = 0))).length ≤ 1 := by unfold dotB; split <;> simp
  have hz := labR_size ps[i] (by omega)
  refine ⟨hi, ?_, ?_, ?_, ?_, ?_, ?_⟩
  · rw [List.take_succ_eq_append_getElem hi, joinI_snoc, he, ← h2]
  · rw [List.take_succ_eq_append_getElem hi, List.map_append, List.map_cons, List.map_nil, joinL_snoc, List.isEmpty_map, he, ← h3, hw]
  · rw [List.take_succ_eq_append_getElem hi, List.all_append, ← h4]; simp
  · intro p hp
    rw [List.take_succ_eq_append_getElem hi] at hp
    rcases List.mem_append.1 hp with g | g
    · exact h5 p g
    · rw [List.mem_singleton.1 g]; exact ⟨h60, hk⟩
  · rw [List.length_append, List.length_append]; omega
  · have := congrArg List.length hw
    rw [bytesOf_len, List.length_append, List.length_append, bytesOf_len, bytesOf_len] at this
    omega
theorem LabsAt.asc {ps : List (List Int)} {i : Nat} {all : List Int} {want : ByteArray} {good : Bool} (h : LabsAt ps i all want good) (hi : i = ps.length) (hne : ps ≠ []) (hl : all.length ≤ 256) : ascR all = joinA [] true ps := by
  obtain ⟨h1, h2, h3, h4, h5, h6, h7⟩ := h
  subst hi
  rw [List.take_length] at h2 h5
  have hk : ∀ c ∈ all, kindOf c = 1 := by rw [h2]; exact joinI_kind ps true (fun p hp c hc => ((h5 p hp).2 c hc).1)
  have hf : Fine all := fun c hc => by rw [hk c hc]; decide
  rw [ascR_map hl hf, map_again hk, h2]
  cases ps with
  | nil => exact absurd rfl hne
  | cons p ps =>
    rw [joinI_cons]
    show joinA [] true (goI [] (([] ++ p) ++ joinI false ps)) = _
    rw [List.nil_append, goI_joinI ps p (fun q hq c hc => ((h5 q hq).2 c hc).2)]
theorem strOf_bytes (s : ByteArray) : strOf (bytesOf s) = s := by
  unfold strOf bytesOf
  apply ByteArray.ext
  simp
theorem LabsAt.good {ps : List (List Int)} {i : Nat} {all : List Int} {want : ByteArray} (h : LabsAt ps i all want true) (hi : i = ps.length) (hne : ps ≠ []) (hl : all.length ≤ 256) : ascR all = if 253 < want.size then (strOf [], 3) else (want, 0) := by
  have ha := h.asc hi hne hl
  obtain ⟨h1, h2, h3, h4, h5, h6, h7⟩ := h
  subst hi
  rw [List.take_length] at h3 h4
  have hok : ∀ p ∈ ps, (labR p).2 = 0 := fun p hp => by simpa using (List.all_eq_true.1 h4.symm) p hp
  rw [ha, joinA_ok ps [] true hok, List.nil_append, ← h3]
  unfold finA
  rw [bytesOf_len, strOf_bytes]
theorem first_bad : ∀ (ps : List (List Int)), (ps.all fun p => (labR p).2 == 0) = false → ∃ k, ∃ h : k < ps.length, (∀ p ∈ ps.take k, (labR p).2 = 0) ∧ (labR ps[k]).2 ≠ 0
  | [], h => by cases h
  | p :: ps, h => by
    by_cases hp : (labR p).2 = 0
    · have h2 : (ps.all fun p => (labR p).2 == 0) = false := by
        rw [List.all_cons] at h
        simpa [hp] using h
      obtain ⟨k, hk, h3, h4⟩ := first_bad ps h2
      refine ⟨k + 1, by simpa using hk, fun q hq => ?_, by simpa using h4⟩
      rw [List.take_succ_cons] at hq
      rcases List.mem_cons.1 hq with rfl | hq
      · exact hp
      · exact h3 q hq
    · exact ⟨0, by simp, by simp, hp⟩
theorem LabsAt.bad {ps : List (List Int)} {i : Nat} {all : List Int} {want : ByteArray} (h : LabsAt ps i all want false) (hi : i = ps.length) (hne : ps ≠ []) (hl : all.length ≤ 256) : ∃ n, n ≠ 0 ∧ ascR all = (strOf [], n) := by
  have ha := h.asc hi hne hl
  obtain ⟨h1, h2, h3, h4, h5, h6, h7⟩ := h
  subst hi
  rw [List.take_length] at h4
  obtain ⟨k, hk, h8, h9⟩ := first_bad ps h4.symm
  exact ⟨_, h9, by rw [ha, joinA_err ps [] true k hk h8 h9]⟩
end Go.Proofs.YtkpkfcoljccimaaDoor
