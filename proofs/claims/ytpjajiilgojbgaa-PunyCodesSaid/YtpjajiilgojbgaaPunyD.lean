/- The walk of appendDeltas. -/
import Derived.Test.YtpjajiilgojbgaaPunyC
namespace Go.Proofs.Ytpjajiilgojbgaa
open Go.RowKit
set_option linter.unusedVariables false
theorem take_countP {m : List Nat} {k s : Nat} (h : k < m.length) : (m.take (k + 1)).countP (· == s) = (m.take k).countP (· == s) + (if m[k] = s then 1 else 0) := by
  rw [List.take_succ_eq_append_getElem h, List.countP_append]
  simp [List.countP_cons]
theorem take_countP_le (m : List Nat) (k s : Nat) : (m.take k).countP (· == s) ≤ m.countP (· == s) := List.Sublist.countP_le (List.take_sublist _ _)
/-- What holds ahead of each round over the list. -/
def EncAt (m : List Nat) (plain : Nat) (F ys : List UInt8) (delta bias n done f : Nat) : Prop :=
  F = ys ++ (encD m plain f delta bias n done).map letter ∧ done = m.countP (· < n) ∧ m.length ≤ done + f ∧ delta ≤ n * 300 ∧ n ≤ 1114112 ∧ bias ≤ 2340 ∧ ys.length ≤ 1000 + 65 * done
theorem EncAt.out {m : List Nat} {plain : Nat} {F ys : List UInt8} {delta bias n done f : Nat} (h : EncAt m plain F ys delta bias n done f) : F = ys ++ (encD m plain f delta bias n done).map letter := h.1
theorem EncAt.done {m : List Nat} {plain : Nat} {F ys : List UInt8} {delta bias n done f : Nat} (h : EncAt m plain F ys delta bias n done f) : done = m.countP (· < n) := h.2.1
theorem EncAt.fuel {m : List Nat} {plain : Nat} {F ys : List UInt8} {delta bias n done f : Nat} (h : EncAt m plain F ys delta bias n done f) : m.length ≤ done + f := h.2.2.1
theorem EncAt.steps {m : List Nat} {plain : Nat} {F ys : List UInt8} {delta bias n done f : Nat} (h : EncAt m plain F ys delta bias n done f) : delta ≤ n * 300 := h.2.2.2.1
theorem EncAt.top {m : List Nat} {plain : Nat} {F ys : List UInt8} {delta bias n done f : Nat} (h : EncAt m plain F ys delta bias n done f) : n ≤ 1114112 := h.2.2.2.2.1
theorem EncAt.bias {m : List Nat} {plain : Nat} {F ys : List UInt8} {delta bias n done f : Nat} (h : EncAt m plain F ys delta bias n done f) : bias ≤ 2340 := h.2.2.2.2.2.1
theorem EncAt.len {m : List Nat} {plain : Nat} {F ys : List UInt8} {delta bias n done f : Nat} (h : EncAt m plain F ys delta bias n done f) : ys.length ≤ 1000 + 65 * done := h.2.2.2.2.2.2
/-- And within one. -/
def ScanAt (m : List Nat) (plain s : Nat) (G : List UInt8) (X : Nat × Nat × Nat) (delta0 done0 : Nat) (ys : List UInt8) (k delta bias done : Nat) : Prop :=
  k ≤ m.length ∧ G = ys ++ (scanD s plain (m.drop k) delta bias done).1.map letter ∧ (scanD s plain (m.drop k) delta bias done).2 = X ∧ done = done0 + (m.take k).countP (· == s) ∧ delta ≤ delta0 + k ∧ bias ≤ 2340 ∧ ys.length ≤ 1000 + 65 * done
theorem ScanAt.k {m : List Nat} {plain s : Nat} {G : List UInt8} {X : Nat × Nat × Nat} {delta0 done0 : Nat} {ys : List UInt8} {k delta bias done : Nat} (h : ScanAt m plain s G X delta0 done0 ys k delta bias done) : k ≤ m.length := h.1
theorem ScanAt.out {m : List Nat} {plain s : Nat} {G : List UInt8} {X : Nat × Nat × Nat} {delta0 done0 : Nat} {ys : List UInt8} {k delta bias done : Nat} (h : ScanAt m plain s G X delta0 done0 ys k delta bias done) : G = ys ++ (scanD s plain (m.drop k) delta bias done).1.map letter := h.2.1
theorem ScanAt.left {m : List Nat} {plain s : Nat} {G : List UInt8} {X : Nat × Nat × Nat} {delta0 done0 : Nat} {ys : List UInt8} {k delta bias done : Nat} (h : ScanAt m plain s G X delta0 done0 ys k delta bias done) : (scanD s plain (m.drop k) delta bias done).2 = X := h.2.2.1
theorem ScanAt.done {m : List Nat} {plain s : Nat} {G : List UInt8} {X : Nat × Nat × Nat} {delta0 done0 : Nat} {ys : List UInt8} {k delta bias done : Nat} (h : ScanAt m plain s G X delta0 done0 ys k delta bias done) : done = done0 + (m.take k).countP (· == s) := h.2.2.2.1
theorem ScanAt.steps {m : List Nat} {plain s : Nat} {G : List UInt8} {X : Nat × Nat × Nat} {delta0 done0 : Nat} {ys : List UInt8} {k delta bias done : Nat} (h : ScanAt m plain s G X delta0 done0 ys k delta bias done) : delta ≤ delta0 + k := h.2.2.2.2.1
theorem ScanAt.bias {m : List Nat} {plain s : Nat} {G : List UInt8} {X : Nat × Nat × Nat} {delta0 done0 : Nat} {ys : List UInt8} {k delta bias done : Nat} (h : ScanAt m plain s G X delta0 done0 ys k delta bias done) : bias ≤ 2340 := h.2.2.2.2.2.1
theorem ScanAt.len {m : List Nat} {plain s : Nat} {G : List UInt8} {X : Nat × Nat × Nat} {delta0 done0 : Nat} {ys : List UInt8} {k delta bias done : Nat} (h : ScanAt m plain s G X delta0 done0 ys k delta bias done) : ys.length ≤ 1000 + 65 * done := h.2.2.2.2.2.2
section
variable {m : List Nat} {plain s : Nat} {G ys : List UInt8} {X : Nat × Nat × Nat} {delta0 done0 k delta bias done : Nat}
theorem ScanAt.lt (h : ScanAt m plain s G X delta0 done0 ys k delta bias done) (hk : k < m.length) (hc : m[k] < s) : ScanAt m plain s G X delta0 done0 ys (k + 1) (delta + 1) bias done := by
  have h1 := h.out
  have h2 := h.left
  rw [drop_at hk, scanD_lt hc] at h1 h2
  exact ⟨hk, h1, h2, by rw [take_countP hk, if_neg (by omega)]; exact h.done, by have := h.steps; omega, h.bias, h.len⟩
theorem ScanAt.gt (h : ScanAt m plain s G X delta0 done0 ys k delta bias done) (hk : k < m.length) (hc : s < m[k]) : ScanAt m plain s G X delta0 done0 ys (k + 1) delta bias done := by
  have h1 := h.out
  have h2 := h.left
  rw [drop_at hk, scanD_gt hc] at h1 h2
  exact ⟨hk, h1, h2, by rw [take_countP hk, if_neg (by omega)]; exact h.done, by have := h.steps; omega, h.bias, h.len⟩
theorem ScanAt.eq (h : ScanAt m plain s G X delta0 done0 ys k delta bias done) (hk : k < m.length) (hc : m[k] = s) : ScanAt m plain s G X delta0 done0 (ys ++ (num bias delta).map letter) (k + 1) 0 (adapt delta (done + 1) (decide (done = plain))) (done + 1) := by
  have h1 := h.out
  have h2 := h.left
  have hd := h.done
  rw [drop_at hk, hc, scanD_eq] at h1 h2
  refine ⟨hk, ?_, h2, by rw [take_countP hk, if_pos hc]; omega, by omega, adapt_le _ _ _, ?_⟩
  · rw [h1]; simp
  · have := h.len
    have h3 := (numF_len 64 36 bias delta).2
    rw [List.length_append, List.length_map]
    unfold num
    omega
end
/-- A round begins. -/
theorem EncAt.scan {m : List Nat} {plain : Nat} {F ys : List UInt8} {delta bias n done f : Nat} (h : EncAt m plain F ys delta bias n done f) (hm : ∀ c ∈ m, c ≤ 1114111) (hlt : done < m.length) (hl : m.length ≤ 256) :
    ∃ (G : List UInt8) (X : Nat × Nat × Nat), least m n ∈ m ∧ n ≤ least m n ∧ least m n ≤ 1114111 ∧ done + m.countP (· == least m n) ≤ m.length ∧ delta + (least m n - n) * (done + 1) ≤ least m n * 300 ∧
      ScanAt m plain (least m n) G X (delta + (least m n - n) * (done + 1)) done ys 0 (delta + (least m n - n) * (done + 1)) bias done ∧
      ∀ (zs : List UInt8) (delta' bias' done' : Nat), ScanAt m plain (least m n) G X (delta + (least m n - n) * (done + 1)) done zs m.length delta' bias' done' → G = zs ∧ done < done' ∧ ∃ f', EncAt m plain F zs (delta' + 1) bias' (least m n + 1) done' f' := by
  obtain ⟨s1, s2, s3, s4⟩ := least_spec hm (by rw [← h.done]; exact hlt)
  have hout := h.out
  have hfu := h.fuel
  have hdn := h.done
  have hst := h.steps
  obtain ⟨f', rfl⟩ : ∃ g, f = g + 1 := ⟨f - 1, by omega⟩
  unfold encD at hout
  rw [if_pos hlt] at hout
  simp only at hout
  have hcnt : done + m.countP (· == least m n) = m.countP (· < least m n + 1) := by
    rw [countP_next, countP_le_least s4 s2, ← hdn]
  generalize least m n = s at *
  obtain ⟨a, rfl⟩ : ∃ a, s = n + a := ⟨s - n, by omega⟩
  rw [show n + a - n = a by omega] at *
  have hle : m.countP (· < n + a + 1) ≤ m.length := List.countP_le_length
  have hp : a * (done + 1) ≤ a * 300 := Nat.mul_le_mul_left _ (by omega)
  refine ⟨ys ++ (scanD (n + a) plain m (delta + a * (done + 1)) bias done).1.map letter, (scanD (n + a) plain m (delta + a * (done + 1)) bias done).2, s1, by omega, s3, by omega, by rw [Nat.add_mul]; omega, ⟨Nat.zero_le _, rfl, rfl, by simp, by omega, h.bias, h.len⟩, ?_⟩
  intro zs delta' bias' done' hz
  have z1 := hz.out
  have z2 := hz.left
  have z3 := hz.done
  have z4 := hz.steps
  rw [List.take_length] at z3
  rw [List.drop_length] at z1 z2
  simp only [scanD, List.map_nil, List.append_nil] at z1 z2
  have hpos : 0 < m.countP (· == n + a) := List.countP_pos_iff.2 ⟨_, s1, by simp⟩
  refine ⟨z1, by omega, f', ?_, by omega, by omega, ?_, by omega, hz.bias, hz.len⟩
  · rw [← z2] at hout
    rw [hout, ← z1]
    simp
  · rw [Nat.add_mul]; rw [Nat.add_mul] at *; omega
set_option maxRecDepth 20000 in
set_option maxHeartbeats 4000000 in
theorem deltas_calls (w0 : World) (v : Value) (m : List Nat) (hv : NRow w0 v m) (hl : m.length ≤ 256) (hm : ∀ c ∈ m, c ≤ 1114111) (vo : Value) (xs : List UInt8) (w : World) (ho : BOwn w w0.heap.size vo xs) (hbw : Below w0.heap.size w0 w) (hxl : xs.length ≤ 1000)
    (plain : Nat) (hp : plain = m.countP (· < 128)) :
    Calls Try.prog 15 #[vo, v, .int .i64 (plain : Int)] w fun e w' => (∃ v', e = .returned v' ∧ BOwn w' w0.heap.size v' (xs ++ (encD m plain m.length 0 72 128 plain).map letter)) ∧ Below w0.heap.size w0 w' := by
  have HV := hid hv
  have HM := hid hm
  have HL := hid hl
  have HO := hid ho
  have HBW := hid hbw
  obtain ⟨F, hF⟩ : ∃ F, F = xs ++ (encD m plain m.length 0 72 128 plain).map letter := ⟨_, rfl⟩
  have HS : Hid (EncAt m plain F xs 0 72 128 plain m.length) := ⟨hF, hp, by omega, by omega, by omega, by omega, by omega⟩
  have HPL : Hid (plain ≤ 256) := by show _ ≤ _; have : m.countP (· < 128) ≤ m.length := List.countP_le_length; omega
  rw [← hF]
  obtain ⟨a, cap, rfl, h1, h2, h3⟩ := hv
  unfold maxLen at h2
  have l1 : (m.length : Int) ≤ 256 := by omega
  have p0 : (0 : Int) ≤ (plain : Int) := by omega
  have p1 : (plain : Int) ≤ 256 := by have := HPL.out; omega
  clear h3 hm hl ho hbw hF hp hxl
  go_enter Try.func15, Try.ntmps15
  go_wp2_with fail
  go_loopw [0, 7, 8, 9, 10] (fun vo vd vb vn vc wr => ∃ (ys : List UInt8) (delta bias n done f : Nat), vd = .int .i64 (delta : Int) ∧ vb = .int .i64 (bias : Int) ∧ vn = .int .i64 (n : Int) ∧ vc = .int .i64 (done : Int) ∧ BOwn wr w0.heap.size vo ys ∧ Below w0.heap.size w0 wr ∧ EncAt m plain F ys delta bias n done f) (fun _ _ _ _ vc _ => m.length - (intOf vc).toNat)
  case atStart => exact ⟨xs, 0, 72, 128, plain, m.length, rfl, rfl, rfl, rfl, HO.out, HBW.out, HS.out⟩
  case round =>
    obtain ⟨ys, delta, bias, n, done, f, rfl, rfl, rfl, rfl, ho, hb, hE⟩ := hrel
    clear HS HO HBW
    have hdle : done ≤ m.length := by rw [hE.done]; exact List.countP_le_length
    have hst := hE.steps
    have htop := hE.top
    have hbi := hE.bias
    have d0 : (0 : Int) ≤ (delta : Int) := by omega
    have d1 : (delta : Int) ≤ 400000000 := by omega
    have n0 : (0 : Int) ≤ (n : Int) := by omega
    have n1 : (n : Int) ≤ 1114112 := by omega
    have c0 : (0 : Int) ≤ (done : Int) := by omega
    have c1 : (done : Int) ≤ 256 := by have := HL.out; omega
    have i0 : (0 : Int) ≤ (bias : Int) := by omega
    have i1 : (bias : Int) ≤ 2340 := by omega
    have HOy := hid ho
    have HBy := hid hb
    have HEy := hid hE
    clear ho hb hE hst htop hbi
    by_cases hlt : done < m.length
    · obtain ⟨G, X, q1, q2, q3, q4, q5, q6, q7⟩ := HEy.out.scan HM.out hlt HL.out
      have HLe := hid (fun w' (hr : NRow w' (.slice a m.length cap) m) => least_calls _ m n w' hr HM.out (by omega))
      generalize least m n = s at *
      obtain ⟨p, hpd⟩ : ∃ p, p = (s - n) * (done + 1) := ⟨_, rfl⟩
      rw [← hpd] at q5 q6 q7
      have e1 : ((s : Int) - (n : Int)) * ((done : Int) + 1) = (p : Int) := by
        rw [hpd, Int.natCast_mul, Int.natCast_add, Int.natCast_sub q2]; rfl
      have s0 : (0 : Int) ≤ (s : Int) := by omega
      have s1 : (s : Int) ≤ 1114111 := by omega
      have sn : (n : Int) ≤ (s : Int) := by omega
      have pp0 : (0 : Int) ≤ (p : Int) := by omega
      have pp1 : (delta : Int) + (p : Int) ≤ 400000000 := by omega
      have g : (done : Int) < (m.length : Int) := by omega
      have HQ4 := hid q4
      have HQ5 := hid q5
      have HQ6 := hid q6
      have HQ7 := hid q7
      have HD := hid hlt
      have HS1 := hid q3
      clear q1 q2 q3 q4 q5 q6 q7 hlt hpd hdle
      go_wp2_with fail
      refine (HLe.out _ (HV.out.below HBy.out)).mono ?_
      rintro e w1 ⟨rfl, rfl⟩
      go_wp2_with fail
      go_loopw [0, 7, 8, 10, 32] (fun vo vd vb vc vi wr => ∃ (zs : List UInt8) (k delta' bias' done' : Nat), vd = .int .i64 (delta' : Int) ∧ vb = .int .i64 (bias' : Int) ∧ vc = .int .i64 (done' : Int) ∧ vi = .int .i64 (k : Int) ∧ BOwn wr w0.heap.size vo zs ∧ Below w0.heap.size w0 wr ∧ ScanAt m plain s G X (delta + p) done zs k delta' bias' done') (fun _ _ _ _ vi _ => m.length - (intOf vi).toNat)
      case atStart => exact ⟨ys, 0, delta + p, bias, done, by go_num, rfl, rfl, rfl, HOy.out, HBy.out, HQ6.out⟩
      case round =>
        obtain ⟨zs, k, delta', bias', done', rfl, rfl, rfl, rfl, ho, hb, hA⟩ := hrel
        have HOz := hid ho
        have HBz := hid hb
        have HA := hid hA
        have hk := hA.k
        have hst := hA.steps
        have hbi := hA.bias
        have hdn : done' ≤ 256 := by
          have := hA.done
          have h1 := take_countP_le m k s
          have := HQ4.out
          have := HL.out
          omega
        have hln := hA.len
        have HZL : Hid (zs.length ≤ 500000) := by show _ ≤ _; omega
        have HSz : Hid (w0.heap.size ≤ wr.heap.size) := hb.size
        clear ho hb hA HQ6 HOy HBy HEy HLe d0 d1 c0 c1 i0 i1 pp0 hln
        have d0 : (0 : Int) ≤ (delta' : Int) := by omega
        have d1 : (delta' : Int) ≤ 400000256 := by have := HL.out; omega
        have c0 : (0 : Int) ≤ (done' : Int) := by omega
        have c1 : (done' : Int) ≤ 256 := by omega
        have i0 : (0 : Int) ≤ (bias' : Int) := by omega
        have i1 : (bias' : Int) ≤ 2340 := by omega
        have k0 : (0 : Int) ≤ (k : Int) := by omega
        by_cases hlt : k < m.length
        · obtain ⟨b, off, rfl, hck⟩ := HV.out.open HBz.out k hlt
          have k1 : (k : Int) < (m.length : Int) := by omega
          have HK := hid hlt
          have HLT := hid (HA.out.lt hlt)
          have HGT := hid (HA.out.gt hlt)
          have HEQ := hid (HA.out.eq hlt)
          have hcm := HM.out m[k] (List.getElem_mem hlt)
          generalize m[k] = c at *
          have c2 : (0 : Int) ≤ (c : Int) := by omega
          have c3 : (c : Int) ≤ 1114111 := by omega
          rcases Nat.lt_trichotomy c s with h | h | h
          · have HX := hid (HLT.out h)
            have g1 : (c : Int) < (s : Int) := by omega
            have g2 : ((c : Int) == (s : Int)) = false := by rw [beq_eq_false_iff_ne]; omega
            clear h hcm hlt hk hst hbi hdn HLT HGT HEQ
            go_wp2_with fail
            go_roundw
            case rel => exact ⟨zs, k + 1, delta' + 1, bias', done', by go_num, rfl, rfl, by go_num, HOz.out, HBz.out, HX.out⟩
            case measure => have := HK.out; simp [intOf]; omega
          · have HX := hid (HEQ.out h)
            have HN := hid (fun w' ho hb => number_calls u0 zs delta' bias' w' w0.heap.size ho hb HZL.out (by omega) (by omega))
            subst h
            by_cases hpd : done' = plain
            · subst hpd
              rw [decide_eq_true rfl] at HX
              have HAd := hid (fun w' => adapt_calls delta' (done' + 1) true w' (by omega) (by omega) (by omega))
              rw [Int.natCast_add] at HAd
              clear hcm hlt hk hst hbi hdn HLT HGT HEQ
              go_wp2_with fail
              refine (HN.out _ HOz.out HSz.out).mono ?_
              rintro e w1 ⟨⟨v', rfl, ho1⟩, hb1⟩
              have HO1 := hid ho1
              have HB1 := hid (HBz.out.trans hb1)
              clear ho1 hb1 HN hck
              go_wp2_with fail
              refine (HAd.out _).mono ?_
              rintro e w2 ⟨rfl, rfl⟩
              go_wp2_with fail
              go_roundw
              case rel => exact ⟨zs ++ (num bias' delta').map letter, k + 1, 0, _, done' + 1, rfl, rfl, by go_num, by go_num, HO1.out, HB1.out, HX.out⟩
              case measure => have := HK.out; simp [intOf]; omega
            · have q : ((done' : Int) == (plain : Int)) = false := by rw [beq_eq_false_iff_ne]; omega
              have q' : ((done' : Int) + 1 == (plain : Int) + 1) = false := by rw [beq_eq_false_iff_ne]; omega
              rw [decide_eq_false hpd] at HX
              have HAd := hid (fun w' => adapt_calls delta' (done' + 1) false w' (by omega) (by omega) (by omega))
              rw [Int.natCast_add] at HAd
              clear hcm hlt hk hst hbi hdn HLT HGT HEQ hpd
              go_wp2_with fail
              refine (HN.out _ HOz.out HSz.out).mono ?_
              rintro e w1 ⟨⟨v', rfl, ho1⟩, hb1⟩
              have HO1 := hid ho1
              have HB1 := hid (HBz.out.trans hb1)
              clear ho1 hb1 HN hck
              go_wp2_with fail
              refine (HAd.out _).mono ?_
              rintro e w2 ⟨rfl, rfl⟩
              go_wp2_with fail
              go_roundw
              case rel => exact ⟨zs ++ (num bias' delta').map letter, k + 1, 0, _, done' + 1, rfl, rfl, by go_num, by go_num, HO1.out, HB1.out, HX.out⟩
              case measure => have := HK.out; simp [intOf]; omega
          · have HX := hid (HGT.out h)
            have g1 : ¬ (c : Int) < (s : Int) := by omega
            have g2 : ((c : Int) == (s : Int)) = false := by rw [beq_eq_false_iff_ne]; omega
            clear h hcm hlt hk hst hbi hdn HLT HGT HEQ
            go_wp2_with fail
            go_roundw
            case rel => exact ⟨zs, k + 1, delta', bias', done', rfl, rfl, rfl, by go_num, HOz.out, HBz.out, HX.out⟩
            case measure => have := HK.out; simp [intOf]; omega
        · have hkl : k = m.length := by omega
          subst hkl
          obtain ⟨_, hdd, f', hE'⟩ := HQ7.out zs delta' bias' done' HA.out
          have HE' := hid hE'
          have HDD := hid hdd
          have hd2 : done' ≤ m.length := by rw [hE'.done]; exact List.countP_le_length
          have HD2 := hid hd2
          have k2 : ¬ (m.length : Int) < (m.length : Int) := by omega
          clear hE' hdd hd2 hlt hk hst hbi hdn
          go_wp2_with fail
          go_roundw
          case rel => exact ⟨zs, delta' + 1, bias', s + 1, done', f', by go_num, rfl, by go_num, rfl, HOz.out, HBz.out, HE'.out⟩
          case measure => have := HDD.out; have := HD2.out; simp [intOf]; omega
    · have HFy : Hid (F = ys) := by
        show _ = _
        have := HEy.out.out
        rwa [encD_stop _ _ _ _ _ _ _ (by omega), List.map_nil, List.append_nil] at this
      have g : ¬ (done : Int) < (m.length : Int) := by omega
      clear hlt hdle
      go_wp2_with fail
      go_ret
      exact ⟨⟨_, rfl, by rw [HFy.out]; exact HOy.out⟩, HBy.out⟩
end Go.Proofs.Ytpjajiilgojbgaa
