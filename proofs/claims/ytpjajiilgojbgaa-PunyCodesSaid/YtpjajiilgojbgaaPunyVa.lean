/- The walk of the document's Puny, without own signs. -/
import Derived.Test.YtpjajiilgojbgaaPunyV
namespace Go.Proofs.Ytpjajiilgojbgaa
open Go.RowKit
set_option linter.unusedVariables false
set_option maxRecDepth 50000 in
set_option maxHeartbeats 40000000 in
theorem puny_a (v : Value) (l : List Int) (w : World) (hv : IRow w v l) (hzz : (low (nats l)).length = 0) :
    Calls Try.prog 10 #[v] w fun e w' => e = .returned (.tuple #[.string (encR l).1, .int .i64 (encR l).2]) ∧ Below w.heap.size w w' := by
  have HV := hid hv
  have HZZ := hid hzz
  clear hzz
  obtain ⟨a, cap, rfl, h1, h2, h3⟩ := hv
  unfold maxLen at h2
  have l0 : (l.length : Int) ≤ (cap : Int) := by omega
  have cp : (cap : Int) ≤ 9223372036854775807 := by omega
  clear h3
  by_cases hlong : 256 < l.length
  · rw [encR_long hlong]
    have g : (256 : Int) < (l.length : Int) := by omega
    clear hlong h1 h2
    go_enter Try.func10, Try.ntmps10
    go_wp2_with fail
    go_ret2
    exact ⟨rfl, Below.refl _ _⟩
  · have HLG := hid hlong
    obtain ⟨R, hR⟩ : ∃ R, R = encR l := ⟨_, rfl⟩
    rw [← hR]
    have HR := hid hR
    have g : decide ((256 : Int) < (l.length : Int)) = false := decide_eq_false (by omega)
    have l1 : (l.length : Int) ≤ 256 := by omega
    clear hlong h1 h2 hR
    go_enter Try.func10, Try.ntmps10
    go_wp2_with fail
    go_loopw [4, 5] (fun vo vi wr => ∃ k : Nat, k ≤ l.length ∧ vi = .int .i64 (k : Int) ∧ BOwn wr w.heap.size vo (low (nats (l.take k))) ∧ Below w.heap.size w wr ∧ (l.take k).all isS = true) (fun _ vi _ => l.length - (intOf vi).toNat)
    case atStart => exact ⟨0, Nat.zero_le _, rfl, Own.nil _ _ _ _, Below.refl _ _, rfl⟩
    case round =>
      obtain ⟨k, hk, rfl, ho, hb, hall⟩ := hrel
      have HO := hid ho
      have HB := hid hb
      have HA := hid hall
      have HSz : Hid (w.heap.size ≤ wr.heap.size) := hb.size
      have k0 : (0 : Int) ≤ (k : Int) := by omega
      have HLL : Hid ((low (nats (l.take k))).length ≤ 256) := by
        show _ ≤ _
        have h1 := low_le (nats (l.take k))
        have h2 := nats_take_len l k
        have := HLG.out
        omega
      clear ho hb hall
      by_cases hlt : k < l.length
      · obtain ⟨b, off, rfl, hck⟩ := HV.out.open HB.out k hlt
        have k1 : (k : Int) < (l.length : Int) := by omega
        have HK := hid hlt
        have HSn := hid (low_snoc l k hlt)
        have HAs := hid (all_snoc l k hlt)
        have HAn := hid (all_not l k hlt)
        generalize l[k] = c at *
        have HSc := hid (fun w' => rscalar_calls c w')
        by_cases hs : isS c = true
        · have hc1 := isS_iff.1 hs
          obtain ⟨n, rfl⟩ : ∃ n : Nat, c = (n : Int) := ⟨c.toNat, by omega⟩
          rw [Int.toNat_natCast] at HSn
          have HN : Hid ((l.take (k + 1)).all isS = true) := by show _ = _; rw [HAs.out, HA.out, hs]; rfl
          have n0 : (0 : Int) ≤ (n : Int) := by omega
          have n1 : (n : Int) ≤ 1114111 := by omega
          rw [hs] at HSc
          by_cases hn : n < 128
          · rw [if_pos hn] at HSn
            have e0 := b8_nat n (by omega)
            generalize b8 n = x at *
            obtain ⟨v', w', hr, ho', hg⟩ := append_run (HO.out.alloc (.cells #[.int .u8 (x.toNat : Int)] 5)) (Row.lit fb wr [x] 5 (0, 0) (by simp)) (by have := HLL.out; simp; omega) (by have := HSz.out; simp; omega)
            have HO2 := hid ho'
            have HB2 := hid ((HB.out.alloc HSz.out (.cells #[.int .u8 (x.toNat : Int)] 5)).grown hg (by have := HSz.out; simp; omega) (Own.lt HO.out))
            rw [e0] at hr
            have g1 : (n : Int) < 128 := by omega
            clear ho' hg e0 hn hs hc1 HAs HAn hlt hk
            go_wp2_with fail
            refine (HSc.out _).mono ?_
            rintro e w1 ⟨rfl, rfl⟩
            go_wp2_with (at_builtin; go_must (refine wpList_append_run hr rfl _ _ rfl rfl rfl rfl ?_))
            go_roundw
            case rel => exact ⟨k + 1, HK.out, by go_num, by rw [HSn.out]; exact HO2.out, HB2.out, HN.out⟩
            case measure => have := HK.out; simp [intOf]; omega
          · rw [if_neg hn, List.append_nil] at HSn
            have g1 : ¬ (n : Int) < 128 := by omega
            clear hn hs hc1 HAs HAn hlt hk
            go_wp2_with fail
            refine (HSc.out _).mono ?_
            rintro e w1 ⟨rfl, rfl⟩
            go_wp2_with fail
            go_roundw
            case rel => exact ⟨k + 1, HK.out, by go_num, by rw [HSn.out]; exact HO.out, HB.out, HN.out⟩
            case measure => have := HK.out; simp [intOf]; omega
        · have hs' : isS c = false := by simpa using hs
          have HX : Hid (R = (strOf [], 1)) := by show _ = _; rw [HR.out, encR_bad HLG.out (HAn.out hs')]
          rw [hs'] at HSc
          clear hs hs' HAs HAn hlt hk HSn
          go_wp2_with fail
          refine (HSc.out _).mono ?_
          rintro e w1 ⟨rfl, rfl⟩
          go_wp2_with fail
          go_ret2
          exact ⟨by rw [HX.out]; rfl, HB.out⟩
      · have hkl : k = l.length := by omega
        subst hkl
        rw [List.take_length] at HO HA HLL
        have HX : Hid (R = (strOf (enc (nats l)), 0)) := by show _ = _; rw [HR.out, encR_ok HLG.out HA.out]
        have HNR := hid (nats_row HA.out HV.out)
        have HNL : Hid (∀ c ∈ nats l, c ≤ 1114111) := fun c hc => (nats_le HA.out c hc).2
        have hnl : (nats l).length = l.length := by simp [nats]
        have HPc := hid (low_len (nats l))
        rcases HO.out.row with ⟨a', cap', hE0, hE1, hE2, hE3⟩
        subst hE0
        unfold maxLen at hE2
        have r0 : ((low (nats l)).length : Int) ≤ (cap' : Int) := by omega
        have r1 : (cap' : Int) ≤ 9223372036854775807 := by omega
        have r2 : ((low (nats l)).length : Int) ≤ 256 := by have := HLL.out; omega
        have HENC : Hid (enc (nats l) = low (nats l) ++ (if (low (nats l)).length = 0 then [] else [45]) ++ (encD (nats l) (low (nats l)).length (nats l).length 0 72 128 (low (nats l)).length).map letter) := by show _ = _; unfold enc; rw [low_len]
        have k2 : ¬ (l.length : Int) < (l.length : Int) := by omega
        generalize low (nats l) = L at *
        generalize hm : nats l = m at *
        have ml : (l.length : Int) = (m.length : Int) := by omega
        clear hE1 hE2 hE3 hk hlt HA
        obtain ⟨F, hF⟩ : ∃ F, F = enc m := ⟨_, rfl⟩
        rw [← hF] at HENC HX
        clear hF
        generalize hP : L.length = P at *
        have hz := HZZ.out
        clear HZZ
        have HS0 : Hid (EncAt m P F L 0 72 128 P m.length) := ⟨by rw [HENC.out, if_pos hz, List.append_nil], HPc.out, by omega, by omega, by omega, by omega, by omega⟩
        have g3 : ¬ (0 : Int) < (P : Int) := by omega
        have HO2 := HO
        have HB2 := HB
        clear hz HENC HO HB
        go_wp2_with fail
        go_loopw [4, 6, 8, 9, 10] (fun vo vc vn vd vb wr => ∃ (ys : List UInt8) (delta bias n done f : Nat), vd = .int .i64 (delta : Int) ∧ vb = .int .i64 (bias : Int) ∧ vn = .int .i64 (n : Int) ∧ vc = .int .i64 (done : Int) ∧ BOwn wr w.heap.size vo ys ∧ Below w.heap.size w wr ∧ EncAt m P F ys delta bias n done f) (fun _ vc _ _ _ _ => l.length - (intOf vc).toNat)
        case atStart => exact ⟨_, 0, 72, 128, P, m.length, rfl, rfl, rfl, rfl, HO2.out, HB2.out, HS0.out⟩
        case round =>
          obtain ⟨ys, delta, bias, n, done, f, rfl, rfl, rfl, rfl, ho, hb, hE⟩ := hrel
          clear HS0 HO2 HB2
          have hdle : done ≤ m.length := by rw [hE.done]; exact List.countP_le_length
          have hst := hE.steps
          have htop := hE.top
          have hbi := hE.bias
          have d0 : (0 : Int) ≤ (delta : Int) := by omega
          have d1 : (delta : Int) ≤ 400000000 := by omega
          have n0 : (0 : Int) ≤ (n : Int) := by omega
          have n1 : (n : Int) ≤ 1114112 := by omega
          have c0 : (0 : Int) ≤ (done : Int) := by omega
          have c1 : (done : Int) ≤ 256 := by have := HLG.out; omega
          have i0 : (0 : Int) ≤ (bias : Int) := by omega
          have i1 : (bias : Int) ≤ 2340 := by omega
          have HOy := hid ho
          have HBy := hid hb
          have HEy := hid hE
          have HML : Hid (m.length ≤ 256) := by show _ ≤ _; have := HLG.out; omega
          clear ho hb hE hst htop hbi
          by_cases hlt : done < m.length
          · have hcd := HEy.out.done
            have HLR : Hid (least m n = lstF 1114112 n m) := (least_ref HNL.out (by rw [← hcd]; exact hlt)).symm
            obtain ⟨G, X, q1, q2, q3, q4, q5, q6, q7⟩ := HEy.out.scan HNL.out hlt HML.out
            generalize least m n = s at *
            obtain ⟨p, hpd⟩ : ∃ p, p = (s - n) * (done + 1) := ⟨_, rfl⟩
            rw [← hpd] at q5 q6 q7
            have e1 : ((s : Int) - (n : Int)) * ((done : Int) + 1) = (p : Int) := by
              rw [hpd, Int.natCast_mul, Int.natCast_add, Int.natCast_sub q2]; rfl
            have s0 : (0 : Int) ≤ (s : Int) := by omega
            have s1 : (s : Int) ≤ 1114111 := by omega
            have sn : (n : Int) ≤ (s : Int) := by omega
            have pp0 : (0 : Int) ≤ (p : Int) := by omega
            have pp1 : (delta : Int) + (p : Int) ≤ 400000000 := by omega
            have gd : (done : Int) < (l.length : Int) := by omega
            have HQ4 := hid q4
            have HQ5 := hid q5
            have HQ6 := hid q6
            have HQ7 := hid q7
            have HD := hid hlt
            have HS1 := hid q3
            clear q1 q2 q3 q4 q5 q6 q7 hlt hpd hdle hcd
            go_wp2_with fail
            go_loop [11, 12] (fun vx vi => ∃ k x : Nat, k ≤ m.length ∧ vx = .int .i64 (x : Int) ∧ vi = .int .i64 (k : Int) ∧ x ≤ 1114112 ∧ s = lstF x n (m.drop k)) (fun _ vi => l.length - (intOf vi).toNat)
            case atStart => exact ⟨0, 1114112, Nat.zero_le _, rfl, rfl, Nat.le_refl _, by rw [List.drop_zero]; exact HLR.out⟩
            case round =>
              obtain ⟨k, x, hk, rfl, rfl, hx, hr⟩ := hrel
              clear HLR
              have x0 : (0 : Int) ≤ (x : Int) := by omega
              have x1 : (x : Int) ≤ 1114112 := by omega
              by_cases hlt : k < m.length
              · obtain ⟨b, off, rfl, hck⟩ := HNR.out.open HBy.out k hlt
                have hc := HNL.out m[k] (List.getElem_mem hlt)
                rw [drop_at hlt, lstF_cons] at hr
                have HK : Hid (k < l.length) := by show _ < _; omega
                have HK2 := hid hlt
                have k0 : (0 : Int) ≤ (k : Int) := by omega
                have k1 : (k : Int) < (l.length : Int) := by omega
                generalize m[k] = c at *
                have cc0 : (0 : Int) ≤ (c : Int) := by omega
                have cc1 : (c : Int) ≤ 1114111 := by omega
                have HRr := hid hr
                have HXx := hid hx
                clear hr hx hk hlt
                by_cases hnc : n ≤ c
                · have g1 : (n : Int) ≤ (c : Int) := by omega
                  by_cases hxc : x ≤ c
                  · have g2 : ¬ (c : Int) < (x : Int) := by omega
                    have HQ : Hid (s = lstF x n (m.drop (k + 1))) := by show _ = _; rw [HRr.out, if_pos hnc, Nat.min_eq_left hxc]
                    clear hnc hxc HRr hc
                    go_wp2_with fail
                    go_round
                    case rel => exact ⟨k + 1, x, HK2.out, rfl, by go_num, HXx.out, HQ.out⟩
                    case measure => have := HK.out; simp [intOf]; omega
                  · have g2 : (c : Int) < (x : Int) := by omega
                    have HQ : Hid (s = lstF c n (m.drop (k + 1))) := by show _ = _; rw [HRr.out, if_pos hnc, Nat.min_eq_right (by omega)]
                    have HC : Hid (c ≤ 1114112) := by show _ ≤ _; omega
                    clear hnc hxc HRr hc
                    go_wp2_with fail
                    go_round
                    case rel => exact ⟨k + 1, c, HK2.out, rfl, by go_num, HC.out, HQ.out⟩
                    case measure => have := HK.out; simp [intOf]; omega
                · have g1 : ¬ (n : Int) ≤ (c : Int) := by omega
                  have HQ : Hid (s = lstF x n (m.drop (k + 1))) := by show _ = _; rw [HRr.out, if_neg hnc]
                  clear hnc HRr hc
                  go_wp2_with fail
                  go_round
                  case rel => exact ⟨k + 1, x, HK2.out, rfl, by go_num, HXx.out, HQ.out⟩
                  case measure => have := HK.out; simp [intOf]; omega
              · have hsx : s = x := by
                  rw [hr, List.drop_eq_nil_of_le (by omega)]; rfl
                subst hsx
                have g1 : ¬ (k : Int) < (l.length : Int) := by omega
                clear hr hx hk hlt x0 x1
                go_wp2_with fail
                go_loopw [4, 6, 9, 10, 13] (fun vo vc vd vb vi wr => ∃ (zs : List UInt8) (k delta' bias' done' : Nat), vd = .int .i64 (delta' : Int) ∧ vb = .int .i64 (bias' : Int) ∧ vc = .int .i64 (done' : Int) ∧ vi = .int .i64 (k : Int) ∧ BOwn wr w.heap.size vo zs ∧ Below w.heap.size w wr ∧ ScanAt m P s G X (delta + p) done zs k delta' bias' done') (fun _ _ _ _ vi _ => l.length - (intOf vi).toNat)
                case atStart => exact ⟨ys, 0, delta + p, bias, done, by go_num, rfl, rfl, rfl, HOy.out, HBy.out, HQ6.out⟩
                case round =>
                  obtain ⟨zs, k, delta', bias', done', rfl, rfl, rfl, rfl, ho, hb, hA⟩ := hrel
                  have HOz := hid ho
                  have HBz := hid hb
                  have HA := hid hA
                  have hk := hA.k
                  have hst := hA.steps
                  have hbi := hA.bias
                  have hdn : done' ≤ 256 := by
                    have := hA.done
                    have h1 := take_countP_le m k s
                    have := HQ4.out
                    have := HML.out
                    omega
                  have hln := hA.len
                  have HZL : Hid (zs.length ≤ 500000) := by show _ ≤ _; omega
                  have HSz : Hid (w.heap.size ≤ wr.heap.size) := hb.size
                  clear ho hb hA HQ6 HOy HBy HEy d0 d1 c0 c1 i0 i1 pp0 hln
                  have d0 : (0 : Int) ≤ (delta' : Int) := by omega
                  have d1 : (delta' : Int) ≤ 400000256 := by have := HML.out; omega
                  have c0 : (0 : Int) ≤ (done' : Int) := by omega
                  have c1 : (done' : Int) ≤ 256 := by omega
                  have i0 : (0 : Int) ≤ (bias' : Int) := by omega
                  have i1 : (bias' : Int) ≤ 2340 := by omega
                  have k0 : (0 : Int) ≤ (k : Int) := by omega
                  by_cases hlt : k < m.length
                  · obtain ⟨b, off, rfl, hck⟩ := HNR.out.open HBz.out k hlt
                    have k1 : (k : Int) < (l.length : Int) := by omega
                    have HK : Hid (k < l.length) := by show _ < _; omega
                    have HLT := hid (HA.out.lt hlt)
                    have HGT := hid (HA.out.gt hlt)
                    have HEQ := hid (HA.out.eq hlt)
                    have hcm := HNL.out m[k] (List.getElem_mem hlt)
                    generalize m[k] = c at *
                    have c2 : (0 : Int) ≤ (c : Int) := by omega
                    have c3 : (c : Int) ≤ 1114111 := by omega
                    rcases Nat.lt_trichotomy c s with h | h | h
                    · have HX1 := hid (HLT.out h)
                      have g1 : (c : Int) < (s : Int) := by omega
                      have g2 : ((c : Int) == (s : Int)) = false := by rw [beq_eq_false_iff_ne]; omega
                      have g3 : ((c : Int) != (s : Int)) = true := by rw [bne_iff_ne]; omega
                      clear h hcm hlt hk hst hbi hdn HLT HGT HEQ
                      go_wp2_with fail
                      go_roundw
                      case rel => exact ⟨zs, k + 1, delta' + 1, bias', done', by go_num, rfl, rfl, by go_num, HOz.out, HBz.out, HX1.out⟩
                      case measure => have := HK.out; simp [intOf]; omega
                    · have HX1 := hid (HEQ.out h)
                      have HN0 := hid (NumAt.start zs bias' delta' (by omega) HZL.out)
                      have gk : decide (k < l.length) = true := decide_eq_true HK.out
                      generalize zs ++ (num bias' delta').map letter = F5 at *
                      subst h
                      have HBi := hid hbi
                      have HAd := hid (fun fl w' => radapt_calls delta' (done' + 1) fl w' (by omega) (by omega) (by omega))
                      rw [Int.natCast_add] at HAd
                      clear hcm hlt hk hst hbi hdn HLT HGT HEQ
                      go_wp2_with fail
                      go_loopw [4, 14, 15] (fun vo vq vk w5 => ∃ (us : List UInt8) (q kk f5 : Nat), vq = .int .i64 (q : Int) ∧ vk = .int .i64 (kk : Int) ∧ BOwn w5 w.heap.size vo us ∧ Below w.heap.size w w5 ∧ NumAt F5 bias' us q kk f5) (fun _ vq _ _ => (intOf vq).toNat)
                      case atStart => exact ⟨zs, delta', 36, 64, rfl, rfl, HOz.out, HBz.out, HN0.out⟩
                      case round =>
                        obtain ⟨us, q, kk, f5, rfl, rfl, ho5, hb5, hN5⟩ := hrel
                        have HO5 := hid ho5
                        have HB5 := hid hb5
                        have HSz5 : Hid (w.heap.size ≤ wr.heap.size) := hb5.size
                        have hq5 := hN5.2.2.1
                        have hk5 := hN5.2.2.2.1
                        have hl5 := hN5.2.2.2.2
                        have HT := hid (fun w' => rthr_calls kk bias' w' (by omega) (by have := HBi.out; omega))
                        have t1 := thr_ge kk bias'
                        have t2 := thr_le kk bias'
                        have q0 : (0 : Int) ≤ (q : Int) := by omega
                        have q1 : (q : Int) ≤ 3000000000 := by omega
                        have kk0 : (0 : Int) ≤ (kk : Int) := by omega
                        have kk1 : (kk : Int) ≤ 2340 := by omega
                        clear ho5 hb5 HN0 hck
                        by_cases hlt : q < thr kk bias'
                        · have HE := hid (hN5.last hlt)
                          have HL := hid (fun w' => rletter_calls q w' (by omega))
                          generalize letter q = y at *
                          obtain ⟨v', w', hr, ho', hg⟩ := append_run (HO5.out.alloc (.cells #[.int .u8 (y.toNat : Int)] 5)) (Row.lit fb wr [y] 5 (0, 0) (by simp)) (by simp; omega) (by have := HSz5.out; simp; omega)
                          have HO6 := hid ho'
                          have HB6 := hid ((HB5.out.alloc HSz5.out (.cells #[.int .u8 (y.toNat : Int)] 5)).grown hg (by have := HSz5.out; simp; omega) (Own.lt HO5.out))
                          have gq : (q : Int) < ((thr kk bias' : Nat) : Int) := by omega
                          have gq2 : ¬ ((thr kk bias' : Nat) : Int) ≤ (q : Int) := by omega
                          generalize thr kk bias' = t at *
                          clear ho' hg hlt hN5 hq5 hk5 hl5 t1 t2 HOz HBz HO5 HB5
                          by_cases hpd : done' = P
                          · subst hpd
                            rw [decide_eq_true rfl] at HX1
                            go_wp2_with fail
                            refine (HT.out _).mono ?_
                            rintro e w1 ⟨rfl, rfl⟩
                            go_wp2_with fail
                            refine (HL.out _).mono ?_
                            rintro e w1 ⟨rfl, rfl⟩
                            go_wp2_with (at_builtin; go_must (refine wpList_append_run hr rfl _ _ rfl rfl rfl rfl ?_))
                            refine (HAd.out true _).mono ?_
                            rintro e w1 ⟨rfl, rfl⟩
                            go_wp2_with fail
                            go_roundw
                            case rel => exact ⟨F5, k + 1, 0, _, done' + 1, rfl, rfl, by go_num, by go_num, by rw [HE.out]; exact HO6.out, HB6.out, HX1.out⟩
                            case measure => have := HK.out; simp [intOf]; omega
                          · have qd : ((done' : Int) == (P : Int)) = false := by rw [beq_eq_false_iff_ne]; omega
                            rw [decide_eq_false hpd] at HX1
                            clear hpd
                            go_wp2_with fail
                            refine (HT.out _).mono ?_
                            rintro e w1 ⟨rfl, rfl⟩
                            go_wp2_with fail
                            refine (HL.out _).mono ?_
                            rintro e w1 ⟨rfl, rfl⟩
                            go_wp2_with (at_builtin; go_must (refine wpList_append_run hr rfl _ _ rfl rfl rfl rfl ?_))
                            refine (HAd.out false _).mono ?_
                            rintro e w1 ⟨rfl, rfl⟩
                            go_wp2_with fail
                            go_roundw
                            case rel => exact ⟨F5, k + 1, 0, _, done' + 1, rfl, rfl, by go_num, by go_num, by rw [HE.out]; exact HO6.out, HB6.out, HX1.out⟩
                            case measure => have := HK.out; simp [intOf]; omega
                        · obtain ⟨g5, hN6, hlt6⟩ := hN5.next hlt
                          have hmod := Nat.mod_lt (q - thr kk bias') (y := 36 - thr kk bias') (by omega)
                          have gq2 : ((thr kk bias' : Nat) : Int) ≤ (q : Int) := by omega
                          generalize thr kk bias' = t at *
                          obtain ⟨r, hrm⟩ : ∃ r, r = (q - t) % (36 - t) := ⟨_, rfl⟩
                          obtain ⟨z, hz⟩ : ∃ z, z = (q - t) / (36 - t) := ⟨_, rfl⟩
                          have e5 : ((q : Int) - (t : Int)) % (36 - (t : Int)) = (r : Int) := by rw [hrm, Int.natCast_emod]; congr 1 <;> omega
                          have e6 : ((q : Int) - (t : Int)) / (36 - (t : Int)) = (z : Int) := by rw [hz, Int.natCast_ediv]; congr 1 <;> omega
                          rw [← hrm] at hmod hN6
                          rw [← hz] at hN6 hlt6
                          have HL : Hid (∀ w', Calls Try.prog 18 #[.int .i64 ((t : Int) + (r : Int))] w' fun e w2 => e = .returned (.int .u8 ((letter (t + r)).toNat : Int)) ∧ w2 = w') := fun w' => by
                            have := rletter_calls (t + r) w' (by omega)
                            rwa [Int.natCast_add] at this
                          generalize letter (t + r) = y at *
                          obtain ⟨v', w', hr, ho', hg⟩ := append_run (HO5.out.alloc (.cells #[.int .u8 (y.toNat : Int)] 5)) (Row.lit fb wr [y] 5 (0, 0) (by simp)) (by simp; omega) (by have := HSz5.out; simp; omega)
                          have HO6 := hid ho'
                          have HB6 := hid ((HB5.out.alloc HSz5.out (.cells #[.int .u8 (y.toNat : Int)] 5)).grown hg (by have := HSz5.out; simp; omega) (Own.lt HO5.out))
                          have HN6 := hid hN6
                          have HZ6 := hid hlt6
                          have t3 : (1 : Int) ≤ (t : Int) := by omega
                          have t4 : (t : Int) ≤ 26 := by omega
                          have r0' : (0 : Int) ≤ (r : Int) := by omega
                          have r1' : (r : Int) < 36 := by omega
                          clear ho' hg hlt hN5 hN6 hlt6 hq5 hk5 hl5 t1 t2 hrm hz hmod HOz HBz HO5 HB5
                          go_wp2_with fail
                          refine (HT.out _).mono ?_
                          rintro e w1 ⟨rfl, rfl⟩
                          go_wp2_with fail
                          refine (HT.out _).mono ?_
                          rintro e w1 ⟨rfl, rfl⟩
                          go_wp2_with fail
                          refine (HL.out _).mono ?_
                          rintro e w1 ⟨rfl, rfl⟩
                          go_wp2_with (at_builtin; go_must (refine wpList_append_run hr rfl _ _ rfl rfl rfl rfl ?_))
                          go_roundw
                          case rel => exact ⟨us ++ [y], z, kk + 36, g5, by rw [e6], by go_num, HO6.out, HB6.out, HN6.out⟩
                          case measure => have := HZ6.out; simp [intOf, e6]; omega
                    · have HX1 := hid (HGT.out h)
                      have g1 : ¬ (c : Int) < (s : Int) := by omega
                      have g2 : ((c : Int) == (s : Int)) = false := by rw [beq_eq_false_iff_ne]; omega
                      have g3 : ((c : Int) != (s : Int)) = true := by rw [bne_iff_ne]; omega
                      clear h hcm hlt hk hst hbi hdn HLT HGT HEQ
                      go_wp2_with fail
                      go_roundw
                      case rel => exact ⟨zs, k + 1, delta', bias', done', rfl, rfl, rfl, by go_num, HOz.out, HBz.out, HX1.out⟩
                      case measure => have := HK.out; simp [intOf]; omega
                  · have hkl : k = m.length := by omega
                    subst hkl
                    obtain ⟨_, hdd, f', hE'⟩ := HQ7.out zs delta' bias' done' HA.out
                    have HE' := hid hE'
                    have HDD := hid hdd
                    have hd2 : done' ≤ m.length := by rw [hE'.done]; exact List.countP_le_length
                    have HD2 := hid hd2
                    have k2 : ¬ (m.length : Int) < (l.length : Int) := by omega
                    clear hE' hdd hd2 hlt hk hst hbi hdn
                    go_wp2_with fail
                    go_roundw
                    case rel => exact ⟨zs, delta' + 1, bias', s + 1, done', f', by go_num, rfl, by go_num, rfl, HOz.out, HBz.out, HE'.out⟩
                    case measure => have := HDD.out; have := HD2.out; simp [intOf]; omega
          · have HFy : Hid (F = ys) := by
              show _ = _
              have := HEy.out.out
              rwa [encD_stop _ _ _ _ _ _ _ (by omega), List.map_nil, List.append_nil] at this
            have g2 : ¬ (done : Int) < (l.length : Int) := by omega
            have hs := run_string HOy.out.row
            rw [← HFy.out] at hs
            clear hlt hdle
            go_wp2_with fail
            go_ret2
            exact ⟨by rw [HX.out]; rfl, HBy.out⟩
end Go.Proofs.Ytpjajiilgojbgaa
