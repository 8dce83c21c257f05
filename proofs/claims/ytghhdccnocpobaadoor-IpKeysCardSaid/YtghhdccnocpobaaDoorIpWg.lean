/- The library's tables as the walks want them; strconv.AppendUint at base 10; the program's Print4. -/
import Derived.Test.YtghhdccnocpobaaDoorIpWf
import Derived.Test.YtghhdccnocpobaaDoorIpI
import Derived.Shelf.Strconv.AppendUint10
import Derived.Lib.SmallJoins
import Derived.Deep.DeepMust
namespace Go.Proofs.YtghhdccnocpobaaDoor
open Go.RowKit Go.Shelf
set_option linter.unusedVariables false
set_option maxRecDepth 20000
set_option linter.unusedSimpArgs false
def pauRen : Ren := ⟨fun | 129 => 70 | 283 => 58 | 284 => 59 | 285 => 60 | 286 => 61 | 288 => 49 | 317 => 69 | 318 => 71 | 319 => 72 | 320 => 73 | 337 => 81 | 338 => 82 | n => n, fun | 0 => 0 | 3 => 3 | 4 => 4 | 5 => 5 | 9 => 9 | 20 => 20 | 37 => 36 | 46 => 54 | 51 => 23 | 53 => 45 | 171 => 89 | 173 => 92 | 212 => 98 | 213 => 99 | 232 => 106 | 233 => 107 | n => n, fun | 17 => 1 | 18 => 2 | 19 => 3 | n => n⟩
theorem pauLays : Lays.n288 Tryd.prog pauRen :=
  { mixed := by kernel_rfl
    f129 := Tryd.func70.trans (congrArg some (by kernel_rfl))
    f283 := Tryd.func58.trans (congrArg some (by kernel_rfl))
    f284 := Tryd.func59.trans (congrArg some (by kernel_rfl))
    f285 := Tryd.func60.trans (congrArg some (by kernel_rfl))
    f286 := Tryd.func61.trans (congrArg some (by kernel_rfl))
    f288 := Tryd.func49.trans (congrArg some (by kernel_rfl))
    f317 := Tryd.func69.trans (congrArg some (by kernel_rfl))
    f318 := Tryd.func71.trans (congrArg some (by kernel_rfl))
    f319 := Tryd.func72.trans (congrArg some (by kernel_rfl))
    f320 := Tryd.func73.trans (congrArg some (by kernel_rfl))
    f337 := Tryd.func81.trans (congrArg some (by kernel_rfl))
    f338 := Tryd.func82.trans (congrArg some (by kernel_rfl))
    t0 := Tryd.underlying0
    a0 := Tryd.isAgg0
    z0 := Tryd.sizeOf0
    v0 := Tryd.zeroValue0
    t3 := Tryd.underlying3
    a3 := Tryd.isAgg3
    z3 := Tryd.sizeOf3
    v3 := Tryd.zeroValue3
    t4 := Tryd.underlying4
    a4 := Tryd.isAgg4
    z4 := Tryd.sizeOf4
    v4 := Tryd.zeroValue4
    t5 := Tryd.underlying5
    a5 := Tryd.isAgg5
    z5 := Tryd.sizeOf5
    v5 := Tryd.zeroValue5
    t9 := Tryd.underlying9
    a9 := Tryd.isAgg9
    z9 := Tryd.sizeOf9
    v9 := Tryd.zeroValue9
    t20 := Tryd.underlying20
    a20 := Tryd.isAgg20
    z20 := Tryd.sizeOf20
    v20 := Tryd.zeroValue20
    t37 := Tryd.underlying36
    a37 := Tryd.isAgg36
    z37 := Tryd.sizeOf36
    v37 := Tryd.zeroValue36
    t46 := Tryd.underlying54
    a46 := Tryd.isAgg54
    z46 := Tryd.sizeOf54
    v46 := Tryd.zeroValue54
    t51 := Tryd.underlying23
    a51 := Tryd.isAgg23
    z51 := Tryd.sizeOf23
    v51 := Tryd.zeroValue23
    t53 := Tryd.underlying45
    a53 := Tryd.isAgg45
    z53 := Tryd.sizeOf45
    v53 := Tryd.zeroValue45
    t171 := Tryd.underlying89
    a171 := Tryd.isAgg89
    z171 := Tryd.sizeOf89
    v171 := Tryd.zeroValue89
    t173 := Tryd.underlying92
    a173 := Tryd.isAgg92
    z173 := Tryd.sizeOf92
    v173 := Tryd.zeroValue92
    t212 := Tryd.underlying98
    a212 := Tryd.isAgg98
    z212 := Tryd.sizeOf98
    v212 := Tryd.zeroValue98
    t213 := Tryd.underlying99
    a213 := Tryd.isAgg99
    z213 := Tryd.sizeOf99
    t232 := Tryd.underlying106
    a232 := Tryd.isAgg106
    z232 := Tryd.sizeOf106
    v232 := Tryd.zeroValue106
    t233 := Tryd.underlying107
    a233 := Tryd.isAgg107
    z233 := Tryd.sizeOf107
    v233 := Tryd.zeroValue107
    g17 := by kernel_rfl
    g18 := by kernel_rfl
    g19 := by kernel_rfl }
theorem pauLaysM : LaysM.n288 Tryd.prog pauRen :=
  { pauLays with
    i0 := by kernel_rfl
    i3 := by kernel_rfl
    i4 := by kernel_rfl
    i5 := by kernel_rfl
    i9 := by kernel_rfl
    i20 := by kernel_rfl
    i37 := by kernel_rfl
    i46 := by kernel_rfl
    i51 := by kernel_rfl
    i53 := by kernel_rfl
    i171 := by kernel_rfl
    i173 := by kernel_rfl
    i212 := by kernel_rfl
    i232 := by kernel_rfl
    i233 := by kernel_rfl
    m17 := by kernel_rfl
    m18 := by kernel_rfl
    m19 := by kernel_rfl }
/-- The library's own tables, as far as the walks read them. -/
def Tab (w : World) : Prop := MaxL w ∧ Lib.TabIs Tryd.prog w "internal/strconv.uint64pow10" .u64 Lib.pow10Tab ∧ w.cell? ⟨3, 15, none⟩ = some (.int .u8 4)
theorem gPow : Tryd.prog.globalNamed "internal/strconv.uint64pow10" = some 1 := by kernel_rfl
theorem MaxL.below {w w' : World} (h : MaxL w) (hb : Below w.heap.size w w') : MaxL w' := by
  obtain ⟨m, hm⟩ := h
  exact ⟨m, (hb.cell (World.block_lt_of_cell? w _ hm)).trans hm⟩
theorem Tab.below {w w' : World} (h : Tab w) (hb : Below w.heap.size w w') : Tab w' :=
  ⟨h.1.below hb, Go.Joins.tab_stays gPow h.2.1 hb (Nat.le_refl _), (hb.cell (World.block_lt_of_cell? w _ h.2.2)).trans h.2.2⟩
theorem Tab.alloc {w : World} (h : Tab w) (o : Obj) : Tab (w.alloc o) := h.below ((Below.refl _ _).alloc (Nat.le_refl _) _)
theorem Tab.drew {w : World} (h : Tab w) : Tab w.drew := h.below (Below.refl _ _).drew
theorem dec_mine : ∀ u, u < 256 → Lib.decDigits u = digsOf 10 u := by decide +kernel
theorem digs_len3 : ∀ u, u < 256 → (digsOf 10 u).length ≤ 3 := by decide +kernel
theorem pau10in_calls (B : Nat) (v : Value) (l : List UInt8) (u : Nat) (hu : u < 256) (w : World) (ho : BOwn w B v l) (hB : B ≤ w.heap.size) (hl : l.length ≤ 100000) (ht : Tab w) :
    Calls Tryd.prog 49 #[v, .int .u64 (u : Int), .int .i64 10] w fun e w' => ∃ v', e = .returned v' ∧ BOwn w' B v' (l ++ digsOf 10 u) ∧ Below B w w' := by
  have hd := dec_mine u hu
  have key : ∀ {v' : Value} {w' : World}, w'.ownsRow B 5 1 v' (l.length + (Lib.decDigits u).length) (l.map fb ++ Lib.byteCells (Lib.decDigits u)) → BOwn w' B v' (l ++ digsOf 10 u) := by
    intro v' w' h
    unfold BOwn Own
    rw [List.length_append, List.map_append, ← hd]
    exact h
  rcases Nat.lt_or_ge u 100 with h | h
  · refine (Any.internal_strconv_AppendUint_10_small pauLaysM B l.length u h v (l.map fb) w ho hB (by omega)).mono ?_
    rintro e w' ⟨v', rfl, h1, h2, -⟩
    exact ⟨v', rfl, key h1, h2⟩
  · refine (Any.internal_strconv_AppendUint_10_big pauLaysM B l.length u h (by omega) v (l.map fb) w ho hB (by omega) ht.2.1).mono ?_
    rintro e w' ⟨v', rfl, h1, h2, -⟩
    exact ⟨v', rfl, key h1, h2⟩
theorem pau10_calls (B : Nat) (v : Value) (l : List UInt8) (u : Nat) (hu : u < 256) (w : World) (ho : BOwn w B v l) (hB : B ≤ w.heap.size) (hl : l.length ≤ 100000) (ht : Tab w) :
    Calls Tryd.prog 34 #[v, .int .u64 (u : Int), .int .i64 10] w fun e w' => ∃ v', e = .returned v' ∧ BOwn w' B v' (l ++ digsOf 10 u) ∧ Below B w w' := by
  have HC := hid (pau10in_calls B v l u hu w ho hB hl ht)
  have u1 : (u : Int) < 256 := by omega
  clear ho hB hl ht hu
  go_enter Tryd.func34, Tryd.ntmps34
  go_wp2_with fail
  refine HC.out.mono ?_
  rintro e w1 ⟨v', rfl, h1, h2⟩
  have H1 := hid h1
  have H2 := hid h2
  clear h1 h2
  go_wp2_with fail
  go_ret
  exact ⟨_, rfl, H1.out, H2.out⟩
/-- append(out, text...). -/
theorem appendStr_run {w : World} {base : Nat} {v : Value} {xs : List UInt8} (hown : BOwn w base v xs) (s : ByteArray) (hlen : xs.length + s.size ≤ 1000000) (hbase : base ≤ w.heap.size) :
    ∃ v' w', (Builtin.append_ #[36, 9] 36 #[v, .string s]).run Tryd.prog w = .ok v' w' ∧ BOwn w' base v' (xs ++ s.data.toList) ∧ w.grownBy w' v.ownBlock := by
  obtain ⟨i0, hi, hz0, hz1, hz2⟩ := info_parts info_u8
  obtain ⟨v', w', hr, ho, hg, _⟩ := Lib.run_append_own_string (P := Tryd.prog) w base 36 9 36 5 i0 Tryd.underlying36 Tryd.underlying9 hi hz0 hz1 hz2 v xs.length (xs.map fb) hown s (by unfold maxLen; omega) (by omega) hbase
  refine ⟨v', w', hr, ?_, hg⟩
  unfold BOwn Own
  rw [List.length_append, List.map_append, bytes_num]
  exact ho
theorem wpList_append_two {ts tu : TypeId} {w w' : World} {v x v' : Value} (hr : (Builtin.append_ #[ts, tu] ts #[v, x]).run Tryd.prog w = .ok v' w') {ops : Array Oper} {rest : List Oper} {o : Oper} {a : Act} {Q : Exit → Act → World → Prop} (hgd : o.guard = none) (s y : Operand)
    (ho : o.op = .call { callee := .builtin .append, args := #[s, y], argTypes := #[ts, tu] }) (hty : o.type = ts) (hs : a.eval s = v) (hx : a.eval y = x)
    (h : wpList Tryd.prog ops Q rest (a.put o.dst v') w') : wpList Tryd.prog ops Q (o :: rest) a w := by
  refine wpList_plain hgd fun K hK => ?_
  unfold Oper.wp execOp
  simp only [ho, resolve, invoke, builtin, Sem.run_bind, Sem.run_pure, Result.andThen_ok, List.map_toArray, List.map_cons, List.map_nil, hs, hx, hty, hr]
  exact hK _ _ h
end Go.Proofs.YtghhdccnocpobaaDoor
