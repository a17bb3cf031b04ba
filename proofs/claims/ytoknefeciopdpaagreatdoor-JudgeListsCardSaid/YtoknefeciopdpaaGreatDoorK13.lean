/- Layer 6: the reference's reading of operations: its parts. Layer 6: the reference's reading of operations: numbers, acts. Layer 6: the reference's Decode. -/
import Derived.Test.YtoknefeciopdpaaGreatDoorK07
import Derived.Test.YtoknefeciopdpaaGreatDoorV23
namespace Go.Proofs.YtoknefeciopdpaaGreatDoor.wir.val
open Go.RowKit Go.YtoknefeciopdpaaGreatDoor
set_option linter.unusedVariables false
theorem sliceK {w : World} {a : Option Addr} {n c : Nat} {l : List Int} (h : RdB w (.slice a n c) l) (hn : l.length = n) (u : Nat) (hu : u ≤ n) :
    ∃ a', sliced a u n c 1 = .slice a' (l.drop u).length (c - u) ∧ RdB w (.slice a' (l.drop u).length (c - u)) (l.drop u) := by
  have hd : (l.drop u).length = n - u := by simp [hn]
  have hq := restK h hn u hu
  unfold sliced
  rw [hd]
  by_cases hc : c = u
  · rw [if_pos hc]
    exact ⟨a, rfl, hq.1 (by omega)⟩
  · rw [if_neg hc]
    rcases h with ⟨a', c', he, hz, rfl⟩ | ⟨b, o, c', he, h1, h2, h3, h4⟩
    · obtain rfl : n = 0 := by injection he
      obtain rfl : u = 0 := by omega
      refine ⟨_, rfl, ?_⟩
      injection he with e1 e2 e3
      subst e1 e3
      exact .inl ⟨_, _, rfl, (fun h => by
        cases a with
        | none => have := hz rfl; omega
        | some A => cases h), rfl⟩
    · injection he with e1 e2 e3
      subst e1
      refine ⟨_, rfl, ?_⟩
      have h2 := hq.2 b o rfl
      rw [Option.map_some, addr_add, Nat.mul_one]
      exact h2
theorem wpList_cut {P : Program} {ops : Array Oper} {rest : List Oper} {o : Oper} {a : Act} {w : World} {Q : Exit → Act → World → Prop} (hw : Region.wanted o (yielded ops a.tmps) = true) (t : TypeId) (x y : Operand) (ho : o.op = .slice t x (some y) none none)
    (ht : P.underlying t = some (.slice (P.elem t))) (hs : (P.info? (P.elem t)).map (·.size) = some 1) (W0 : World) (l : List Int) (b : Option Addr) (n c : Nat) (hx : a.eval x = .slice b n c) (hr : RdB W0 (.slice b n c) l) (hn : l.length = n) (u : Nat) (hy : a.eval y = .int .i64 (u : Int)) (hu : u ≤ n) (l' : List Int) (M : Nat) (hd : l.drop u = l') (hM : l'.length = M)
    (h : ∀ b' c', RdB W0 (.slice b' M c') l' → wpList P ops Q rest (a.put o.dst (.slice b' M c')) w) : wpList P ops Q (o :: rest) a w :=
  wpList_step fun K hK => by
    subst hM
    subst hd
    rw [if_pos hw]
    obtain ⟨b', e1, e2⟩ := sliceK hr hn u hu
    have hl := run_slice_l (P := P) (w := w) t b n c ht .i64 (u : Int) (by omega) (by omega)
    have hsz : (sizeOf (P.elem t)).run P w = .ok 1 w := by
      cases hi : P.info? (P.elem t) with
      | none => rw [hi] at hs; cases hs
      | some i =>
        rw [hi] at hs
        have : i.size = 1 := by simpa using hs
        simp [sizeOf, typeInfo, hi, this]
    rw [hsz] at hl
    simp only [Result.andThen_ok, Int.toNat_natCast] at hl
    rw [e1] at hl
    unfold Oper.wp execOp
    simp only [ho, hx, Option.map_some, Option.map_none, hy]
    simp only [Sem.run_bind, run_sliceAt_slice (P := P) (w := w) t _ _ _ _ ht, hl, Sem.run_pure, Result.andThen_ok]
    exact hK _ _ (h b' _ e2)
end Go.Proofs.YtoknefeciopdpaaGreatDoor.wir.val
namespace Go.Proofs.YtoknefeciopdpaaGreatDoor.wir.val
open Go.RowKit Go.YtoknefeciopdpaaGreatDoor
set_option linter.unusedVariables false
theorem qa_cut {P : Program} {C : World → Prop} {o : Oper} {a : Act} (t : TypeId) (x y : Operand) (ho : o.op = .slice t x (some y) none none)
    (ht : P.underlying t = some (.slice (P.elem t))) (hs : (P.info? (P.elem t)).map (·.size) = some 1) (b : Option Addr) (n c : Nat) (hx : a.eval x = .slice b n c) (u : Nat) (hy : a.eval y = .int .i64 (u : Int)) (hu : u ≤ n) (v : Value) (hv : sliced b u n c 1 = v) : ∀ w, C w → o.quietAt P a C w v := by
  intro w _
  refine qa_ok ?_
  have hl := run_slice_l (P := P) (w := w) t b n c ht .i64 (u : Int) (by omega) (by omega)
  have hsz : (sizeOf (P.elem t)).run P w = .ok 1 w := by
    cases hi : P.info? (P.elem t) with
    | none => rw [hi] at hs; cases hs
    | some i =>
      rw [hi] at hs
      have : i.size = 1 := by simpa using hs
      simp [sizeOf, typeInfo, hi, this]
  rw [hsz] at hl
  simp only [Result.andThen_ok, Int.toNat_natCast] at hl
  rw [hv] at hl
  unfold execOp
  simp only [ho, hx, Option.map_some, Option.map_none, hy]
  simp only [Sem.run_bind, run_sliceAt_slice (P := P) (w := w) t _ _ _ _ ht, hl, Sem.run_pure, Result.andThen_ok]
set_option maxHeartbeats 2000000 in
set_option maxRecDepth 100000 in
theorem rshort_none (l : List Int) (bv : Value) (w : World) (hr : RdB w bv l) (hl : Bytes l) (hlm : l.length ≤ 1000000) (h : rSmall l = none) :
    Calls Tryz.prog 50 #[bv] w fun e w' => e = .returned (.tuple #[.int .u32 0, .slice none 0 0, .bool false]) ∧ Below w.heap.size w w' := by
  have hN := rreadNumber_any l bv w hr hl hlm
  obtain ⟨a, c, rfl⟩ := hr.slice
  cases hre : readF l with
  | none =>
    obtain ⟨e1, e2, e3⟩ := rd_none hre
    rw [e1, e2, e3] at hN
    have hN := Lib.hid hN
    clear hr hl h hre e1 e2 e3
    generalize l.length = N at *
    go_enter Tryz.func50, Tryz.ntmps50
    go_wp2_with (go_at_call 52; (with_reducible refine (hN.out).mono ?_); rintro e w1 ⟨rfl, hb⟩; have hb1 := Lib.hid hb; clear hb)
    go_ret3
    exact ⟨rfl, hb1.out⟩
  | some p =>
    obtain ⟨n, u⟩ := p
    obtain ⟨e1, e2, e3⟩ := rd_some hre
    rw [e1, e2, e3] at hN
    have hN := Lib.hid hN
    have hn : 4294967295 < n := by
      unfold rSmall rNum at h
      rw [hre] at h
      simp only at h
      by_cases hn : 4294967295 < n
      · exact hn
      · rw [if_neg hn] at h; cases h
    have i1 : (4294967295 : Int) < (n : Int) := by omega
    have i2 : decide ((4294967295 : Int) < (n : Int)) = true := decide_eq_true i1
    clear hr hl h hre e1 e2 e3
    generalize l.length = N at *
    go_enter Tryz.func50, Tryz.ntmps50
    go_wp2_with (go_at_call 52; (with_reducible refine (hN.out).mono ?_); rintro e w1 ⟨rfl, hb⟩; have hb1 := Lib.hid hb; clear hb)
    go_ret3
    exact ⟨rfl, hb1.out⟩
set_option maxHeartbeats 2000000 in
set_option maxRecDepth 100000 in
theorem rshort_some (l : List Int) (bv : Value) (w : World) (hr : RdB w bv l) (hl : Bytes l) (hlm : l.length ≤ 1000000) (n : Nat) (m : List Int) (h : rSmall l = some (n, m)) :
    Calls Tryz.prog 50 #[bv] w fun e w' => ∃ a c, e = .returned (.tuple #[.int .u32 (n : Int), .slice a m.length c, .bool true]) ∧ RdB w (.slice a m.length c) m ∧ Below w.heap.size w w' := by
  have hN := rreadNumber_any l bv w hr hl hlm
  obtain ⟨a, c, rfl⟩ := hr.slice
  cases hre : readF l with
  | none => unfold rSmall rNum at h; rw [hre] at h; cases h
  | some p =>
    obtain ⟨k, u⟩ := p
    obtain ⟨e1, e2, e3⟩ := rd_some hre
    rw [e1, e2, e3] at hN
    have hN := Lib.hid hN
    obtain ⟨a1, a2, a3, a4⟩ := readF_some hl hre
    unfold rSmall rNum at h
    rw [hre] at h
    simp only at h
    by_cases hn : 4294967295 < k
    · rw [if_pos hn] at h; cases h
    rw [if_neg hn] at h
    obtain ⟨h1, h2⟩ := Prod.mk.inj (Option.some.inj h)
    subst h1 h2
    have i1 : ¬ (4294967295 : Int) < (k : Int) := by omega
    have i2 : decide ((4294967295 : Int) < (k : Int)) = false := decide_eq_false i1
    have hw : IntKind.u32.wrap (k : Int) = (k : Int) := IntWalk.u32_in _ (by omega)
    obtain ⟨b', k1, k2⟩ := sliceK hr rfl u a3
    have k1 := Lib.hid k1; have k2 := Lib.hid k2; have a3 := Lib.hid a3
    clear hr hl h hre e1 e2 e3 hn a1 a2 a4
    generalize l.drop u = m at *
    generalize l.length = N at *
    generalize m.length = M at *
    go_enter Tryz.func50, Tryz.ntmps50
    go_upto_region 4 with (go_at_call 52; (with_reducible refine (hN.out).mono ?_); rintro e w1 ⟨rfl, hb⟩; have hb1 := Lib.hid hb; clear hb)
    refine wp_region_quiet (C := fun w' => Below w1.heap.size w1 w') (by kernel_rfl) (by kernel_rfl) ((Below.refl _ _).drew) ?_
    simp only []
    iterate 4 (go_big_quiet_want; go_big_quiet_op; first | go_big_quiet_on | (refine ⟨_, fun _ _ => rfl, ?_⟩; go_big_quiet_on))
    refine wpq (.slice b' M (c - u)) rfl (qa_cut 33 _ _ rfl (by kernel_rfl) (by kernel_rfl) a N c rfl u rfl a3.out _ k1.out) rfl (fun K hK => ?_); go_simp; refine hK _ ?_; clear hK K
    iterate 3 (go_big_quiet_want; go_big_quiet_op; first | go_big_quiet_on | (refine ⟨_, fun _ _ => rfl, ?_⟩; go_big_quiet_on))
    refine wpQuiet_nil ?_
    intro w9 h9
    have hB9 := Lib.hid (hb1.out.trans (h9.mono hb1.out.size))
    clear h9
    go_wp2
    go_ret3
    exact ⟨b', c - u, rfl, k2.out, hB9.out⟩
set_option maxHeartbeats 4000000 in
set_option maxRecDepth 100000 in
theorem ract_none (l : List Int) (bv : Value) (w : World) (hr : RdB w bv l) (hl : Bytes l) (hlm : l.length ≤ 1000) (h : rAct l = none) :
    Calls Tryz.prog 53 #[bv] w fun e w' => ∃ c : Ac, e = .returned (.tuple #[aA c.k c.key c.v, .slice none 0 0, .bool false]) ∧ Below w.heap.size w w' := by
  obtain ⟨W, hW⟩ : ∃ W, W = w.alloc (.cells (aC 0 ⟨#[]⟩ ⟨0, 0, 0, ⟨#[]⟩⟩) 28) := ⟨_, rfl⟩
  have hS := Lib.hid (show Below w.heap.size w W by rw [hW]; exact below_a w _)
  have rR := Lib.hid (show W.heap[w.heap.size]? = some (.cells (aC 0 ⟨#[]⟩ ⟨0, 0, 0, ⟨#[]⟩⟩) 28 (0, 0)) by rw [hW]; exact heap_alloc_new w _)
  unfold rAct at h
  by_cases h0 : l.length = 0
  · clear h
    obtain ⟨a, cc, rfl⟩ := hr.slice
    rw [h0]
    clear hr hl hlm
    go_enter Tryz.func53, Tryz.ntmps53
    go_upto_region 1 with fail
    change Code.wp _ _ _ _ (w.alloc (.cells (aC 0 ⟨#[]⟩ ⟨0, 0, 0, ⟨#[]⟩⟩) 28))
    rw [← hW]
    clear hW
    go_wp2_with (refine storeOver _ w.heap.size _ rfl 28 _ _ rfl (aC 0 ⟨#[]⟩ ⟨0, 0, 0, ⟨#[]⟩⟩) 28 rR.out rfl rfl info_act rfl (act_one _ _ _ _ _ _) ?_; intro w9 hr9 hb9; have hr9' := Lib.hid hr9; have hb9' := Lib.hid hb9; clear hr9 hb9)
    exact bodyPost_ret (results_row_tmp2 rfl _ _ w.heap.size 28 _ _ _ rfl hr9'.out Tryz.underlying28 rfl info_act) rfl ⟨⟨0, ⟨#[]⟩, ⟨0, 0, 0, ⟨#[]⟩⟩⟩, rfl, hS.out.trans hb9'.out⟩
  rw [if_neg h0] at h
  have hrs := hr
  rcases hr with ⟨_, _, _, _, rfl⟩ | ⟨b, o, cc, rfl, g1, g2, g3, g4⟩
  · simp at h0
  have k00 : w.cell? ⟨b, o, none⟩ = some (.int .u8 (ith l 0)) := by
    have := g4 0 (by omega)
    rwa [Nat.add_zero] at this
  have hx0 := hl 0
  have hl1 := bytes_drop l 1 hl
  have hlen1 : (l.drop 1).length ≤ 1000 := by rw [List.length_drop]; omega
  obtain ⟨l1, hd1⟩ : ∃ l1, l.drop 1 = l1 := ⟨_, rfl⟩
  rw [hd1] at h hl1 hlen1
  have hd1 := Lib.hid hd1
  obtain ⟨M1, hM1⟩ : ∃ M, l1.length = M := ⟨_, rfl⟩
  have hM1 := Lib.hid hM1
  have kb : ∀ w', Below w.heap.size w w' → w'.cell? ⟨b, o, none⟩ = some (.int .u8 (ith l 0)) := fun w' h => (h.cell (p := ⟨b, o, none⟩) g3).trans k00
  have kb0 := kb W hS.out
  have kb := Lib.hid kb
  have bw := Lib.hid hrs
  obtain ⟨N, hN⟩ : ∃ N, l.length = N := ⟨_, rfl⟩
  have hNl := Lib.hid hN
  rw [hN] at bw ⊢
  have hN0 : ¬ N = 0 := by rw [← hN]; exact h0
  have i1 : (0 : Int) < (N : Int) := by omega
  have i2 : 0 < N := by omega
  have i3 : ((N : Int) == 0) = false := by simp; omega
  have hN1 := Lib.hid (show 1 ≤ N by omega)
  clear g1 g2 g3 g4 k00 hrs hl h0 hN
  generalize ith l 0 = X at *
  by_cases hk1 : X = 1
  · have rR0 := rR
    have t1 : (X == 1) = true := by rw [hk1]; rfl
    rw [if_pos hk1] at h
    cases h
  · have rR0 := rR
    have t1 : (X == 1) = false := by simpa using hk1
    rw [if_neg hk1] at h
    unfold rKey at h
    cases hre : readC l1 20 1 with
    | none =>
      have hN := Lib.hid (fun (wz : World) (a : Option Addr) (c : Nat) (hh : RdB wz (.slice a M1 c) l1) => rreadBytes_no l1 _ 20 (by omega) (by omega) wz hh hl1 (by omega) hre)
      clear h hre hk1
      go_enter Tryz.func53, Tryz.ntmps53
      go_upto_region 1 with fail
      change Code.wp _ _ _ _ (w.alloc (.cells (aC 0 ⟨#[]⟩ ⟨0, 0, 0, ⟨#[]⟩⟩) 28))
      rw [← hW]
      clear hW
      go_upto_region 4 with fail
      change Code.wp _ _ _ _ (W.alloc (.cells (aC X ⟨#[]⟩ ⟨0, 0, 0, ⟨#[]⟩⟩) 28))
      have r3 := Lib.hid (heap_alloc_new W (.cells (aC X ⟨#[]⟩ ⟨0, 0, 0, ⟨#[]⟩⟩) 28))
      have hz := below_a W (.cells (aC X ⟨#[]⟩ ⟨0, 0, 0, ⟨#[]⟩⟩) 28)
      replace rR := Lib.hid (rowB rR.out hz (Array.getElem?_eq_some_iff.1 rR.out).1)
      have hg3 := Lib.hid (show w.heap.size < W.heap.size from (Array.getElem?_eq_some_iff.1 rR0.out).1)
      replace hS := Lib.hid (hS.out.trans (hz.mono hS.out.size))
      clear hz kb0
      generalize W.heap.size = g3 at *
      generalize W.alloc (.cells (aC X ⟨#[]⟩ ⟨0, 0, 0, ⟨#[]⟩⟩) 28) = w2 at *
      obtain ⟨k0, k1, k2, k3, k4, k5⟩ := (six_of r3.out).1
      go_upto_region 5 with (refine wpList_cut rfl 33 _ _ rfl (by kernel_rfl) (by kernel_rfl) w l _ _ _ rfl bw.out hNl.out 1 rfl hN1.out l1 M1 hd1.out hM1.out ?_; intro x1a x1c x10; have x1 := Lib.hid x10; clear x10)
      go_wp2_with (first | (refine wpList_load_row_g rfl 28 _ rfl g3 rfl 28 (aC X ⟨#[]⟩ ⟨0, 0, 0, ⟨#[]⟩⟩) (0, 0) _ r3.out Tryz.underlying28 rfl info_act ?_) | (refine storeOver _ w.heap.size _ rfl 28 _ _ rfl (aC X ⟨#[]⟩ ⟨0, 0, 0, ⟨#[]⟩⟩) 28 rR.out rfl rfl info_act rfl (act_one _ _ _ _ _ _) ?_; intro w9 hr9 hb9; have hr9' := Lib.hid hr9; have hb9' := Lib.hid hb9; clear hr9 hb9) | (go_at_call 90; go_loud (with_reducible refine (hN.out _ _ _ (x1.out.mono hS.out)).mono ?_); rintro e w4 ⟨rfl, q2⟩; replace r3 := Lib.hid (rowB r3.out q2 (Array.getElem?_eq_some_iff.1 r3.out).1); replace rR := Lib.hid (rowB rR.out q2 (Array.getElem?_eq_some_iff.1 rR.out).1); replace hS := Lib.hid (hS.out.trans (Below.mono q2 hS.out.size)); clear q2))
      exact bodyPost_ret (results_row_tmp2 rfl _ _ w.heap.size 28 _ _ _ rfl hr9'.out Tryz.underlying28 rfl info_act) rfl ⟨⟨X, ⟨#[]⟩, ⟨0, 0, 0, ⟨#[]⟩⟩⟩, rfl, hS.out.trans hb9'.out⟩
    | some q =>
      obtain ⟨n, u⟩ := q
      rw [hre] at h
      simp only at h
      have hKB := Lib.hid (fun (wz : World) (a : Option Addr) (c : Nat) (hh : RdB wz (.slice a M1 c) l1) => rreadBytes_ok l1 _ 20 (by omega) (by omega) wz hh hl1 (by omega) n u hre)
      obtain ⟨c1, c2, c3⟩ := readC_some hre
      obtain ⟨a1, a2, a3, a4⟩ := readF_some hl1 c1
      rw [Nat.div_one] at c3
      have hun := Lib.hid (show u + n ≤ M1 by have := hM1.out; omega)
      have hkc := Lib.hid (fun wx v (h : RdB wx v ((l1.drop u).take n)) => run_toS (P := Tryz.prog) h 33 9 5 Tryz.underlying33 Tryz.underlying5 Tryz.underlying9)
      have hl2 := bytes_drop l1 (u + n) hl1
      have hlen2 : (l1.drop (u + n)).length ≤ 1000 := by rw [List.length_drop]; omega
      clear hre c1 c2 c3 a1 a2 a3 a4 hl1
      generalize toS ((l1.drop u).take n) = s at *
      generalize (l1.drop u).take n = KB at *
      obtain ⟨V, hV⟩ : ∃ V, u + n = V := ⟨_, rfl⟩
      rw [hV] at h hKB hun hl2 hlen2
      clear hV
      obtain ⟨l2, hd2⟩ : ∃ l2, l1.drop V = l2 := ⟨_, rfl⟩
      rw [hd2] at h hl2 hlen2
      have hd2 := Lib.hid hd2
      obtain ⟨M2, hM2⟩ : ∃ M, l2.length = M := ⟨_, rfl⟩
      have hM2 := Lib.hid hM2
      by_cases hk4 : X = 4
      · have t4 : (X == 4) = true := by rw [hk4]; rfl
        rw [if_pos hk4] at h
        unfold rVal at h
        have hdR : ∃ (v : Va) (u2 : Nat) (x : Int), decR l2 = .tuple #[vA v.k v.n v.b v.s, .int .i64 (u2 : Int), .int .i64 x] ∧ u2 ≤ M2 ∧ ((x = 12 ∧ decF l2 = none) ∨ (x = 0 ∧ decF l2 = some (v, u2))) := by
          cases hd : decF l2 with
          | none => exact ⟨⟨0, 0, 0, ⟨#[]⟩⟩, 0, 12, by unfold decR; rw [hd]; rfl, Nat.zero_le _, .inl ⟨rfl, rfl⟩⟩
          | some q => obtain ⟨v, u2⟩ := q; exact ⟨v, u2, 0, by unfold decR; rw [hd], hM2.out ▸ (decF_some hl2 hd).2.2.2.1, .inr ⟨rfl, rfl⟩⟩
        obtain ⟨⟨vk, vn, vb, vs⟩, u2, x, hdr, hu2, hx⟩ := hdR
        have hD := Lib.hid (fun (wz : World) (a : Option Addr) (c : Nat) (hh : RdB wz (.slice a M2 c) l2) => rdecode_any l2 _ wz hh hl2 hlen2)
        rw [hdr] at hD
        have hu2 := Lib.hid hu2
        dsimp only at *
        clear hdr hl2
        rcases hx with ⟨rfl, hdf⟩ | ⟨rfl, hdf⟩
        · clear h hk1 hk4 hdf
          go_enter Tryz.func53, Tryz.ntmps53
          go_upto_region 1 with fail
          change Code.wp _ _ _ _ (w.alloc (.cells (aC 0 ⟨#[]⟩ ⟨0, 0, 0, ⟨#[]⟩⟩) 28))
          rw [← hW]
          clear hW
          go_upto_region 4 with fail
          change Code.wp _ _ _ _ (W.alloc (.cells (aC X ⟨#[]⟩ ⟨0, 0, 0, ⟨#[]⟩⟩) 28))
          have r3 := Lib.hid (heap_alloc_new W (.cells (aC X ⟨#[]⟩ ⟨0, 0, 0, ⟨#[]⟩⟩) 28))
          have hz := below_a W (.cells (aC X ⟨#[]⟩ ⟨0, 0, 0, ⟨#[]⟩⟩) 28)
          replace rR := Lib.hid (rowB rR.out hz (Array.getElem?_eq_some_iff.1 rR.out).1)
          have hg3 := Lib.hid (show w.heap.size < W.heap.size from (Array.getElem?_eq_some_iff.1 rR0.out).1)
          replace hS := Lib.hid (hS.out.trans (hz.mono hS.out.size))
          clear hz kb0
          generalize W.heap.size = g3 at *
          generalize W.alloc (.cells (aC X ⟨#[]⟩ ⟨0, 0, 0, ⟨#[]⟩⟩) 28) = w2 at *
          obtain ⟨k0, k1, k2, k3, k4, k5⟩ := (six_of r3.out).1
          go_upto_region 5 with (refine wpList_cut rfl 33 _ _ rfl (by kernel_rfl) (by kernel_rfl) w l _ _ _ rfl bw.out hNl.out 1 rfl hN1.out l1 M1 hd1.out hM1.out ?_; intro x1a x1c x10; have x1 := Lib.hid x10; clear x10)
          go_upto_region 10 with (go_at_call 90; (with_reducible refine (hKB.out _ _ _ (x1.out.mono hS.out)).mono ?_); rintro e w4 ⟨kv, rfl, q1, q2⟩; have hk2 := hkc.out w4 kv q1.rd; replace r3 := Lib.hid (rowB r3.out q2 (Array.getElem?_eq_some_iff.1 r3.out).1); replace rR := Lib.hid (rowB rR.out q2 (Array.getElem?_eq_some_iff.1 rR.out).1); replace hS := Lib.hid (hS.out.trans (Below.mono q2 hS.out.size)); clear q1 q2; clear k0 k1 k2 k3 k4 k5; obtain ⟨⟨k0, k1, k2, k3, k4, k5⟩, y0, y1, y2, y3, y4, y5⟩ := six_of r3.out)
          go_upto_region 11 with fail
          have r4 := Lib.hid (show (w4.setCell ⟨g3, 1, none⟩ (.string s)).heap[g3]? = some (.cells (aC X s ⟨0, 0, 0, ⟨#[]⟩⟩) 28 (0, 0)) from setCell_row r3.out 1 _)
          replace rR := Lib.hid ((setCell_rows g3 1 (.string s) w.heap.size (by have := hg3.out; omega)).trans rR.out)
          replace hS := Lib.hid (hS.out.setCell (p := ⟨g3, 1, none⟩) (Nat.le_of_lt hg3.out) (.string s))
          clear r3 hk2 k0 k1 k2 k3 k4 k5 y0 y1 y2 y3 y4 y5
          generalize w4.setCell ⟨g3, 1, none⟩ (.string s) = w5 at *
          have r3 := r4
          clear r4
          obtain ⟨k0, k1, k2, k3, k4, k5⟩ := (six_of r3.out).1
          go_upto_region 12 with (refine wpList_cut rfl 33 _ _ rfl (by kernel_rfl) (by kernel_rfl) w l1 _ _ _ rfl x1.out hM1.out V rfl hun.out l2 M2 hd2.out hM2.out ?_; intro x2a x2c x20; have x2 := Lib.hid x20; clear x20)
          go_upto_region 14 with (go_at_call 91; (with_reducible refine (hD.out _ _ _ (x2.out.mono hS.out)).mono ?_); rintro e w6 ⟨rfl, q2⟩; replace r3 := Lib.hid (rowB r3.out q2 (Array.getElem?_eq_some_iff.1 r3.out).1); replace rR := Lib.hid (rowB rR.out q2 (Array.getElem?_eq_some_iff.1 rR.out).1); replace hS := Lib.hid (hS.out.trans (Below.mono q2 hS.out.size)); clear q2)
          have r9 := Lib.hid (heap_alloc_new w6 (.cells (vC vk vn vb vs) 26))
          have hz := below_a w6 (.cells (vC vk vn vb vs) 26)
          replace r3 := Lib.hid (rowB r3.out hz (Array.getElem?_eq_some_iff.1 r3.out).1)
          replace rR := Lib.hid (rowB rR.out hz (Array.getElem?_eq_some_iff.1 rR.out).1)
          replace hS := Lib.hid (hS.out.trans (Below.mono hz hS.out.size))
          clear hz k0 k1 k2 k3 k4 k5
          generalize w6.heap.size = g9 at *
          generalize w6.alloc (.cells (vC vk vn vb vs) 26) = w7 at *
          go_wp2_with (first | (refine wpList_load_row_g rfl 28 _ rfl g3 rfl 28 (aC X s ⟨0, 0, 0, ⟨#[]⟩⟩) (0, 0) _ r3.out Tryz.underlying28 rfl info_act ?_) | (refine storeOver _ w.heap.size _ rfl 28 _ _ rfl (aC X s ⟨0, 0, 0, ⟨#[]⟩⟩) 28 rR.out rfl rfl info_act rfl (act_one _ _ _ _ _ _) ?_; intro w9 hr9 hb9; have hr9' := Lib.hid hr9; have hb9' := Lib.hid hb9; clear hr9 hb9))
          exact bodyPost_ret (results_row_tmp2 rfl _ _ w.heap.size 28 _ _ _ rfl hr9'.out Tryz.underlying28 rfl info_act) rfl ⟨⟨X, s, ⟨0, 0, 0, ⟨#[]⟩⟩⟩, rfl, hS.out.trans hb9'.out⟩
        · rw [hdf] at h; cases h
      · have t4 : (X == 4) = false := by simpa using hk4
        rw [if_neg hk4] at h
        cases h
set_option maxHeartbeats 4000000 in
set_option maxRecDepth 100000 in
theorem ract_some (l : List Int) (bv : Value) (w : World) (hr : RdB w bv l) (hl : Bytes l) (hlm : l.length ≤ 1000) (c : Ac) (m : List Int) (h : rAct l = some (c, m)) :
    Calls Tryz.prog 53 #[bv] w fun e w' => ∃ a cc, e = .returned (.tuple #[aA c.k c.key c.v, .slice a m.length cc, .bool true]) ∧ RdB w (.slice a m.length cc) m ∧ Below w.heap.size w w' := by
  obtain ⟨W, hW⟩ : ∃ W, W = w.alloc (.cells (aC 0 ⟨#[]⟩ ⟨0, 0, 0, ⟨#[]⟩⟩) 28) := ⟨_, rfl⟩
  have hS := Lib.hid (show Below w.heap.size w W by rw [hW]; exact below_a w _)
  have rR := Lib.hid (show W.heap[w.heap.size]? = some (.cells (aC 0 ⟨#[]⟩ ⟨0, 0, 0, ⟨#[]⟩⟩) 28 (0, 0)) by rw [hW]; exact heap_alloc_new w _)
  unfold rAct at h
  by_cases h0 : l.length = 0
  · rw [if_pos h0] at h; cases h
  rw [if_neg h0] at h
  have hrs := hr
  rcases hr with ⟨_, _, _, _, rfl⟩ | ⟨b, o, cc, rfl, g1, g2, g3, g4⟩
  · simp at h0
  have k00 : w.cell? ⟨b, o, none⟩ = some (.int .u8 (ith l 0)) := by
    have := g4 0 (by omega)
    rwa [Nat.add_zero] at this
  have hx0 := hl 0
  have hl1 := bytes_drop l 1 hl
  have hlen1 : (l.drop 1).length ≤ 1000 := by rw [List.length_drop]; omega
  obtain ⟨l1, hd1⟩ : ∃ l1, l.drop 1 = l1 := ⟨_, rfl⟩
  rw [hd1] at h hl1 hlen1
  have hd1 := Lib.hid hd1
  obtain ⟨M1, hM1⟩ : ∃ M, l1.length = M := ⟨_, rfl⟩
  have hM1 := Lib.hid hM1
  have kb : ∀ w', Below w.heap.size w w' → w'.cell? ⟨b, o, none⟩ = some (.int .u8 (ith l 0)) := fun w' h => (h.cell (p := ⟨b, o, none⟩) g3).trans k00
  have kb0 := kb W hS.out
  have kb := Lib.hid kb
  have bw := Lib.hid hrs
  obtain ⟨N, hN⟩ : ∃ N, l.length = N := ⟨_, rfl⟩
  have hNl := Lib.hid hN
  rw [hN] at bw ⊢
  have hN0 : ¬ N = 0 := by rw [← hN]; exact h0
  have i1 : (0 : Int) < (N : Int) := by omega
  have i2 : 0 < N := by omega
  have i3 : ((N : Int) == 0) = false := by simp; omega
  have hN1 := Lib.hid (show 1 ≤ N by omega)
  clear g1 g2 g3 g4 k00 hrs hl h0 hN
  generalize ith l 0 = X at *
  by_cases hk1 : X = 1
  · have rR0 := rR
    have t1 : (X == 1) = true := by rw [hk1]; rfl
    rw [if_pos hk1] at h
    obtain ⟨e1, e2⟩ := Prod.mk.inj (Option.some.inj h)
    subst e1 e2
    clear h hk1
    go_enter Tryz.func53, Tryz.ntmps53
    go_upto_region 1 with fail
    change Code.wp _ _ _ _ (w.alloc (.cells (aC 0 ⟨#[]⟩ ⟨0, 0, 0, ⟨#[]⟩⟩) 28))
    rw [← hW]
    clear hW
    go_upto_region 4 with fail
    change Code.wp _ _ _ _ (W.alloc (.cells (aC X ⟨#[]⟩ ⟨0, 0, 0, ⟨#[]⟩⟩) 28))
    have r3 := Lib.hid (heap_alloc_new W (.cells (aC X ⟨#[]⟩ ⟨0, 0, 0, ⟨#[]⟩⟩) 28))
    have hz := below_a W (.cells (aC X ⟨#[]⟩ ⟨0, 0, 0, ⟨#[]⟩⟩) 28)
    replace rR := Lib.hid (rowB rR.out hz (Array.getElem?_eq_some_iff.1 rR.out).1)
    have hg3 := Lib.hid (show w.heap.size < W.heap.size from (Array.getElem?_eq_some_iff.1 rR0.out).1)
    replace hS := Lib.hid (hS.out.trans (hz.mono hS.out.size))
    clear hz kb0
    generalize W.heap.size = g3 at *
    generalize W.alloc (.cells (aC X ⟨#[]⟩ ⟨0, 0, 0, ⟨#[]⟩⟩) 28) = w2 at *
    obtain ⟨k0, k1, k2, k3, k4, k5⟩ := (six_of r3.out).1
    go_upto_region 5 with (refine wpList_cut rfl 33 _ _ rfl (by kernel_rfl) (by kernel_rfl) w l _ _ _ rfl bw.out hNl.out 1 rfl hN1.out l1 M1 hd1.out hM1.out ?_; intro x1a x1c x10; have x1 := Lib.hid x10; clear x10)
    go_wp2_with (first | (refine wpList_load_row_g rfl 28 _ rfl g3 rfl 28 (aC X ⟨#[]⟩ ⟨0, 0, 0, ⟨#[]⟩⟩) (0, 0) _ r3.out Tryz.underlying28 rfl info_act ?_) | (refine storeOver _ w.heap.size _ rfl 28 _ _ rfl (aC X ⟨#[]⟩ ⟨0, 0, 0, ⟨#[]⟩⟩) 28 rR.out rfl rfl info_act rfl (act_one _ _ _ _ _ _) ?_; intro w9 hr9 hb9; have hr9' := Lib.hid hr9; have hb9' := Lib.hid hb9; clear hr9 hb9))
    have hMf := hM1.out
    subst hMf
    exact bodyPost_ret (results_row_tmp2 rfl _ _ w.heap.size 28 _ _ _ rfl hr9'.out Tryz.underlying28 rfl info_act) rfl ⟨_, _, rfl, x1.out, hS.out.trans hb9'.out⟩
  · have rR0 := rR
    have t1 : (X == 1) = false := by simpa using hk1
    rw [if_neg hk1] at h
    unfold rKey at h
    cases hre : readC l1 20 1 with
    | none => rw [hre] at h; cases h
    | some q =>
      obtain ⟨n, u⟩ := q
      rw [hre] at h
      simp only at h
      have hKB := Lib.hid (fun (wz : World) (a : Option Addr) (c : Nat) (hh : RdB wz (.slice a M1 c) l1) => rreadBytes_ok l1 _ 20 (by omega) (by omega) wz hh hl1 (by omega) n u hre)
      obtain ⟨c1, c2, c3⟩ := readC_some hre
      obtain ⟨a1, a2, a3, a4⟩ := readF_some hl1 c1
      rw [Nat.div_one] at c3
      have hun := Lib.hid (show u + n ≤ M1 by have := hM1.out; omega)
      have hkc := Lib.hid (fun wx v (h : RdB wx v ((l1.drop u).take n)) => run_toS (P := Tryz.prog) h 33 9 5 Tryz.underlying33 Tryz.underlying5 Tryz.underlying9)
      have hl2 := bytes_drop l1 (u + n) hl1
      have hlen2 : (l1.drop (u + n)).length ≤ 1000 := by rw [List.length_drop]; omega
      clear hre c1 c2 c3 a1 a2 a3 a4 hl1
      generalize toS ((l1.drop u).take n) = s at *
      generalize (l1.drop u).take n = KB at *
      obtain ⟨V, hV⟩ : ∃ V, u + n = V := ⟨_, rfl⟩
      rw [hV] at h hKB hun hl2 hlen2
      clear hV
      obtain ⟨l2, hd2⟩ : ∃ l2, l1.drop V = l2 := ⟨_, rfl⟩
      rw [hd2] at h hl2 hlen2
      have hd2 := Lib.hid hd2
      obtain ⟨M2, hM2⟩ : ∃ M, l2.length = M := ⟨_, rfl⟩
      have hM2 := Lib.hid hM2
      by_cases hk4 : X = 4
      · have t4 : (X == 4) = true := by rw [hk4]; rfl
        rw [if_pos hk4] at h
        unfold rVal at h
        have hdR : ∃ (v : Va) (u2 : Nat) (x : Int), decR l2 = .tuple #[vA v.k v.n v.b v.s, .int .i64 (u2 : Int), .int .i64 x] ∧ u2 ≤ M2 ∧ ((x = 12 ∧ decF l2 = none) ∨ (x = 0 ∧ decF l2 = some (v, u2))) := by
          cases hd : decF l2 with
          | none => exact ⟨⟨0, 0, 0, ⟨#[]⟩⟩, 0, 12, by unfold decR; rw [hd]; rfl, Nat.zero_le _, .inl ⟨rfl, rfl⟩⟩
          | some q => obtain ⟨v, u2⟩ := q; exact ⟨v, u2, 0, by unfold decR; rw [hd], hM2.out ▸ (decF_some hl2 hd).2.2.2.1, .inr ⟨rfl, rfl⟩⟩
        obtain ⟨⟨vk, vn, vb, vs⟩, u2, x, hdr, hu2, hx⟩ := hdR
        have hD := Lib.hid (fun (wz : World) (a : Option Addr) (c : Nat) (hh : RdB wz (.slice a M2 c) l2) => rdecode_any l2 _ wz hh hl2 hlen2)
        rw [hdr] at hD
        have hu2 := Lib.hid hu2
        dsimp only at *
        clear hdr hl2
        rcases hx with ⟨rfl, hdf⟩ | ⟨rfl, hdf⟩
        · rw [hdf] at h; cases h
        · rw [hdf] at h
          simp only at h
          obtain ⟨e1, e2⟩ := Prod.mk.inj (Option.some.inj h)
          subst e1
          have hd3 := Lib.hid e2
          obtain ⟨M3, hM3⟩ : ∃ M, m.length = M := ⟨_, rfl⟩
          have hM3 := Lib.hid hM3
          clear h e2 hk1 hk4 hdf
          dsimp only at *
          go_enter Tryz.func53, Tryz.ntmps53
          go_upto_region 1 with fail
          change Code.wp _ _ _ _ (w.alloc (.cells (aC 0 ⟨#[]⟩ ⟨0, 0, 0, ⟨#[]⟩⟩) 28))
          rw [← hW]
          clear hW
          go_upto_region 4 with fail
          change Code.wp _ _ _ _ (W.alloc (.cells (aC X ⟨#[]⟩ ⟨0, 0, 0, ⟨#[]⟩⟩) 28))
          have r3 := Lib.hid (heap_alloc_new W (.cells (aC X ⟨#[]⟩ ⟨0, 0, 0, ⟨#[]⟩⟩) 28))
          have hz := below_a W (.cells (aC X ⟨#[]⟩ ⟨0, 0, 0, ⟨#[]⟩⟩) 28)
          replace rR := Lib.hid (rowB rR.out hz (Array.getElem?_eq_some_iff.1 rR.out).1)
          have hg3 := Lib.hid (show w.heap.size < W.heap.size from (Array.getElem?_eq_some_iff.1 rR0.out).1)
          replace hS := Lib.hid (hS.out.trans (hz.mono hS.out.size))
          clear hz kb0
          generalize W.heap.size = g3 at *
          generalize W.alloc (.cells (aC X ⟨#[]⟩ ⟨0, 0, 0, ⟨#[]⟩⟩) 28) = w2 at *
          obtain ⟨k0, k1, k2, k3, k4, k5⟩ := (six_of r3.out).1
          go_upto_region 5 with (refine wpList_cut rfl 33 _ _ rfl (by kernel_rfl) (by kernel_rfl) w l _ _ _ rfl bw.out hNl.out 1 rfl hN1.out l1 M1 hd1.out hM1.out ?_; intro x1a x1c x10; have x1 := Lib.hid x10; clear x10)
          go_upto_region 10 with (go_at_call 90; (with_reducible refine (hKB.out _ _ _ (x1.out.mono hS.out)).mono ?_); rintro e w4 ⟨kv, rfl, q1, q2⟩; have hk2 := hkc.out w4 kv q1.rd; replace r3 := Lib.hid (rowB r3.out q2 (Array.getElem?_eq_some_iff.1 r3.out).1); replace rR := Lib.hid (rowB rR.out q2 (Array.getElem?_eq_some_iff.1 rR.out).1); replace hS := Lib.hid (hS.out.trans (Below.mono q2 hS.out.size)); clear q1 q2; clear k0 k1 k2 k3 k4 k5; obtain ⟨⟨k0, k1, k2, k3, k4, k5⟩, y0, y1, y2, y3, y4, y5⟩ := six_of r3.out)
          go_upto_region 11 with fail
          have r4 := Lib.hid (show (w4.setCell ⟨g3, 1, none⟩ (.string s)).heap[g3]? = some (.cells (aC X s ⟨0, 0, 0, ⟨#[]⟩⟩) 28 (0, 0)) from setCell_row r3.out 1 _)
          replace rR := Lib.hid ((setCell_rows g3 1 (.string s) w.heap.size (by have := hg3.out; omega)).trans rR.out)
          replace hS := Lib.hid (hS.out.setCell (p := ⟨g3, 1, none⟩) (Nat.le_of_lt hg3.out) (.string s))
          clear r3 hk2 k0 k1 k2 k3 k4 k5 y0 y1 y2 y3 y4 y5
          generalize w4.setCell ⟨g3, 1, none⟩ (.string s) = w5 at *
          have r3 := r4
          clear r4
          obtain ⟨k0, k1, k2, k3, k4, k5⟩ := (six_of r3.out).1
          go_upto_region 12 with (refine wpList_cut rfl 33 _ _ rfl (by kernel_rfl) (by kernel_rfl) w l1 _ _ _ rfl x1.out hM1.out V rfl hun.out l2 M2 hd2.out hM2.out ?_; intro x2a x2c x20; have x2 := Lib.hid x20; clear x20)
          go_upto_region 14 with (go_at_call 91; (with_reducible refine (hD.out _ _ _ (x2.out.mono hS.out)).mono ?_); rintro e w6 ⟨rfl, q2⟩; replace r3 := Lib.hid (rowB r3.out q2 (Array.getElem?_eq_some_iff.1 r3.out).1); replace rR := Lib.hid (rowB rR.out q2 (Array.getElem?_eq_some_iff.1 rR.out).1); replace hS := Lib.hid (hS.out.trans (Below.mono q2 hS.out.size)); clear q2)
          have r9 := Lib.hid (heap_alloc_new w6 (.cells (vC vk vn vb vs) 26))
          have hz := below_a w6 (.cells (vC vk vn vb vs) 26)
          replace r3 := Lib.hid (rowB r3.out hz (Array.getElem?_eq_some_iff.1 r3.out).1)
          replace rR := Lib.hid (rowB rR.out hz (Array.getElem?_eq_some_iff.1 rR.out).1)
          replace hS := Lib.hid (hS.out.trans (Below.mono hz hS.out.size))
          clear hz k0 k1 k2 k3 k4 k5
          generalize w6.heap.size = g9 at *
          generalize w6.alloc (.cells (vC vk vn vb vs) 26) = w7 at *
          obtain ⟨⟨k0, k1, k2, k3, k4, k5⟩, y0, y1, y2, y3, y4, y5⟩ := six_of r3.out
          go_upto_region 17 with (refine wpList_load_row_g rfl 26 _ rfl g9 rfl 26 (vC vk vn vb vs) (0, 0) _ r9.out Tryz.underlying26 rfl info_val ?_)
          have r4 := Lib.hid (show ((((w7.setCell ⟨g3, 2, none⟩ (.int .u8 vk)).setCell ⟨g3, 3, none⟩ (.int .i64 vn)).setCell ⟨g3, 4, none⟩ (.int .u64 (vb : Int))).setCell ⟨g3, 5, none⟩ (.string vs)).heap[g3]? = some (.cells (aC X s ⟨vk, vn, vb, vs⟩) 28 (0, 0)) from setCell_row (setCell_row (setCell_row (setCell_row r3.out 2 _) 3 _) 4 _) 5 _)
          have hne := Lib.hid (show w.heap.size ≠ g3 by have := hg3.out; omega)
          have hle := Lib.hid (Nat.le_of_lt hg3.out)
          replace rR := Lib.hid ((setCell_rows (w := ((w7.setCell ⟨g3, 2, none⟩ (.int .u8 vk)).setCell ⟨g3, 3, none⟩ (.int .i64 vn)).setCell ⟨g3, 4, none⟩ (.int .u64 (vb : Int))) g3 5 (.string vs) w.heap.size hne.out).trans ((setCell_rows (w := (w7.setCell ⟨g3, 2, none⟩ (.int .u8 vk)).setCell ⟨g3, 3, none⟩ (.int .i64 vn)) g3 4 (.int .u64 (vb : Int)) w.heap.size hne.out).trans ((setCell_rows (w := w7.setCell ⟨g3, 2, none⟩ (.int .u8 vk)) g3 3 (.int .i64 vn) w.heap.size hne.out).trans ((setCell_rows (w := w7) g3 2 (.int .u8 vk) w.heap.size hne.out).trans rR.out))))
          replace hS := Lib.hid ((((hS.out.setCell (p := ⟨g3, 2, none⟩) hle.out (.int .u8 vk)).setCell (p := ⟨g3, 3, none⟩) hle.out (.int .i64 vn)).setCell (p := ⟨g3, 4, none⟩) hle.out (.int .u64 (vb : Int))).setCell (p := ⟨g3, 5, none⟩) hle.out (.string vs))
          clear r3 r9 k0 k1 k2 k3 k4 k5 y0 y1 y2 y3 y4 y5
          generalize ((((w7.setCell ⟨g3, 2, none⟩ (.int .u8 vk)).setCell ⟨g3, 3, none⟩ (.int .i64 vn)).setCell ⟨g3, 4, none⟩ (.int .u64 (vb : Int))).setCell ⟨g3, 5, none⟩ (.string vs)) = w8 at *
          have r3 := r4
          clear r4
          go_upto_region 18 with (refine wpList_cut rfl 33 _ _ rfl (by kernel_rfl) (by kernel_rfl) w l2 _ _ _ rfl x2.out hM2.out u2 rfl hu2.out m M3 hd3.out hM3.out ?_; intro x3a x3c x30; have x3 := Lib.hid x30; clear x30)
          go_wp2_with (first | (refine wpList_load_row_g rfl 28 _ rfl g3 rfl 28 (aC X s ⟨vk, vn, vb, vs⟩) (0, 0) _ r3.out Tryz.underlying28 rfl info_act ?_) | (refine storeOver _ w.heap.size _ rfl 28 _ _ rfl (aC X s ⟨vk, vn, vb, vs⟩) 28 rR.out rfl rfl info_act rfl (act_one _ _ _ _ _ _) ?_; intro w9 hr9 hb9; have hr9' := Lib.hid hr9; have hb9' := Lib.hid hb9; clear hr9 hb9))
          have hMf := hM3.out
          subst hMf
          exact bodyPost_ret (results_row_tmp2 rfl _ _ w.heap.size 28 _ _ _ rfl hr9'.out Tryz.underlying28 rfl info_act) rfl ⟨_, _, rfl, x3.out, hS.out.trans hb9'.out⟩
      · have t4 : (X == 4) = false := by simpa using hk4
        rw [if_neg hk4] at h
        obtain ⟨e1, e2⟩ := Prod.mk.inj (Option.some.inj h)
        subst e1 e2
        clear h hk1 hk4 hl2
        dsimp only at *
        go_enter Tryz.func53, Tryz.ntmps53
        go_upto_region 1 with fail
        change Code.wp _ _ _ _ (w.alloc (.cells (aC 0 ⟨#[]⟩ ⟨0, 0, 0, ⟨#[]⟩⟩) 28))
        rw [← hW]
        clear hW
        go_upto_region 4 with fail
        change Code.wp _ _ _ _ (W.alloc (.cells (aC X ⟨#[]⟩ ⟨0, 0, 0, ⟨#[]⟩⟩) 28))
        have r3 := Lib.hid (heap_alloc_new W (.cells (aC X ⟨#[]⟩ ⟨0, 0, 0, ⟨#[]⟩⟩) 28))
        have hz := below_a W (.cells (aC X ⟨#[]⟩ ⟨0, 0, 0, ⟨#[]⟩⟩) 28)
        replace rR := Lib.hid (rowB rR.out hz (Array.getElem?_eq_some_iff.1 rR.out).1)
        have hg3 := Lib.hid (show w.heap.size < W.heap.size from (Array.getElem?_eq_some_iff.1 rR0.out).1)
        replace hS := Lib.hid (hS.out.trans (hz.mono hS.out.size))
        clear hz kb0
        generalize W.heap.size = g3 at *
        generalize W.alloc (.cells (aC X ⟨#[]⟩ ⟨0, 0, 0, ⟨#[]⟩⟩) 28) = w2 at *
        obtain ⟨k0, k1, k2, k3, k4, k5⟩ := (six_of r3.out).1
        go_upto_region 5 with (refine wpList_cut rfl 33 _ _ rfl (by kernel_rfl) (by kernel_rfl) w l _ _ _ rfl bw.out hNl.out 1 rfl hN1.out l1 M1 hd1.out hM1.out ?_; intro x1a x1c x10; have x1 := Lib.hid x10; clear x10)
        go_upto_region 10 with (go_at_call 90; (with_reducible refine (hKB.out _ _ _ (x1.out.mono hS.out)).mono ?_); rintro e w4 ⟨kv, rfl, q1, q2⟩; have hk2 := hkc.out w4 kv q1.rd; replace r3 := Lib.hid (rowB r3.out q2 (Array.getElem?_eq_some_iff.1 r3.out).1); replace rR := Lib.hid (rowB rR.out q2 (Array.getElem?_eq_some_iff.1 rR.out).1); replace hS := Lib.hid (hS.out.trans (Below.mono q2 hS.out.size)); clear q1 q2; clear k0 k1 k2 k3 k4 k5; obtain ⟨⟨k0, k1, k2, k3, k4, k5⟩, y0, y1, y2, y3, y4, y5⟩ := six_of r3.out)
        go_upto_region 11 with fail
        have r4 := Lib.hid (show (w4.setCell ⟨g3, 1, none⟩ (.string s)).heap[g3]? = some (.cells (aC X s ⟨0, 0, 0, ⟨#[]⟩⟩) 28 (0, 0)) from setCell_row r3.out 1 _)
        replace rR := Lib.hid ((setCell_rows g3 1 (.string s) w.heap.size (by have := hg3.out; omega)).trans rR.out)
        replace hS := Lib.hid (hS.out.setCell (p := ⟨g3, 1, none⟩) (Nat.le_of_lt hg3.out) (.string s))
        clear r3 hk2 k0 k1 k2 k3 k4 k5 y0 y1 y2 y3 y4 y5
        generalize w4.setCell ⟨g3, 1, none⟩ (.string s) = w5 at *
        have r3 := r4
        clear r4
        obtain ⟨k0, k1, k2, k3, k4, k5⟩ := (six_of r3.out).1
        go_upto_region 12 with (refine wpList_cut rfl 33 _ _ rfl (by kernel_rfl) (by kernel_rfl) w l1 _ _ _ rfl x1.out hM1.out V rfl hun.out l2 M2 hd2.out hM2.out ?_; intro x2a x2c x20; have x2 := Lib.hid x20; clear x20)
        go_wp2_with (first | (refine wpList_load_row_g rfl 28 _ rfl g3 rfl 28 (aC X s ⟨0, 0, 0, ⟨#[]⟩⟩) (0, 0) _ r3.out Tryz.underlying28 rfl info_act ?_) | (refine storeOver _ w.heap.size _ rfl 28 _ _ rfl (aC X s ⟨0, 0, 0, ⟨#[]⟩⟩) 28 rR.out rfl rfl info_act rfl (act_one _ _ _ _ _ _) ?_; intro w9 hr9 hb9; have hr9' := Lib.hid hr9; have hb9' := Lib.hid hb9; clear hr9 hb9))
        have hMf := hM2.out
        subst hMf
        exact bodyPost_ret (results_row_tmp2 rfl _ _ w.heap.size 28 _ _ _ rfl hr9'.out Tryz.underlying28 rfl info_act) rfl ⟨_, _, rfl, x2.out, hS.out.trans hb9'.out⟩
end Go.Proofs.YtoknefeciopdpaaGreatDoor.wir.val
namespace Go.Proofs.YtoknefeciopdpaaGreatDoor.wir.val
open Go.RowKit Go.YtoknefeciopdpaaGreatDoor
set_option linter.unusedVariables false
theorem rIds_none (l : List Int) (bv : Value) (w : World) (hr : RdB w bv l) (hl : Bytes l) (hlm : l.length ≤ 1000000) (h : rIds l = none) :
    Calls Tryz.prog 51 #[bv, .int .i64 4] w fun e w' => e = .returned (.tuple #[.slice none 0 0, .int .i64 0, .int .i64 12]) ∧ Below w.heap.size w w' := by
  cases hre : readC l 4 32 with
  | none => exact rreadIDs_no l bv 4 (by omega) (by omega) w hr hl hlm hre
  | some p =>
    obtain ⟨n, u⟩ := p
    refine (rreadIDs_ok l bv 4 (by omega) (by omega) w hr hl hlm n u hre).mono fun e w' hp => ?_
    unfold rIds at h
    rw [hre] at h
    simp only at h
    unfold rreadIDsPost at hp
    cases hri : riseF ((l.drop u).take (n * 32)) n with
    | true => rw [if_pos hri] at h; cases h
    | false => rw [hri, if_neg (by decide)] at hp; exact ⟨hp.2, hp.1⟩
theorem rIds_some (l : List Int) (bv : Value) (w : World) (hr : RdB w bv l) (hl : Bytes l) (hlm : l.length ≤ 1000000) (n : Nat) (F m : List Int) (h : rIds l = some ((n, F), m)) :
    Calls Tryz.prog 51 #[bv, .int .i64 4] w fun e w' => ∃ (a : Option Addr) (c u : Nat), e = .returned (.tuple #[.slice a n c, .int .i64 (u : Int), .int .i64 0]) ∧ HeldI w.heap.size w' (.slice a n c) n F ∧ Below w.heap.size w w' ∧ u ≤ l.length ∧ l.drop u = m := by
  cases hre : readC l 4 32 with
  | none => unfold rIds at h; rw [hre] at h; cases h
  | some p =>
    obtain ⟨k, u⟩ := p
    unfold rIds at h
    rw [hre] at h
    simp only at h
    obtain ⟨c1, c2, c3⟩ := readC_some hre
    obtain ⟨a1, a2, a3, a4⟩ := readF_some hl c1
    cases hri : riseF ((l.drop u).take (k * 32)) k with
    | false => rw [if_neg (by rw [hri]; decide)] at h; cases h
    | true =>
      rw [if_pos hri] at h
      obtain ⟨h1, h2⟩ := Prod.mk.inj (Option.some.inj h)
      obtain ⟨h3, h4⟩ := Prod.mk.inj h1
      subst h3 h4
      refine (rreadIDs_ok l bv 4 (by omega) (by omega) w hr hl hlm k u hre).mono fun e w' hp => ?_
      unfold rreadIDsPost at hp
      rw [hri, if_pos rfl] at hp
      obtain ⟨hb, v, he, ho⟩ := hp
      obtain ⟨va, vc, rfl⟩ := ho.rd.slice
      exact ⟨va, vc, u + k * 32, he, heldI_own ho, hb, by omega, h2⟩
theorem rNum_none (l : List Int) (bv : Value) (w : World) (hr : RdB w bv l) (hl : Bytes l) (hlm : l.length ≤ 1000000) (h : rNum l = none) :
    Calls Tryz.prog 52 #[bv] w fun e w' => e = .returned (.tuple #[.int .u64 0, .int .i64 0, .int .i64 12]) ∧ Below w.heap.size w w' := by
  have hN := rreadNumber_any l bv w hr hl hlm
  cases hre : readF l with
  | none =>
    obtain ⟨e1, e2, e3⟩ := rd_none hre
    rw [e1, e2, e3] at hN
    exact hN
  | some p => unfold rNum at h; rw [hre] at h; cases h
theorem rNum_some (l : List Int) (bv : Value) (w : World) (hr : RdB w bv l) (hl : Bytes l) (hlm : l.length ≤ 1000000) (n : Nat) (m : List Int) (h : rNum l = some (n, m)) :
    ∃ u : Nat, (Calls Tryz.prog 52 #[bv] w fun e w' => e = .returned (.tuple #[.int .u64 (n : Int), .int .i64 (u : Int), .int .i64 0]) ∧ Below w.heap.size w w') ∧ u ≤ l.length ∧ l.drop u = m := by
  have hN := rreadNumber_any l bv w hr hl hlm
  cases hre : readF l with
  | none => unfold rNum at h; rw [hre] at h; cases h
  | some p =>
    obtain ⟨k, u⟩ := p
    obtain ⟨e1, e2, e3⟩ := rd_some hre
    rw [e1, e2, e3] at hN
    obtain ⟨a1, a2, a3, a4⟩ := readF_some hl hre
    unfold rNum at h
    rw [hre] at h
    obtain ⟨h1, h2⟩ := Prod.mk.inj (Option.some.inj h)
    subst h1
    exact ⟨u, hN, a3, h2⟩
theorem heldI_nw {B : Nat} {w : World} {v : Value} {n : Nat} {F : List Int} (h : HeldI B w v n F) : RdI w v n F := h w (fun _ _ _ => rfl) (Nat.le_refl _)
theorem rowA0 (w : World) (A B : Obj) : ((w.alloc A).alloc B).heap[w.heap.size]? = some A := rowB (heap_alloc_new w A) (below_a _ _) (by simp)
/-- The parts behind the mark. -/
theorem rOp_eq {l : List Int} (h0 : ¬ l.length = 0) (h1 : ith l 0 = 111) : rOp l = (match rSmall (l.drop 1) with
    | none => none
    | some a => match rIds a.2 with
      | none => none
      | some i => match rNum i.2 with
        | none => none
        | some t => match rAct t.2 with
          | none => none
          | some c => match rSmall c.2 with
            | none => none
            | some x => match rSmall x.2 with
              | none => none
              | some y => some (⟨a.1, i.1.1, i.1.2, t.1, c.1.k, c.1.key, c.1.v, x.1, y.1⟩, y.2)) := by
  unfold rOp; rw [if_neg h0, if_pos h1]; rfl
theorem decP_no {w w' : World} {l : List Int} (h : decO l = none) (hb : Below w.heap.size w w') : decPost w l (.returned (.tuple #[.agg (zO.c (.slice none 0 0)), .int .i64 12])) w' := ⟨hb, .inl ⟨h, rfl⟩⟩
set_option maxHeartbeats 8000000 in
set_option maxRecDepth 100000 in
theorem rDecode_any (l : List Int) (bv : Value) (w : World) (hr : RdB w bv l) (hl : Bytes l) (hlm : l.length ≤ 1000) :
    Calls Tryz.prog 22 #[bv] w (decPost w l) := by
  obtain ⟨ba, bc, rfl⟩ := hr.slice
  obtain ⟨W, hW⟩ : ∃ W, W = (w.alloc (.cells (zO.c (.slice none 0 0)) 32)).alloc (.cells (zO.c (.slice none 0 0)) 32) := ⟨_, rfl⟩
  have hS := Lib.hid (show Below w.heap.size w W by rw [hW]; exact ((Below.refl w.heap.size w).alloc (Nat.le_refl _) _).alloc (by simp) _)
  have rR := Lib.hid (show W.heap[w.heap.size]? = some (.cells (zO.c (.slice none 0 0)) 32 (0, 0)) by rw [hW]; exact rowA0 w _ _)
  have rZ := Lib.hid (show W.heap[w.heap.size + 1]? = some (.cells (zO.c (.slice none 0 0)) 32 (0, 0)) by rw [hW]; exact hn2 w _ _)
  have hWs := Lib.hid (show W.heap.size = w.heap.size + 2 by rw [hW]; simp)
  obtain ⟨N, hN⟩ : ∃ N, l.length = N := ⟨_, rfl⟩
  have hNl := Lib.hid hN
  rw [hN] at hr ⊢
  have bw := Lib.hid hr
  by_cases h0 : N = 0
  · have hno := Lib.hid (show decO l = none from dec_no (by unfold rOp; rw [if_pos (by rw [hN]; exact h0)]))
    clear hl hr bw hNl hN
    subst h0
    go_enter Tryz.func22, Tryz.ntmps22
    go_upto_region 2 with fail
    change Code.wp _ _ _ _ ((w.alloc (.cells (zO.c (.slice none 0 0)) 32)).alloc (.cells (zO.c (.slice none 0 0)) 32))
    rw [← hW]
    clear hW
    go_wp2_with (first | (refine wpList_load_row_g rfl 32 _ rfl (w.heap.size + 1) rfl 32 (zO.c (.slice none 0 0)) (0, 0) _ rZ.out Tryz.underlying32 rfl info_op ?_) | (refine storeOver _ w.heap.size _ rfl 32 _ _ rfl (zO.c (.slice none 0 0)) 32 rR.out rfl rfl info_op rfl (op_one zO _ _ _) ?_; intro w9 hr9 hb9; have hr9' := Lib.hid hr9; have hb9' := Lib.hid hb9; clear hr9 hb9))
    exact bodyPost_ret (results_row_tmp rfl _ _ w.heap.size 32 _ _ _ rfl hr9'.out Tryz.underlying32 rfl info_op) rfl (decPost_eq (decP_no hno.out (hS.out.trans hb9'.out)) rfl)
  have hl0 : ¬ l.length = 0 := by rw [hN]; exact h0
  have hrs := hr
  rcases hr with ⟨_, _, _, _, rfl⟩ | ⟨b, o, cc, hbv, g1, g2, g3, g4⟩
  · simp at hl0
  injection hbv with e1 e2 e3
  subst e1 e3
  have k00 : w.cell? ⟨b, o, none⟩ = some (.int .u8 (ith l 0)) := by
    have := g4 0 (by omega)
    rwa [Nat.add_zero] at this
  have kb0 : W.cell? ⟨b, o, none⟩ = some (.int .u8 (ith l 0)) := (hS.out.cell (p := ⟨b, o, none⟩) g3).trans k00
  have i1 : (0 : Int) < (N : Int) := by omega
  have i2 : 0 < N := by omega
  have i3 : ((N : Int) == 0) = false := by simp; omega
  have hN1 := Lib.hid (show 1 ≤ N by omega)
  clear g1 g2 g3 g4 k00 hrs e2
  by_cases hm : ith l 0 = 111
  rotate_left
  · have hno := Lib.hid (show decO l = none from dec_no (by unfold rOp; rw [if_neg hl0, if_neg hm]))
    have t1 : (ith l 0 != 111) = true := by simpa using hm
    clear hl hN hl0 hm
    generalize ith l 0 = X at *
    go_enter Tryz.func22, Tryz.ntmps22
    go_upto_region 2 with fail
    change Code.wp _ _ _ _ ((w.alloc (.cells (zO.c (.slice none 0 0)) 32)).alloc (.cells (zO.c (.slice none 0 0)) 32))
    rw [← hW]
    clear hW
    go_wp2_with (first | (refine wpList_load_row_g rfl 32 _ rfl (w.heap.size + 1) rfl 32 (zO.c (.slice none 0 0)) (0, 0) _ rZ.out Tryz.underlying32 rfl info_op ?_) | (refine storeOver _ w.heap.size _ rfl 32 _ _ rfl (zO.c (.slice none 0 0)) 32 rR.out rfl rfl info_op rfl (op_one zO _ _ _) ?_; intro w9 hr9 hb9; have hr9' := Lib.hid hr9; have hb9' := Lib.hid hb9; clear hr9 hb9))
    exact bodyPost_ret (results_row_tmp rfl _ _ w.heap.size 32 _ _ _ rfl hr9'.out Tryz.underlying32 rfl info_op) rfl (decPost_eq (decP_no hno.out (hS.out.trans hb9'.out)) rfl)
  have hro := rOp_eq hl0 hm
  have t1 : (ith l 0 != 111) = false := by rw [hm]; rfl
  rw [hm] at kb0 t1
  have hl1 := bytes_drop l 1 hl
  have hlen1 : (l.drop 1).length ≤ 1000 := by rw [List.length_drop]; omega
  obtain ⟨l1, hd1⟩ : ∃ l1, l.drop 1 = l1 := ⟨_, rfl⟩
  rw [hd1] at hro hl1 hlen1
  have hd1 := Lib.hid hd1
  obtain ⟨M1, hM1⟩ : ∃ M, l1.length = M := ⟨_, rfl⟩
  have hM1 := Lib.hid hM1
  clear hl0 hm hN
  go_enter Tryz.func22, Tryz.ntmps22
  go_upto_region 2 with fail
  change Code.wp _ _ _ _ ((w.alloc (.cells (zO.c (.slice none 0 0)) 32)).alloc (.cells (zO.c (.slice none 0 0)) 32))
  rw [← hW]
  clear hW
  go_upto_region 4 with fail
  clear kb0 t1
  cases g1 : rSmall l1 with
  | none =>
      rw [g1] at hro
      have c1 := Lib.hid (fun (wz : World) (a : Option Addr) (c : Nat) (h : RdB wz (.slice a M1 c) l1) => rshort_none l1 _ wz h hl1 (by omega) g1)
      have hno := Lib.hid (dec_no hro)
      go_wp2_with (first | (refine wpList_cut rfl 33 _ _ rfl (by kernel_rfl) (by kernel_rfl) w l _ _ _ rfl bw.out hNl.out 1 rfl hN1.out l1 M1 hd1.out hM1.out ?_; intro x1a x1c x10; have x1 := Lib.hid x10; clear x10) | (go_at_call 50; (with_reducible refine (c1.out _ _ _ (x1.out.mono hS.out)).mono ?_); rintro e9 w4 ⟨rfl, q2⟩; (try replace rR := Lib.hid (rowB rR.out q2 (Array.getElem?_eq_some_iff.1 rR.out).1)); (try replace rZ := Lib.hid (rowB rZ.out q2 (Array.getElem?_eq_some_iff.1 rZ.out).1)); replace hS := Lib.hid (hS.out.trans (Below.mono q2 hS.out.size)); clear q2) | (refine wpList_load_row_g rfl 32 _ rfl (w.heap.size + 1) rfl 32 (zO.c (.slice none 0 0)) (0, 0) _ rZ.out Tryz.underlying32 rfl info_op ?_) | (refine storeOver _ w.heap.size _ rfl 32 _ _ rfl (zO.c (.slice none 0 0)) 32 rR.out rfl rfl info_op rfl (op_one zO _ _ _) ?_; intro w9 hr9 hb9; have hr9' := Lib.hid hr9; have hb9' := Lib.hid hb9; clear hr9 hb9))
      exact bodyPost_ret (results_row_tmp rfl _ _ w.heap.size 32 _ _ _ rfl hr9'.out Tryz.underlying32 rfl info_op) rfl (decPost_eq (decP_no hno.out (hS.out.trans hb9'.out)) rfl)
  | some p1 =>
    obtain ⟨au, l2⟩ := p1
    rw [g1] at hro
    simp only at hro
    obtain ⟨e1, hau⟩ := rSmall_back hl1 g1
    have hl2 := bytes_tail (a := numB au) (m := l2) (by rw [← e1]; exact hl1)
    have hlen2 : l2.length ≤ 1000 := by have := congrArg List.length e1; rw [List.length_append] at this; omega
    obtain ⟨M2, hM2⟩ : ∃ M, l2.length = M := ⟨_, rfl⟩
    have c1 := Lib.hid (fun (wz : World) (a : Option Addr) (c : Nat) (h : RdB wz (.slice a M1 c) l1) => (show Calls Tryz.prog 50 #[.slice a M1 c] wz fun e w' => ∃ a c, e = .returned (.tuple #[.int .u32 (au : Int), .slice a M2 c, .bool true]) ∧ RdB wz (.slice a M2 c) l2 ∧ Below wz.heap.size wz w' from by rw [← hM2]; exact rshort_some l1 _ wz h hl1 (by omega) au l2 g1))
    have hM2 := Lib.hid hM2
    have hau := Lib.hid hau
    clear g1 e1
    go_upto_region 7 with (first | (refine wpList_cut rfl 33 _ _ rfl (by kernel_rfl) (by kernel_rfl) w l _ _ _ rfl bw.out hNl.out 1 rfl hN1.out l1 M1 hd1.out hM1.out ?_; intro x1a x1c x10; have x1 := Lib.hid x10; clear x10) | (go_at_call 50; (with_reducible refine (c1.out _ _ _ (x1.out.mono hS.out)).mono ?_); rintro e9 w4 ⟨x2a, x2c, rfl, q1, q2⟩; (try replace rR := Lib.hid (rowB rR.out q2 (Array.getElem?_eq_some_iff.1 rR.out).1)); (try replace rZ := Lib.hid (rowB rZ.out q2 (Array.getElem?_eq_some_iff.1 rZ.out).1)); replace hS := Lib.hid (hS.out.trans (Below.mono q2 hS.out.size)); have x2 := Lib.hid (q1.mono q2); clear q1; clear q2))
    cases g2 : rIds l2 with
    | none =>
        rw [g2] at hro
        have c2 := Lib.hid (fun (wz : World) (a : Option Addr) (c : Nat) (h : RdB wz (.slice a M2 c) l2) => rIds_none l2 _ wz h hl2 (by omega) g2)
        have hno := Lib.hid (dec_no hro)
        go_wp2_with (first | (go_at_call 51; (with_reducible refine (c2.out _ _ _ x2.out).mono ?_); rintro e9 w4 ⟨rfl, q2⟩; (try replace rR := Lib.hid (rowB rR.out q2 (Array.getElem?_eq_some_iff.1 rR.out).1)); (try replace rZ := Lib.hid (rowB rZ.out q2 (Array.getElem?_eq_some_iff.1 rZ.out).1)); (try replace x2 := Lib.hid (x2.out.mono q2)); replace hS := Lib.hid (hS.out.trans (Below.mono q2 hS.out.size)); clear q2) | (refine wpList_load_row_g rfl 32 _ rfl (w.heap.size + 1) rfl 32 (zO.c (.slice none 0 0)) (0, 0) _ rZ.out Tryz.underlying32 rfl info_op ?_) | (refine storeOver _ w.heap.size _ rfl 32 _ _ rfl (zO.c (.slice none 0 0)) 32 rR.out rfl rfl info_op rfl (op_one zO _ _ _) ?_; intro w9 hr9 hb9; have hr9' := Lib.hid hr9; have hb9' := Lib.hid hb9; clear hr9 hb9))
        exact bodyPost_ret (results_row_tmp rfl _ _ w.heap.size 32 _ _ _ rfl hr9'.out Tryz.underlying32 rfl info_op) rfl (decPost_eq (decP_no hno.out (hS.out.trans hb9'.out)) rfl)
    | some p2 =>
      obtain ⟨⟨n, F⟩, l3⟩ := p2
      rw [g2] at hro
      simp only at hro
      obtain ⟨e1, hn4, hFl, hFr⟩ := rIds_back hl2 g2
      have hl23 : Bytes ((numB n ++ F) ++ l3) := by rw [← e1]; exact hl2
      have hl3 := bytes_tail hl23
      have hFb := bytes_tail (bytes_head hl23)
      have hlen3 : l3.length ≤ 1000 := by have := congrArg List.length e1; rw [List.length_append] at this; omega
      obtain ⟨M3, hM3⟩ : ∃ M, l3.length = M := ⟨_, rfl⟩
      have c2 := Lib.hid (fun (wz : World) (a : Option Addr) (c : Nat) (h : RdB wz (.slice a M2 c) l2) => rIds_some l2 _ wz h hl2 (by omega) n F l3 g2)
      rw [hM2.out] at c2
      have hM3 := Lib.hid hM3
      have hn4 := Lib.hid hn4
      have hFb := Lib.hid hFb
      clear g2 e1 hl23 hFr
      go_upto_region 10 with (go_at_call 51; (with_reducible refine (c2.out _ _ _ x2.out).mono ?_); rintro e9 w4 ⟨ia, ic, u2, rfl, q1, q2, q3, q4⟩; have hSz := Lib.hid (Nat.le_of_lt (Array.getElem?_eq_some_iff.1 rZ.out).1); (try replace rR := Lib.hid (rowB rR.out q2 (Array.getElem?_eq_some_iff.1 rR.out).1)); (try replace rZ := Lib.hid (rowB rZ.out q2 (Array.getElem?_eq_some_iff.1 rZ.out).1)); (try replace x2 := Lib.hid (x2.out.mono q2)); replace hS := Lib.hid (hS.out.trans (Below.mono q2 hS.out.size)); have hH := Lib.hid (heldI_lower q1 hSz.out); have hu2 := Lib.hid q3; have hd3 := Lib.hid q4; clear q1 q3 q4; clear q2)
      clear hSz
      go_upto_region 11 with (refine wpList_cut rfl 33 _ _ rfl (by kernel_rfl) (by kernel_rfl) w4 l2 _ _ _ rfl x2.out hM2.out u2 rfl hu2.out l3 M3 hd3.out hM3.out ?_; intro x3a x3c x30; have x3 := Lib.hid x30; clear x30)
      cases g3 : rNum l3 with
      | none =>
          rw [g3] at hro
          have c3 := Lib.hid (fun (wz : World) (a : Option Addr) (c : Nat) (h : RdB wz (.slice a M3 c) l3) => rNum_none l3 _ wz h hl3 (by omega) g3)
          have hno := Lib.hid (dec_no hro)
          go_wp2_with (first | (go_at_call 52; (with_reducible refine (c3.out _ _ _ x3.out).mono ?_); rintro e9 w4 ⟨rfl, q2⟩; (try replace rR := Lib.hid (rowB rR.out q2 (Array.getElem?_eq_some_iff.1 rR.out).1)); (try replace rZ := Lib.hid (rowB rZ.out q2 (Array.getElem?_eq_some_iff.1 rZ.out).1)); (try replace x2 := Lib.hid (x2.out.mono q2)); (try replace x3 := Lib.hid (x3.out.mono q2)); (try replace hH := Lib.hid (heldI_mono hH.out q2)); replace hS := Lib.hid (hS.out.trans (Below.mono q2 hS.out.size)); clear q2) | (refine wpList_load_row_g rfl 32 _ rfl (w.heap.size + 1) rfl 32 (zO.c (.slice none 0 0)) (0, 0) _ rZ.out Tryz.underlying32 rfl info_op ?_) | (refine storeOver _ w.heap.size _ rfl 32 _ _ rfl (zO.c (.slice none 0 0)) 32 rR.out rfl rfl info_op rfl (op_one zO _ _ _) ?_; intro w9 hr9 hb9; have hr9' := Lib.hid hr9; have hb9' := Lib.hid hb9; clear hr9 hb9))
          exact bodyPost_ret (results_row_tmp rfl _ _ w.heap.size 32 _ _ _ rfl hr9'.out Tryz.underlying32 rfl info_op) rfl (decPost_eq (decP_no hno.out (hS.out.trans hb9'.out)) rfl)
      | some p3 =>
        obtain ⟨st, l4⟩ := p3
        rw [g3] at hro
        simp only at hro
        obtain ⟨e1, hst⟩ := rNum_back hl3 g3
        have hl4 := bytes_tail (a := numB st) (m := l4) (by rw [← e1]; exact hl3)
        have hlen4 : l4.length ≤ 1000 := by have := congrArg List.length e1; rw [List.length_append] at this; omega
        obtain ⟨M4, hM4⟩ : ∃ M, l4.length = M := ⟨_, rfl⟩
        have c30 : ∃ u3 : Nat, (∀ (wz : World) (a : Option Addr) (c : Nat), RdB wz (.slice a M3 c) l3 → Calls Tryz.prog 52 #[.slice a M3 c] wz fun e w' => e = .returned (.tuple #[.int .u64 (st : Int), .int .i64 (u3 : Int), .int .i64 0]) ∧ Below wz.heap.size wz w') ∧ u3 ≤ M3 ∧ l3.drop u3 = l4 := by
          unfold rNum at g3
          cases hre : readF l3 with
          | none => rw [hre] at g3; cases g3
          | some p =>
            obtain ⟨k, u⟩ := p
            rw [hre] at g3
            obtain ⟨h1, h2⟩ := Prod.mk.inj (Option.some.inj g3)
            obtain ⟨a1, a2, a3, a4⟩ := readF_some hl3 hre
            obtain ⟨r1, r2, r3⟩ := rd_some hre
            subst h1
            refine ⟨u, fun wz a c h => ?_, by have := hM3.out; omega, h2⟩
            have hN := rreadNumber_any l3 _ wz h hl3 (by omega)
            rw [r1, r2, r3] at hN
            exact hN
        obtain ⟨u3, c3, hu3, hd4⟩ := c30
        have c3 := Lib.hid c3
        have hu3 := Lib.hid hu3
        have hd4 := Lib.hid hd4
        have hM4 := Lib.hid hM4
        have hst := Lib.hid hst
        clear g3 e1
        go_upto_region 14 with (go_at_call 52; (with_reducible refine (c3.out _ _ _ x3.out).mono ?_); rintro e9 w4 ⟨rfl, q2⟩; (try replace rR := Lib.hid (rowB rR.out q2 (Array.getElem?_eq_some_iff.1 rR.out).1)); (try replace rZ := Lib.hid (rowB rZ.out q2 (Array.getElem?_eq_some_iff.1 rZ.out).1)); (try replace x2 := Lib.hid (x2.out.mono q2)); (try replace x3 := Lib.hid (x3.out.mono q2)); (try replace hH := Lib.hid (heldI_mono hH.out q2)); replace hS := Lib.hid (hS.out.trans (Below.mono q2 hS.out.size)); clear q2)
        cases g4 : rAct l4 with
        | none =>
            rw [g4] at hro
            have c4 := Lib.hid (fun (wz : World) (a : Option Addr) (c : Nat) (h : RdB wz (.slice a M4 c) l4) => ract_none l4 _ wz h hl4 hlen4 g4)
            have hno := Lib.hid (dec_no hro)
            go_wp2_with (first | (refine wpList_cut rfl 33 _ _ rfl (by kernel_rfl) (by kernel_rfl) w4 l3 _ _ _ rfl x3.out hM3.out u3 rfl hu3.out l4 M4 hd4.out hM4.out ?_; intro x4a x4c x40; have x4 := Lib.hid x40; clear x40) | (go_at_call 53; (with_reducible refine (c4.out _ _ _ x4.out).mono ?_); rintro e9 w4 ⟨ac, rfl, q2⟩; (try replace rR := Lib.hid (rowB rR.out q2 (Array.getElem?_eq_some_iff.1 rR.out).1)); (try replace rZ := Lib.hid (rowB rZ.out q2 (Array.getElem?_eq_some_iff.1 rZ.out).1)); (try replace x2 := Lib.hid (x2.out.mono q2)); (try replace x3 := Lib.hid (x3.out.mono q2)); (try replace x4 := Lib.hid (x4.out.mono q2)); (try replace hH := Lib.hid (heldI_mono hH.out q2)); replace hS := Lib.hid (hS.out.trans (Below.mono q2 hS.out.size)); clear q2) | (refine storeNew _ rfl 28 _ _ rfl (aC ac.k ac.key ac.v) 28 rfl rfl info_act rfl (act_one _ _ _ _ _ _) ?_; intro wx hrx hbx; (try replace rR := Lib.hid (rowB rR.out hbx (Array.getElem?_eq_some_iff.1 rR.out).1)); (try replace rZ := Lib.hid (rowB rZ.out hbx (Array.getElem?_eq_some_iff.1 rZ.out).1)); (try replace x2 := Lib.hid (x2.out.mono hbx)); (try replace x3 := Lib.hid (x3.out.mono hbx)); (try replace x4 := Lib.hid (x4.out.mono hbx)); (try replace hH := Lib.hid (heldI_mono hH.out hbx)); replace hS := Lib.hid (hS.out.trans (Below.mono hbx hS.out.size)); have rA := Lib.hid hrx; clear hrx hbx) | (refine wpList_load_row_g rfl 32 _ rfl (w.heap.size + 1) rfl 32 (zO.c (.slice none 0 0)) (0, 0) _ rZ.out Tryz.underlying32 rfl info_op ?_) | (refine storeOver _ w.heap.size _ rfl 32 _ _ rfl (zO.c (.slice none 0 0)) 32 rR.out rfl rfl info_op rfl (op_one zO _ _ _) ?_; intro w9 hr9 hb9; have hr9' := Lib.hid hr9; have hb9' := Lib.hid hb9; clear hr9 hb9))
            exact bodyPost_ret (results_row_tmp rfl _ _ w.heap.size 32 _ _ _ rfl hr9'.out Tryz.underlying32 rfl info_op) rfl (decPost_eq (decP_no hno.out (hS.out.trans hb9'.out)) rfl)
        | some p4 =>
          obtain ⟨ac, l5⟩ := p4
          rw [g4] at hro
          simp only at hro
          obtain ⟨e1, hck, hckey, hcv⟩ := rAct_back hl4 g4
          have hl5 := bytes_tail (a := ac.B) (m := l5) (by rw [← e1]; exact hl4)
          have hlen5 : l5.length ≤ 1000 := by have := congrArg List.length e1; rw [List.length_append] at this; omega
          obtain ⟨M5, hM5⟩ : ∃ M, l5.length = M := ⟨_, rfl⟩
          have c4 := Lib.hid (fun (wz : World) (a : Option Addr) (c : Nat) (h : RdB wz (.slice a M4 c) l4) => (show Calls Tryz.prog 53 #[.slice a M4 c] wz fun e w' => ∃ a cc, e = .returned (.tuple #[aA ac.k ac.key ac.v, .slice a M5 cc, .bool true]) ∧ RdB wz (.slice a M5 cc) l5 ∧ Below wz.heap.size wz w' from by rw [← hM5]; exact ract_some l4 _ wz h hl4 hlen4 ac l5 g4))
          have hM5 := Lib.hid hM5
          have hck := Lib.hid hck
          have hckey := Lib.hid hckey
          have hcv := Lib.hid hcv
          clear g4 e1
          obtain ⟨ck, ckey, vk, vn, vb, vs⟩ := ac
          dsimp only at *
          go_upto_region 17 with (first | (refine wpList_cut rfl 33 _ _ rfl (by kernel_rfl) (by kernel_rfl) w4 l3 _ _ _ rfl x3.out hM3.out u3 rfl hu3.out l4 M4 hd4.out hM4.out ?_; intro x4a x4c x40; have x4 := Lib.hid x40; clear x40) | (go_at_call 53; (with_reducible refine (c4.out _ _ _ x4.out).mono ?_); rintro e9 w4 ⟨x5a, x5c, rfl, q1, q2⟩; (try replace rR := Lib.hid (rowB rR.out q2 (Array.getElem?_eq_some_iff.1 rR.out).1)); (try replace rZ := Lib.hid (rowB rZ.out q2 (Array.getElem?_eq_some_iff.1 rZ.out).1)); (try replace x2 := Lib.hid (x2.out.mono q2)); (try replace x3 := Lib.hid (x3.out.mono q2)); (try replace x4 := Lib.hid (x4.out.mono q2)); (try replace hH := Lib.hid (heldI_mono hH.out q2)); replace hS := Lib.hid (hS.out.trans (Below.mono q2 hS.out.size)); have x5 := Lib.hid (q1.mono q2); clear q1; clear q2) | (refine storeNew _ rfl 28 _ _ rfl (aC ck ckey ⟨vk, vn, vb, vs⟩) 28 rfl rfl info_act rfl (act_one _ _ _ _ _ _) ?_; intro wx hrx hbx; (try replace rR := Lib.hid (rowB rR.out hbx (Array.getElem?_eq_some_iff.1 rR.out).1)); (try replace rZ := Lib.hid (rowB rZ.out hbx (Array.getElem?_eq_some_iff.1 rZ.out).1)); (try replace x2 := Lib.hid (x2.out.mono hbx)); (try replace x3 := Lib.hid (x3.out.mono hbx)); (try replace x4 := Lib.hid (x4.out.mono hbx)); (try replace x5 := Lib.hid (x5.out.mono hbx)); (try replace hH := Lib.hid (heldI_mono hH.out hbx)); replace hS := Lib.hid (hS.out.trans (Below.mono hbx hS.out.size)); have rA := Lib.hid hrx; clear hrx hbx))
          clear x2 x3 x4
          cases g5 : rSmall l5 with
          | none =>
              rw [g5] at hro
              have c5 := Lib.hid (fun (wz : World) (a : Option Addr) (c : Nat) (h : RdB wz (.slice a M5 c) l5) => rshort_none l5 _ wz h hl5 (by omega) g5)
              have hno := Lib.hid (dec_no hro)
              go_wp2_with (first | (go_at_call 50; (with_reducible refine (c5.out _ _ _ x5.out).mono ?_); rintro e9 w4 ⟨rfl, q2⟩; (try replace rR := Lib.hid (rowB rR.out q2 (Array.getElem?_eq_some_iff.1 rR.out).1)); (try replace rZ := Lib.hid (rowB rZ.out q2 (Array.getElem?_eq_some_iff.1 rZ.out).1)); (try replace rA := Lib.hid (rowB rA.out q2 (Array.getElem?_eq_some_iff.1 rA.out).1)); (try replace x5 := Lib.hid (x5.out.mono q2)); (try replace hH := Lib.hid (heldI_mono hH.out q2)); replace hS := Lib.hid (hS.out.trans (Below.mono q2 hS.out.size)); clear q2) | (refine wpList_load_row_g rfl 32 _ rfl (w.heap.size + 1) rfl 32 (zO.c (.slice none 0 0)) (0, 0) _ rZ.out Tryz.underlying32 rfl info_op ?_) | (refine storeOver _ w.heap.size _ rfl 32 _ _ rfl (zO.c (.slice none 0 0)) 32 rR.out rfl rfl info_op rfl (op_one zO _ _ _) ?_; intro w9 hr9 hb9; have hr9' := Lib.hid hr9; have hb9' := Lib.hid hb9; clear hr9 hb9))
              exact bodyPost_ret (results_row_tmp rfl _ _ w.heap.size 32 _ _ _ rfl hr9'.out Tryz.underlying32 rfl info_op) rfl (decPost_eq (decP_no hno.out (hS.out.trans hb9'.out)) rfl)
          | some p5 =>
            obtain ⟨ee, l6⟩ := p5
            rw [g5] at hro
            simp only at hro
            obtain ⟨e1, hee⟩ := rSmall_back hl5 g5
            have hl6 := bytes_tail (a := numB ee) (m := l6) (by rw [← e1]; exact hl5)
            have hlen6 : l6.length ≤ 1000 := by have := congrArg List.length e1; rw [List.length_append] at this; omega
            obtain ⟨M6, hM6⟩ : ∃ M, l6.length = M := ⟨_, rfl⟩
            have c5 := Lib.hid (fun (wz : World) (a : Option Addr) (c : Nat) (h : RdB wz (.slice a M5 c) l5) => (show Calls Tryz.prog 50 #[.slice a M5 c] wz fun e w' => ∃ a c, e = .returned (.tuple #[.int .u32 (ee : Int), .slice a M6 c, .bool true]) ∧ RdB wz (.slice a M6 c) l6 ∧ Below wz.heap.size wz w' from by rw [← hM6]; exact rshort_some l5 _ wz h hl5 (by omega) ee l6 g5))
            have hM6 := Lib.hid hM6
            have hee := Lib.hid hee
            clear g5 e1
            go_upto_region 20 with (go_at_call 50; (with_reducible refine (c5.out _ _ _ x5.out).mono ?_); rintro e9 w4 ⟨x6a, x6c, rfl, q1, q2⟩; (try replace rR := Lib.hid (rowB rR.out q2 (Array.getElem?_eq_some_iff.1 rR.out).1)); (try replace rZ := Lib.hid (rowB rZ.out q2 (Array.getElem?_eq_some_iff.1 rZ.out).1)); (try replace rA := Lib.hid (rowB rA.out q2 (Array.getElem?_eq_some_iff.1 rA.out).1)); (try replace x5 := Lib.hid (x5.out.mono q2)); (try replace hH := Lib.hid (heldI_mono hH.out q2)); replace hS := Lib.hid (hS.out.trans (Below.mono q2 hS.out.size)); have x6 := Lib.hid (q1.mono q2); clear q1; clear q2)
            clear x5
            cases g6 : rSmall l6 with
            | none =>
                rw [g6] at hro
                have c6 := Lib.hid (fun (wz : World) (a : Option Addr) (c : Nat) (h : RdB wz (.slice a M6 c) l6) => rshort_none l6 _ wz h hl6 (by omega) g6)
                have hno := Lib.hid (dec_no hro)
                go_wp2_with (first | (go_at_call 50; (with_reducible refine (c6.out _ _ _ x6.out).mono ?_); rintro e9 w4 ⟨rfl, q2⟩; (try replace rR := Lib.hid (rowB rR.out q2 (Array.getElem?_eq_some_iff.1 rR.out).1)); (try replace rZ := Lib.hid (rowB rZ.out q2 (Array.getElem?_eq_some_iff.1 rZ.out).1)); (try replace rA := Lib.hid (rowB rA.out q2 (Array.getElem?_eq_some_iff.1 rA.out).1)); (try replace x6 := Lib.hid (x6.out.mono q2)); (try replace hH := Lib.hid (heldI_mono hH.out q2)); replace hS := Lib.hid (hS.out.trans (Below.mono q2 hS.out.size)); clear q2) | (refine wpList_load_row_g rfl 28 _ rfl _ rfl 28 (aC ck ckey ⟨vk, vn, vb, vs⟩) (0, 0) _ rA.out Tryz.underlying28 rfl info_act ?_) | (refine storeNew _ rfl 32 _ _ rfl #[.int .u32 (au : Int), .slice ia n ic, .int .u64 (st : Int), .int .u8 ck, .string ckey, .int .u8 vk, .int .i64 vn, .int .u64 (vb : Int), .string vs, .int .u32 (ee : Int), .int .u32 0] 32 rfl rfl info_op rfl (op_one ⟨au, n, F, st, ck, ckey, ⟨vk, vn, vb, vs⟩, ee, 0⟩ ia n ic) ?_; intro wx hrx hbx; (try replace rR := Lib.hid (rowB rR.out hbx (Array.getElem?_eq_some_iff.1 rR.out).1)); (try replace rZ := Lib.hid (rowB rZ.out hbx (Array.getElem?_eq_some_iff.1 rZ.out).1)); (try replace rA := Lib.hid (rowB rA.out hbx (Array.getElem?_eq_some_iff.1 rA.out).1)); (try replace x6 := Lib.hid (x6.out.mono hbx)); (try replace hH := Lib.hid (heldI_mono hH.out hbx)); replace hS := Lib.hid (hS.out.trans (Below.mono hbx hS.out.size)); have rO := Lib.hid hrx; clear hrx hbx) | (refine wpList_load_row_g rfl 32 _ rfl (w.heap.size + 1) rfl 32 (zO.c (.slice none 0 0)) (0, 0) _ rZ.out Tryz.underlying32 rfl info_op ?_) | (refine storeOver _ w.heap.size _ rfl 32 _ _ rfl (zO.c (.slice none 0 0)) 32 rR.out rfl rfl info_op rfl (op_one zO _ _ _) ?_; intro w9 hr9 hb9; have hr9' := Lib.hid hr9; have hb9' := Lib.hid hb9; clear hr9 hb9))
                exact bodyPost_ret (results_row_tmp rfl _ _ w.heap.size 32 _ _ _ rfl hr9'.out Tryz.underlying32 rfl info_op) rfl (decPost_eq (decP_no hno.out (hS.out.trans hb9'.out)) rfl)
            | some p6 =>
              obtain ⟨es, l7⟩ := p6
              rw [g6] at hro
              simp only at hro
              obtain ⟨e1, hes⟩ := rSmall_back hl6 g6
              have hl7 := bytes_tail (a := numB es) (m := l7) (by rw [← e1]; exact hl6)
              have hlen7 : l7.length ≤ 1000 := by have := congrArg List.length e1; rw [List.length_append] at this; omega
              obtain ⟨M7, hM7⟩ : ∃ M, l7.length = M := ⟨_, rfl⟩
              have c6 := Lib.hid (fun (wz : World) (a : Option Addr) (c : Nat) (h : RdB wz (.slice a M6 c) l6) => (show Calls Tryz.prog 50 #[.slice a M6 c] wz fun e w' => ∃ a c, e = .returned (.tuple #[.int .u32 (es : Int), .slice a M7 c, .bool true]) ∧ RdB wz (.slice a M7 c) l7 ∧ Below wz.heap.size wz w' from by rw [← hM7]; exact rshort_some l6 _ wz h hl6 (by omega) es l7 g6))
              have hM7 := Lib.hid hM7
              have hes := Lib.hid hes
              clear g6 e1
              go_upto_region 21 with (go_at_call 50; (with_reducible refine (c6.out _ _ _ x6.out).mono ?_); rintro e9 w4 ⟨x7a, x7c, rfl, q1, q2⟩; (try replace rR := Lib.hid (rowB rR.out q2 (Array.getElem?_eq_some_iff.1 rR.out).1)); (try replace rZ := Lib.hid (rowB rZ.out q2 (Array.getElem?_eq_some_iff.1 rZ.out).1)); (try replace rA := Lib.hid (rowB rA.out q2 (Array.getElem?_eq_some_iff.1 rA.out).1)); (try replace x6 := Lib.hid (x6.out.mono q2)); (try replace hH := Lib.hid (heldI_mono hH.out q2)); replace hS := Lib.hid (hS.out.trans (Below.mono q2 hS.out.size)); clear q2)
              go_upto_region 22 with (first | (refine wpList_load_row_g rfl 28 _ rfl _ rfl 28 (aC ck ckey ⟨vk, vn, vb, vs⟩) (0, 0) _ rA.out Tryz.underlying28 rfl info_act ?_) | (refine storeNew _ rfl 32 _ _ rfl #[.int .u32 (au : Int), .slice ia n ic, .int .u64 (st : Int), .int .u8 ck, .string ckey, .int .u8 vk, .int .i64 vn, .int .u64 (vb : Int), .string vs, .int .u32 (ee : Int), .int .u32 (es : Int)] 32 rfl rfl info_op rfl (op_one ⟨au, n, F, st, ck, ckey, ⟨vk, vn, vb, vs⟩, ee, es⟩ ia n ic) ?_; intro wx hrx hbx; (try replace rR := Lib.hid (rowB rR.out hbx (Array.getElem?_eq_some_iff.1 rR.out).1)); (try replace rZ := Lib.hid (rowB rZ.out hbx (Array.getElem?_eq_some_iff.1 rZ.out).1)); (try replace rA := Lib.hid (rowB rA.out hbx (Array.getElem?_eq_some_iff.1 rA.out).1)); (try replace x6 := Lib.hid (x6.out.mono hbx)); (try replace hH := Lib.hid (heldI_mono hH.out hbx)); replace hS := Lib.hid (hS.out.trans (Below.mono hbx hS.out.size)); have rO := Lib.hid hrx; clear hrx hbx))
              clear x6 rA
              have fo : Od.Fit (⟨au, n, F, st, ck, ckey, ⟨vk, vn, vb, vs⟩, ee, es⟩ : Od) := ⟨hau.out, hFb.out, Nat.le_trans hn4.out (by decide), hst.out, hck.out, Nat.le_trans hckey.out (by decide), hcv.out, hee.out, hes.out⟩
              have hck2 := Lib.hid (fun (wz : World) (h : RdI wz (.slice ia n ic) n F) => (show Calls Tryz.prog 44 #[.agg #[.int .u32 (au : Int), .slice ia n ic, .int .u64 (st : Int), .int .u8 ck, .string ckey, .int .u8 vk, .int .i64 vn, .int .u64 (vb : Int), .string vs, .int .u32 (ee : Int), .int .u32 (es : Int)]] wz fun e w' => e = .returned (.int .i64 (chkO (⟨au, n, F, st, ck, ckey, ⟨vk, vn, vb, vs⟩, ee, es⟩ : Od))) ∧ Below wz.heap.size wz w' from ropCheck_any (⟨au, n, F, st, ck, ckey, ⟨vk, vn, vb, vs⟩, ee, es⟩ : Od) fo (.slice ia n ic) wz h))
              obtain ⟨O, hO⟩ : ∃ O, O = (⟨au, n, F, st, ck, ckey, ⟨vk, vn, vb, vs⟩, ee, es⟩ : Od) := ⟨_, rfl⟩
              by_cases hm7 : M7 = 0
              rotate_left
              · have hno := Lib.hid (show decO l = none from dec_rest hro (by rw [hM7.out]; exact hm7))
                have i5 : (0 : Int) < (M7 : Int) := by omega
                have i6 : decide ((0 : Int) < (M7 : Int)) = true := decide_eq_true i5
                go_wp2_with (first | (refine wpList_load_row_g rfl 32 _ rfl (w.heap.size + 1) rfl 32 (zO.c (.slice none 0 0)) (0, 0) _ rZ.out Tryz.underlying32 rfl info_op ?_) | (refine storeOver _ w.heap.size _ rfl 32 _ _ rfl (zO.c (.slice none 0 0)) 32 rR.out rfl rfl info_op rfl (op_one zO _ _ _) ?_; intro w9 hr9 hb9; have hr9' := Lib.hid hr9; have hb9' := Lib.hid hb9; clear hr9 hb9))
                exact bodyPost_ret (results_row_tmp rfl _ _ w.heap.size 32 _ _ _ rfl hr9'.out Tryz.underlying32 rfl info_op) rfl (decPost_eq (decP_no hno.out (hS.out.trans hb9'.out)) rfl)
              by_cases hc0 : chkO (⟨au, n, F, st, ck, ckey, ⟨vk, vn, vb, vs⟩, ee, es⟩ : Od) = 0
              rotate_left
              · have hno := Lib.hid (show decO l = none from dec_chk hro hc0)
                have hcb : (chkO (⟨au, n, F, st, ck, ckey, ⟨vk, vn, vb, vs⟩, ee, es⟩ : Od) != 0) = true := by simpa using hc0
                generalize chkO (⟨au, n, F, st, ck, ckey, ⟨vk, vn, vb, vs⟩, ee, es⟩ : Od) = CKV at *
                clear hc0
                subst hm7
                go_wp2_with (first | (refine wpList_load_row_g rfl 32 _ rfl _ rfl 32 #[.int .u32 (au : Int), .slice ia n ic, .int .u64 (st : Int), .int .u8 ck, .string ckey, .int .u8 vk, .int .i64 vn, .int .u64 (vb : Int), .string vs, .int .u32 (ee : Int), .int .u32 (es : Int)] (0, 0) _ rO.out Tryz.underlying32 rfl info_op ?_) | (go_at_call 44; (with_reducible refine (hck2.out _ (heldI_nw hH.out)).mono ?_); rintro e9 w4 ⟨rfl, q2⟩; (try replace rR := Lib.hid (rowB rR.out q2 (Array.getElem?_eq_some_iff.1 rR.out).1)); (try replace rZ := Lib.hid (rowB rZ.out q2 (Array.getElem?_eq_some_iff.1 rZ.out).1)); (try replace rO := Lib.hid (rowB rO.out q2 (Array.getElem?_eq_some_iff.1 rO.out).1)); (try replace hH := Lib.hid (heldI_mono hH.out q2)); replace hS := Lib.hid (hS.out.trans (Below.mono q2 hS.out.size)); clear q2) | (refine wpList_load_row_g rfl 32 _ rfl (w.heap.size + 1) rfl 32 (zO.c (.slice none 0 0)) (0, 0) _ rZ.out Tryz.underlying32 rfl info_op ?_) | (refine storeOver _ w.heap.size _ rfl 32 _ _ rfl (zO.c (.slice none 0 0)) 32 rR.out rfl rfl info_op rfl (op_one zO _ _ _) ?_; intro w9 hr9 hb9; have hr9' := Lib.hid hr9; have hb9' := Lib.hid hb9; clear hr9 hb9))
                exact bodyPost_ret (results_row_tmp rfl _ _ w.heap.size 32 _ _ _ rfl hr9'.out Tryz.underlying32 rfl info_op) rfl (decPost_eq (decP_no hno.out (hS.out.trans hb9'.out)) rfl)
              have hm70 : l7.length = 0 := by rw [hM7.out]; exact hm7
              have hde := dec_yes hro hm70 hc0
              have hen : encO (⟨au, n, F, st, ck, ckey, ⟨vk, vn, vb, vs⟩, ee, es⟩ : Od) = l := (decO_back hl hde).1
              have hby := Lib.hid (fun (wz : World) (h : RdI wz (.slice ia n ic) n F) => (show Calls Tryz.prog 54 #[.agg #[.int .u32 (au : Int), .slice ia n ic, .int .u64 (st : Int), .int .u8 ck, .string ckey, .int .u8 vk, .int .i64 vn, .int .u64 (vb : Int), .string vs, .int .u32 (ee : Int), .int .u32 (es : Int)]] wz fun e w' => ∃ sv, e = .returned sv ∧ OwnB wz.heap.size 5 w' sv l ∧ Below wz.heap.size wz w' from by have h9 := rBytesO_any (⟨au, n, F, st, ck, ckey, ⟨vk, vn, vb, vs⟩, ee, es⟩ : Od) fo (chk_zero hc0).1 (chk_zero hc0).2.2 (.slice ia n ic) wz h; rw [hen] at h9; exact h9))
              rw [hc0] at hck2
              have hyes := Lib.hid (fun (w9 : World) (h9 : Below w.heap.size w w9) (hh : HeldI w.heap.size w9 (.slice ia n ic) n F) => (show decPost w l (.returned (.tuple #[.agg #[.int .u32 (au : Int), .slice ia n ic, .int .u64 (st : Int), .int .u8 ck, .string ckey, .int .u8 vk, .int .i64 vn, .int .u64 (vb : Int), .string vs, .int .u32 (ee : Int), .int .u32 (es : Int)], .int .i64 0])) w9 from ⟨h9, .inr ⟨(⟨au, n, F, st, ck, ckey, ⟨vk, vn, vb, vs⟩, ee, es⟩ : Od), ia, ic, hde, rfl, hh⟩⟩))
              have hN10 := Lib.hid (show N ≤ 1000 by have := hNl.out; omega)
              clear hro hde hen hc0 hm70 fo
              subst hm7
              go_upto_region 24 with (first | (refine wpList_load_row_g rfl 32 _ rfl _ rfl 32 #[.int .u32 (au : Int), .slice ia n ic, .int .u64 (st : Int), .int .u8 ck, .string ckey, .int .u8 vk, .int .i64 vn, .int .u64 (vb : Int), .string vs, .int .u32 (ee : Int), .int .u32 (es : Int)] (0, 0) _ rO.out Tryz.underlying32 rfl info_op ?_) | (go_at_call 44; (with_reducible refine (hck2.out _ (heldI_nw hH.out)).mono ?_); rintro e9 w4 ⟨rfl, q2⟩; (try replace rR := Lib.hid (rowB rR.out q2 (Array.getElem?_eq_some_iff.1 rR.out).1)); (try replace rZ := Lib.hid (rowB rZ.out q2 (Array.getElem?_eq_some_iff.1 rZ.out).1)); (try replace rO := Lib.hid (rowB rO.out q2 (Array.getElem?_eq_some_iff.1 rO.out).1)); (try replace hH := Lib.hid (heldI_mono hH.out q2)); replace hS := Lib.hid (hS.out.trans (Below.mono q2 hS.out.size)); clear q2) | (go_at_call 54; (with_reducible refine (hby.out _ (heldI_nw hH.out)).mono ?_); rintro e9 w4 ⟨sv, rfl, q1, q2⟩; (try replace rR := Lib.hid (rowB rR.out q2 (Array.getElem?_eq_some_iff.1 rR.out).1)); (try replace rZ := Lib.hid (rowB rZ.out q2 (Array.getElem?_eq_some_iff.1 rZ.out).1)); (try replace rO := Lib.hid (rowB rO.out q2 (Array.getElem?_eq_some_iff.1 rO.out).1)); (try replace hH := Lib.hid (heldI_mono hH.out q2)); replace hS := Lib.hid (hS.out.trans (Below.mono q2 hS.out.size)); have xB := Lib.hid q1.rd; clear q1; clear q2) | (go_at_call 19; (with_reducible refine (same_true _ _ l _ (by have := hNl.out; have := hN10.out; omega) xB.out (bw.out.mono hS.out)).mono ?_); rintro e9 w4 ⟨rfl, q2⟩; (try replace rR := Lib.hid (rowB rR.out q2 (Array.getElem?_eq_some_iff.1 rR.out).1)); (try replace rZ := Lib.hid (rowB rZ.out q2 (Array.getElem?_eq_some_iff.1 rZ.out).1)); (try replace rO := Lib.hid (rowB rO.out q2 (Array.getElem?_eq_some_iff.1 rO.out).1)); (try replace hH := Lib.hid (heldI_mono hH.out q2)); replace hS := Lib.hid (hS.out.trans (Below.mono q2 hS.out.size)); clear q2))
              go_wp2_with (first | (refine wpList_load_row_g rfl 32 _ rfl _ rfl 32 #[.int .u32 (au : Int), .slice ia n ic, .int .u64 (st : Int), .int .u8 ck, .string ckey, .int .u8 vk, .int .i64 vn, .int .u64 (vb : Int), .string vs, .int .u32 (ee : Int), .int .u32 (es : Int)] (0, 0) _ rO.out Tryz.underlying32 rfl info_op ?_) | (refine wpList_store_row rfl 32 _ _ rfl w.heap.size #[.int .u32 (au : Int), .slice ia n ic, .int .u64 (st : Int), .int .u8 ck, .string ckey, .int .u8 vk, .int .i64 vn, .int .u64 (vb : Int), .string vs, .int .u32 (ee : Int), .int .u32 (es : Int)] rfl rfl 32 _ rR.out info_op rfl (op_one (⟨au, n, F, st, ck, ckey, ⟨vk, vn, vb, vs⟩, ee, es⟩ : Od) ia n ic) ?_; have hr9 := Lib.hid (setRow_heap _ _ _ #[.int .u32 (au : Int), .slice ia n ic, .int .u64 (st : Int), .int .u8 ck, .string ckey, .int .u8 vk, .int .i64 vn, .int .u64 (vb : Int), .string vs, .int .u32 (ee : Int), .int .u32 (es : Int)] _ _ rR.out); have hb9 := Lib.hid (below_setRow' (B := w.heap.size) (g := w.heap.size) (Below.refl _ w4) (Nat.le_refl _) #[.int .u32 (au : Int), .slice ia n ic, .int .u64 (st : Int), .int .u8 ck, .string ckey, .int .u8 vk, .int .i64 vn, .int .u64 (vb : Int), .string vs, .int .u32 (ee : Int), .int .u32 (es : Int)])))
              exact bodyPost_ret (results_row_tmp rfl _ _ w.heap.size 32 _ _ _ rfl hr9.out Tryz.underlying32 rfl info_op) rfl (decPost_eq (hyes.out _ (hS.out.trans hb9.out) (heldI_lower (heldI_setRow hH.out (Nat.lt_succ_self _) _) (Nat.le_succ _))) rfl)
end Go.Proofs.YtoknefeciopdpaaGreatDoor.wir.val
