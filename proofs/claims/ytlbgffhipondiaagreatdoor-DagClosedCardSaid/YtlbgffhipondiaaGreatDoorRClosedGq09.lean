/- Texts that the row stands on, part 9. -/
import Derived.Test.YtlbgffhipondiaaGreatDoorRClosedGq08
import Derived.Laws.CopyRow
import Derived.Laws.Externs
import Derived.Lib.Overlaps
import Derived.Lib.AppendZerosOnto
import Derived.Shelf.RegionOpenPlain
import Derived.Shelf.Spec.SlicesInsert
namespace Go.Proofs.YtlbgffhipondiaaGreatDoor.wir.val
open Go.RowKit Go.YtlbgffhipondiaaGreatDoor
set_option linter.unusedVariables false
/-- A copy into a row, whatever the size of its elements. -/
theorem run_copyN {P : Program} (w : World) (dT sT ty elem : TypeId) (s : Nat) (i : TypeInfo) (hu : P.underlying dT = some (.slice elem)) (hi : P.info? elem = some i) (hs : i.size = s) (g o dLen dCap : Nat) (a : Addr) (sLen sCap : Nat) (cur : Array Value) (t : TypeId) (k : Nat) (hk : Nat.min sLen dLen = k)
    (cs : List Value) (hn : cs.length = k * s) (hg : w.heap[g]? = some (.cells cur t (0, 0))) (hsrc : ∀ j v, cs[j]? = some v → w.cell? (a.add j) = some v) (hfit : o + cs.length ≤ cur.size) (h1 : ∀ v ∈ cs, v.oneCell' = true) :
    (Builtin.copy_ #[dT, sT] ty #[.slice (some ⟨g, o, none⟩) dLen dCap, .slice (some a) sLen sCap]).run P w = .ok (goInt k) (w.setRow g (cur.toList.take o ++ cs ++ cur.toList.drop (o + cs.length)).toArray) := by
  have hl := run_firstCells_some (P := P) w s k a sLen sCap cs hn hsrc
  have hst := run_storeCells_at P g o t cs 0 cur w hg (by simpa using hfit) h1
  simp [Builtin.copy_, run_underlying hu, Builtin.lenOf, sizeOf, typeInfo, hi, hs, hk, hl, hst]
theorem ins_list {α : Type} (X1 X2 Z ys : List α) (S p q : Nat) (h1 : X1.length = p) (hy : ys.length = S) (h2 : X2.length = q) (hz : S ≤ Z.length) :
    (((X1 ++ (X2 ++ Z)).take (p + S) ++ X2 ++ (X1 ++ (X2 ++ Z)).drop (p + S + q)).take p ++ ys ++ ((X1 ++ (X2 ++ Z)).take (p + S) ++ X2 ++ (X1 ++ (X2 ++ Z)).drop (p + S + q)).drop (p + S)) = X1 ++ (ys ++ (X2 ++ Z.drop S)) := by
  have hC : p + S ≤ (X1 ++ (X2 ++ Z)).length := by simp only [List.length_append]; omega
  have hl : ((X1 ++ (X2 ++ Z)).take (p + S)).length = p + S := by rw [List.length_take]; omega
  have e1 : ((X1 ++ (X2 ++ Z)).take (p + S) ++ X2 ++ (X1 ++ (X2 ++ Z)).drop (p + S + q)).take p = X1 := by
    rw [List.append_assoc, List.take_append_of_le_length (by omega), List.take_take, show min p (p + S) = p by omega, List.take_append_of_le_length (by omega), ← h1, List.take_length]
  have e2 : ((X1 ++ (X2 ++ Z)).take (p + S) ++ X2 ++ (X1 ++ (X2 ++ Z)).drop (p + S + q)).drop (p + S) = X2 ++ Z.drop S := by
    rw [List.append_assoc, List.drop_append_of_le_length (by omega), show ((X1 ++ (X2 ++ Z)).take (p + S)).drop (p + S) = [] from List.drop_eq_nil_of_le (by omega), List.nil_append, ← List.append_assoc X1 X2 Z, show p + S + q = (X1 ++ X2).length + S by rw [List.length_append]; omega, List.drop_append, show (X1 ++ X2).length + S - (X1 ++ X2).length = S by omega, List.drop_eq_nil_of_le (by omega), List.nil_append]
  rw [e1, e2, List.append_assoc]
theorem rowcells {w : World} {g : Nat} {cs : Array Value} {T : TypeId} (hg : w.heap[g]? = some (.cells cs T (0, 0))) (o : Nat) (xs : List Value) (hx : (cs.toList.drop o).take xs.length = xs) (j : Nat) (v : Value) (hj : xs[j]? = some v) : w.cell? ((⟨g, o, none⟩ : Addr).add j) = some v := by
  rw [Addr.add_lit, cell_of_row _ _ _ _ _ _ hg]
  have hl : j < xs.length := (List.getElem?_eq_some_iff.1 hj).1
  have hj2 : ((cs.toList.drop o).take xs.length)[j]? = some v := by rw [hx]; exact hj
  rw [List.getElem?_take, if_pos hl, List.getElem?_drop] at hj2
  simpa using hj2
theorem app_blk {P : Program} (w : World) (base : Nat) (t ty e : TypeId) (i : TypeInfo) (z : Value) (size bytes : Nat) (ht : P.underlying t = some (.slice e)) (hi : P.info? e = some i) (hz : i.zero = some z) (hsize : i.size = size) (hby : i.bytes = bytes)
    (v : Value) (n : Nat) (xs : List Value) (hown : w.ownsRow base e size v n xs) (a : Addr) (c : Nat) (news : List Value) (hl : news.length = size) (hnews : ∀ j u, news[j]? = some u → w.cell? (a.add j) = some u) (h1 : ∀ u ∈ news, u.oneCell' = true)
    (h63 : n ≤ 1000000) (hbytes : (n + 1) * bytes ≤ 140737488355328) (v' : Value) (w' : World) (hrun : (Builtin.append_ #[t, t] ty #[v, .slice (some a) 1 c]).run P w = .ok v' w') : v'.ownBlock = v.ownBlock ∨ v'.ownBlock = some w.heap.size := by
  subst hsize
  subst hby
  rcases hown.2 with ⟨rfl, rfl⟩ | ⟨g, cap, cur, rfl, hbg, hg, hnc, hcm, hcs, htake⟩
  · have hr := run_append_nil (P := P) w t ty e i z ht hi hz a 1 c news (by omega) hnews (by omega) (by omega) (by have hb := hbytes; simp only [Nat.zero_add] at hb; omega)
    rw [hr] at hrun
    injection hrun with e1 _
    subst e1
    exact .inr rfl
  · by_cases hroom : n + 1 ≤ cap
    · have hr := run_append_room (P := P) w t ty e i ht hi g n cap cur hg a 1 c news (by omega) hnews h1 hroom (by rw [hl, hcs]; have := Nat.mul_le_mul_right i.size hroom; rw [Nat.add_mul, Nat.one_mul] at this; exact this)
      rw [hr] at hrun
      injection hrun with e1 _
      subst e1
      exact .inl rfl
    · have holds : ∀ j u, xs[j]? = some u → w.cell? ((⟨g, 0, none⟩ : Addr).add j) = some u := hown.cells (g := g) rfl
      have hr := run_append_grow (P := P) w t ty e i z ht hi hz ⟨g, 0, none⟩ n cap xs hown.1 holds a 1 c news (by omega) hnews (by omega) (by omega) (growslice_fits (by omega) hbytes)
      rw [hr] at hrun
      injection hrun with e1 _
      subst e1
      exact .inr rfl
theorem grow_list {α : Type} (X1 ZZ X2 ys : List α) (S p q : Nat) (h1 : X1.length = p) (hy : ys.length = S) (h2 : X2.length = q) (hz : S + q ≤ ZZ.length) :
    (((X1 ++ ZZ).take p ++ ys ++ (X1 ++ ZZ).drop (p + S)).take (p + S) ++ X2 ++ ((X1 ++ ZZ).take p ++ ys ++ (X1 ++ ZZ).drop (p + S)).drop (p + S + q)) = X1 ++ (ys ++ (X2 ++ ZZ.drop (S + q))) := by
  have a1 : (X1 ++ ZZ).take p = X1 := by rw [← h1, List.take_left]
  have a2 : (X1 ++ ZZ).drop (p + S) = ZZ.drop S := by rw [List.drop_append, show p + S - X1.length = S by omega, List.drop_eq_nil_of_le (by omega), List.nil_append]
  rw [a1, a2]
  have b1 : (X1 ++ ys ++ ZZ.drop S).take (p + S) = X1 ++ ys := by rw [show p + S = (X1 ++ ys).length by rw [List.length_append]; omega, List.take_left]
  have b2 : (X1 ++ ys ++ ZZ.drop S).drop (p + S + q) = ZZ.drop (S + q) := by
    rw [List.drop_append, show p + S + q - (X1 ++ ys).length = q by rw [List.length_append]; omega, List.drop_eq_nil_of_le (by rw [List.length_append]; omega), List.nil_append, List.drop_drop]
  rw [b1, b2, List.append_assoc, List.append_assoc]
theorem infoI_ins : (Tryz.prog.info? 24).map (fun i => (i.zero, i.size, i.bytes)) = some (some (.agg (u8s (zerosB 32))), 32, 32) := by kernel_rfl
set_option maxHeartbeats 4000000 in
set_option maxRecDepth 100000 in
/-- There is room, and it is not the end: in place. -/
theorem insI_shift (g n cap i vb : Nat) (cur : Array Value) (X1 X2 Z ys : List Value) (w : World) (hg : w.heap[g]? = some (.cells cur 24 (0, 0))) (hcur : cur.toList = X1 ++ (X2 ++ Z)) (l1 : X1.length = i * 32) (l2 : X2.length = (n - i) * 32) (lz : 32 ≤ Z.length)
    (hi : i < n) (hroom : n + 1 ≤ cap) (hn : n ≤ 100000) (hc : cap ≤ maxLen) (hv : w.heap[vb]? = some (.cells ys.toArray 24 (0, 0))) (hyl : ys.length = 32) (hne : vb ≠ g) (h1x : ∀ u ∈ X2, u.oneCell' = true) (h1y : ∀ u ∈ ys, u.oneCell' = true) :
    Calls Tryz.prog 116 #[.slice (some ⟨g, 0, none⟩) n cap, .int .i64 (i : Int), .slice (some ⟨vb, 0, none⟩) 1 1] w fun e w' =>
      e = .returned (.slice (some ⟨g, 0, none⟩) (n + 1) cap) ∧ ∃ k, w' = (w.drewN k).setRow g (X1 ++ (ys ++ (X2 ++ Z.drop 32))).toArray := by
  obtain ⟨ti, hti, _, hts, _⟩ := info_parts infoI_ins
  have hsz : ∀ wz : World, (sizeOf 24).run Tryz.prog wz = .ok 32 wz := fun wz => by simp [sizeOf, typeInfo, hti, hts]
  have z2 : ¬ ((i : Int) = (n : Int)) := by omega
  have w1 : IntKind.i64.wrap ((i : Int) + 1) = (i : Int) + 1 := IntWalk.i64_in _ (by omega)
  have w2 : IntKind.i64.wrap ((n : Int) + 1) = (n : Int) + 1 := IntWalk.i64_in _ (by omega)
  have c1 : ¬ ((cap : Int) < (n : Int) + 1) := by omega
  have c2 : (n : Int) + 1 ≤ (cap : Int) := by omega
  have c3 : (0 : Int) ≤ (n : Int) + 1 := by omega
  have c4 : (0 : Int) ≤ (i : Int) + 1 := by omega
  have c5 : (i : Int) + 1 ≤ (n : Int) + 1 := by omega
  have c6 : (i : Int) ≤ (n : Int) := by omega
  have c7 : (i : Int) ≤ (n : Int) + 1 := by omega
  have t1 : ((i : Int) + 1).toNat = i + 1 := by omega
  have t2 : ((n : Int) + 1).toNat = n + 1 := by omega
  have n1 : ¬ (cap = i + 1) := by omega
  have n2 : ¬ (cap = i) := by omega
  have n3 : i ≤ n := by omega
  have n4 : i ≤ n + 1 := by omega
  have hov : ∀ (wz : World) lb cb, wz.heap = w.heap → (callFunc 158 #[.slice (some ⟨vb, 0, none⟩) 1 1, .slice (some ⟨g, (i + 1) * 32, none⟩) lb cb]).run Tryz.prog wz = .ok (.value (.bool false)) wz := fun wz lb cb hh => by
    rw [run_callFunc_extern (fn := Tryz.f158) (e := Extern.SlicesOverlaps.overlaps #[26, 26] #[4]) Tryz.func158 (by decide) rfl (by kernel_rfl) (by kernel_rfl)]
    have sv : wz.shape? vb = some (24, 32) := by simp [World.shape?, hh, hv, hyl]
    have sg : wz.shape? g = some (24, cur.size) := by simp [World.shape?, hh, hg]
    have f1 : wz.frozen? ⟨vb, 0, none⟩ = false := by simp [World.frozen?, hh, hv]
    have f2 : wz.frozen? ⟨vb, 32, none⟩ = false := by simp [World.frozen?, hh, hv]
    have hcs : cur.size ≠ 0 := by
      have e : cur.toList.length = cur.size := by simp
      rw [hcur] at e
      simp only [List.length_append] at e
      omega
    rw [Lib.run_overlaps_apart wz 26 4 24 Tryz.underlying26 32 hsz ⟨vb, 0, none⟩ ⟨g, (i + 1) * 32, none⟩ 1 1 lb cb hne 24 24 32 cur.size sv sg hcs f1 f2]
    rfl
  have hvl := (Array.getElem?_eq_some_iff.1 hv).1
  unfold maxLen at hc
  go_enter Tryz.func116, Tryz.ntmps116
  go_wp2_with (simp only [hov])
  obtain ⟨R1, hR1⟩ : ∃ R : Array Value, R = (cur.toList.take ((i + 1) * 32) ++ X2 ++ cur.toList.drop ((i + 1) * 32 + X2.length)).toArray := ⟨_, rfl⟩
  obtain ⟨R2, hR2⟩ : ∃ R : Array Value, R = (R1.toList.take (i * 32) ++ ys ++ R1.toList.drop (i * 32 + ys.length)).toArray := ⟨_, rfl⟩
  have hlen : cur.size = i * 32 + ((n - i) * 32 + Z.length) := by
    have e : cur.toList.length = cur.size := by simp
    rw [hcur] at e
    simp only [List.length_append] at e
    omega
  have hfin : R2 = (X1 ++ (ys ++ (X2 ++ Z.drop 32))).toArray := by
    have h := ins_list X1 X2 Z ys 32 (i * 32) ((n - i) * 32) l1 hyl l2 lz
    rw [hR2, hR1, hcur, hyl, l2, show (i + 1) * 32 = i * 32 + 32 by omega]
    rw [List.toList_toArray, h]
  have hcp1 : ∀ ty dc sc, (Builtin.copy_ #[26, 26] ty #[.slice (some ⟨g, (i + 1) * 32, none⟩) (n - i) dc, .slice (some ⟨g, i * 32, none⟩) (n + 1 - i) sc]).run Tryz.prog w.drew = .ok (goInt (n - i : Nat)) (w.drew.setRow g R1) := fun ty dc sc => by
    rw [hR1]
    exact run_copyN w.drew 26 26 ty 24 32 ti Tryz.underlying26 hti hts g ((i + 1) * 32) (n - i) dc ⟨g, i * 32, none⟩ (n + 1 - i) sc cur 24 (n - i) (by simp only [Nat.min_def]; split <;> omega) X2 l2 hg
      (fun j v hj => rowcells (w := w.drew) hg (i * 32) X2 (by rw [hcur, ← l1, List.drop_left, List.take_left]) j v hj) (by rw [l2]; omega) h1x
  have hcp2 : ∀ ty dc, (Builtin.copy_ #[26, 26] ty #[.slice (some ⟨g, i * 32, none⟩) (n + 1 - i) dc, .slice (some ⟨vb, 0, none⟩) 1 1]).run Tryz.prog (w.drew.setRow g R1) = .ok (goInt 1) (w.drew.setRow g R2) := fun ty dc => by
    have h := run_copyN (P := Tryz.prog) (w.drew.setRow g R1) 26 26 ty 24 32 ti Tryz.underlying26 hti hts g (i * 32) (n + 1 - i) dc ⟨vb, 0, none⟩ 1 1 R1 24 1 (by simp only [Nat.min_def]; split <;> omega) ys (by omega) (setRow_heap w.drew g _ R1 _ _ hg)
      (fun j v hj => rowcells (w := w.drew.setRow g R1) (cs := ys.toArray) (T := 24) ((setRow_other w.drew g vb R1 hne).trans hv) 0 ys (by simp) j v hj) (by rw [hR1]; simp only [List.size_toArray, List.length_append, List.length_take, List.length_drop, Array.length_toList]; omega) h1y
    rw [← hR2, setRow_setRow] at h
    exact h
  have hfin' := Lib.hid hfin
  clear hfin hR1 hR2 hcur hlen l1 l2 lz hyl h1x h1y hg hv
  have mixed : Tryz.prog.follows .mixedOrders = true := by kernel_rfl
  go_region_law_o (refine step_copy_runI rfl _ _ 26 26 rfl _ _ (by simp [Act.eval, Act.put]) (by simp [Act.eval, Act.put]) (hcp1 _ _ _) ?_)
  go_wp2_with (at_builtin; refine wpList_copy_runI _ rfl _ _ 26 26 rfl _ _ rfl rfl (hcp2 _ _) ?_)
  go_ret
  exact ⟨rfl, 1, by rw [hfin'.out]; rfl⟩
set_option maxHeartbeats 4000000 in
set_option maxRecDepth 100000 in
/-- At the end. -/
theorem insI_end (B n vb : Nat) (v : Value) (xs ys : List Value) (w : World) (hown : w.ownsRow B 24 32 v n xs) (hv : w.heap[vb]? = some (.cells ys.toArray 24 (0, 0))) (hyl : ys.length = 32) (h1y : ∀ u ∈ ys, u.oneCell' = true) (hn : n ≤ 100000) (hB : B ≤ w.heap.size) :
    Calls Tryz.prog 116 #[v, .int .i64 (n : Int), .slice (some ⟨vb, 0, none⟩) 1 1] w fun e w' => ∃ v', e = .returned v' ∧ w'.ownsRow B 24 32 v' (n + 1) (xs ++ ys) ∧ w.grownBy w' v.ownBlock ∧ (v'.ownBlock = v.ownBlock ∨ v'.ownBlock = some w.heap.size) := by
  obtain ⟨ti, hti, htz, hts, htb⟩ := info_parts infoI_ins
  have hsz : ∀ wz : World, (sizeOf 24).run Tryz.prog wz = .ok 32 wz := fun wz => by simp [sizeOf, typeInfo, hti, hts]
  have hap : ∀ ty, ∃ v' w', (Builtin.append_ #[26, 26] ty #[v, .slice (some ⟨vb, 0, none⟩) 1 1]).run Tryz.prog w = .ok v' w' ∧ w'.ownsRow B 24 32 v' (n + 1) (xs ++ ys) ∧ w.grownBy w' v.ownBlock ∧ (v'.ownBlock = v.ownBlock ∨ v'.ownBlock = some w.heap.size) := fun ty => by
    obtain ⟨v', w', h1, h2, h3, _⟩ := run_append_own (P := Tryz.prog) w B 26 ty 24 ti (.agg (u8s (zerosB 32))) 32 32 Tryz.underlying26 hti htz hts htb (by kernel_rfl) (by decide) v n xs hown ⟨vb, 0, none⟩ 1 1 ys (by omega) (fun j u hj => rowcells (cs := ys.toArray) hv 0 ys (by simp) j u hj) h1y (by unfold maxLen; omega) (by omega) hB
    exact ⟨v', w', h1, h2, h3, app_blk (P := Tryz.prog) w B 26 ty 24 ti (.agg (u8s (zerosB 32))) 32 32 Tryz.underlying26 hti htz hts htb v n xs hown ⟨vb, 0, none⟩ 1 ys hyl (fun j u hj => rowcells (cs := ys.toArray) hv 0 ys (by simp) j u hj) h1y (by omega) (by omega) v' w' h1⟩
  obtain ⟨v', w', hrun, ho, hg, hk⟩ := hap 26
  have hr' := hrun
  have ho' := Lib.hid ho; have hg' := Lib.hid hg; have hk' := Lib.hid hk
  rcases hown.2 with ⟨rfl, rfl⟩ | ⟨g, cap, cur, rfl, hbg, hg0, hn2, hcm, hs2, ht⟩
  · clear hap hrun ho hg hk hv hown
    go_enter Tryz.func116, Tryz.ntmps116
    go_wp2_with (at_builtin; refine Lib.wpList_append_run _ rfl _ _ 26 26 rfl _ _ rfl rfl _ _ hr' ?_)
    go_ret
    exact ⟨_, rfl, ho'.out, hg'.out, hk'.out⟩
  · have c1 : (n : Int) ≤ (n : Int) := Int.le_refl _
    clear hap hrun ho hg hk hv hown hg0 ht hs2 hbg
    unfold maxLen at hcm
    go_enter Tryz.func116, Tryz.ntmps116
    go_wp2_with (at_builtin; refine Lib.wpList_append_run _ rfl _ _ 26 26 rfl _ _ rfl rfl _ _ hr' ?_)
    all_goals (go_ret; exact ⟨_, rfl, ho'.out, hg'.out, hk'.out⟩)
set_option maxHeartbeats 4000000 in
set_option maxRecDepth 100000 in
/-- There is no room, and it is not the end: a new row. -/
theorem insI_grow (g n cap i vb : Nat) (cur : Array Value) (X1 X2 Z ys : List Value) (w : World) (hg : w.heap[g]? = some (.cells cur 24 (0, 0))) (hcur : cur.toList = X1 ++ (X2 ++ Z)) (l1 : X1.length = i * 32) (l2 : X2.length = (n - i) * 32)
    (hi : i < n) (hcn : n ≤ cap) (hroom : cap < n + 1) (hc : cap ≤ 100000) (hv : w.heap[vb]? = some (.cells ys.toArray 24 (0, 0))) (hyl : ys.length = 32) (h1x : ∀ u ∈ X2, u.oneCell' = true) (h1y : ∀ u ∈ ys, u.oneCell' = true) :
    Calls Tryz.prog 116 #[.slice (some ⟨g, 0, none⟩) n cap, .int .i64 (i : Int), .slice (some ⟨vb, 0, none⟩) 1 1] w fun e w' =>
      ∃ G R, e = .returned (.slice (some ⟨w.heap.size, 0, none⟩) (n + 1) G) ∧ n + 1 ≤ G ∧ G ≤ maxLen ∧ w'.heap[w.heap.size]? = some (.cells R 24 (0, 0)) ∧ R.size = G * 32 ∧ R.toList.take ((n + 1) * 32) = X1 ++ (ys ++ X2) ∧ Below w.heap.size w w' := by
  obtain ⟨ti, hti, htz, hts, htb⟩ := info_parts infoI_ins
  have hsz : ∀ wz : World, (sizeOf 24).run Tryz.prog wz = .ok 32 wz := fun wz => by simp [sizeOf, typeInfo, hti, hts]
  have hzc : (Value.cells (.agg (u8s (zerosB 32)))).size = 32 := by kernel_rfl
  have hgl := (Array.getElem?_eq_some_iff.1 hg).1
  have hvl := (Array.getElem?_eq_some_iff.1 hv).1
  have hold : (Builtin.firstCells ti.size i (.slice (some ⟨g, 0, none⟩) i cap)).run Tryz.prog w.drew = .ok X1.toArray w.drew := by
    rw [hts]
    exact run_firstCells_some w.drew 32 i ⟨g, 0, none⟩ i cap X1 l1 (fun j v hj => rowcells (w := w.drew) hg 0 X1 (by rw [hcur, List.drop_zero, List.take_left]) j v hj)
  obtain ⟨G, hG⟩ : ∃ G, G = grownCap w (n + 1) cap 24 := ⟨_, rfl⟩
  obtain ⟨ZZ, hZZ⟩ : ∃ Y : List Value, Y = (Builtin.zeroCells (Value.cells (.agg (u8s (zerosB 32)))) (n + 1 - i) ++ Builtin.zeroCells (Value.cells (.agg (u8s (zerosB 32)))) (G - (n + 1))).toList := ⟨_, rfl⟩
  have hGn : n + 1 ≤ G := by rw [hG]; exact grownCap_ge w _ _ _
  have hGm : G ≤ maxLen := by rw [hG]; exact grownCap_le_maxLen w (n + 1) cap 24 (by unfold maxLen; omega)
  have lZZ : ZZ.length = (G - i) * 32 := by
    rw [hZZ]
    simp only [Array.length_toList, Array.size_append, size_zeroCells, hzc]
    rw [← Nat.add_mul]
    congr 1
    omega
  have hrz : ∀ ty, (Builtin.append_ #[26, 3] ty #[.slice (some ⟨g, 0, none⟩) i cap, .int .i64 ((n : Int) + 1 - (i : Int))]).run Tryz.prog w = .ok (.slice (some ⟨w.heap.size, 0, none⟩) (n + 1) G) (w.drew.alloc (.cells (X1 ++ ZZ).toArray 24)) := fun ty => by
    have h := Lib.run_append_grow_zeros (P := Tryz.prog) w 26 3 ty 24 ti _ .i64 .i64 Tryz.underlying26 Tryz.underlying3 hti htz (some ⟨g, 0, none⟩) i cap X1 hold (n + 1 - i) (by omega) (by omega) (by omega) (by omega) (by rw [htb]; omega) (by rw [htb, show i + (n + 1 - i) = n + 1 by omega]; exact growslice_fits hroom (by omega))
    rw [show i + (n + 1 - i) = n + 1 by omega, ← hG, Array.append_assoc] at h
    rw [show (n : Int) + 1 - (i : Int) = ((n + 1 - i : Nat) : Int) by omega, h, hZZ]
    congr 3
    simp
  obtain ⟨W1, hW1⟩ : ∃ W1, W1 = w.drew.alloc (.cells (X1 ++ ZZ).toArray 24) := ⟨_, rfl⟩
  rw [← hW1] at hrz
  have p1 : W1.heap[w.heap.size]? = some (.cells (X1 ++ ZZ).toArray 24 (0, 0)) := by rw [hW1]; exact heap_alloc_new w.drew _
  have hb1 : Below w.heap.size w W1 := by rw [hW1]; exact (Below.refl w.heap.size w).drew.alloc (Nat.le_refl _) _
  obtain ⟨R1, hR1⟩ : ∃ R : Array Value, R = ((X1 ++ ZZ).take (i * 32) ++ ys ++ (X1 ++ ZZ).drop (i * 32 + 32)).toArray := ⟨_, rfl⟩
  obtain ⟨R2, hR2⟩ : ∃ R : Array Value, R = (R1.toList.take ((i + 1) * 32) ++ X2 ++ R1.toList.drop ((i + 1) * 32 + X2.length)).toArray := ⟨_, rfl⟩
  have hfin : R2 = (X1 ++ (ys ++ (X2 ++ ZZ.drop (32 + (n - i) * 32)))).toArray := by
    have h := grow_list X1 ZZ X2 ys 32 (i * 32) ((n - i) * 32) l1 hyl l2 (by rw [lZZ]; omega)
    rw [hR2, hR1, l2, show (i + 1) * 32 = i * 32 + 32 by omega, List.toList_toArray, h]
  have s1 : R1.size = G * 32 := by rw [hR1]; simp only [List.size_toArray, List.length_append, List.length_take, List.length_drop, hyl, l1, lZZ]; omega
  have p2 : (W1.setRow w.heap.size R1).drew.heap[w.heap.size]? = some (.cells R1 24 (0, 0)) := setRow_heap W1 _ _ R1 _ _ p1
  have hcp1 : ∀ ty dc, (Builtin.copy_ #[26, 26] ty #[.slice (some ⟨w.heap.size, i * 32, none⟩) (n + 1 - i) dc, .slice (some ⟨vb, 0, none⟩) 1 1]).run Tryz.prog W1 = .ok (goInt 1) (W1.setRow w.heap.size R1) := fun ty dc => by
    have h := run_copyN (P := Tryz.prog) W1 26 26 ty 24 32 ti Tryz.underlying26 hti hts w.heap.size (i * 32) (n + 1 - i) dc ⟨vb, 0, none⟩ 1 1 (X1 ++ ZZ).toArray 24 1 (by simp only [Nat.min_def]; split <;> omega) ys (by omega) p1
      (fun j v hj => rowcells (cs := ys.toArray) ((hb1.block vb hvl).trans hv) 0 ys (by simp) j v hj) (by simp only [List.size_toArray, List.length_append, l1, lZZ, hyl]; omega) h1y
    rw [List.toList_toArray, hyl, ← hR1] at h
    exact h
  have hcp2 : ∀ ty dc sc, (Builtin.copy_ #[26, 26] ty #[.slice (some ⟨w.heap.size, (i + 1) * 32, none⟩) (n - i) dc, .slice (some ⟨g, i * 32, none⟩) (n - i) sc]).run Tryz.prog (W1.setRow w.heap.size R1).drew = .ok (goInt (n - i : Nat)) ((W1.setRow w.heap.size R1).drew.setRow w.heap.size R2) := fun ty dc sc => by
    have h := run_copyN (P := Tryz.prog) (W1.setRow w.heap.size R1).drew 26 26 ty 24 32 ti Tryz.underlying26 hti hts w.heap.size ((i + 1) * 32) (n - i) dc ⟨g, i * 32, none⟩ (n - i) sc R1 24 (n - i) (by simp only [Nat.min_def]; split <;> omega) X2 l2 p2
      (fun j v hj => rowcells (w := (W1.setRow w.heap.size R1).drew) (cs := cur) (T := 24) ((setRow_other W1 w.heap.size g R1 (by omega)).trans ((hb1.block g hgl).trans hg)) (i * 32) X2 (by rw [hcur, ← l1, List.drop_left, List.take_left]) j v hj) (by rw [s1, l2]; omega) h1x
    rw [← hR2] at h
    exact h
  have hend : ((W1.setRow w.heap.size R1).drew.setRow w.heap.size R2).heap[w.heap.size]? = some (.cells R2 24 (0, 0)) := setRow_heap _ _ _ R2 _ _ p2
  have hbe : Below w.heap.size w ((W1.setRow w.heap.size R1).drew.setRow w.heap.size R2) := below_setRow' ((below_setRow' hb1 (Nat.le_refl _) R1).drew) (Nat.le_refl _) R2
  have s2 : R2.size = G * 32 := by rw [hfin]; simp only [List.size_toArray, List.length_append, List.length_drop, hyl, l1, l2, lZZ]; omega
  have tk : R2.toList.take ((n + 1) * 32) = X1 ++ (ys ++ X2) := by
    rw [hfin, List.toList_toArray, ← List.append_assoc ys, ← List.append_assoc X1, show (n + 1) * 32 = (X1 ++ (ys ++ X2)).length by simp only [List.length_append, hyl, l1, l2]; omega, List.take_left]
  have hend' := Lib.hid hend; have hbe' := Lib.hid hbe; have s2' := Lib.hid s2; have tk' := Lib.hid tk; have hGn' := Lib.hid hGn; have hGm' := Lib.hid hGm
  have z2 : ¬ ((i : Int) = (n : Int)) := by omega
  have w1 : IntKind.i64.wrap ((i : Int) + 1) = (i : Int) + 1 := IntWalk.i64_in _ (by omega)
  have w2 : IntKind.i64.wrap ((n : Int) + 1) = (n : Int) + 1 := IntWalk.i64_in _ (by omega)
  have w3 : IntKind.i64.wrap ((n : Int) + 1 - (i : Int)) = (n : Int) + 1 - (i : Int) := IntWalk.i64_in _ (by omega)
  have c1 : (cap : Int) < (n : Int) + 1 := by omega
  have c4 : (0 : Int) ≤ (i : Int) + 1 := by omega
  have c5 : (i : Int) + 1 ≤ (n : Int) + 1 := by omega
  have c6 : (i : Int) ≤ (n : Int) := by omega
  have c7 : (i : Int) ≤ (n : Int) + 1 := by omega
  have c8 : (i : Int) ≤ (cap : Int) := by omega
  have c9 : (i : Int) ≤ (G : Int) := by omega
  have c10 : (i : Int) + 1 ≤ (G : Int) := by omega
  have t1 : ((i : Int) + 1).toNat = i + 1 := by omega
  have n1 : ¬ (G = i + 1) := by omega
  have n2 : ¬ (cap = i) := by omega
  have n5 : ¬ (G = i) := by omega
  have n3 : i ≤ n := by omega
  have n4 : i ≤ n + 1 := by omega
  have mixed : Tryz.prog.follows .mixedOrders = true := by kernel_rfl
  clear hend hbe s2 tk hGn hGm hfin hR1 hR2 hcur l1 l2 lZZ hZZ hG hW1 hyl h1x h1y hg hv hold p1 p2 s1 hb1 hzc hc
  go_enter Tryz.func116, Tryz.ntmps116
  go_wp2_with (first
    | (at_builtin; refine Lib.wpList_append_run _ rfl _ _ 26 3 rfl _ _ rfl rfl _ _ (hrz _) ?_)
    | (at_builtin; refine wpList_copy_runI _ rfl _ _ 26 26 rfl _ _ rfl rfl (hcp1 _ _) ?_))
  go_region_law_o (refine step_copy_runI rfl _ _ 26 26 rfl _ _ (by simp [Act.eval, Act.put]) (by simp [Act.eval, Act.put]) (hcp2 _ _ _) ?_)
  go_wp2
  go_ret
  exact ⟨G, R2, rfl, hGn'.out, hGm'.out, hend'.out, s2'.out, tk'.out, hbe'.out⟩
/-- One element is put into a row of one's own. -/
theorem insI_any (B n i vb : Nat) (v : Value) (xs ys : List Value) (w : World) (hown : w.ownsRow B 24 32 v n xs) (hv : w.heap[vb]? = some (.cells ys.toArray 24 (0, 0))) (hyl : ys.length = 32) (h1x : ∀ u ∈ xs, u.oneCell' = true) (h1y : ∀ u ∈ ys, u.oneCell' = true)
    (hi : i ≤ n) (hn : n ≤ 100000) (hB : B ≤ w.heap.size) (hvb : v.ownBlock ≠ some vb) :
    Calls Tryz.prog 116 #[v, .int .i64 (i : Int), .slice (some ⟨vb, 0, none⟩) 1 1] w fun e w' => ∃ v', e = .returned v' ∧ w'.ownsRow B 24 32 v' (n + 1) (xs.take (i * 32) ++ (ys ++ xs.drop (i * 32))) ∧ w.grownBy w' v.ownBlock ∧ (v'.ownBlock = v.ownBlock ∨ v'.ownBlock = some w.heap.size) := by
  by_cases hin : i = n
  · subst hin
    have hl := hown.1
    have h := insI_end B i vb v xs ys w hown hv hyl h1y hn hB
    rw [← hl, List.take_length, List.drop_length, List.append_nil]
    exact h
  · rcases hown.2 with ⟨rfl, rfl⟩ | ⟨g, cap, cur, rfl, hbg, hg, hnc, hcm, hcs, ht⟩
    · omega
    · have hl := hown.1
      have hcl : cur.toList.length = cap * 32 := by simpa using hcs
      have l1 : (xs.take (i * 32)).length = i * 32 := by rw [List.length_take]; omega
      have l2 : (xs.drop (i * 32)).length = (n - i) * 32 := by rw [List.length_drop]; omega
      have hcur : cur.toList = xs.take (i * 32) ++ (xs.drop (i * 32) ++ cur.toList.drop (n * 32)) := by
        rw [← List.append_assoc, List.take_append_drop, ← ht, List.take_append_drop]
      have hne : vb ≠ g := fun e => hvb (by rw [e]; rfl)
      have hx2 : ∀ u ∈ xs.drop (i * 32), u.oneCell' = true := fun u hu => h1x u (List.mem_of_mem_drop hu)
      by_cases hr : n + 1 ≤ cap
      · refine (insI_shift g n cap i vb cur _ _ _ ys w hg hcur l1 l2 (by rw [List.length_drop, hcl]; omega) (by omega) hr hn hcm hv hyl hne hx2 h1y).mono ?_
        rintro e w' ⟨rfl, k, rfl⟩
        refine ⟨_, rfl, ⟨by simp only [List.length_append, l1, l2, hyl]; omega, .inr ⟨g, cap, _, rfl, hbg, setRow_heap _ _ _ _ _ _ (show (w.drewN k).heap[g]? = _ from hg), hr, hcm, ?_, ?_⟩⟩, ⟨rfl, rfl, rfl, ?_, fun j _ hj => ?_⟩, .inl rfl⟩
        · simp only [List.size_toArray, List.length_append, List.length_drop, l1, l2, hyl, hcl]; omega
        · rw [List.toList_toArray, ← List.append_assoc ys, ← List.append_assoc (xs.take (i * 32)), show (n + 1) * 32 = (xs.take (i * 32) ++ (ys ++ xs.drop (i * 32))).length by simp only [List.length_append, hyl, l1, l2]; omega, List.take_left]
        · rw [size_setRow]; exact Nat.le_refl _
        · exact setRow_other (w.drewN k) g j _ (fun e => hj (by rw [e]; rfl))
      · refine (insI_grow g n cap i vb cur _ _ _ ys w hg hcur l1 l2 (by omega) hnc (by omega) (by omega) hv hyl hx2 h1y).mono ?_
        rintro e w' ⟨G, R, rfl, q1, q2, q3, q4, q5, q6⟩
        exact ⟨_, rfl, ⟨by simp only [List.length_append, l1, l2, hyl]; omega, .inr ⟨_, G, R, rfl, hB, q3, q1, q2, q4, q5⟩⟩, ⟨q6.os, q6.tape, q6.output, q6.size, fun j hj _ => q6.block j hj⟩, .inr rfl⟩
theorem infoO_ins : (Tryz.prog.info? 35).map (fun i => (i.zero, i.size, i.bytes)) = some (some (.agg (zO.c (.slice none 0 0))), 11, 112) := by kernel_rfl
set_option maxHeartbeats 4000000 in
set_option maxRecDepth 100000 in
/-- There is room, and it is not the end: in place. -/
theorem insO_shift (g n cap i vb : Nat) (cur : Array Value) (X1 X2 Z ys : List Value) (w : World) (hg : w.heap[g]? = some (.cells cur 35 (0, 0))) (hcur : cur.toList = X1 ++ (X2 ++ Z)) (l1 : X1.length = i * 11) (l2 : X2.length = (n - i) * 11) (lz : 11 ≤ Z.length)
    (hi : i < n) (hroom : n + 1 ≤ cap) (hn : n ≤ 100000) (hc : cap ≤ maxLen) (hv : w.heap[vb]? = some (.cells ys.toArray 35 (0, 0))) (hyl : ys.length = 11) (hne : vb ≠ g) (h1x : ∀ u ∈ X2, u.oneCell' = true) (h1y : ∀ u ∈ ys, u.oneCell' = true) :
    Calls Tryz.prog 117 #[.slice (some ⟨g, 0, none⟩) n cap, .int .i64 (i : Int), .slice (some ⟨vb, 0, none⟩) 1 1] w fun e w' =>
      e = .returned (.slice (some ⟨g, 0, none⟩) (n + 1) cap) ∧ ∃ k, w' = (w.drewN k).setRow g (X1 ++ (ys ++ (X2 ++ Z.drop 11))).toArray := by
  obtain ⟨ti, hti, _, hts, _⟩ := info_parts infoO_ins
  have hsz : ∀ wz : World, (sizeOf 35).run Tryz.prog wz = .ok 11 wz := fun wz => by simp [sizeOf, typeInfo, hti, hts]
  have z2 : ¬ ((i : Int) = (n : Int)) := by omega
  have w1 : IntKind.i64.wrap ((i : Int) + 1) = (i : Int) + 1 := IntWalk.i64_in _ (by omega)
  have w2 : IntKind.i64.wrap ((n : Int) + 1) = (n : Int) + 1 := IntWalk.i64_in _ (by omega)
  have c1 : ¬ ((cap : Int) < (n : Int) + 1) := by omega
  have c2 : (n : Int) + 1 ≤ (cap : Int) := by omega
  have c3 : (0 : Int) ≤ (n : Int) + 1 := by omega
  have c4 : (0 : Int) ≤ (i : Int) + 1 := by omega
  have c5 : (i : Int) + 1 ≤ (n : Int) + 1 := by omega
  have c6 : (i : Int) ≤ (n : Int) := by omega
  have c7 : (i : Int) ≤ (n : Int) + 1 := by omega
  have t1 : ((i : Int) + 1).toNat = i + 1 := by omega
  have t2 : ((n : Int) + 1).toNat = n + 1 := by omega
  have n1 : ¬ (cap = i + 1) := by omega
  have n2 : ¬ (cap = i) := by omega
  have n3 : i ≤ n := by omega
  have n4 : i ≤ n + 1 := by omega
  have hov : ∀ (wz : World) lb cb, wz.heap = w.heap → (callFunc 160 #[.slice (some ⟨vb, 0, none⟩) 1 1, .slice (some ⟨g, (i + 1) * 11, none⟩) lb cb]).run Tryz.prog wz = .ok (.value (.bool false)) wz := fun wz lb cb hh => by
    rw [run_callFunc_extern (fn := Tryz.f160) (e := Extern.SlicesOverlaps.overlaps #[22, 22] #[4]) Tryz.func160 (by decide) rfl (by kernel_rfl) (by kernel_rfl)]
    have sv : wz.shape? vb = some (35, 11) := by simp [World.shape?, hh, hv, hyl]
    have sg : wz.shape? g = some (35, cur.size) := by simp [World.shape?, hh, hg]
    have f1 : wz.frozen? ⟨vb, 0, none⟩ = false := by simp [World.frozen?, hh, hv]
    have f2 : wz.frozen? ⟨vb, 11, none⟩ = false := by simp [World.frozen?, hh, hv]
    have hcs : cur.size ≠ 0 := by
      have e : cur.toList.length = cur.size := by simp
      rw [hcur] at e
      simp only [List.length_append] at e
      omega
    rw [Lib.run_overlaps_apart wz 22 4 35 Tryz.underlying22 11 hsz ⟨vb, 0, none⟩ ⟨g, (i + 1) * 11, none⟩ 1 1 lb cb hne 35 35 11 cur.size sv sg hcs f1 f2]
    rfl
  have hvl := (Array.getElem?_eq_some_iff.1 hv).1
  unfold maxLen at hc
  go_enter Tryz.func117, Tryz.ntmps117
  go_wp2_with (simp only [hov])
  obtain ⟨R1, hR1⟩ : ∃ R : Array Value, R = (cur.toList.take ((i + 1) * 11) ++ X2 ++ cur.toList.drop ((i + 1) * 11 + X2.length)).toArray := ⟨_, rfl⟩
  obtain ⟨R2, hR2⟩ : ∃ R : Array Value, R = (R1.toList.take (i * 11) ++ ys ++ R1.toList.drop (i * 11 + ys.length)).toArray := ⟨_, rfl⟩
  have hlen : cur.size = i * 11 + ((n - i) * 11 + Z.length) := by
    have e : cur.toList.length = cur.size := by simp
    rw [hcur] at e
    simp only [List.length_append] at e
    omega
  have hfin : R2 = (X1 ++ (ys ++ (X2 ++ Z.drop 11))).toArray := by
    have h := ins_list X1 X2 Z ys 11 (i * 11) ((n - i) * 11) l1 hyl l2 lz
    rw [hR2, hR1, hcur, hyl, l2, show (i + 1) * 11 = i * 11 + 11 by omega]
    rw [List.toList_toArray, h]
  have hcp1 : ∀ ty dc sc, (Builtin.copy_ #[22, 22] ty #[.slice (some ⟨g, (i + 1) * 11, none⟩) (n - i) dc, .slice (some ⟨g, i * 11, none⟩) (n + 1 - i) sc]).run Tryz.prog w.drew = .ok (goInt (n - i : Nat)) (w.drew.setRow g R1) := fun ty dc sc => by
    rw [hR1]
    exact run_copyN w.drew 22 22 ty 35 11 ti Tryz.underlying22 hti hts g ((i + 1) * 11) (n - i) dc ⟨g, i * 11, none⟩ (n + 1 - i) sc cur 35 (n - i) (by simp only [Nat.min_def]; split <;> omega) X2 l2 hg
      (fun j v hj => rowcells (w := w.drew) hg (i * 11) X2 (by rw [hcur, ← l1, List.drop_left, List.take_left]) j v hj) (by rw [l2]; omega) h1x
  have hcp2 : ∀ ty dc, (Builtin.copy_ #[22, 22] ty #[.slice (some ⟨g, i * 11, none⟩) (n + 1 - i) dc, .slice (some ⟨vb, 0, none⟩) 1 1]).run Tryz.prog (w.drew.setRow g R1) = .ok (goInt 1) (w.drew.setRow g R2) := fun ty dc => by
    have h := run_copyN (P := Tryz.prog) (w.drew.setRow g R1) 22 22 ty 35 11 ti Tryz.underlying22 hti hts g (i * 11) (n + 1 - i) dc ⟨vb, 0, none⟩ 1 1 R1 35 1 (by simp only [Nat.min_def]; split <;> omega) ys (by omega) (setRow_heap w.drew g _ R1 _ _ hg)
      (fun j v hj => rowcells (w := w.drew.setRow g R1) (cs := ys.toArray) (T := 35) ((setRow_other w.drew g vb R1 hne).trans hv) 0 ys (by simp) j v hj) (by rw [hR1]; simp only [List.size_toArray, List.length_append, List.length_take, List.length_drop, Array.length_toList]; omega) h1y
    rw [← hR2, setRow_setRow] at h
    exact h
  have hfin' := Lib.hid hfin
  clear hfin hR1 hR2 hcur hlen l1 l2 lz hyl h1x h1y hg hv
  have mixed : Tryz.prog.follows .mixedOrders = true := by kernel_rfl
  go_region_law_o (refine step_copy_runI rfl _ _ 22 22 rfl _ _ (by simp [Act.eval, Act.put]) (by simp [Act.eval, Act.put]) (hcp1 _ _ _) ?_)
  go_wp2_with (at_builtin; refine wpList_copy_runI _ rfl _ _ 22 22 rfl _ _ rfl rfl (hcp2 _ _) ?_)
  go_ret
  exact ⟨rfl, 1, by rw [hfin'.out]; rfl⟩
set_option maxHeartbeats 4000000 in
set_option maxRecDepth 100000 in
/-- At the end. -/
theorem insO_end (B n vb : Nat) (v : Value) (xs ys : List Value) (w : World) (hown : w.ownsRow B 35 11 v n xs) (hv : w.heap[vb]? = some (.cells ys.toArray 35 (0, 0))) (hyl : ys.length = 11) (h1y : ∀ u ∈ ys, u.oneCell' = true) (hn : n ≤ 100000) (hB : B ≤ w.heap.size) :
    Calls Tryz.prog 117 #[v, .int .i64 (n : Int), .slice (some ⟨vb, 0, none⟩) 1 1] w fun e w' => ∃ v', e = .returned v' ∧ w'.ownsRow B 35 11 v' (n + 1) (xs ++ ys) ∧ w.grownBy w' v.ownBlock ∧ (v'.ownBlock = v.ownBlock ∨ v'.ownBlock = some w.heap.size) := by
  obtain ⟨ti, hti, htz, hts, htb⟩ := info_parts infoO_ins
  have hsz : ∀ wz : World, (sizeOf 35).run Tryz.prog wz = .ok 11 wz := fun wz => by simp [sizeOf, typeInfo, hti, hts]
  have hap : ∀ ty, ∃ v' w', (Builtin.append_ #[22, 22] ty #[v, .slice (some ⟨vb, 0, none⟩) 1 1]).run Tryz.prog w = .ok v' w' ∧ w'.ownsRow B 35 11 v' (n + 1) (xs ++ ys) ∧ w.grownBy w' v.ownBlock ∧ (v'.ownBlock = v.ownBlock ∨ v'.ownBlock = some w.heap.size) := fun ty => by
    obtain ⟨v', w', h1, h2, h3, _⟩ := run_append_own (P := Tryz.prog) w B 22 ty 35 ti (.agg (zO.c (.slice none 0 0))) 11 112 Tryz.underlying22 hti htz hts htb (by kernel_rfl) (by decide) v n xs hown ⟨vb, 0, none⟩ 1 1 ys (by omega) (fun j u hj => rowcells (cs := ys.toArray) hv 0 ys (by simp) j u hj) h1y (by unfold maxLen; omega) (by omega) hB
    exact ⟨v', w', h1, h2, h3, app_blk (P := Tryz.prog) w B 22 ty 35 ti (.agg (zO.c (.slice none 0 0))) 11 112 Tryz.underlying22 hti htz hts htb v n xs hown ⟨vb, 0, none⟩ 1 ys hyl (fun j u hj => rowcells (cs := ys.toArray) hv 0 ys (by simp) j u hj) h1y (by omega) (by omega) v' w' h1⟩
  obtain ⟨v', w', hrun, ho, hg, hk⟩ := hap 22
  have hr' := hrun
  have ho' := Lib.hid ho; have hg' := Lib.hid hg; have hk' := Lib.hid hk
  rcases hown.2 with ⟨rfl, rfl⟩ | ⟨g, cap, cur, rfl, hbg, hg0, hn2, hcm, hs2, ht⟩
  · clear hap hrun ho hg hk hv hown
    go_enter Tryz.func117, Tryz.ntmps117
    go_wp2_with (at_builtin; refine Lib.wpList_append_run _ rfl _ _ 22 22 rfl _ _ rfl rfl _ _ hr' ?_)
    go_ret
    exact ⟨_, rfl, ho'.out, hg'.out, hk'.out⟩
  · have c1 : (n : Int) ≤ (n : Int) := Int.le_refl _
    clear hap hrun ho hg hk hv hown hg0 ht hs2 hbg
    unfold maxLen at hcm
    go_enter Tryz.func117, Tryz.ntmps117
    go_wp2_with (at_builtin; refine Lib.wpList_append_run _ rfl _ _ 22 22 rfl _ _ rfl rfl _ _ hr' ?_)
    all_goals (go_ret; exact ⟨_, rfl, ho'.out, hg'.out, hk'.out⟩)
set_option maxHeartbeats 4000000 in
set_option maxRecDepth 100000 in
/-- There is no room, and it is not the end: a new row. -/
theorem insO_grow (g n cap i vb : Nat) (cur : Array Value) (X1 X2 Z ys : List Value) (w : World) (hg : w.heap[g]? = some (.cells cur 35 (0, 0))) (hcur : cur.toList = X1 ++ (X2 ++ Z)) (l1 : X1.length = i * 11) (l2 : X2.length = (n - i) * 11)
    (hi : i < n) (hcn : n ≤ cap) (hroom : cap < n + 1) (hc : cap ≤ 100000) (hv : w.heap[vb]? = some (.cells ys.toArray 35 (0, 0))) (hyl : ys.length = 11) (h1x : ∀ u ∈ X2, u.oneCell' = true) (h1y : ∀ u ∈ ys, u.oneCell' = true) :
    Calls Tryz.prog 117 #[.slice (some ⟨g, 0, none⟩) n cap, .int .i64 (i : Int), .slice (some ⟨vb, 0, none⟩) 1 1] w fun e w' =>
      ∃ G R, e = .returned (.slice (some ⟨w.heap.size, 0, none⟩) (n + 1) G) ∧ n + 1 ≤ G ∧ G ≤ maxLen ∧ w'.heap[w.heap.size]? = some (.cells R 35 (0, 0)) ∧ R.size = G * 11 ∧ R.toList.take ((n + 1) * 11) = X1 ++ (ys ++ X2) ∧ Below w.heap.size w w' := by
  obtain ⟨ti, hti, htz, hts, htb⟩ := info_parts infoO_ins
  have hsz : ∀ wz : World, (sizeOf 35).run Tryz.prog wz = .ok 11 wz := fun wz => by simp [sizeOf, typeInfo, hti, hts]
  have hzc : (Value.cells (.agg (zO.c (.slice none 0 0)))).size = 11 := by kernel_rfl
  have hgl := (Array.getElem?_eq_some_iff.1 hg).1
  have hvl := (Array.getElem?_eq_some_iff.1 hv).1
  have hold : (Builtin.firstCells ti.size i (.slice (some ⟨g, 0, none⟩) i cap)).run Tryz.prog w.drew = .ok X1.toArray w.drew := by
    rw [hts]
    exact run_firstCells_some w.drew 11 i ⟨g, 0, none⟩ i cap X1 l1 (fun j v hj => rowcells (w := w.drew) hg 0 X1 (by rw [hcur, List.drop_zero, List.take_left]) j v hj)
  obtain ⟨G, hG⟩ : ∃ G, G = grownCap w (n + 1) cap 35 := ⟨_, rfl⟩
  obtain ⟨ZZ, hZZ⟩ : ∃ Y : List Value, Y = (Builtin.zeroCells (Value.cells (.agg (zO.c (.slice none 0 0)))) (n + 1 - i) ++ Builtin.zeroCells (Value.cells (.agg (zO.c (.slice none 0 0)))) (G - (n + 1))).toList := ⟨_, rfl⟩
  have hGn : n + 1 ≤ G := by rw [hG]; exact grownCap_ge w _ _ _
  have hGm : G ≤ maxLen := by rw [hG]; exact grownCap_le_maxLen w (n + 1) cap 35 (by unfold maxLen; omega)
  have lZZ : ZZ.length = (G - i) * 11 := by
    rw [hZZ]
    simp only [Array.length_toList, Array.size_append, size_zeroCells, hzc]
    rw [← Nat.add_mul]
    congr 1
    omega
  have hrz : ∀ ty, (Builtin.append_ #[22, 3] ty #[.slice (some ⟨g, 0, none⟩) i cap, .int .i64 ((n : Int) + 1 - (i : Int))]).run Tryz.prog w = .ok (.slice (some ⟨w.heap.size, 0, none⟩) (n + 1) G) (w.drew.alloc (.cells (X1 ++ ZZ).toArray 35)) := fun ty => by
    have h := Lib.run_append_grow_zeros (P := Tryz.prog) w 22 3 ty 35 ti _ .i64 .i64 Tryz.underlying22 Tryz.underlying3 hti htz (some ⟨g, 0, none⟩) i cap X1 hold (n + 1 - i) (by omega) (by omega) (by omega) (by omega) (by rw [htb]; omega) (by rw [htb, show i + (n + 1 - i) = n + 1 by omega]; exact growslice_fits hroom (by omega))
    rw [show i + (n + 1 - i) = n + 1 by omega, ← hG, Array.append_assoc] at h
    rw [show (n : Int) + 1 - (i : Int) = ((n + 1 - i : Nat) : Int) by omega, h, hZZ]
    congr 3
    simp
  obtain ⟨W1, hW1⟩ : ∃ W1, W1 = w.drew.alloc (.cells (X1 ++ ZZ).toArray 35) := ⟨_, rfl⟩
  rw [← hW1] at hrz
  have p1 : W1.heap[w.heap.size]? = some (.cells (X1 ++ ZZ).toArray 35 (0, 0)) := by rw [hW1]; exact heap_alloc_new w.drew _
  have hb1 : Below w.heap.size w W1 := by rw [hW1]; exact (Below.refl w.heap.size w).drew.alloc (Nat.le_refl _) _
  obtain ⟨R1, hR1⟩ : ∃ R : Array Value, R = ((X1 ++ ZZ).take (i * 11) ++ ys ++ (X1 ++ ZZ).drop (i * 11 + 11)).toArray := ⟨_, rfl⟩
  obtain ⟨R2, hR2⟩ : ∃ R : Array Value, R = (R1.toList.take ((i + 1) * 11) ++ X2 ++ R1.toList.drop ((i + 1) * 11 + X2.length)).toArray := ⟨_, rfl⟩
  have hfin : R2 = (X1 ++ (ys ++ (X2 ++ ZZ.drop (11 + (n - i) * 11)))).toArray := by
    have h := grow_list X1 ZZ X2 ys 11 (i * 11) ((n - i) * 11) l1 hyl l2 (by rw [lZZ]; omega)
    rw [hR2, hR1, l2, show (i + 1) * 11 = i * 11 + 11 by omega, List.toList_toArray, h]
  have s1 : R1.size = G * 11 := by rw [hR1]; simp only [List.size_toArray, List.length_append, List.length_take, List.length_drop, hyl, l1, lZZ]; omega
  have p2 : (W1.setRow w.heap.size R1).drew.heap[w.heap.size]? = some (.cells R1 35 (0, 0)) := setRow_heap W1 _ _ R1 _ _ p1
  have hcp1 : ∀ ty dc, (Builtin.copy_ #[22, 22] ty #[.slice (some ⟨w.heap.size, i * 11, none⟩) (n + 1 - i) dc, .slice (some ⟨vb, 0, none⟩) 1 1]).run Tryz.prog W1 = .ok (goInt 1) (W1.setRow w.heap.size R1) := fun ty dc => by
    have h := run_copyN (P := Tryz.prog) W1 22 22 ty 35 11 ti Tryz.underlying22 hti hts w.heap.size (i * 11) (n + 1 - i) dc ⟨vb, 0, none⟩ 1 1 (X1 ++ ZZ).toArray 35 1 (by simp only [Nat.min_def]; split <;> omega) ys (by omega) p1
      (fun j v hj => rowcells (cs := ys.toArray) ((hb1.block vb hvl).trans hv) 0 ys (by simp) j v hj) (by simp only [List.size_toArray, List.length_append, l1, lZZ, hyl]; omega) h1y
    rw [List.toList_toArray, hyl, ← hR1] at h
    exact h
  have hcp2 : ∀ ty dc sc, (Builtin.copy_ #[22, 22] ty #[.slice (some ⟨w.heap.size, (i + 1) * 11, none⟩) (n - i) dc, .slice (some ⟨g, i * 11, none⟩) (n - i) sc]).run Tryz.prog (W1.setRow w.heap.size R1).drew = .ok (goInt (n - i : Nat)) ((W1.setRow w.heap.size R1).drew.setRow w.heap.size R2) := fun ty dc sc => by
    have h := run_copyN (P := Tryz.prog) (W1.setRow w.heap.size R1).drew 22 22 ty 35 11 ti Tryz.underlying22 hti hts w.heap.size ((i + 1) * 11) (n - i) dc ⟨g, i * 11, none⟩ (n - i) sc R1 35 (n - i) (by simp only [Nat.min_def]; split <;> omega) X2 l2 p2
      (fun j v hj => rowcells (w := (W1.setRow w.heap.size R1).drew) (cs := cur) (T := 35) ((setRow_other W1 w.heap.size g R1 (by omega)).trans ((hb1.block g hgl).trans hg)) (i * 11) X2 (by rw [hcur, ← l1, List.drop_left, List.take_left]) j v hj) (by rw [s1, l2]; omega) h1x
    rw [← hR2] at h
    exact h
  have hend : ((W1.setRow w.heap.size R1).drew.setRow w.heap.size R2).heap[w.heap.size]? = some (.cells R2 35 (0, 0)) := setRow_heap _ _ _ R2 _ _ p2
  have hbe : Below w.heap.size w ((W1.setRow w.heap.size R1).drew.setRow w.heap.size R2) := below_setRow' ((below_setRow' hb1 (Nat.le_refl _) R1).drew) (Nat.le_refl _) R2
  have s2 : R2.size = G * 11 := by rw [hfin]; simp only [List.size_toArray, List.length_append, List.length_drop, hyl, l1, l2, lZZ]; omega
  have tk : R2.toList.take ((n + 1) * 11) = X1 ++ (ys ++ X2) := by
    rw [hfin, List.toList_toArray, ← List.append_assoc ys, ← List.append_assoc X1, show (n + 1) * 11 = (X1 ++ (ys ++ X2)).length by simp only [List.length_append, hyl, l1, l2]; omega, List.take_left]
  have hend' := Lib.hid hend; have hbe' := Lib.hid hbe; have s2' := Lib.hid s2; have tk' := Lib.hid tk; have hGn' := Lib.hid hGn; have hGm' := Lib.hid hGm
  have z2 : ¬ ((i : Int) = (n : Int)) := by omega
  have w1 : IntKind.i64.wrap ((i : Int) + 1) = (i : Int) + 1 := IntWalk.i64_in _ (by omega)
  have w2 : IntKind.i64.wrap ((n : Int) + 1) = (n : Int) + 1 := IntWalk.i64_in _ (by omega)
  have w3 : IntKind.i64.wrap ((n : Int) + 1 - (i : Int)) = (n : Int) + 1 - (i : Int) := IntWalk.i64_in _ (by omega)
  have c1 : (cap : Int) < (n : Int) + 1 := by omega
  have c4 : (0 : Int) ≤ (i : Int) + 1 := by omega
  have c5 : (i : Int) + 1 ≤ (n : Int) + 1 := by omega
  have c6 : (i : Int) ≤ (n : Int) := by omega
  have c7 : (i : Int) ≤ (n : Int) + 1 := by omega
  have c8 : (i : Int) ≤ (cap : Int) := by omega
  have c9 : (i : Int) ≤ (G : Int) := by omega
  have c10 : (i : Int) + 1 ≤ (G : Int) := by omega
  have t1 : ((i : Int) + 1).toNat = i + 1 := by omega
  have n1 : ¬ (G = i + 1) := by omega
  have n2 : ¬ (cap = i) := by omega
  have n5 : ¬ (G = i) := by omega
  have n3 : i ≤ n := by omega
  have n4 : i ≤ n + 1 := by omega
  have mixed : Tryz.prog.follows .mixedOrders = true := by kernel_rfl
  clear hend hbe s2 tk hGn hGm hfin hR1 hR2 hcur l1 l2 lZZ hZZ hG hW1 hyl h1x h1y hg hv hold p1 p2 s1 hb1 hzc hc
  go_enter Tryz.func117, Tryz.ntmps117
  go_wp2_with (first
    | (at_builtin; refine Lib.wpList_append_run _ rfl _ _ 22 3 rfl _ _ rfl rfl _ _ (hrz _) ?_)
    | (at_builtin; refine wpList_copy_runI _ rfl _ _ 22 22 rfl _ _ rfl rfl (hcp1 _ _) ?_))
  go_region_law_o (refine step_copy_runI rfl _ _ 22 22 rfl _ _ (by simp [Act.eval, Act.put]) (by simp [Act.eval, Act.put]) (hcp2 _ _ _) ?_)
  go_wp2
  go_ret
  exact ⟨G, R2, rfl, hGn'.out, hGm'.out, hend'.out, s2'.out, tk'.out, hbe'.out⟩
/-- One element is put into a row of one's own. -/
theorem insO_any (B n i vb : Nat) (v : Value) (xs ys : List Value) (w : World) (hown : w.ownsRow B 35 11 v n xs) (hv : w.heap[vb]? = some (.cells ys.toArray 35 (0, 0))) (hyl : ys.length = 11) (h1x : ∀ u ∈ xs, u.oneCell' = true) (h1y : ∀ u ∈ ys, u.oneCell' = true)
    (hi : i ≤ n) (hn : n ≤ 100000) (hB : B ≤ w.heap.size) (hvb : v.ownBlock ≠ some vb) :
    Calls Tryz.prog 117 #[v, .int .i64 (i : Int), .slice (some ⟨vb, 0, none⟩) 1 1] w fun e w' => ∃ v', e = .returned v' ∧ w'.ownsRow B 35 11 v' (n + 1) (xs.take (i * 11) ++ (ys ++ xs.drop (i * 11))) ∧ w.grownBy w' v.ownBlock ∧ (v'.ownBlock = v.ownBlock ∨ v'.ownBlock = some w.heap.size) := by
  by_cases hin : i = n
  · subst hin
    have hl := hown.1
    have h := insO_end B i vb v xs ys w hown hv hyl h1y hn hB
    rw [← hl, List.take_length, List.drop_length, List.append_nil]
    exact h
  · rcases hown.2 with ⟨rfl, rfl⟩ | ⟨g, cap, cur, rfl, hbg, hg, hnc, hcm, hcs, ht⟩
    · omega
    · have hl := hown.1
      have hcl : cur.toList.length = cap * 11 := by simpa using hcs
      have l1 : (xs.take (i * 11)).length = i * 11 := by rw [List.length_take]; omega
      have l2 : (xs.drop (i * 11)).length = (n - i) * 11 := by rw [List.length_drop]; omega
      have hcur : cur.toList = xs.take (i * 11) ++ (xs.drop (i * 11) ++ cur.toList.drop (n * 11)) := by
        rw [← List.append_assoc, List.take_append_drop, ← ht, List.take_append_drop]
      have hne : vb ≠ g := fun e => hvb (by rw [e]; rfl)
      have hx2 : ∀ u ∈ xs.drop (i * 11), u.oneCell' = true := fun u hu => h1x u (List.mem_of_mem_drop hu)
      by_cases hr : n + 1 ≤ cap
      · refine (insO_shift g n cap i vb cur _ _ _ ys w hg hcur l1 l2 (by rw [List.length_drop, hcl]; omega) (by omega) hr hn hcm hv hyl hne hx2 h1y).mono ?_
        rintro e w' ⟨rfl, k, rfl⟩
        refine ⟨_, rfl, ⟨by simp only [List.length_append, l1, l2, hyl]; omega, .inr ⟨g, cap, _, rfl, hbg, setRow_heap _ _ _ _ _ _ (show (w.drewN k).heap[g]? = _ from hg), hr, hcm, ?_, ?_⟩⟩, ⟨rfl, rfl, rfl, ?_, fun j _ hj => ?_⟩, .inl rfl⟩
        · simp only [List.size_toArray, List.length_append, List.length_drop, l1, l2, hyl, hcl]; omega
        · rw [List.toList_toArray, ← List.append_assoc ys, ← List.append_assoc (xs.take (i * 11)), show (n + 1) * 11 = (xs.take (i * 11) ++ (ys ++ xs.drop (i * 11))).length by simp only [List.length_append, hyl, l1, l2]; omega, List.take_left]
        · rw [size_setRow]; exact Nat.le_refl _
        · exact setRow_other (w.drewN k) g j _ (fun e => hj (by rw [e]; rfl))
      · refine (insO_grow g n cap i vb cur _ _ _ ys w hg hcur l1 l2 (by omega) hnc (by omega) (by omega) hv hyl hx2 h1y).mono ?_
        rintro e w' ⟨G, R, rfl, q1, q2, q3, q4, q5, q6⟩
        exact ⟨_, rfl, ⟨by simp only [List.length_append, l1, l2, hyl]; omega, .inr ⟨_, G, R, rfl, hB, q3, q1, q2, q4, q5⟩⟩, ⟨q6.os, q6.tape, q6.output, q6.size, fun j hj _ => q6.block j hj⟩, .inr rfl⟩
end Go.Proofs.YtlbgffhipondiaaGreatDoor.wir.val
namespace Go
namespace YtlbgffhipondiaaGreatDoor
set_option linter.unusedVariables false
section
variable {P : Program} {ops : Array Oper} {md : Region.Mode} {Q : Exit → Act → World → Prop}
/-- What an operation that ends well leaves: a value and a world, of which R is true. -/
def fxUpon (P : Program) (R : Value → World → Prop) : Result Next → Prop
  | .ok (.value v) w' => R v w'
  | .ok .skip w' => R undef w'
  | .ok (.enter f args) w' => Calls P f args w' fun e w'' => ∃ v, e = .returned v ∧ R v w''
  | _ => False
def FxStep (P : Program) (ops : Array Oper) (o : Oper) (a : Act) (w : World) (R : Value → World → Prop) : Prop :=
  if Region.wanted o (yielded ops a.tmps) = true then fxUpon P R ((execOp a.eval o).run P w) else R undef w
theorem fx_wpOp {i : Nat} {o : Oper} {a : Act} {w : World} {R : Value → World → Prop} {K : Act → World → Prop} (hi : ops[i]? = some o) (h : FxStep P ops o a w R) (hK : ∀ v w', R v w' → K (a.put o.dst v) w') : wpOp P ops Q i K a w := by
  unfold wpOp
  simp only [hi]
  unfold FxStep at h
  split
  · rename_i hw
    rw [if_pos hw] at h
    refine .inl ?_
    unfold Oper.wp
    generalize (execOp a.eval o).run P w = r at h
    cases r with
    | halt x w' => cases x <;> exact h.elim
    | ok nx w' =>
      cases nx with
      | value v => exact hK v w' h
      | skip => exact hK undef w' h
      | defer d => exact h.elim
      | row r a => exact h.elim
      | enter f args =>
        refine Calls.mono h fun e w'' he => ?_
        obtain ⟨v, rfl, hR⟩ := he
        exact hK v w'' hR
      | _ => exact h.elim
  · rename_i hw
    rw [if_neg hw] at h
    exact hK undef w h
/-- The frame: those of the first k operations that L names have put their values. -/
def fxF (ops : Array Oper) (vs : Nat → Value) (L : Nat → Bool) (a0 : Act) : Nat → Act
  | 0 => a0
  | k + 1 => if L k = true then (fxF ops vs L a0 k).put ((ops[k]?).bind (·.dst)) (vs k) else fxF ops vs L a0 k
abbrev fxT : Nat → Bool := fun _ => true
theorem put_tmps_ne (a : Act) (x : Option Tmp) (v : Value) (t : Tmp) (h : x ≠ some t) : (a.put x v).tmps[t]? = a.tmps[t]? := by
  cases x with
  | none => rfl
  | some d =>
    have hne : d ≠ t := fun e => h (by rw [e])
    simp [Act.put, Array.getElem?_setIfInBounds_ne hne]
theorem put_tmps_congr (a b : Act) (x : Option Tmp) (v : Value) (t : Tmp) (h : a.tmps[t]? = b.tmps[t]?) : (a.put x v).tmps[t]? = (b.put x v).tmps[t]? := by
  cases x with
  | none => exact h
  | some d =>
    by_cases e : d = t
    · subst e
      simp only [Act.put, Array.getElem?_setIfInBounds, if_true]
      have h1 : d < a.tmps.size ↔ d < b.tmps.size := by
        constructor
        · intro hl
          rw [Array.getElem?_eq_getElem hl] at h
          exact (Array.getElem?_eq_some_iff.1 h.symm).1
        · intro hl
          rw [Array.getElem?_eq_getElem hl] at h
          exact (Array.getElem?_eq_some_iff.1 h).1
      by_cases hl : d < a.tmps.size
      · rw [if_pos hl, if_pos (h1.1 hl)]
      · rw [if_neg hl, if_neg (fun h2 => hl (h1.2 h2))]
    · simp only [Act.put, Array.getElem?_setIfInBounds_ne e]; exact h
theorem eval_tmps (a b : Act) (x : Operand) (h : ∀ t, x = .tmp t → a.tmps[t]? = b.tmps[t]?) : a.eval x = b.eval x := by
  cases x with
  | tmp t => simp only [Act.eval, Array.getD_eq_getD_getElem?, h t rfl]
  | _ => rfl
/-- A slot that the operation i looks at: it has what the lexical order gives. -/
theorem fxF_look (vs : Nat → Value) (L : Nat → Bool) (a0 : Act) (n i : Nat) (hi : i ≤ n) (t : Tmp) (hl : ∀ j, j < n → (ops[j]?).bind (·.dst) = some t → (j < i → L j = true) ∧ (i ≤ j → L j = false)) :
    (fxF ops vs L a0 n).tmps[t]? = (fxF ops vs fxT a0 i).tmps[t]? := by
  have h1 : ∀ k, k ≤ i → (fxF ops vs L a0 k).tmps[t]? = (fxF ops vs fxT a0 k).tmps[t]? := by
    intro k
    induction k with
    | zero => intro _; rfl
    | succ k ih =>
      intro hk
      have ih := ih (by omega)
      simp only [fxF, fxT, if_true]
      by_cases hd : (ops[k]?).bind (·.dst) = some t
      · rw [if_pos ((hl k (by omega) hd).1 (by omega))]
        exact put_tmps_congr _ _ _ _ _ ih
      · rw [put_tmps_ne _ _ _ _ hd]
        split
        · rw [put_tmps_ne _ _ _ _ hd]; exact ih
        · exact ih
  have h2 : ∀ d, i + d ≤ n → (fxF ops vs L a0 (i + d)).tmps[t]? = (fxF ops vs L a0 i).tmps[t]? := by
    intro d
    induction d with
    | zero => intro _; rfl
    | succ d ih =>
      intro hk
      rw [← ih (by omega)]
      show (fxF ops vs L a0 (i + d + 1)).tmps[t]? = _
      simp only [fxF]
      split
      · rename_i hL
        refine put_tmps_ne _ _ _ _ fun hd => ?_
        rw [(hl (i + d) (by omega) hd).2 (by omega)] at hL; cases hL
      · rfl
  have := h2 (n - i) (by omega)
  rw [show i + (n - i) = n by omega] at this
  rw [this, h1 i (Nat.le_refl _)]
theorem fxF_agree (vs vs' : Nat → Value) (L L' : Nat → Bool) (a0 : Act) (k : Nat) (h : ∀ j, j < k → L j = L' j ∧ (L j = true → vs j = vs' j)) : fxF ops vs L a0 k = fxF ops vs' L' a0 k := by
  induction k with
  | zero => rfl
  | succ k ih =>
    have h1 := h k (Nat.lt_succ_self _)
    simp only [fxF]
    rw [ih fun j hj => h j (by omega), ← h1.1]
    split
    · rename_i hL; rw [h1.2 hL]
    · rfl
theorem fxF_put (vs : Nat → Value) (L : Nat → Bool) (a0 : Act) (n i : Nat) (v : Value) (hin : i < n) (hL : L i = false) (hd : ∀ k, i < k → k < n → L k = true → ∀ d, (ops[i]?).bind (·.dst) = some d → (ops[k]?).bind (·.dst) ≠ some d) :
    (fxF ops vs L a0 n).put ((ops[i]?).bind (·.dst)) v = fxF ops (fun j => if j = i then v else vs j) (fun j => if j = i then true else L j) a0 n := by
  have key : ∀ d, i + 1 + d ≤ n → (fxF ops vs L a0 (i + 1 + d)).put ((ops[i]?).bind (·.dst)) v = fxF ops (fun j => if j = i then v else vs j) (fun j => if j = i then true else L j) a0 (i + 1 + d) := by
    intro d
    induction d with
    | zero =>
      intro _
      simp only [fxF, Nat.add_zero, if_true, hL]
      rw [if_neg (by decide)]
      congr 1
      exact fxF_agree _ _ _ _ _ _ fun j hj => by
        have hne : j ≠ i := by omega
        simp [hne]
    | succ d ih =>
      intro hk
      have ih := ih (by omega)
      have hne : i + 1 + d ≠ i := by omega
      show (fxF ops vs L a0 (i + 1 + d + 1)).put _ v = fxF ops _ _ a0 (i + 1 + d + 1)
      simp only [fxF, if_neg hne]
      by_cases hLk : L (i + 1 + d) = true
      · rw [if_pos hLk, if_pos hLk, ← ih]
        exact (Act.put_comm _ _ _ fun d' hd' hd2 => hd (i + 1 + d) (by omega) (by omega) hLk d' hd2 hd').trans rfl
      · rw [if_neg hLk, if_neg hLk]; exact ih
  have := key (n - (i + 1)) (by omega)
  rwa [show i + 1 + (n - (i + 1)) = n by omega] at this
/-- The waiting of the operations, and the frames, as' they are to be; A names for each operation all that must come before it. -/
def fxB (ops : Array Oper) (n : Nat) (A : List (List Nat)) : Bool :=
  Region.noSelect ops && decide (n ≤ ops.size) &&
  ((List.range ops.size).all fun i => match ops[i]? with
    | none => true
    | some o => (o.after.all fun e => !Region.binds .any e || decide (e.on < i)) && ((A.getD i []).all fun j => decide (j < i) && o.after.any fun e => Region.binds .any e && (e.on == j || (A.getD e.on []).contains j))) &&
  ((List.range ops.size).all fun i => decide (i < n) || (List.range n).all fun j => (A.getD i []).contains j) &&
  ((List.range n).all fun i => match ops[i]? with
    | none => true
    | some o => (List.range n).all fun j => match (ops[j]?).bind (·.dst) with
      | none => true
      | some d => (!(o.looksAt ops).contains d || (decide (j < i) && (A.getD i []).contains j) || (decide (i < j) && (A.getD j []).contains i) || decide (j = i)) &&
        (!(o.dst == some d) || decide (j ≤ i) || (A.getD j []).contains i)) &&
  Region.seqB .any ops (ops.size - n) n ((Array.replicate n true) ++ (Array.replicate (ops.size - n) false))
structure FxOk (ops : Array Oper) (n : Nat) (A : List (List Nat)) : Prop where
  sel : Region.noSelect ops = true
  le : n ≤ ops.size
  aft : ∀ i o, ops[i]? = some o → ∀ e ∈ o.after, Region.binds .any e = true → e.on < i
  anc : ∀ i o, ops[i]? = some o → ∀ j ∈ A.getD i [], j < i ∧ ∃ e ∈ o.after, Region.binds .any e = true ∧ (e.on = j ∨ j ∈ A.getD e.on [])
  tail : ∀ i, n ≤ i → i < ops.size → ∀ j, j < n → j ∈ A.getD i []
  look : ∀ i o j d, i < n → j < n → ops[i]? = some o → (ops[j]?).bind (·.dst) = some d → d ∈ o.looksAt ops → (j < i ∧ j ∈ A.getD i []) ∨ (i < j ∧ i ∈ A.getD j []) ∨ j = i
  dst : ∀ i o j d, i < n → j < n → ops[i]? = some o → (ops[j]?).bind (·.dst) = some d → o.dst = some d → i < j → i ∈ A.getD j []
  seq : Region.seqB .any ops (ops.size - n) n ((Array.replicate n true) ++ (Array.replicate (ops.size - n) false)) = true
theorem fxB_ok {n : Nat} {A : List (List Nat)} (h : fxB ops n A = true) : FxOk ops n A := by
  unfold fxB at h
  simp only [Bool.and_eq_true, decide_eq_true_eq] at h
  obtain ⟨⟨⟨⟨⟨h1, h2⟩, h3⟩, h4⟩, h5⟩, h6⟩ := h
  refine ⟨h1, h2, fun i o ho e he hb => ?_, fun i o ho j hj => ?_, fun i hi hs j hj => ?_, fun i o j d hi hj ho hd hl => ?_, fun i o j d hi hj ho hd hl hij => ?_, h6⟩
  · have hi := (Array.getElem?_eq_some_iff.1 ho).1
    have k := List.all_eq_true.1 h3 i (List.mem_range.2 hi)
    simp only [ho, Bool.and_eq_true] at k
    have k1 := Array.all_eq_true'.1 k.1 e he
    simpa [hb] using k1
  · have hi := (Array.getElem?_eq_some_iff.1 ho).1
    have k := List.all_eq_true.1 h3 i (List.mem_range.2 hi)
    simp only [ho, Bool.and_eq_true] at k
    have k1 := List.all_eq_true.1 k.2 j hj
    simp only [Bool.and_eq_true, decide_eq_true_eq] at k1
    refine ⟨k1.1, ?_⟩
    obtain ⟨e, he, hb⟩ := Array.any_eq_true'.1 k1.2
    simp only [Bool.and_eq_true, Bool.or_eq_true, beq_iff_eq, List.contains_iff_mem] at hb
    exact ⟨e, he, hb.1, hb.2⟩
  · have k := List.all_eq_true.1 h4 i (List.mem_range.2 hs)
    rw [Bool.or_eq_true, decide_eq_true_eq] at k
    rcases k with k | k
    · omega
    · have := List.all_eq_true.1 k j (List.mem_range.2 hj)
      simpa using this
  · have k := List.all_eq_true.1 h5 i (List.mem_range.2 hi)
    simp only [ho] at k
    have k1 := List.all_eq_true.1 k j (List.mem_range.2 hj)
    simp only [hd, Bool.and_eq_true] at k1
    have k2 := k1.1
    simp only [Bool.or_eq_true, Bool.and_eq_true, decide_eq_true_eq, List.contains_iff_mem, Bool.not_eq_true'] at k2
    rcases k2 with ((k2 | k2) | k2) | k2
    · have : (o.looksAt ops).contains d = true := by simpa using hl
      rw [this] at k2; cases k2
    · exact .inl k2
    · exact .inr (.inl k2)
    · exact .inr (.inr k2)
  · have k := List.all_eq_true.1 h5 i (List.mem_range.2 hi)
    simp only [ho] at k
    have k1 := List.all_eq_true.1 k j (List.mem_range.2 hj)
    simp only [hd, Bool.and_eq_true] at k1
    have k2 := k1.2
    simp only [Bool.or_eq_true, decide_eq_true_eq, List.contains_iff_mem, Bool.not_eq_true'] at k2
    rcases k2 with (k2 | k2) | k2
    · rw [hl] at k2; simp at k2
    · omega
    · exact k2
theorem looks_tmp {o : Oper} {t : Tmp} (h : .tmp t ∈ o.op.operands) : t ∈ o.looksAt ops := by
  unfold Oper.looksAt
  rw [List.mem_append]
  refine .inl ?_
  rw [List.mem_filterMap]
  exact ⟨.tmp t, by simpa using h, rfl⟩
theorem looks_guard {o : Oper} {g : Nat} {b : Bool} (h : o.guard = some (g, b)) {t : Tmp} (ht : (ops[g]?).bind (·.dst) = some t) : t ∈ o.looksAt ops := by
  unfold Oper.looksAt
  rw [List.mem_append]
  refine .inr ?_
  simp [h, ht]
theorem fx_same {o : Oper} (hs : ∀ cs b, o.op ≠ .select cs b) (a b : Act) (h : ∀ t, t ∈ o.looksAt ops → a.tmps[t]? = b.tmps[t]?) (w : World) (R : Value → World → Prop) : FxStep P ops o a w R = FxStep P ops o b w R := by
  have h1 : execOp a.eval o = execOp b.eval o := execOp_congr o hs fun x hx => eval_tmps a b x fun t ht => h t (looks_tmp (by rw [← ht]; exact hx))
  have h2 : Region.wanted o (yielded ops a.tmps) = Region.wanted o (yielded ops b.tmps) := by
    unfold Region.wanted
    cases hg : o.guard with
    | none => rfl
    | some gw =>
      obtain ⟨g, wnt⟩ := gw
      simp only
      have h3 : yielded ops a.tmps g = yielded ops b.tmps g := by
        unfold yielded
        cases hd : (ops[g]?).bind (·.dst) with
        | none => rfl
        | some t => simp only [Option.bind_some, h t (looks_guard hg hd)]
      rw [h3]
  unfold FxStep
  rw [h1, h2]
theorem anc_listed {n : Nat} {A : List (List Nat)} (hB : FxOk ops n A) {listed : Array Bool} (cl : Closed .any ops listed) :
    ∀ i o, ops[i]? = some o → (∀ e ∈ o.after, Region.binds .any e = true → listed.getD e.on false = true) → ∀ j ∈ A.getD i [], listed.getD j false = true := by
  intro i
  induction i using Nat.strongRecOn with
  | _ i ih =>
    intro o ho hall j hj
    obtain ⟨_, e, he, hb, h | h⟩ := hB.anc i o ho j hj
    · rw [← h]; exact hall e he hb
    · have hon := hB.aft i o ho e he hb
      have hlt : e.on < ops.size := Nat.lt_trans hon (Array.getElem?_eq_some_iff.1 ho).1
      exact ih e.on hon _ (Array.getElem?_eq_getElem hlt) (fun e2 he2 hb2 => cl.2 _ _ (Array.getElem?_eq_getElem hlt) (hall e he hb) e2 he2 hb2) j h
/-- How many of the first n are not listed. -/
def fxLeft (listed : Array Bool) (n : Nat) : Nat := ((List.range n).filter fun j => !listed.getD j false).length
theorem fxLeft_set {listed : Array Bool} {n i : Nat} (hi : i < n) (hs : i < listed.size) (h : listed.getD i false = false) : fxLeft (listed.setIfInBounds i true) n + 1 = fxLeft listed n := by
  have gi : (listed.setIfInBounds i true).getD i false = true := by simp [hs]
  have go : ∀ j, j ≠ i → (listed.setIfInBounds i true).getD j false = listed.getD j false := fun j hj => getD_set_ne false (fun e => hj e.symm)
  have key : ∀ m, fxLeft (listed.setIfInBounds i true) m + (if i < m then 1 else 0) = fxLeft listed m := by
    intro m
    induction m with
    | zero => rfl
    | succ m ih =>
      unfold fxLeft at ih ⊢
      rw [List.range_succ, List.filter_append, List.filter_append, List.length_append, List.length_append, ← ih]
      by_cases e : m = i
      · subst e
        rw [if_neg (Nat.lt_irrefl m), if_pos (Nat.lt_succ_self m)]
        simp only [List.filter_cons, List.filter_nil, gi, h, Bool.not_true, Bool.not_false, if_true, Bool.false_eq_true, if_false, List.length_nil, List.length_cons]
      · rw [show (if i < m + 1 then 1 else 0) = (if i < m then 1 else 0) by
          by_cases h1 : i < m
          · rw [if_pos h1, if_pos (by omega)]
          · rw [if_neg h1, if_neg (by omega)]]
        simp only [List.filter_cons, List.filter_nil, go m e]
        omega
  have := key n
  rw [if_pos hi] at this
  exact this
theorem fxLeft_zero {listed : Array Bool} {n : Nat} (h : fxLeft listed n = 0) : ∀ j, j < n → listed.getD j false = true := fun j hj => by
  have h1 := List.eq_nil_of_length_eq_zero h
  rw [List.filter_eq_nil_iff] at h1
  simpa using h1 j (List.mem_range.2 hj)
theorem fxLeft_pos {listed : Array Bool} {n : Nat} (h : fxLeft listed n ≠ 0) : ∃ j, j < n ∧ listed.getD j false = false := by
  refine Classical.byContradiction fun hn => h ?_
  unfold fxLeft
  rw [List.length_eq_zero_iff, List.filter_eq_nil_iff]
  intro j hj
  have hj := List.mem_range.1 hj
  cases hb : listed.getD j false with
  | true => simp
  | false => exact absurd ⟨j, hj, hb⟩ hn
/-- The operation i may come behind j, if j does not have to come behind i. -/
def fxAfter (A : List (List Nat)) (i j : Nat) : Bool := decide (i ≠ j) && !(A.getD j []).contains i
/-- The operation i may come before j. -/
def fxBefore (A : List (List Nat)) (i j : Nat) : Bool := decide (i ≠ j) && !(A.getD i []).contains j
section
variable {n : Nat} {A : List (List Nat)} {Ψ : Nat → World → Prop} {Φ : Nat → Value → World → Prop} {G : Nat → World → World → Prop} {Inv : World → Prop} {a0 : Act}
theorem fx_any (hB : FxOk ops n A) (hI : ∀ i w w', i < n → Inv w → G i w w' → Inv w')
    (hG : ∀ i j v w w', i < n → j < n → fxAfter A i j = true → Inv w → Φ j v w → G i w w' → Φ j v w')
    (hP : ∀ i j w w', i < n → j < n → fxBefore A i j = true → Inv w → Ψ j w → G i w w' → Ψ j w')
    (hstep : ∀ i o vs w, i < n → ops[i]? = some o → Inv w → Ψ i w → (∀ j, j ∈ A.getD i [] → Φ j (vs j) w) → FxStep P ops o (fxF ops vs fxT a0 i) w fun v w' => Φ i v w' ∧ G i w w')
    (hdone : ∀ vs w, Inv w → (∀ j, j < n → Φ j (vs j) w) → wpList P ops Q (ops.toList.drop n) (fxF ops vs fxT a0 n) w) :
    ∀ (d : Nat) (listed : Array Bool) (vs : Nat → Value) (w : World), Closed .any ops listed → (∀ j, n ≤ j → j < ops.size → listed.getD j false = false) → fxLeft listed n = d → Inv w → (∀ j, j < n → listed.getD j false = false → Ψ j w) →
      (∀ j, j < n → listed.getD j false = true → Φ j (vs j) w) → wpAny P .any ops Q (d + (ops.size - n)) listed (fxF ops vs (fun j => listed.getD j false) a0 n) w := by
  intro d
  induction d with
  | zero =>
    intro listed vs w cl hout hleft hinv hpre hf
    have hall := fxLeft_zero hleft
    have hL : listed = (Array.replicate n true) ++ (Array.replicate (ops.size - n) false) := by
      refine Array.ext (by rw [cl.1]; have := hB.le; simp; omega) fun j hj1 hj2 => ?_
      have e : listed.getD j false = listed[j] := by simp [Array.getD, hj1]
      rw [← e]
      by_cases hjn : j < n
      · rw [hall j hjn, Array.getElem_append_left (by simpa using hjn)]; simp
      · rw [hout j (by omega) (by rw [← cl.1]; exact hj1), Array.getElem_append_right (by simpa using hjn)]; simp
    have hfr : fxF ops vs (fun j => listed.getD j false) a0 n = fxF ops vs fxT a0 n := fxF_agree _ _ _ _ _ _ fun j hj => ⟨hall j hj, fun _ => rfl⟩
    rw [hfr, Nat.zero_add]
    have hlen : (ops.toList.drop n).length = ops.size - n := by simp
    have h := wpAny_of_seq (P := P) (ops := ops) (md := .any) (Q' := Q) (ops.toList.drop n) n listed (fxF ops vs fxT a0 n) w (fun j => by simp [List.getElem?_drop]) (by rw [hlen, hL]; exact hB.seq) (hdone vs w hinv fun j hj => hf j hj (hall j hj))
    rwa [hlen] at h
  | succ d ih =>
    intro listed vs w cl hout hleft hinv hpre hf
    rw [show d + 1 + (ops.size - n) = (d + (ops.size - n)) + 1 by omega]
    refine ⟨fun hnil => ?_, fun i hi => ?_⟩
    · exfalso
      obtain ⟨j, hj, hju⟩ := fxLeft_pos (listed := listed) (n := n) (by omega)
      have hex : ∃ j, j ∈ Region.ready .any ops listed := by
        clear hnil
        induction j using Nat.strongRecOn with
        | _ j jh =>
          have hlt : j < ops.size := Nat.lt_of_lt_of_le hj hB.le
          by_cases ha : ∀ e ∈ ops[j].after, Region.binds .any e = true → listed.getD e.on false = true
          · refine ⟨j, mem_ready.2 ⟨?_, _, Array.getElem?_eq_getElem hlt, ha⟩⟩
            have hjs : j < listed.size := by rw [cl.1]; exact hlt
            simp [Array.getD, hjs] at hju ⊢
            exact hju
          · obtain ⟨e, he⟩ := Classical.not_forall.1 ha
            obtain ⟨he1, he2⟩ := Classical.not_imp.1 he
            obtain ⟨hb, hu⟩ := Classical.not_imp.1 he2
            have hon := hB.aft j _ (Array.getElem?_eq_getElem hlt) e he1 hb
            exact jh e.on hon (by omega) (by simpa using hu)
      obtain ⟨j', hj'⟩ := hex
      rw [hnil] at hj'; cases hj'
    · obtain ⟨hiu, o, ho, hall⟩ := mem_ready.1 hi
      have his : i < ops.size := (Array.getElem?_eq_some_iff.1 ho).1
      have hils : i < listed.size := by rw [cl.1]; exact his
      have hif : listed.getD i false = false := by simp [Array.getD, hils] at hiu ⊢; exact hiu
      have hanc := anc_listed hB cl i o ho hall
      rcases Nat.lt_or_ge i n with hin | hin
      · have hlk : ∀ t, t ∈ o.looksAt ops → (fxF ops vs (fun j => listed.getD j false) a0 n).tmps[t]? = (fxF ops vs fxT a0 i).tmps[t]? := fun t ht =>
          fxF_look vs _ a0 n i (Nat.le_of_lt hin) t fun j hj hd => by
            rcases hB.look i o j t hin hj ho hd ht with ⟨h1, h2⟩ | ⟨h1, h2⟩ | h1
            · exact ⟨fun _ => hanc j h2, fun h => by omega⟩
            · refine ⟨fun h => by omega, fun _ => ?_⟩
              cases hb : listed.getD j false with
              | false => rfl
              | true =>
                have hjs : j < ops.size := Nat.lt_of_lt_of_le hj hB.le
                have := anc_listed hB cl j _ (Array.getElem?_eq_getElem hjs) (fun e he hb2 => cl.2 j _ (Array.getElem?_eq_getElem hjs) hb e he hb2) i h2
                rw [hif] at this; cases this
            · subst h1; exact ⟨fun h => by omega, fun _ => hif⟩
        have hsel : ∀ cs b, o.op ≠ .select cs b := fun cs b => Region.noSelect_spec hB.sel i o cs b ho
        have hst := hstep i o vs w hin ho hinv (hpre i hin hif) fun j hj => hf j (by have := (hB.anc i o ho j hj).1; omega) (hanc j hj)
        rw [← fx_same hsel _ _ hlk] at hst
        refine fx_wpOp ho hst fun v w' ⟨hΦ, hg⟩ => ?_
        have hdd : o.dst = (ops[i]?).bind (·.dst) := by rw [ho]; rfl
        have hfp := fxF_put (ops := ops) vs (fun j => listed.getD j false) a0 n i v hin hif fun k hk hkn hLk d' hd' hd2 => by
          have hks : k < ops.size := Nat.lt_of_lt_of_le hkn hB.le
          rw [ho] at hd'
          have h2 := hB.dst i o k d' hin hkn ho hd2 hd' hk
          have := anc_listed hB cl k _ (Array.getElem?_eq_getElem hks) (fun e he hb2 => cl.2 k _ (Array.getElem?_eq_getElem hks) hLk e he hb2) i h2
          rw [hif] at this; cases this
        rw [hdd, hfp]
        have hfr : fxF ops (fun j => if j = i then v else vs j) (fun j => if j = i then true else listed.getD j false) a0 n = fxF ops (fun j => if j = i then v else vs j) (fun j => (listed.setIfInBounds i true).getD j false) a0 n := fxF_agree _ _ _ _ _ _ fun j hj => by
          refine ⟨?_, fun _ => rfl⟩
          by_cases e : j = i
          · subst e; simp [hils]
          · rw [if_neg e, getD_set_ne false (fun h => e h.symm)]
        rw [hfr]
        refine ih _ _ _ (cl.set hi) (fun j h1 h2 => ?_) ?_ (hI i w w' hin hinv hg) (fun j hj hjl => ?_) fun j hj hjl => ?_
        · rw [getD_set_ne false (by omega)]; exact hout j h1 h2
        · have := fxLeft_set hin hils hif; omega
        · by_cases e : j = i
          · subst e; simp [hils] at hjl
          · rw [getD_set_ne false (fun h => e h.symm)] at hjl
            refine hP i j w w' hin hj ?_ hinv (hpre j hj hjl) hg
            unfold fxBefore
            have hni : j ∉ A.getD i [] := fun hm => by rw [hanc j hm] at hjl; cases hjl
            rw [Bool.and_eq_true, decide_eq_true_eq]
            exact ⟨fun h => e h.symm, by simpa using hni⟩
        · by_cases e : j = i
          · subst e; simp only [if_true]; exact hΦ
          · simp only [if_neg e]
            rw [getD_set_ne false (fun h => e h.symm)] at hjl
            refine hG i j (vs j) w w' hin hj ?_ hinv (hf j hj hjl) hg
            unfold fxAfter
            have hjs : j < ops.size := Nat.lt_of_lt_of_le hj hB.le
            have hni : i ∉ A.getD j [] := fun hm => by
              have := anc_listed hB cl j _ (Array.getElem?_eq_getElem hjs) (fun e he hb2 => cl.2 j _ (Array.getElem?_eq_getElem hjs) hjl e he hb2) i hm
              rw [hif] at this; cases this
            rw [Bool.and_eq_true, decide_eq_true_eq]
            exact ⟨fun h => e h.symm, by simpa using hni⟩
      · exfalso
        obtain ⟨j, hj, hju⟩ := fxLeft_pos (listed := listed) (n := n) (by omega)
        have := hanc j (hB.tail i hin his j hj)
        rw [hju] at this; cases this
/-- **A region that draws its order**: one fact for each of its first n operations, kept by all that may come behind it; what comes behind them is walked as' a list. -/
theorem wp_region_fx {id : Nat} {w : World} {l : List Oper} (n : Nat) (A : List (List Nat)) (hm : P.follows .mixedOrders = true) (hB : fxB l.toArray n A = true)
    (Φ : Nat → Value → World → Prop) (G : Nat → World → World → Prop) (Inv : World → Prop) (Ψ : Nat → World → Prop) (h0 : Inv { w with drawn := w.drawn + 1 }) (hp0 : ∀ j, j < n → Ψ j { w with drawn := w.drawn + 1 })
    (hI : ∀ i w w', i < n → Inv w → G i w w' → Inv w')
    (hG : ∀ i j v w w', i < n → j < n → fxAfter A i j = true → Inv w → Φ j v w → G i w w' → Φ j v w')
    (hP : ∀ i j w w', i < n → j < n → fxBefore A i j = true → Inv w → Ψ j w → G i w w' → Ψ j w')
    (hstep : ∀ i o vs w, i < n → l.toArray[i]? = some o → Inv w → Ψ i w → (∀ j, j ∈ A.getD i [] → Φ j (vs j) w) → FxStep P l.toArray o (fxF l.toArray vs fxT a0 i) w fun v w' => Φ i v w' ∧ G i w w')
    (hdone : ∀ vs w, Inv w → (∀ j, j < n → Φ j (vs j) w) → wpList P l.toArray Q (l.drop n) (fxF l.toArray vs fxT a0 n) w) : (Code.region id l.toArray true).wp P Q a0 w := by
  have hk := fxB_ok hB
  have cl0 : Closed .any l.toArray (Array.replicate l.toArray.size false) := ⟨by simp, fun j oj _ hl => (by rw [getD_replicate_false] at hl; cases hl)⟩
  have hl0 : fxLeft (Array.replicate l.toArray.size false) n = n := by
    unfold fxLeft
    rw [List.filter_eq_self.2 (fun j _ => by rw [getD_replicate_false]; rfl), List.length_range]
  have h := fx_any (a0 := a0) hk hI hG hP hstep (fun vs w h1 h2 => by simpa using hdone vs w h1 h2) n (Array.replicate l.toArray.size false) (fun _ => undef) { w with drawn := w.drawn + 1 } cl0 (fun j _ _ => getD_replicate_false _ _) hl0 h0 (fun j hj _ => hp0 j hj) (fun j _ hl => by rw [getD_replicate_false] at hl; cases hl)
  have hfr : fxF l.toArray (fun _ => undef) (fun j => (Array.replicate l.toArray.size false).getD j false) a0 n = a0 := by
    have : ∀ k, fxF l.toArray (fun _ => undef) (fun j => (Array.replicate l.toArray.size false).getD j false) a0 k = a0 := by
      intro k
      induction k with
      | zero => rfl
      | succ k ih =>
        show (if (Array.replicate l.toArray.size false).getD k false = true then _ else _) = a0
        rw [getD_replicate_false, if_neg (by decide)]; exact ih
    exact this n
  rw [hfr, show n + (l.toArray.size - n) = l.toArray.size by have := hk.le; omega] at h
  exact wp_region_any hm h
end
/-- The last of the first i operations that puts its value into the slot t. -/
def fxLast (ops : Array Oper) (t : Tmp) : Nat → Option Nat
  | 0 => none
  | k + 1 => if ((ops[k]?).bind (·.dst) == some t) = true then some k else fxLast ops t k
theorem fx_old {vs : Nat → Value} {a0 : Act} {t : Tmp} : ∀ i, fxLast ops t i = none → (fxF ops vs fxT a0 i).eval (.tmp t) = a0.eval (.tmp t)
  | 0, _ => rfl
  | k + 1, h => by
    unfold fxLast at h
    split at h
    · cases h
    · rename_i hd
      simp only [fxF, fxT, if_true]
      rw [eval_tmps _ (fxF ops vs fxT a0 k) (.tmp t) (fun t' e => by
        injection e with e
        subst e
        exact put_tmps_ne _ _ _ _ (by simpa using hd))]
      exact fx_old k h
theorem fxF_size {vs : Nat → Value} {a0 : Act} (k : Nat) : (fxF ops vs fxT a0 k).tmps.size = a0.tmps.size := by
  induction k with
  | zero => rfl
  | succ k ih =>
    simp only [fxF, fxT, if_true]
    cases (ops[k]?).bind (·.dst) with
    | none => exact ih
    | some d => simp [Act.put, ih]
theorem fx_new {vs : Nat → Value} {a0 : Act} {t : Tmp} {j : Nat} (ht : t < a0.tmps.size) : ∀ i, fxLast ops t i = some j → (fxF ops vs fxT a0 i).eval (.tmp t) = vs j
  | 0, h => by cases h
  | k + 1, h => by
    unfold fxLast at h
    simp only [fxF, fxT, if_true]
    split at h
    · rename_i hd
      injection h with h
      subst h
      rw [show (ops[k]?).bind (·.dst) = some t by simpa using hd]
      have hs : t < (fxF ops vs fxT a0 k).tmps.size := by rw [fxF_size]; exact ht
      simp [Act.eval, Act.put, Array.getD_eq_getD_getElem?, hs]
    · rename_i hd
      rw [eval_tmps _ (fxF ops vs fxT a0 k) (.tmp t) (fun t' e => by
        injection e with e
        subst e
        exact put_tmps_ne _ _ _ _ (by simpa using hd))]
      exact fx_new ht k h
section
variable {o : Oper} {a : Act} {w : World} {R : Value → World → Prop}
theorem fx_val {v : Value} {w' : World} (hw : Region.wanted o (yielded ops a.tmps) = true) (h : (execOp a.eval o).run P w = .ok (.value v) w') (hR : R v w') : FxStep P ops o a w R := by
  unfold FxStep
  rw [if_pos hw, h]
  exact hR
theorem fx_move (x : Operand) (hg : o.guard = none) (ho : o.op = .move x) (hR : R (a.eval x) w) : FxStep P ops o a w R :=
  fx_val (v := a.eval x) (w' := w) (by simp [Region.wanted, hg]) (by unfold execOp; simp [ho, go_sem]) hR
theorem fx_call {T : Array TypeId} {f : FuncId} {fn : Func} {c : Code} {xs : Array Operand} (us : Array Value) (hw : Region.wanted o (yielded ops a.tmps) = true) (ho : o.op = .call { callee := .value (.func f), args := xs, argTypes := T })
    (hf : P.funcs[f]? = some fn) (hname : (fn.name == "runtime.NumGoroutine") = false) (hb : fn.body = some c) (hx : xs.map a.eval = us) (h3 : a.eval (.func f) = .func (.func f) #[] #[])
    (hc : Calls P f us w fun e w'' => ∃ v, e = .returned v ∧ R v w'') : FxStep P ops o a w R := by
  have hn : fn.name ≠ "runtime.NumGoroutine" := by simpa using hname
  unfold FxStep
  rw [if_pos hw]
  unfold execOp
  generalize a.eval = ev at *
  have hr : (callFunc f us).run P w = .ok (.enter f us) w := by simp [callFunc, hf, hn, hb]
  simp only [ho]
  simp [go_sem, hx, h3]
  rw [hr]
  exact hc
end
end
end YtlbgffhipondiaaGreatDoor
end Go
