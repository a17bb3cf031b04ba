/- ValueNames' literals. -/
import Derived.Test.YtpklfohaifeboaaV19
namespace Go.Proofs.Ytpklfohaifeboaa
open Go.RowKit Go.Ytpklfohaifeboaa
set_option linter.unusedVariables false
/-- What a walk keeps: the world from which it began, and rows that it laid. -/
structure Inv (w : World) (rows : List (Nat × Obj)) (w9 : World) : Prop where
  b : Below w.heap.size w w9
  r : ∀ p ∈ rows, w9.heap[p.1]? = some p.2
theorem Inv.start (w : World) : Inv w [] w := ⟨Below.refl _ _, fun p h => by cases h⟩
theorem Inv.step0 {w : World} {rows : List (Nat × Obj)} {w9 w' : World} (h : Inv w rows w9) (hb : Below w9.heap.size w9 w') : Inv w rows w' :=
  ⟨h.b.trans (hb.mono h.b.size), fun p hp => rowB (h.r p hp) hb (Array.getElem?_eq_some_iff.1 (h.r p hp)).1⟩
theorem Inv.alloc {w : World} {rows : List (Nat × Obj)} {w9 : World} (h : Inv w rows w9) (o : Obj) : Inv w rows (w9.alloc o) := h.step0 (below_a w9 o)
theorem Inv.add {w : World} {rows : List (Nat × Obj)} {w9 : World} (h : Inv w rows w9) (o : Obj) : Inv w ((w9.heap.size, o) :: rows) (w9.alloc o) :=
  ⟨(h.alloc o).b, fun p hp => by
    rcases List.mem_cons.1 hp with rfl | hp
    · exact heap_alloc_new w9 o
    · exact (h.alloc o).r p hp⟩
theorem text_val (s : ByteArray) (w : World) :
    Calls Try.prog 13 #[.string s] w fun e w' => e = .returned (vA 3 0 0 s) ∧ Below w.heap.size w w' := by
  go_enter Try.func13, Try.ntmps13
  go_wp2
  exact bodyPost_ret (results_cell_row rfl _ _ w.heap.size 26 _ _ _ rfl (heap_alloc_new w _) Try.underlying26 rfl info_val) rfl ⟨rfl, (Below.refl _ _).alloc (Nat.le_refl _) _⟩
theorem cls_lit (m c : Int) (b : Nat) (hm : m = (b : Int)) (hb : b < 18446744073709551616) (h : (clsF b : Int) = c) (w : World) :
    Calls Try.prog 9 #[.int .u64 m] w fun e w' => e = .returned (.int .u8 c) ∧ w = w' := by
  subst hm
  have := class_any b hb w
  rw [h] at this
  exact this
theorem can_lit (m c : Int) (b : Nat) (hm : m = (b : Int)) (hb : b < 18446744073709551616) (h : (canF b : Int) = c) (w : World) :
    Calls Try.prog 10 #[.int .u64 m] w fun e w' => e = .returned (.int .u64 c) ∧ w = w' := by
  subst hm
  have := canon_any b hb w
  rw [h] at this
  exact this
/-- None is valid, but each fits. -/
def badB (L : List Va) : Bool := L.all fun v => decide (0 ≤ v.k) && decide (v.k < 256) && decide (-9223372036854775808 ≤ v.n) && decide (v.n ≤ 9223372036854775807) && decide (v.b < 18446744073709551616) && decide (v.s.size ≤ 1000000) && !v.ok
theorem badB_at {L : List Va} (h : badB L = true) (i : Nat) (hi : i < L.length) : (vaAt L i).fit ∧ (vaAt L i).ok = false := by
  have hm : vaAt L i ∈ L := by
    unfold vaAt
    rw [List.getElem?_eq_getElem hi]
    exact List.getElem_mem hi
  have h2 := List.all_eq_true.1 h _ hm
  simp only [Bool.and_eq_true, decide_eq_true_eq, Bool.not_eq_true'] at h2
  obtain ⟨⟨⟨⟨⟨⟨h1, h2⟩, h3⟩, h4⟩, h5⟩, h6⟩, h7⟩ := h2
  exact ⟨⟨⟨h1, h2⟩, ⟨h3, h4⟩, h5, h6⟩, h7⟩
def Llow : List Va := [⟨2, 0, 18442240474082181120, ⟨#[]⟩⟩, ⟨2, 0, 18442240474082181119, ⟨#[]⟩⟩, ⟨2, 0, 14114281232179134465, ⟨#[]⟩⟩, ⟨1, (-9223372036854775808), 0, ⟨#[]⟩⟩, ⟨2, 0, 14114281232179134464, ⟨#[]⟩⟩, ⟨1, (-9223372036854775807), 0, ⟨#[]⟩⟩, ⟨1, (-2), 0, ⟨#[]⟩⟩, ⟨2, 0, 13835058055282163712, ⟨#[]⟩⟩, ⟨2, 0, 13832806255468478464, ⟨#[]⟩⟩, ⟨1, (-1), 0, ⟨#[]⟩⟩, ⟨2, 0, 13830554455654793216, ⟨#[]⟩⟩, ⟨2, 0, 9223372036854775809, ⟨#[]⟩⟩, ⟨2, 0, 9223372036854775808, ⟨#[]⟩⟩]
def Lhigh : List Va := [⟨2, 0, 0, ⟨#[]⟩⟩, ⟨2, 0, 1, ⟨#[]⟩⟩, ⟨2, 0, 4503599627370495, ⟨#[]⟩⟩, ⟨2, 0, 4503599627370496, ⟨#[]⟩⟩, ⟨1, 9007199254740991, 0, ⟨#[]⟩⟩, ⟨2, 0, 4845873199050653695, ⟨#[]⟩⟩, ⟨1, 9007199254740992, 0, ⟨#[]⟩⟩, ⟨2, 0, 4845873199050653696, ⟨#[]⟩⟩, ⟨1, 9007199254740993, 0, ⟨#[]⟩⟩, ⟨1, 9007199254740994, 0, ⟨#[]⟩⟩, ⟨2, 0, 4845873199050653697, ⟨#[]⟩⟩, ⟨2, 0, 4890909195324358655, ⟨#[]⟩⟩, ⟨1, 9223372036854775807, 0, ⟨#[]⟩⟩, ⟨2, 0, 4890909195324358656, ⟨#[]⟩⟩, ⟨2, 0, 9218868437227405311, ⟨#[]⟩⟩, ⟨2, 0, 9218868437227405312, ⟨#[]⟩⟩, ⟨2, 0, 9221120237041090560, ⟨#[]⟩⟩, ⟨3, 0, 0, ⟨#[]⟩⟩, ⟨3, 0, 0, ⟨#[32]⟩⟩, ⟨3, 0, 0, ⟨#[97]⟩⟩, ⟨3, 0, 0, ⟨#[97, 97]⟩⟩, ⟨3, 0, 0, ⟨#[98]⟩⟩, ⟨3, 0, 0, ⟨#[126]⟩⟩]
def Lbad : List Va := [⟨0, 0, 0, ⟨#[]⟩⟩, ⟨4, 0, 0, ⟨#[]⟩⟩, ⟨1, 0, 1, ⟨#[]⟩⟩, ⟨1, 0, 0, ⟨#[97]⟩⟩, ⟨2, 1, 0, ⟨#[]⟩⟩, ⟨2, 0, 0, ⟨#[97]⟩⟩, ⟨2, 0, 9221120237041090561, ⟨#[]⟩⟩, ⟨2, 0, 18444492273895866368, ⟨#[]⟩⟩, ⟨3, 1, 0, ⟨#[]⟩⟩, ⟨3, 0, 1, ⟨#[]⟩⟩, ⟨3, 0, 0, ⟨#[127]⟩⟩, ⟨3, 0, 0, ⟨#[97, 10]⟩⟩, ⟨3, 0, 0, ⟨#[195, 169]⟩⟩, ⟨3, 0, 0, ⟨#[49, 50, 51, 52, 53, 54, 55, 56, 57, 48, 49, 50, 51, 52, 53, 54, 55, 56, 57, 48, 49, 50, 51, 52, 53, 54, 55, 56, 57, 48, 49]⟩⟩]
theorem Llow_asc : ascB Llow = true := by decide +kernel
theorem Lhigh_asc : ascB Lhigh = true := by decide +kernel
theorem Lbad_bad : badB Lbad = true := by decide +kernel
theorem dec_lit0 : decR [] = .tuple #[vA 0 0 0 ⟨#[]⟩, .int .i64 0, .int .i64 12] := by
  unfold decR
  rw [show decF [] = none by rfl]
theorem dec_lit1 : decR [2, 0, 0, 0, 0, 0, 0, 0] = .tuple #[vA 0 0 0 ⟨#[]⟩, .int .i64 0, .int .i64 12] := by
  unfold decR
  rw [show decF [2, 0, 0, 0, 0, 0, 0, 0] = none by decide +kernel]
theorem dec_lit2 : decR [2, 127, 248, 0, 0, 0, 0, 0, 1] = .tuple #[vA 0 0 0 ⟨#[]⟩, .int .i64 0, .int .i64 12] := by
  unfold decR
  rw [show decF [2, 127, 248, 0, 0, 0, 0, 0, 1] = none by decide +kernel]
theorem dec_lit3 : decR [4, 0] = .tuple #[vA 0 0 0 ⟨#[]⟩, .int .i64 0, .int .i64 12] := by
  unfold decR
  rw [show decF [4, 0] = none by decide +kernel]
theorem dec_lit4 : decR [3, 1, 31] = .tuple #[vA 0 0 0 ⟨#[]⟩, .int .i64 0, .int .i64 12] := by
  unfold decR
  rw [show decF [3, 1, 31] = none by decide +kernel]
theorem dec_lit5 : decR [1, 248, 1] = .tuple #[vA 0 0 0 ⟨#[]⟩, .int .i64 0, .int .i64 12] := by
  unfold decR
  rw [show decF [1, 248, 1] = none by decide +kernel]
theorem dec_lit6 : decR [3, 1, 120, 121] = .tuple #[vA 3 0 0 ⟨#[120]⟩, .int .i64 3, .int .i64 0] := by
  unfold decR
  rw [show decF [3, 1, 120, 121] = some (⟨3, 0, 0, ⟨#[120]⟩⟩, 3) by kernel_rfl]
  rfl
theorem bytes_of_all {l : List Int} (h : l.all (fun x => decide (0 ≤ x) && decide (x < 256)) = true) : Bytes l := by
  intro i
  unfold ith
  cases hi : l[i]? with
  | none => exact ⟨by decide, by decide⟩
  | some x =>
    have h2 := List.all_eq_true.1 h _ (List.mem_of_getElem? hi)
    simp only [Bool.and_eq_true, decide_eq_true_eq] at h2
    exact h2
theorem dec_at (l : List Int) (R : Value) (hR : decR l = R) (hb : l.all (fun x => decide (0 ≤ x) && decide (x < 256)) = true) (n : Nat) (hn : l.length = n) (h6 : n ≤ 1000) (cells : Array Value) (hc : cells = u8s l) (w : World) :
    Calls Try.prog 18 #[.slice (some ⟨w.heap.size, 0, none⟩) n n] (w.alloc (.cells cells 5)) fun e w' => e = .returned R ∧ Below w.heap.size w w' := by
  subst hc
  have h := decode_any l _ (w.alloc (.cells (u8s l) 5)) (rdB_row (heap_alloc_new w _) n hn (by unfold maxLen; omega)) (bytes_of_all hb) (by omega)
  rw [hR] at h
  exact h.mono fun e w' ⟨he, hb⟩ => ⟨he, (below_a w _).trans (hb.mono (by simp))⟩
theorem dec_nil (w : World) : Calls Try.prog 18 #[.slice none 0 0] w fun e w' => e = .returned (.tuple #[vA 0 0 0 ⟨#[]⟩, .int .i64 0, .int .i64 12]) ∧ Below w.heap.size w w' := by
  have h := decode_any [] (.slice none 0 0) w (.inl ⟨none, 0, rfl, fun _ => rfl, rfl⟩) bytes_nil (by simp)
  rw [dec_lit0] at h
  exact h
theorem txt_lit (s : ByteArray) (V : Value) (E : Int) (hs : s.size ≤ 100) (hE : txtE s = E) (hV : (if E = 0 then vA 3 0 0 s else vA 0 0 0 ⟨#[]⟩) = V) (w : World) :
    Calls Try.prog 17 #[.string s] w fun e w' => e = .returned (.tuple #[V, .int .i64 E]) ∧ Below w.heap.size w w' := by
  subst hE hV
  exact text_any s (by omega) w
theorem wpList_mid {P : Program} {ops : Array Oper} {rest : List Oper} {o : Oper} {a : Act} {w : World} {Q : Exit → Act → World → Prop} (hw : Region.wanted o (yielded ops a.tmps) = true) (ty : TypeId) (x : Operand) (ho : o.op = .load ty x) (g k : Nat) (hx : a.eval x = .pointer (some ⟨g, k, none⟩)) (cs : List Value) (d : TypeDesc)
    (hC : w.rangeAt g k cs) (hu : P.underlying ty = some d) (hd : d.isRow = true) (hi : (P.info? ty).map (·.size) = some cs.length) (h : wpList P ops Q rest (a.put o.dst (.agg cs.toArray)) w) : wpList P ops Q (o :: rest) a w :=
  wpList_step fun K hK => by
    rw [if_pos hw]
    unfold Oper.wp execOp
    simp only [ho, hx, Instr.loadAt, Instr.sureAddr, Sem.run_bind, Sem.run_pure, Result.andThen_ok, run_loadVar_mid w g k ty cs d hC hu hd hi]
    exact hK _ _ h
theorem Inv.drew {w : World} {rows : List (Nat × Obj)} {w9 : World} (h : Inv w rows w9) : Inv w rows w9.drew := h.step0 (Below.refl _ _).drew
theorem Inv.mid {w : World} {rows : List (Nat × Obj)} {w9 : World} (h : Inv w rows w9) {g : Nat} {L : List Va} {T : TypeId} {fr : Nat × Nat} (hm : (g, Obj.cells (rowV L) T fr) ∈ rows) (i : Nat) (hi : i < L.length) : w9.rangeAt g (i * 4) (vaAt L i).l :=
  range_of_row (h.r _ hm) i hi
end Go.Proofs.Ytpklfohaifeboaa
