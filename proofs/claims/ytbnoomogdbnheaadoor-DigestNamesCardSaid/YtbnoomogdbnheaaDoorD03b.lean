/- The literals of DigestNames: what each call answers. -/
import Derived.Test.YtbnoomogdbnheaaDoorD03a
import Derived.Lib.SlBytesConst
namespace Go
namespace YtbnoomogdbnheaaDoor
open RowKit
set_option maxRecDepth 100000
def s56 : List Int := [97, 98, 99, 100, 98, 99, 100, 101, 99, 100, 101, 102, 100, 101, 102, 103, 101, 102, 103, 104, 102, 103, 104, 105, 103, 104, 105, 106, 104, 105, 106, 107, 105, 106, 107, 108, 106, 107, 108, 109, 107, 108, 109, 110, 108, 109, 110, 111, 109, 110, 111, 112, 110, 111, 112, 113]
theorem sha_56 : (ith (shaF s56) 0 == 36 && ith (shaF s56) 1 == 141 && ith (shaF s56) 2 == 106 && ith (shaF s56) 3 == 97 && ith (shaF s56) 31 == 193) = true := by decide +kernel
theorem bytesL {l : List Int} (h : (l.all fun x => decide (0 ≤ x) && decide (x < 256)) = true) : Bytes l := by
  intro i
  unfold ith
  cases e : l[i]? with
  | none => simp
  | some k =>
    have h2 := List.all_eq_true.1 h k (List.mem_of_getElem? e)
    simpa using h2
theorem below_o (w : World) (o : Obj) : Below w.heap.size w (w.alloc o) := (Below.refl _ _).alloc (Nat.le_refl _) o
theorem below_o2 (w : World) (o1 o2 : Obj) : Below w.heap.size w ((w.alloc o1).alloc o2) := (below_o w o1).alloc (by simp) o2
end YtbnoomogdbnheaaDoor
end Go
namespace Go.Proofs.YtbnoomogdbnheaaDoor
open Go.RowKit Go.YtbnoomogdbnheaaDoor
set_option linter.unusedVariables false
set_option maxRecDepth 100000
def GlD (Tg Tf : TypeId) (w : World) : Prop := w.heap[2]? = some (.cells (u32s constW) Tg (0, 0)) ∧ w.heap[0]? = some (.cells firstW.cells Tf (0, 0))
theorem GlD.mono {Tg Tf : TypeId} {w w' : World} (h : GlD Tg Tf w) (hb : Below w.heap.size w w') : GlD Tg Tf w' :=
  ⟨(hb.block _ (Array.getElem?_eq_some_iff.1 h.1).1).trans h.1, (hb.block _ (Array.getElem?_eq_some_iff.1 h.2).1).trans h.2⟩
variable {Tg Tf : TypeId}
/-- The call answers an id and an error. -/
abbrev IDs (P : Program) (f : FuncId) (args : Array Value) (w0 w : World) (A : List Int) (n : Int) : Prop :=
  Calls P f args w fun e w' => e = .returned (.tuple #[.agg (u8s A), .int .i64 n]) ∧ Below w0.heap.size w0 w'
theorem is_56 {w : World} (h : GlD Tg Tf w) : Calls Tryd.prog 8 #[.string { data := #[97, 98, 99, 100, 98, 99, 100, 101, 99, 100, 101, 102, 100, 101, 102, 103, 101, 102, 103, 104, 102, 103, 104, 105, 103, 104, 105, 106, 104, 105, 106, 107, 105, 106, 107, 108, 106, 107, 108, 109, 107, 108, 109, 110, 108, 109, 110, 111, 109, 110, 111, 112, 110, 111, 112, 113] }, .agg #[.int .u8 36, .int .u8 141, .int .u8 106, .int .u8 97], .int .u8 193] w fun e w' => e = .returned (.bool true) ∧ Below w.heap.size w w' := by
  have h2 := sha_56
  simp only [Bool.and_eq_true, beq_iff_eq] at h2
  obtain ⟨⟨⟨⟨h0, h1⟩, h2⟩, h3⟩, h31⟩ := h2
  exact is_any (Tg := Tg) (Tf := Tf) (shaF s56) _ _ _ _ _ _ w (by decide) rfl h0 h1 h2 h3 h31 h.1 h.2
theorem run_makeLs (w : World) (n : Nat) (hn : n ≤ 1000) : (Instr.makeSlice 31 (.int .i64 (n : Int)) (.int .i64 (n : Int))).run Tryd.prog w = .ok (.slice (some ⟨w.heap.size, 0, none⟩) n n) (w.alloc (.cells (madeCells #[.slice none 0 0] n) 29)) := by
  obtain ⟨i, hi, hz, hs, hb⟩ := info_parts (show (Tryd.prog.info? 29).map (fun i => (i.zero, i.size, i.bytes)) = some (some (.slice none 0 0), 1, 24) by kernel_rfl)
  have h := run_make (P := Tryd.prog) w 31 29 i (.slice none 0 0) Tryd.underlying31 hi hz .i64 .i64 (n : Int) (n : Int) (by omega) (by omega) (by rw [hb]; omega) (by omega)
  rw [h, hs]
  simp only [Int.toNat_natCast, Nat.mul_one, Value.cells]
theorem nd_s1 (Z : Array Value) (w : World) : IDs Tryd.prog 9 #[.slice (some ⟨w.heap.size, 0, none⟩) 10001 10001] w (w.alloc (.cells Z 5)) (zerosB 32) 4 :=
  (sum_many _ 10001 10001 _ (by decide) (by decide)).mono fun e w' ⟨h1, h2⟩ => ⟨h1, (below_o w _).trans (h2.mono (by simp))⟩
theorem nd_s2 {w : World} (h : GlD Tg Tf w) (l : List Int) (D : List Int) (hl : l.length = 10000) (hlb : Bytes l) (hD : shaF l = D) : IDs Tryd.prog 9 #[.slice (some ⟨w.heap.size, 0, none⟩) 10000 10000] w (w.alloc (.cells (u8s l) 5)) D 0 :=
  (sum_any (Tg := Tg) (Tf := Tf) D _ l _ (rd_rowM (heap_alloc_new w _) 10000 10000 hl (Nat.le_refl _) (by decide)) hlb (by omega) hD (h.mono (below_o w _)).1 (h.mono (below_o w _)).2).mono fun e w' ⟨h1, h2⟩ => ⟨h1, (below_o w _).trans (h2.mono (by simp))⟩
theorem nd_p1 (Z : Array Value) (w : World) : IDs Tryd.prog 10 #[.slice (some ⟨w.heap.size, 0, none⟩) 21 21] w (w.alloc (.cells Z 29)) (zerosB 32) 4 :=
  (pieces_many _ 21 21 _ (by decide)).mono fun e w' ⟨h1, h2⟩ => ⟨h1, (below_o w _).trans (h2.mono (by simp))⟩
theorem nthL_nils (n i : Nat) : nthL (List.replicate n []) i = [] := by
  unfold nthL
  rw [List.getElem?_replicate]
  split <;> rfl
theorem nd_p2 {w : World} (h : GlD Tg Tf w) (D : List Int) (hD : shaF [] = D) : IDs Tryd.prog 10 #[.slice (some ⟨w.heap.size, 0, none⟩) 20 20] w (w.alloc (.cells (madeCells #[.slice none 0 0] 20) 29)) D 0 := by
  have h2 := pieces_any (Tg := Tg) (Tf := Tf) (List.replicate 20 []) (.slice (some ⟨w.heap.size, 0, none⟩) 20 20) w.heap.size 0 20 (by rw [List.length_replicate]) (w.alloc (.cells (madeCells #[.slice none 0 0] 20) 29)) (by rw [List.length_replicate]; exact Nat.le_refl _) (by decide) (by simp) (fun i hi => by
    rw [List.length_replicate] at hi
    refine ⟨.slice none 0 0, ?_, ?_⟩
    · rw [Nat.zero_add, cell_of_row _ _ _ _ _ _ (heap_alloc_new w _)]
      simp [madeCells, hi, Nat.mod_one]
    · rw [nthL_nils]; exact .inl ⟨none, 0, rfl, fun _ => rfl, rfl⟩) (by rw [List.length_replicate]; exact Nat.le_refl _) (fun i => by rw [nthL_nils]; exact Nat.zero_le _) (fun i => by rw [nthL_nils]; exact bytes_nil) (h.mono (below_o w _)).1 (h.mono (below_o w _)).2
  rw [show (List.replicate 20 ([] : List Int)).flatten = [] from rfl, hD] at h2
  exact h2.mono fun e w' ⟨h1, h2⟩ => ⟨h1, (below_o w _).trans (h2.mono (by simp))⟩
theorem nd_p3 (Z : Array Value) (w : World) : IDs Tryd.prog 10 #[.slice (some ⟨w.heap.size + 1, 0, none⟩) 2 2] w ((w.alloc (.cells Z 5)).alloc (.cells #[.slice none 0 0, .slice (some ⟨w.heap.size, 0, none⟩) 10001 10001] 29)) (zerosB 32) 4 :=
  (pieces_long (some ⟨w.heap.size + 1, 0, none⟩) 2 2 1 (fun i => if i = 0 then 0 else 10001) _ (by decide) (by decide) (fun i hi => by
    have h0 : i = 0 := by omega
    subst h0
    exact Nat.zero_le _) (by decide) (by decide) (fun i hi => by
    match i, hi with
    | 0, _ => exact ⟨_, _, rfl, by simp, _, _, cell_of_row _ _ _ _ _ _ (hn2 w _ _)⟩
    | 1, _ => exact ⟨_, _, rfl, by simp, _, _, cell_of_row _ _ _ _ _ _ (hn2 w _ _)⟩)).mono fun e w' ⟨h1, h2⟩ => ⟨h1, (below_o2 w _ _).trans (h2.mono (by simp; omega))⟩
theorem nd_p4 {w : World} (h : GlD Tg Tf w) (D : List Int) (hD : shaF [] = D) : IDs Tryd.prog 10 #[.slice none 0 0] w w D 0 := by
  have h2 := pieces_rd (Tg := Tg) (Tf := Tf) [] (.slice none 0 0) w (.inl ⟨rfl, rfl⟩) (by decide) (fun i => by simp [nthL]) (fun i => by simp only [nthL, List.getElem?_nil, Option.getD_none]; exact bytes_nil) h.1 h.2
  rw [show ([] : List (List Int)).flatten = [] from rfl, hD] at h2
  exact h2
def v0 : V8 := ⟨0, 0, 0, 0, 0, 0, 0, 0⟩
/-- The call answers an empty mill and an error. -/
abbrev MZs (P : Program) (f : FuncId) (args : Array Value) (w0 w : World) (n : Int) : Prop :=
  Calls P f args w fun e w' => e = .returned (.tuple #[.agg #[.int .u32 0, .int .u32 0, .int .u32 0, .int .u32 0, .int .u32 0, .int .u32 0, .int .u32 0, .int .u32 0, .slice none 0 0, .int .i64 0], .int .i64 n]) ∧ Below w0.heap.size w0 w'
theorem na_1 (w : World) : MZs Tryd.prog 11 #[.agg #[.int .u32 0, .int .u32 0, .int .u32 0, .int .u32 0, .int .u32 0, .int .u32 0, .int .u32 0, .int .u32 0, .slice none 0 0, .int .i64 (-64)], .slice none 0 0] w w 8 := add_bad v0 (.slice none 0 0) 0 (-64) _ w ⟨_, _, rfl⟩ (by decide)
theorem na_2 (w : World) : MZs Tryd.prog 11 #[.agg #[.int .u32 0, .int .u32 0, .int .u32 0, .int .u32 0, .int .u32 0, .int .u32 0, .int .u32 0, .int .u32 0, .slice none 0 0, .int .i64 1], .slice none 0 0] w w 8 := add_bad v0 (.slice none 0 0) 0 1 _ w ⟨_, _, rfl⟩ (by decide)
theorem na_3 (Z : Array Value) (w : World) : MZs Tryd.prog 11 #[.agg #[.int .u32 0, .int .u32 0, .int .u32 0, .int .u32 0, .int .u32 0, .int .u32 0, .int .u32 0, .int .u32 0, .slice (some ⟨w.heap.size, 0, none⟩) 64 64, .int .i64 64], .slice none 0 0] w (w.alloc (.cells Z 5)) 8 :=
  (add_bad v0 (.slice (some ⟨w.heap.size, 0, none⟩) 64 64) 64 64 (.slice none 0 0) (w.alloc (.cells Z 5)) ⟨_, _, rfl⟩ (by decide)).mono fun e w' ⟨h1, h2⟩ => ⟨h1, (below_o w _).trans (h2.mono (by simp))⟩
theorem na_4 (w : World) : MZs Tryd.prog 11 #[.agg #[.int .u32 0, .int .u32 0, .int .u32 0, .int .u32 0, .int .u32 0, .int .u32 0, .int .u32 0, .int .u32 0, .slice none 0 0, .int .i64 200000], .slice (some ⟨w.heap.size, 0, none⟩) 1 1] w (w.alloc (.cells #[.int .u8 1] 5)) 4 :=
  (add_many v0 (.slice none 0 0) 0 200000 (some ⟨w.heap.size, 0, none⟩) 1 1 (w.alloc (.cells #[.int .u8 1] 5)) ⟨_, _, rfl⟩ (by decide) (by decide) (by decide) (by decide)).mono fun e w' ⟨h1, h2⟩ => ⟨h1, (below_o w _).trans (h2.mono (by simp))⟩
theorem na_6 (Z : Array Value) (w : World) : MZs Tryd.prog 11 #[.agg #[.int .u32 0, .int .u32 0, .int .u32 0, .int .u32 0, .int .u32 0, .int .u32 0, .int .u32 0, .int .u32 0, .slice none 0 0, .int .i64 199936], .slice (some ⟨w.heap.size, 0, none⟩) 65 65] w (w.alloc (.cells Z 5)) 4 :=
  (add_many v0 (.slice none 0 0) 0 199936 (some ⟨w.heap.size, 0, none⟩) 65 65 (w.alloc (.cells Z 5)) ⟨_, _, rfl⟩ (by decide) (by decide) (by decide) (by decide)).mono fun e w' ⟨h1, h2⟩ => ⟨h1, (below_o w _).trans (h2.mono (by simp))⟩
theorem empty_rd {w : World} {a : Option Addr} {n c : Nat} {l : List Int} (h : RdB w (.slice a n c) l) (hl : l = []) : n = 0 ∧ (a = none → c = 0) := by
  subst hl
  rcases h with ⟨a', c', h1, h2, _⟩ | ⟨b, o, c', h1, _⟩
  · cases h1; exact ⟨rfl, h2⟩
  · cases h1; exact ⟨rfl, fun h => by cases h⟩
theorem na_5 {w : World} (h : GlD Tg Tf w) : Calls Tryd.prog 11 #[.agg #[.int .u32 0, .int .u32 0, .int .u32 0, .int .u32 0, .int .u32 0, .int .u32 0, .int .u32 0, .int .u32 0, .slice none 0 0, .int .i64 199936], .slice (some ⟨w.heap.size, 0, none⟩) 64 64] (w.alloc (.cells (u8s (zerosB 64)) 5)) fun e w' => ∃ (G : V8) (a : Option Addr) (c : Nat), G.ok ∧ (a = none → c = 0) ∧ e = .returned (.tuple #[.agg #[.int .u32 G.a, .int .u32 G.b, .int .u32 G.c, .int .u32 G.d, .int .u32 G.e, .int .u32 G.f, .int .u32 G.g, .int .u32 G.h, .slice a 0 c, .int .i64 200000], .int .i64 0]) ∧ Below w.heap.size w w' := by
  have hv : v0.ok := by simp [V8.ok, v0, In32]
  refine (add_ok (Tg := Tg) v0 _ (.slice none 0 0) [] 199936 (.slice (some ⟨w.heap.size, 0, none⟩) 64 64) (zerosB 64) _ hv (.inl ⟨none, 0, rfl, fun _ => rfl, rfl⟩) (rd_rowM (heap_alloc_new w _) 64 64 (zerosB_length _) (Nat.le_refl _) (by decide)) bytes_nil (bytes_replicate 64) rfl (by rw [zerosB_length]; decide) rfl (h.mono (below_o w _)).1).mono ?_
  rintro e w' ⟨r', rfl, ho, hb⟩
  obtain ⟨a, c, rfl⟩ := ho.rd.slice
  obtain ⟨h0, hc⟩ := empty_rd ho.rd (List.length_eq_zero_iff.1 (by rw [restF_length, List.nil_append, zerosB_length]))
  rw [h0, zerosB_length]
  exact ⟨_, a, c, blocksF_ok _ _ hv, hc, rfl, (below_o w _).trans (hb.mono (by simp))⟩
theorem ne_1 (w : World) : IDs Tryd.prog 12 #[.agg #[.int .u32 0, .int .u32 0, .int .u32 0, .int .u32 0, .int .u32 0, .int .u32 0, .int .u32 0, .int .u32 0, .slice none 0 0, .int .i64 200064]] w w (zerosB 32) 8 := end_bad v0 (.slice none 0 0) 0 200064 w ⟨_, _, rfl⟩ (by decide)
theorem ne_2 {w : World} (h : GlD Tg Tf w) (G : V8) (a : Option Addr) (c : Nat) (hG : G.ok) (hc : a = none → c = 0) : IDs Tryd.prog 12 #[.agg #[.int .u32 G.a, .int .u32 G.b, .int .u32 G.c, .int .u32 G.d, .int .u32 G.e, .int .u32 G.f, .int .u32 G.g, .int .u32 G.h, .slice a 0 c, .int .i64 200000]] w w (endF G [] 200000) 0 :=
  end_ok (Tg := Tg) G (.slice a 0 c) [] 200000 w hG (.inl ⟨a, c, rfl, hc, rfl⟩) bytes_nil rfl (by decide) h.1
theorem endF_length (G : V8) (r : List Int) (n : Nat) : (endF G r n).length = 32 := writtenN_length _ 8
theorem cmp_lit (a b : List Int) (ca cb : Array Value) (n : Int) (h1 : u8s a = ca) (h2 : u8s b = cb) (la : a.length = 32) (lb : b.length = 32) (ba : Bytes a) (bb : Bytes b) (hn : cmpF a b = n) (w : World) :
    Calls Tryd.prog 13 #[.agg ca, .agg cb] w fun e w' => e = .returned (.int .i64 n) ∧ Below w.heap.size w w' := by
  subst h1 h2 hn
  exact cmp_any a b w la lb ba bb
theorem nc_1 (w : World) : Calls Tryd.prog 13 #[.agg #[.int .u8 0, .int .u8 0, .int .u8 0, .int .u8 0, .int .u8 0, .int .u8 0, .int .u8 0, .int .u8 0, .int .u8 0, .int .u8 0, .int .u8 0, .int .u8 0, .int .u8 0, .int .u8 0, .int .u8 0, .int .u8 0, .int .u8 0, .int .u8 0, .int .u8 0, .int .u8 0, .int .u8 0, .int .u8 0, .int .u8 0, .int .u8 0, .int .u8 0, .int .u8 0, .int .u8 0, .int .u8 0, .int .u8 0, .int .u8 0, .int .u8 0, .int .u8 0], .agg #[.int .u8 0, .int .u8 0, .int .u8 0, .int .u8 0, .int .u8 0, .int .u8 0, .int .u8 0, .int .u8 0, .int .u8 0, .int .u8 0, .int .u8 0, .int .u8 0, .int .u8 0, .int .u8 0, .int .u8 0, .int .u8 0, .int .u8 0, .int .u8 0, .int .u8 0, .int .u8 0, .int .u8 0, .int .u8 0, .int .u8 0, .int .u8 0, .int .u8 0, .int .u8 0, .int .u8 0, .int .u8 0, .int .u8 0, .int .u8 0, .int .u8 0, .int .u8 1]] w fun e w' => e = .returned (.int .i64 (-1)) ∧ Below w.heap.size w w' := cmp_lit [0, 0, 0, 0, 0, 0, 0, 0, 0, 0, 0, 0, 0, 0, 0, 0, 0, 0, 0, 0, 0, 0, 0, 0, 0, 0, 0, 0, 0, 0, 0, 0] [0, 0, 0, 0, 0, 0, 0, 0, 0, 0, 0, 0, 0, 0, 0, 0, 0, 0, 0, 0, 0, 0, 0, 0, 0, 0, 0, 0, 0, 0, 0, 1] _ _ _ rfl rfl rfl rfl (bytesL (by decide)) (bytesL (by decide)) (by decide +kernel) w
theorem nc_2 (w : World) : Calls Tryd.prog 13 #[.agg #[.int .u8 1, .int .u8 0, .int .u8 0, .int .u8 0, .int .u8 0, .int .u8 0, .int .u8 0, .int .u8 0, .int .u8 0, .int .u8 0, .int .u8 0, .int .u8 0, .int .u8 0, .int .u8 0, .int .u8 0, .int .u8 0, .int .u8 0, .int .u8 0, .int .u8 0, .int .u8 0, .int .u8 0, .int .u8 0, .int .u8 0, .int .u8 0, .int .u8 0, .int .u8 0, .int .u8 0, .int .u8 0, .int .u8 0, .int .u8 0, .int .u8 0, .int .u8 0], .agg #[.int .u8 0, .int .u8 0, .int .u8 0, .int .u8 0, .int .u8 0, .int .u8 0, .int .u8 0, .int .u8 0, .int .u8 0, .int .u8 0, .int .u8 0, .int .u8 0, .int .u8 0, .int .u8 0, .int .u8 0, .int .u8 0, .int .u8 0, .int .u8 0, .int .u8 0, .int .u8 0, .int .u8 0, .int .u8 0, .int .u8 0, .int .u8 0, .int .u8 0, .int .u8 0, .int .u8 0, .int .u8 0, .int .u8 0, .int .u8 0, .int .u8 0, .int .u8 255]] w fun e w' => e = .returned (.int .i64 1) ∧ Below w.heap.size w w' := cmp_lit [1, 0, 0, 0, 0, 0, 0, 0, 0, 0, 0, 0, 0, 0, 0, 0, 0, 0, 0, 0, 0, 0, 0, 0, 0, 0, 0, 0, 0, 0, 0, 0] [0, 0, 0, 0, 0, 0, 0, 0, 0, 0, 0, 0, 0, 0, 0, 0, 0, 0, 0, 0, 0, 0, 0, 0, 0, 0, 0, 0, 0, 0, 0, 255] _ _ _ rfl rfl rfl rfl (bytesL (by decide)) (bytesL (by decide)) (by decide +kernel) w
theorem nc_3 (w : World) : Calls Tryd.prog 13 #[.agg #[.int .u8 255, .int .u8 0, .int .u8 0, .int .u8 0, .int .u8 0, .int .u8 0, .int .u8 0, .int .u8 0, .int .u8 0, .int .u8 0, .int .u8 0, .int .u8 0, .int .u8 0, .int .u8 0, .int .u8 0, .int .u8 0, .int .u8 0, .int .u8 0, .int .u8 0, .int .u8 0, .int .u8 0, .int .u8 0, .int .u8 0, .int .u8 0, .int .u8 0, .int .u8 0, .int .u8 0, .int .u8 0, .int .u8 0, .int .u8 0, .int .u8 0, .int .u8 0], .agg #[.int .u8 255, .int .u8 0, .int .u8 0, .int .u8 0, .int .u8 0, .int .u8 0, .int .u8 0, .int .u8 0, .int .u8 0, .int .u8 0, .int .u8 0, .int .u8 0, .int .u8 0, .int .u8 0, .int .u8 0, .int .u8 0, .int .u8 0, .int .u8 0, .int .u8 0, .int .u8 0, .int .u8 0, .int .u8 0, .int .u8 0, .int .u8 0, .int .u8 0, .int .u8 0, .int .u8 0, .int .u8 0, .int .u8 0, .int .u8 0, .int .u8 0, .int .u8 0]] w fun e w' => e = .returned (.int .i64 0) ∧ Below w.heap.size w w' := cmp_lit [255, 0, 0, 0, 0, 0, 0, 0, 0, 0, 0, 0, 0, 0, 0, 0, 0, 0, 0, 0, 0, 0, 0, 0, 0, 0, 0, 0, 0, 0, 0, 0] [255, 0, 0, 0, 0, 0, 0, 0, 0, 0, 0, 0, 0, 0, 0, 0, 0, 0, 0, 0, 0, 0, 0, 0, 0, 0, 0, 0, 0, 0, 0, 0] _ _ _ rfl rfl rfl rfl (bytesL (by decide)) (bytesL (by decide)) (by decide +kernel) w
end Go.Proofs.YtbnoomogdbnheaaDoor
