import Derived.Test.YtmoekmonkpihhaaGreatMWa
import Derived.Test.YtmoekmonkpihhaaGreatMSA
import Derived.Test.YtmoekmonkpihhaaGreatMQw
import Derived.Test.YtmoekmonkpihhaaGreatTS2
set_option linter.unusedVariables false
namespace Go.Proofs.YtmoekmonkpihhaaGreat
open Go.RowKit Go.Sort

theorem frozen3w {W : World} {g : Nat} {cs : Array Value} {t : TypeId} (h : W.heap[g]? = some (.cells cs t (0, 0))) : W.frozen? ⟨g, 0, none⟩ = false ∧ W.frozen? ⟨g, 1, none⟩ = false ∧ W.frozen? ⟨g, 2, none⟩ = false :=
  ⟨frozen_of_row W _ 0 _ t h, frozen_of_row W _ 1 _ t h, frozen_of_row W _ 2 _ t h⟩
theorem touch_kept {W W' : World} {lo hi g : Nat} {o : Obj} (ht : Touch lo hi W W') (h : W.heap[g]? = some o) (ho : g < lo ∨ hi ≤ g) : W'.heap[g]? = some o := (ht.block g (Array.getElem?_eq_some_iff.1 h).1 ho).trans h
theorem set12 {W : World} {g t : Nat} {c0 c1 c2 : Value} (h : W.heap[g]? = some (.cells #[c0, c1, c2] t (0, 0))) (v1 v2 : Value) : ((W.setCell ⟨g, 1, none⟩ v1).setCell ⟨g, 2, none⟩ v2).heap[g]? = some (.cells #[c0, v1, v2] t (0, 0)) := by
  exact heap_setCell_same _ g 2 _ t _ (heap_setCell_same W g 1 _ t _ h)

/-- What is known of a region (RJ). -/
def szA (cd : Int) (G B : Nat) : RSpec where
  m := 8
  n := 11
  slots := [69, 70, 71, 72, 100004, 100005, 100006, 15, 100008, 100009, 100010]
  kills := [[], [], [], [], [], [], [], [], [4], [5], [6]]
  pres := [[], [], [], [], [], [], [], [], [], [], []]
  fact := fun k v w => match k with
    | 0 => v = .agg #[.int .i64 0, .int .i64 0, .int .u64 0]
    | 1 => v = .agg #[.int .u64 0, .int .i64 0, .slice none 0 0]
    | 2 => v = .agg #[.int .i64 0, .int .u64 0, .int .i64 0, .int .i64 0]
    | 3 => v = .int .i64 cd
    | 4 => w.heap[(G + 1 + 1 + 1 + 1)]? = some (.cells #[.int .i64 0, .int .i64 0, .int .u64 0] 34 (0, 0))
    | 5 => w.heap[(G + 1 + 1 + 1 + 1 + 1)]? = some (.cells #[.int .u64 0, .int .i64 0, .slice none 0 0] 36 (0, 0))
    | 6 => w.heap[(G + 1 + 1 + 1 + 1 + 1 + 1)]? = some (.cells #[.int .i64 0, .int .u64 0, .int .i64 0, .int .i64 0] 37 (0, 0))
    | 7 => v = .int .i64 cd
    | 8 => w.heap[(G + 1 + 1 + 1 + 1)]? = some (.cells #[.int .i64 0, .int .i64 0, .int .u64 0] 34 (0, 0))
    | 9 => w.heap[(G + 1 + 1 + 1 + 1 + 1)]? = some (.cells #[.int .u64 0, .int .i64 0, .slice none 0 0] 36 (0, 0))
    | _ => w.heap[(G + 1 + 1 + 1 + 1 + 1 + 1)]? = some (.cells #[.int .i64 0, .int .u64 0, .int .i64 0, .int .i64 0] 37 (0, 0))
set_option linter.unusedVariables false in
theorem szA_stb (cd : Int) (G B : Nat) (k : Nat) (hk : k < 11) : StB ((szA cd G (B)).fact k) := by
  match k, hk with
  | 0, _ => exact fun _ _ _ h _ => h
  | 1, _ => exact fun _ _ _ h _ => h
  | 2, _ => exact fun _ _ _ h _ => h
  | 3, _ => exact fun _ _ _ h _ => h
  | 4, _ => exact fun _ _ _ q_0 hb => below_kept q_0 hb
  | 5, _ => exact fun _ _ _ q_0 hb => below_kept q_0 hb
  | 6, _ => exact fun _ _ _ q_0 hb => below_kept q_0 hb
  | 7, _ => exact fun _ _ _ h _ => h
  | 8, _ => exact fun _ _ _ q_0 hb => below_kept q_0 hb
  | 9, _ => exact fun _ _ _ q_0 hb => below_kept q_0 hb
  | 10, _ => exact fun _ _ _ q_0 hb => below_kept q_0 hb
  | k + 11, hk => omega
set_option linter.unusedVariables false in
theorem szA_st4 (cd : Int) (G B : Nat) {W W2 : World} {cs : Array Value} {fr : Nat × Nat} (hg : W.heap[(G + 1 + 1 + 1 + 1)]? = some (.cells cs 34 fr)) (ht : Touch ((G + 1 + 1 + 1 + 1)) ((G + 1 + 1 + 1 + 1) + 1) W W2) (k : Nat) (hk : k < 11) (hne : k ≠ 4) (hkill : 4 ∉ (szA cd G (B)).kill k) (v : Value) (hfact : (szA cd G (B)).fact k v W) : (szA cd G (B)).fact k v W2 := by
  match k, hk, hne, hkill, hfact with
  | 0, _, _, _, hq => exact hq
  | 1, _, _, _, hq => exact hq
  | 2, _, _, _, hq => exact hq
  | 3, _, _, _, hq => exact hq
  | 4, _, hne, _, _ => exact absurd rfl hne
  | 5, _, _, _, q_0 => exact box_box q_0 hg (by decide) ht
  | 6, _, _, _, q_0 => exact box_box q_0 hg (by decide) ht
  | 7, _, _, _, hq => exact hq
  | 8, _, _, hkill, _ => exact absurd (List.Mem.head _) hkill
  | 9, _, _, _, q_0 => exact box_box q_0 hg (by decide) ht
  | 10, _, _, _, q_0 => exact box_box q_0 hg (by decide) ht
  | k + 11, hk, _, _, _ => omega
set_option linter.unusedVariables false in
theorem szA_st5 (cd : Int) (G B : Nat) {W W2 : World} {cs : Array Value} {fr : Nat × Nat} (hg : W.heap[(G + 1 + 1 + 1 + 1 + 1)]? = some (.cells cs 36 fr)) (ht : Touch ((G + 1 + 1 + 1 + 1 + 1)) ((G + 1 + 1 + 1 + 1 + 1) + 1) W W2) (k : Nat) (hk : k < 11) (hne : k ≠ 5) (hkill : 5 ∉ (szA cd G (B)).kill k) (v : Value) (hfact : (szA cd G (B)).fact k v W) : (szA cd G (B)).fact k v W2 := by
  match k, hk, hne, hkill, hfact with
  | 0, _, _, _, hq => exact hq
  | 1, _, _, _, hq => exact hq
  | 2, _, _, _, hq => exact hq
  | 3, _, _, _, hq => exact hq
  | 4, _, _, _, q_0 => exact box_box q_0 hg (by decide) ht
  | 5, _, hne, _, _ => exact absurd rfl hne
  | 6, _, _, _, q_0 => exact box_box q_0 hg (by decide) ht
  | 7, _, _, _, hq => exact hq
  | 8, _, _, _, q_0 => exact box_box q_0 hg (by decide) ht
  | 9, _, _, hkill, _ => exact absurd (List.Mem.head _) hkill
  | 10, _, _, _, q_0 => exact box_box q_0 hg (by decide) ht
  | k + 11, hk, _, _, _ => omega
set_option linter.unusedVariables false in
theorem szA_st6 (cd : Int) (G B : Nat) {W W2 : World} {cs : Array Value} {fr : Nat × Nat} (hg : W.heap[(G + 1 + 1 + 1 + 1 + 1 + 1)]? = some (.cells cs 37 fr)) (ht : Touch ((G + 1 + 1 + 1 + 1 + 1 + 1)) ((G + 1 + 1 + 1 + 1 + 1 + 1) + 1) W W2) (k : Nat) (hk : k < 11) (hne : k ≠ 6) (hkill : 6 ∉ (szA cd G (B)).kill k) (v : Value) (hfact : (szA cd G (B)).fact k v W) : (szA cd G (B)).fact k v W2 := by
  match k, hk, hne, hkill, hfact with
  | 0, _, _, _, hq => exact hq
  | 1, _, _, _, hq => exact hq
  | 2, _, _, _, hq => exact hq
  | 3, _, _, _, hq => exact hq
  | 4, _, _, _, q_0 => exact box_box q_0 hg (by decide) ht
  | 5, _, _, _, q_0 => exact box_box q_0 hg (by decide) ht
  | 6, _, hne, _, _ => exact absurd rfl hne
  | 7, _, _, _, hq => exact hq
  | 8, _, _, _, q_0 => exact box_box q_0 hg (by decide) ht
  | 9, _, _, _, q_0 => exact box_box q_0 hg (by decide) ht
  | 10, _, _, hkill, _ => exact absurd (List.Mem.head _) hkill
  | k + 11, hk, _, _, _ => omega
/-- What is known of a region (RJ). -/
def szB (cd : Int) (G B : Nat) : RSpec where
  m := 9
  n := 12
  slots := [89, 90, 91, 92, 93, 100005, 100006, 100007, 15, 100009, 100010, 100011]
  kills := [[], [], [], [], [], [], [], [], [], [5], [6], [7]]
  pres := [[], [], [], [], [], [], [], [], [], [], [], []]
  fact := fun k v w => match k with
    | 0 => v = .agg #[.int .i64 0, .int .i64 0, .int .u64 0]
    | 1 => v = .agg #[.int .u64 0, .int .i64 0, .slice none 0 0]
    | 2 => v = .agg #[.int .i64 0, .int .u64 0, .int .i64 0, .int .i64 0]
    | 3 => v = .int .i64 cd
    | 4 => v = .int .i64 (10 + cd)
    | 5 => w.heap[(G + 1 + 1 + 1 + 1)]? = some (.cells #[.int .i64 0, .int .i64 0, .int .u64 0] 34 (0, 0))
    | 6 => w.heap[(G + 1 + 1 + 1 + 1 + 1)]? = some (.cells #[.int .u64 0, .int .i64 0, .slice none 0 0] 36 (0, 0))
    | 7 => w.heap[(G + 1 + 1 + 1 + 1 + 1 + 1)]? = some (.cells #[.int .i64 0, .int .u64 0, .int .i64 0, .int .i64 0] 37 (0, 0))
    | 8 => v = .int .i64 (10 + cd)
    | 9 => w.heap[(G + 1 + 1 + 1 + 1)]? = some (.cells #[.int .i64 0, .int .i64 0, .int .u64 0] 34 (0, 0))
    | 10 => w.heap[(G + 1 + 1 + 1 + 1 + 1)]? = some (.cells #[.int .u64 0, .int .i64 0, .slice none 0 0] 36 (0, 0))
    | _ => w.heap[(G + 1 + 1 + 1 + 1 + 1 + 1)]? = some (.cells #[.int .i64 0, .int .u64 0, .int .i64 0, .int .i64 0] 37 (0, 0))
set_option linter.unusedVariables false in
theorem szB_stb (cd : Int) (G B : Nat) (k : Nat) (hk : k < 12) : StB ((szB cd G (B)).fact k) := by
  match k, hk with
  | 0, _ => exact fun _ _ _ h _ => h
  | 1, _ => exact fun _ _ _ h _ => h
  | 2, _ => exact fun _ _ _ h _ => h
  | 3, _ => exact fun _ _ _ h _ => h
  | 4, _ => exact fun _ _ _ h _ => h
  | 5, _ => exact fun _ _ _ q_0 hb => below_kept q_0 hb
  | 6, _ => exact fun _ _ _ q_0 hb => below_kept q_0 hb
  | 7, _ => exact fun _ _ _ q_0 hb => below_kept q_0 hb
  | 8, _ => exact fun _ _ _ h _ => h
  | 9, _ => exact fun _ _ _ q_0 hb => below_kept q_0 hb
  | 10, _ => exact fun _ _ _ q_0 hb => below_kept q_0 hb
  | 11, _ => exact fun _ _ _ q_0 hb => below_kept q_0 hb
  | k + 12, hk => omega
set_option linter.unusedVariables false in
theorem szB_st5 (cd : Int) (G B : Nat) {W W2 : World} {cs : Array Value} {fr : Nat × Nat} (hg : W.heap[(G + 1 + 1 + 1 + 1)]? = some (.cells cs 34 fr)) (ht : Touch ((G + 1 + 1 + 1 + 1)) ((G + 1 + 1 + 1 + 1) + 1) W W2) (k : Nat) (hk : k < 12) (hne : k ≠ 5) (hkill : 5 ∉ (szB cd G (B)).kill k) (v : Value) (hfact : (szB cd G (B)).fact k v W) : (szB cd G (B)).fact k v W2 := by
  match k, hk, hne, hkill, hfact with
  | 0, _, _, _, hq => exact hq
  | 1, _, _, _, hq => exact hq
  | 2, _, _, _, hq => exact hq
  | 3, _, _, _, hq => exact hq
  | 4, _, _, _, hq => exact hq
  | 5, _, hne, _, _ => exact absurd rfl hne
  | 6, _, _, _, q_0 => exact box_box q_0 hg (by decide) ht
  | 7, _, _, _, q_0 => exact box_box q_0 hg (by decide) ht
  | 8, _, _, _, hq => exact hq
  | 9, _, _, hkill, _ => exact absurd (List.Mem.head _) hkill
  | 10, _, _, _, q_0 => exact box_box q_0 hg (by decide) ht
  | 11, _, _, _, q_0 => exact box_box q_0 hg (by decide) ht
  | k + 12, hk, _, _, _ => omega
set_option linter.unusedVariables false in
theorem szB_st6 (cd : Int) (G B : Nat) {W W2 : World} {cs : Array Value} {fr : Nat × Nat} (hg : W.heap[(G + 1 + 1 + 1 + 1 + 1)]? = some (.cells cs 36 fr)) (ht : Touch ((G + 1 + 1 + 1 + 1 + 1)) ((G + 1 + 1 + 1 + 1 + 1) + 1) W W2) (k : Nat) (hk : k < 12) (hne : k ≠ 6) (hkill : 6 ∉ (szB cd G (B)).kill k) (v : Value) (hfact : (szB cd G (B)).fact k v W) : (szB cd G (B)).fact k v W2 := by
  match k, hk, hne, hkill, hfact with
  | 0, _, _, _, hq => exact hq
  | 1, _, _, _, hq => exact hq
  | 2, _, _, _, hq => exact hq
  | 3, _, _, _, hq => exact hq
  | 4, _, _, _, hq => exact hq
  | 5, _, _, _, q_0 => exact box_box q_0 hg (by decide) ht
  | 6, _, hne, _, _ => exact absurd rfl hne
  | 7, _, _, _, q_0 => exact box_box q_0 hg (by decide) ht
  | 8, _, _, _, hq => exact hq
  | 9, _, _, _, q_0 => exact box_box q_0 hg (by decide) ht
  | 10, _, _, hkill, _ => exact absurd (List.Mem.head _) hkill
  | 11, _, _, _, q_0 => exact box_box q_0 hg (by decide) ht
  | k + 12, hk, _, _, _ => omega
set_option linter.unusedVariables false in
theorem szB_st7 (cd : Int) (G B : Nat) {W W2 : World} {cs : Array Value} {fr : Nat × Nat} (hg : W.heap[(G + 1 + 1 + 1 + 1 + 1 + 1)]? = some (.cells cs 37 fr)) (ht : Touch ((G + 1 + 1 + 1 + 1 + 1 + 1)) ((G + 1 + 1 + 1 + 1 + 1 + 1) + 1) W W2) (k : Nat) (hk : k < 12) (hne : k ≠ 7) (hkill : 7 ∉ (szB cd G (B)).kill k) (v : Value) (hfact : (szB cd G (B)).fact k v W) : (szB cd G (B)).fact k v W2 := by
  match k, hk, hne, hkill, hfact with
  | 0, _, _, _, hq => exact hq
  | 1, _, _, _, hq => exact hq
  | 2, _, _, _, hq => exact hq
  | 3, _, _, _, hq => exact hq
  | 4, _, _, _, hq => exact hq
  | 5, _, _, _, q_0 => exact box_box q_0 hg (by decide) ht
  | 6, _, _, _, q_0 => exact box_box q_0 hg (by decide) ht
  | 7, _, hne, _, _ => exact absurd rfl hne
  | 8, _, _, _, hq => exact hq
  | 9, _, _, _, q_0 => exact box_box q_0 hg (by decide) ht
  | 10, _, _, _, q_0 => exact box_box q_0 hg (by decide) ht
  | 11, _, _, hkill, _ => exact absurd (List.Mem.head _) hkill
  | k + 12, hk, _, _, _ => omega
/-- What is known of a region (RJ). -/
def s12Sp (hl hs hr ha : Int) (ag : Option Addr) (ng cg : Nat) (sc x h n at2 : Int) (bd sg : List Int) (t : Sc4) (cd : Int) (G B : Nat) : RSpec where
  m := 18
  n := 20
  slots := [74, 75, 76, 77, 78, 79, 80, 81, 82, 83, 73, 84, 85, 86, 18, 17, 18, 19, 100018, 100019]
  kills := [[], [], [], [], [], [], [], [], [], [], [], [], [], [], [16], [], [], [], [], []]
  pres := [[], [], [], [], [], [], [], [], [], [], [], [], [], [], [], [], [14], [], [], []]
  fact := fun k v w => match k with
    | 0 => v = .agg #[.int .i64 sc, .int .u64 x, .int .i64 h, .int .i64 n]
    | 1 => v = .pointer (some ⟨(G + 1), 0, none⟩)
    | 2 => v = .int .i64 hl
    | 3 => v = .pointer (some ⟨(G + 1), 1, none⟩)
    | 4 => v = .int .i64 hs
    | 5 => v = .pointer (some ⟨(G + 1), 2, none⟩)
    | 6 => v = .int .u64 hr
    | 7 => v = .int .i64 at2
    | 8 => ∃ a1 c1, v = .slice a1 bd.length c1 ∧ Own B w a1 bd.length c1 bd
    | 9 => ∃ a2 c2, v = .tuple #[.slice a2 sg.length c2, .agg #[.int .i64 t.1, .int .u64 t.2.1, .int .i64 t.2.2.1, .int .i64 t.2.2.2], .int .i64 cd] ∧ Own B w a2 sg.length c2 sg
    | 10 => ∃ a2 c2, v = .tuple #[.slice a2 sg.length c2, .agg #[.int .i64 t.1, .int .u64 t.2.1, .int .i64 t.2.2.1, .int .i64 t.2.2.2], .int .i64 cd] ∧ Own B w a2 sg.length c2 sg
    | 11 => ∃ a2 c2, v = .slice a2 sg.length c2 ∧ Own B w a2 sg.length c2 sg
    | 12 => v = .agg #[.int .i64 t.1, .int .u64 t.2.1, .int .i64 t.2.2.1, .int .i64 t.2.2.2]
    | 13 => v = .int .i64 cd
    | 14 => ∃ gb14, v = .pointer (some ⟨gb14, 0, none⟩) ∧ w.heap[gb14]? = some (.cells #[.int .i64 0, .int .u64 0, .int .i64 0, .int .i64 0] 37 (0, 0)) ∧ B ≤ gb14
    | 15 => ∃ a2 c2, v = .slice a2 sg.length c2 ∧ Own B w a2 sg.length c2 sg
    | 16 => ∃ gs16, v = .pointer (some ⟨gs16, 0, none⟩) ∧ w.heap[gs16]? = some (.cells #[.int .i64 t.1, .int .u64 t.2.1, .int .i64 t.2.2.1, .int .i64 t.2.2.2] 37 (0, 0)) ∧ B ≤ gs16
    | 17 => v = .int .i64 cd
    | 18 => w.heap[(G + 1 + 1 + 1)]? = some (.cells #[.int .i64 sc, .int .u64 x, .int .i64 h, .int .i64 n] 37 (0, 0)) ∧ G + 1 + 1 + 1 < B
    | _ => w.heap[(G + 1)]? = some (.cells #[.int .i64 hl, .int .i64 hs, .int .u64 hr, .int .i64 ha, .slice ag ng cg] 41 (0, 0))
set_option linter.unusedVariables false in
theorem s12Sp_stb (hl hs hr ha : Int) (ag : Option Addr) (ng cg : Nat) (sc x h n at2 : Int) (bd sg : List Int) (t : Sc4) (cd : Int) (G B : Nat) (k : Nat) (hk : k < 20) : StB ((s12Sp hl hs hr ha ag ng cg sc x h n at2 bd sg t cd G (B)).fact k) := by
  match k, hk with
  | 0, _ => exact fun _ _ _ h _ => h
  | 1, _ => exact fun _ _ _ h _ => h
  | 2, _ => exact fun _ _ _ h _ => h
  | 3, _ => exact fun _ _ _ h _ => h
  | 4, _ => exact fun _ _ _ h _ => h
  | 5, _ => exact fun _ _ _ h _ => h
  | 6, _ => exact fun _ _ _ h _ => h
  | 7, _ => exact fun _ _ _ h _ => h
  | 8, _ => exact fun _ _ _ ⟨a1, c1, hv, q_0⟩ hb => ⟨a1, c1, hv, q_0.kept hb⟩
  | 9, _ => exact fun _ _ _ ⟨a2, c2, hv, q_0⟩ hb => ⟨a2, c2, hv, q_0.kept hb⟩
  | 10, _ => exact fun _ _ _ ⟨a2, c2, hv, q_0⟩ hb => ⟨a2, c2, hv, q_0.kept hb⟩
  | 11, _ => exact fun _ _ _ ⟨a2, c2, hv, q_0⟩ hb => ⟨a2, c2, hv, q_0.kept hb⟩
  | 12, _ => exact fun _ _ _ h _ => h
  | 13, _ => exact fun _ _ _ h _ => h
  | 14, _ => exact fun _ _ _ ⟨gb14, hv, q_0, q_1⟩ hb => ⟨gb14, hv, below_kept q_0 hb, q_1⟩
  | 15, _ => exact fun _ _ _ ⟨a2, c2, hv, q_0⟩ hb => ⟨a2, c2, hv, q_0.kept hb⟩
  | 16, _ => exact fun _ _ _ ⟨gs16, hv, q_0, q_1⟩ hb => ⟨gs16, hv, below_kept q_0 hb, q_1⟩
  | 17, _ => exact fun _ _ _ h _ => h
  | 18, _ => exact fun _ _ _ ⟨q_0, q_1⟩ hb => ⟨below_kept q_0 hb, q_1⟩
  | 19, _ => exact fun _ _ _ q_0 hb => below_kept q_0 hb
  | k + 20, hk => omega
set_option linter.unusedVariables false in
theorem s12Sp_st16 (hl hs hr ha : Int) (ag : Option Addr) (ng cg : Nat) (sc x h n at2 : Int) (bd sg : List Int) (t : Sc4) (cd : Int) (G B : Nat) {W W2 : World} {g : Nat} {cs : Array Value} {fr : Nat × Nat} (hg : W.heap[g]? = some (.cells cs 37 fr)) (ht : Touch (g) (g + 1) W W2) (hge : B ≤ g) (k : Nat) (hk : k < 20) (hne : k ≠ 16) (hkill : 16 ∉ (s12Sp hl hs hr ha ag ng cg sc x h n at2 bd sg t cd G (B)).kill k) (v : Value) (hfact : (s12Sp hl hs hr ha ag ng cg sc x h n at2 bd sg t cd G (B)).fact k v W) : (s12Sp hl hs hr ha ag ng cg sc x h n at2 bd sg t cd G (B)).fact k v W2 := by
  match k, hk, hne, hkill, hfact with
  | 0, _, _, _, hq => exact hq
  | 1, _, _, _, hq => exact hq
  | 2, _, _, _, hq => exact hq
  | 3, _, _, _, hq => exact hq
  | 4, _, _, _, hq => exact hq
  | 5, _, _, _, hq => exact hq
  | 6, _, _, _, hq => exact hq
  | 7, _, _, _, hq => exact hq
  | 8, _, _, _, ⟨a1, c1, hv, q_0⟩ => exact ⟨a1, c1, hv, ⟨ownsRow_box q_0.row hg (by decide) ht, q_0.byte⟩⟩
  | 9, _, _, _, ⟨a2, c2, hv, q_0⟩ => exact ⟨a2, c2, hv, ⟨ownsRow_box q_0.row hg (by decide) ht, q_0.byte⟩⟩
  | 10, _, _, _, ⟨a2, c2, hv, q_0⟩ => exact ⟨a2, c2, hv, ⟨ownsRow_box q_0.row hg (by decide) ht, q_0.byte⟩⟩
  | 11, _, _, _, ⟨a2, c2, hv, q_0⟩ => exact ⟨a2, c2, hv, ⟨ownsRow_box q_0.row hg (by decide) ht, q_0.byte⟩⟩
  | 12, _, _, _, hq => exact hq
  | 13, _, _, _, hq => exact hq
  | 14, _, _, hkill, _ => exact absurd (List.Mem.head _) hkill
  | 15, _, _, _, ⟨a2, c2, hv, q_0⟩ => exact ⟨a2, c2, hv, ⟨ownsRow_box q_0.row hg (by decide) ht, q_0.byte⟩⟩
  | 16, _, hne, _, _ => exact absurd rfl hne
  | 17, _, _, _, hq => exact hq
  | 18, _, _, _, ⟨q_0, q_1⟩ => exact ⟨(ht.block _ (Array.getElem?_eq_some_iff.1 q_0).1 (by omega)).trans q_0, q_1⟩
  | 19, _, _, _, q_0 => exact box_box q_0 hg (by decide) ht
  | k + 20, hk, _, _, _ => omega
/-- What is known of a region (RJ). -/
def s18Sp (wl hs hr : Int) (p : Int × Int × Int) (kd at2 : Int) (sg : List Int) (t : Sc4) (a2 : Option Addr) (c2 gs gp G B : Nat) : RSpec where
  m := 11
  n := 18
  slots := [105, 106, 107, 108, 109, 110, 111, 100007, 100008, 100009, 15, 100011, 100012, 100013, 100014, 100015, 100016, 100017]
  kills := [[], [], [], [], [], [], [], [], [], [], [], [7], [8], [9], [], [], [], []]
  pres := [[], [], [], [], [], [], [], [], [], [], [], [], [], [], [], [], [], []]
  fact := fun k v w => match k with
    | 0 => v = .agg #[.int .i64 wl, .int .i64 hs, .int .u64 hr]
    | 1 => v = .agg #[.int .i64 p.1, .int .u64 p.2.1, .int .i64 p.2.2]
    | 2 => v = .int .u64 kd
    | 3 => v = .int .i64 at2
    | 4 => v = .slice a2 sg.length c2
    | 5 => v = .agg #[.int .u64 kd, .int .i64 at2, .slice a2 sg.length c2]
    | 6 => v = .agg #[.int .i64 t.1, .int .u64 t.2.1, .int .i64 t.2.2.1, .int .i64 t.2.2.2]
    | 7 => w.heap[(G + 1 + 1 + 1 + 1)]? = some (.cells #[.int .i64 wl, .int .i64 hs, .int .u64 hr] 34 (0, 0))
    | 8 => w.heap[(G + 1 + 1 + 1 + 1 + 1)]? = some (.cells #[.int .u64 kd, .int .i64 at2, .slice a2 sg.length c2] 36 (0, 0))
    | 9 => w.heap[(G + 1 + 1 + 1 + 1 + 1 + 1)]? = some (.cells #[.int .i64 t.1, .int .u64 t.2.1, .int .i64 t.2.2.1, .int .i64 t.2.2.2] 37 (0, 0))
    | 10 => v = .int .i64 0
    | 11 => w.heap[(G + 1 + 1 + 1 + 1)]? = some (.cells #[.int .i64 0, .int .i64 0, .int .u64 0] 34 (0, 0))
    | 12 => w.heap[(G + 1 + 1 + 1 + 1 + 1)]? = some (.cells #[.int .u64 0, .int .i64 0, .slice none 0 0] 36 (0, 0))
    | 13 => w.heap[(G + 1 + 1 + 1 + 1 + 1 + 1)]? = some (.cells #[.int .i64 0, .int .u64 0, .int .i64 0, .int .i64 0] 37 (0, 0))
    | 14 => w.heap[G]? = some (.cells #[.int .i64 wl, .int .i64 hs, .int .u64 hr] 34 (0, 0))
    | 15 => w.heap[gp]? = some (.cells #[.int .i64 p.1, .int .u64 p.2.1, .int .i64 p.2.2] 44 (0, 0))
    | 16 => w.heap[gs]? = some (.cells #[.int .i64 t.1, .int .u64 t.2.1, .int .i64 t.2.2.1, .int .i64 t.2.2.2] 37 (0, 0)) ∧ gs ≠ G + 1 + 1 + 1 + 1 + 1 + 1
    | _ => Own B w a2 sg.length c2 sg
set_option linter.unusedVariables false in
theorem s18Sp_stb (wl hs hr : Int) (p : Int × Int × Int) (kd at2 : Int) (sg : List Int) (t : Sc4) (a2 : Option Addr) (c2 gs gp G B : Nat) (k : Nat) (hk : k < 18) : StB ((s18Sp wl hs hr p kd at2 sg t a2 c2 gs gp G (B)).fact k) := by
  match k, hk with
  | 0, _ => exact fun _ _ _ h _ => h
  | 1, _ => exact fun _ _ _ h _ => h
  | 2, _ => exact fun _ _ _ h _ => h
  | 3, _ => exact fun _ _ _ h _ => h
  | 4, _ => exact fun _ _ _ h _ => h
  | 5, _ => exact fun _ _ _ h _ => h
  | 6, _ => exact fun _ _ _ h _ => h
  | 7, _ => exact fun _ _ _ q_0 hb => below_kept q_0 hb
  | 8, _ => exact fun _ _ _ q_0 hb => below_kept q_0 hb
  | 9, _ => exact fun _ _ _ q_0 hb => below_kept q_0 hb
  | 10, _ => exact fun _ _ _ h _ => h
  | 11, _ => exact fun _ _ _ q_0 hb => below_kept q_0 hb
  | 12, _ => exact fun _ _ _ q_0 hb => below_kept q_0 hb
  | 13, _ => exact fun _ _ _ q_0 hb => below_kept q_0 hb
  | 14, _ => exact fun _ _ _ q_0 hb => below_kept q_0 hb
  | 15, _ => exact fun _ _ _ q_0 hb => below_kept q_0 hb
  | 16, _ => exact fun _ _ _ ⟨q_0, q_1⟩ hb => ⟨below_kept q_0 hb, q_1⟩
  | 17, _ => exact fun _ _ _ q_0 hb => q_0.kept hb
  | k + 18, hk => omega
set_option linter.unusedVariables false in
theorem s18Sp_st7 (wl hs hr : Int) (p : Int × Int × Int) (kd at2 : Int) (sg : List Int) (t : Sc4) (a2 : Option Addr) (c2 gs gp G B : Nat) {W W2 : World} {cs : Array Value} {fr : Nat × Nat} (hg : W.heap[(G + 1 + 1 + 1 + 1)]? = some (.cells cs 34 fr)) (ht : Touch ((G + 1 + 1 + 1 + 1)) ((G + 1 + 1 + 1 + 1) + 1) W W2) (k : Nat) (hk : k < 18) (hne : k ≠ 7) (hkill : 7 ∉ (s18Sp wl hs hr p kd at2 sg t a2 c2 gs gp G (B)).kill k) (v : Value) (hfact : (s18Sp wl hs hr p kd at2 sg t a2 c2 gs gp G (B)).fact k v W) : (s18Sp wl hs hr p kd at2 sg t a2 c2 gs gp G (B)).fact k v W2 := by
  match k, hk, hne, hkill, hfact with
  | 0, _, _, _, hq => exact hq
  | 1, _, _, _, hq => exact hq
  | 2, _, _, _, hq => exact hq
  | 3, _, _, _, hq => exact hq
  | 4, _, _, _, hq => exact hq
  | 5, _, _, _, hq => exact hq
  | 6, _, _, _, hq => exact hq
  | 7, _, hne, _, _ => exact absurd rfl hne
  | 8, _, _, _, q_0 => exact box_box q_0 hg (by decide) ht
  | 9, _, _, _, q_0 => exact box_box q_0 hg (by decide) ht
  | 10, _, _, _, hq => exact hq
  | 11, _, _, hkill, _ => exact absurd (List.Mem.head _) hkill
  | 12, _, _, _, q_0 => exact box_box q_0 hg (by decide) ht
  | 13, _, _, _, q_0 => exact box_box q_0 hg (by decide) ht
  | 14, _, _, _, q_0 => exact (ht.block _ (Array.getElem?_eq_some_iff.1 q_0).1 (by omega)).trans q_0
  | 15, _, _, _, q_0 => exact box_box q_0 hg (by decide) ht
  | 16, _, _, _, ⟨q_0, q_1⟩ => exact ⟨box_box q_0 hg (by decide) ht, q_1⟩
  | 17, _, _, _, q_0 => exact ⟨ownsRow_box q_0.row hg (by decide) ht, q_0.byte⟩
  | k + 18, hk, _, _, _ => omega
set_option linter.unusedVariables false in
theorem s18Sp_st8 (wl hs hr : Int) (p : Int × Int × Int) (kd at2 : Int) (sg : List Int) (t : Sc4) (a2 : Option Addr) (c2 gs gp G B : Nat) {W W2 : World} {cs : Array Value} {fr : Nat × Nat} (hg : W.heap[(G + 1 + 1 + 1 + 1 + 1)]? = some (.cells cs 36 fr)) (ht : Touch ((G + 1 + 1 + 1 + 1 + 1)) ((G + 1 + 1 + 1 + 1 + 1) + 1) W W2) (k : Nat) (hk : k < 18) (hne : k ≠ 8) (hkill : 8 ∉ (s18Sp wl hs hr p kd at2 sg t a2 c2 gs gp G (B)).kill k) (v : Value) (hfact : (s18Sp wl hs hr p kd at2 sg t a2 c2 gs gp G (B)).fact k v W) : (s18Sp wl hs hr p kd at2 sg t a2 c2 gs gp G (B)).fact k v W2 := by
  match k, hk, hne, hkill, hfact with
  | 0, _, _, _, hq => exact hq
  | 1, _, _, _, hq => exact hq
  | 2, _, _, _, hq => exact hq
  | 3, _, _, _, hq => exact hq
  | 4, _, _, _, hq => exact hq
  | 5, _, _, _, hq => exact hq
  | 6, _, _, _, hq => exact hq
  | 7, _, _, _, q_0 => exact box_box q_0 hg (by decide) ht
  | 8, _, hne, _, _ => exact absurd rfl hne
  | 9, _, _, _, q_0 => exact box_box q_0 hg (by decide) ht
  | 10, _, _, _, hq => exact hq
  | 11, _, _, _, q_0 => exact box_box q_0 hg (by decide) ht
  | 12, _, _, hkill, _ => exact absurd (List.Mem.head _) hkill
  | 13, _, _, _, q_0 => exact box_box q_0 hg (by decide) ht
  | 14, _, _, _, q_0 => exact box_box q_0 hg (by decide) ht
  | 15, _, _, _, q_0 => exact box_box q_0 hg (by decide) ht
  | 16, _, _, _, ⟨q_0, q_1⟩ => exact ⟨box_box q_0 hg (by decide) ht, q_1⟩
  | 17, _, _, _, q_0 => exact ⟨ownsRow_box q_0.row hg (by decide) ht, q_0.byte⟩
  | k + 18, hk, _, _, _ => omega
set_option linter.unusedVariables false in
theorem s18Sp_st9 (wl hs hr : Int) (p : Int × Int × Int) (kd at2 : Int) (sg : List Int) (t : Sc4) (a2 : Option Addr) (c2 gs gp G B : Nat) {W W2 : World} {cs : Array Value} {fr : Nat × Nat} (hg : W.heap[(G + 1 + 1 + 1 + 1 + 1 + 1)]? = some (.cells cs 37 fr)) (ht : Touch ((G + 1 + 1 + 1 + 1 + 1 + 1)) ((G + 1 + 1 + 1 + 1 + 1 + 1) + 1) W W2) (k : Nat) (hk : k < 18) (hne : k ≠ 9) (hkill : 9 ∉ (s18Sp wl hs hr p kd at2 sg t a2 c2 gs gp G (B)).kill k) (v : Value) (hfact : (s18Sp wl hs hr p kd at2 sg t a2 c2 gs gp G (B)).fact k v W) : (s18Sp wl hs hr p kd at2 sg t a2 c2 gs gp G (B)).fact k v W2 := by
  match k, hk, hne, hkill, hfact with
  | 0, _, _, _, hq => exact hq
  | 1, _, _, _, hq => exact hq
  | 2, _, _, _, hq => exact hq
  | 3, _, _, _, hq => exact hq
  | 4, _, _, _, hq => exact hq
  | 5, _, _, _, hq => exact hq
  | 6, _, _, _, hq => exact hq
  | 7, _, _, _, q_0 => exact box_box q_0 hg (by decide) ht
  | 8, _, _, _, q_0 => exact box_box q_0 hg (by decide) ht
  | 9, _, hne, _, _ => exact absurd rfl hne
  | 10, _, _, _, hq => exact hq
  | 11, _, _, _, q_0 => exact box_box q_0 hg (by decide) ht
  | 12, _, _, _, q_0 => exact box_box q_0 hg (by decide) ht
  | 13, _, _, hkill, _ => exact absurd (List.Mem.head _) hkill
  | 14, _, _, _, q_0 => exact box_box q_0 hg (by decide) ht
  | 15, _, _, _, q_0 => exact box_box q_0 hg (by decide) ht
  | 16, _, _, _, ⟨q_0, q_1⟩ => exact ⟨(ht.block _ (Array.getElem?_eq_some_iff.1 q_0).1 (by omega)).trans q_0, q_1⟩
  | 17, _, _, _, q_0 => exact ⟨ownsRow_box q_0.row hg (by decide) ht, q_0.byte⟩
  | k + 18, hk, _, _, _ => omega

set_option maxRecDepth 10000 in
set_option maxHeartbeats 16000000 in
theorem specWatch_any (HSPEC : ∀ (seed h next : Int) (am : Option Addr) (n c : Nat) (bs : List Int) (w : World), U64 seed → Row w am n bs → n ≤ 1000000000000 → Calls Tryz.prog 43 #[tkv seed h next, .slice am n c] w fun e w' => ∃ v, e = .returned v ∧ SgR seed h next bs w.heap.size w' v ∧ Below w.heap.size w w') (wl ws wr hl hs hr ha : Int) (ag : Option Addr) (ng cg : Nat) (ss : List Int) (ps py ph : Int) (ap : Option Addr) (np cp : Nat) (zs : List Int) (at2 sc x h n : Int) (w : World)
    (hwr : U64 wr) (hhr : U64 hr) (hpy : U64 py) (hx : U64 x) (hhl : -9223372036854775808 ≤ hl ∧ hl ≤ 9223372036854775807) (hhs : -9223372036854775808 ≤ hs ∧ hs ≤ 9223372036854775807) (hat : -9223372036854775808 ≤ at2 ∧ at2 ≤ 9223372036854775807) (hg : Row w ag ng ss) (hng : ng ≤ 1048576) (hcg : ng ≤ cg) (hp : RowU w ap np zs) (hcp : np ≤ cp) (hcm : cp ≤ 9223372036854775807) :
    Calls Tryz.prog 5 #[.agg #[.int .i64 wl, .int .i64 ws, .int .u64 wr], .agg #[.int .i64 hl, .int .i64 hs, .int .u64 hr, .int .i64 ha, .slice ag ng cg], .slice ap np cp, .agg #[.int .i64 ps, .int .u64 py, .int .i64 ph], .int .i64 at2, .agg #[.int .i64 sc, .int .u64 x, .int .i64 h, .int .i64 n]] w fun e w' => ∃ a2 c2, e = .returned (wtOut (wtV wl ws wr hl hs hr ha ss ps py ph zs at2 sc x h n) a2 c2) ∧ Own w.heap.size w' a2 (wtV wl ws wr hl hs hr ha ss ps py ph zs at2 sc x h n).sg.length c2 (wtV wl ws wr hl hs hr ha ss ps py ph zs at2 sc x h n).sg ∧ Below w.heap.size w w' := by
  obtain ⟨V, hV⟩ : ∃ V, V = (wtV wl ws wr hl hs hr ha ss ps py ph zs at2 sc x h n) := ⟨_, rfl⟩
  obtain ⟨hB, hhB⟩ : ∃ hB, hB = hsR hl hs hr ha ps py ph (bodyOf 6 hl hs hr ha) ss := ⟨_, rfl⟩
  obtain ⟨cB, hcB⟩ : ∃ cB, cB = cxP wr ws hr hs zs := ⟨_, rfl⟩
  obtain ⟨bd, hbd⟩ : ∃ bd, bd = bodyOf 7 hl hs hr at2 := ⟨_, rfl⟩
  obtain ⟨sg, hsg⟩ : ∃ sg, sg = (saV sc x h n bd).1 := ⟨_, rfl⟩
  obtain ⟨t, ht⟩ : ∃ t, t = (saV sc x h n bd).2.1 := ⟨_, rfl⟩
  obtain ⟨cd, hcd⟩ : ∃ cd, cd = (saV sc x h n bd).2.2 := ⟨_, rfl⟩
  obtain ⟨p, hp0⟩ : ∃ p, p = (pubR sc x h n).1 := ⟨_, rfl⟩
  obtain ⟨pb, hpb⟩ : ∃ pb, pb = (pubR sc x h n).2 := ⟨_, rfl⟩
  obtain ⟨kd, hkd⟩ : ∃ kd, kd = kidN p.1 p.2.1 p.2.2 := ⟨_, rfl⟩
  obtain ⟨hE, hEl⟩ := bodyOf_enc 7 hl hs hr at2 (by decide) (by decide)
  obtain ⟨hE6, hEl6⟩ := bodyOf_enc 6 hl hs hr ha (by decide) (by decide)
  rw [← hbd] at hE hEl
  have hcb := saV_cd sc x h n bd
  have hpd := pubR_bdW sc x h n
  rw [← hcd] at hcb
  rw [← hp0] at hpd
  obtain ⟨C, hC⟩ : ∃ C, C = refC wl ws wr hl hs hr ha ss ps py ph zs at2 := ⟨_, rfl⟩
  have HC : Hid (C = if seenP wl ws wr ∧ timP at2 then (if hB = true ∧ hl = wl then (if hs < ws then 3 else if 0 < ws ∧ cB = false then 4 else 0) else 2) else 1) := by show _ = _; rw [hC, hhB, hcB]; rfl
  have HV : Hid (V = if C = 0 then (if cd = 0 then ⟨hl, hs, hr, kd, at2, sg, t, 0⟩ else wtBad (10 + cd)) else wtBad C) := by
    show _ = _
    rw [hV]
    unfold wtV
    rw [← hbd]
    have e2 : asV sc x h n bd = if cd = 0 then ⟨kd, sg, t, 0⟩ else ⟨0, [], (0, 0, 0, 0), 10 + cd⟩ := by unfold asV; rw [hkd, hp0, hsg, ht, hcd]
    rw [← hC, e2]
    by_cases hc : cd = 0
    · rw [if_pos hc, if_pos hc, if_pos rfl]
    · have h3 : ¬ 10 + cd = 0 := by omega
      rw [if_neg hc, if_neg hc, if_neg h3]
  have HHS : Hid (∀ W, Row W ag ng ss → Calls Tryz.prog 24 #[.agg #[.int .i64 hl, .int .i64 hs, .int .u64 hr, .int .i64 ha, .slice ag ng cg], .agg #[.int .i64 ps, .int .u64 py, .int .i64 ph]] W fun e w' => e = .returned (.bool hB) ∧ Below W.heap.size W w') := by
    intro W h1
    rw [hhB]
    exact specHeadSigned_any hl hs hr ha ag ng cg ss ps py ph _ W hhr hpy h1 hng hcg hE6 hEl6
  have HCX : Hid (∀ W, RowU W ap np zs → Calls Tryz.prog 25 #[.int .u64 wr, .int .i64 ws, .int .u64 hr, .int .i64 hs, .slice ap np cp] W fun e w' => e = .returned (.bool cB) ∧ Below W.heap.size W w') := by
    intro W h1
    rw [hcB]
    exact specCheckExtend_any wr ws hr hs ap np cp zs W hwr h1 hcp hcm
  have HHB : Hid (∀ W, Calls Tryz.prog 27 #[.int .i64 7, .int .i64 hl, .int .i64 hs, .int .u64 hr, .int .i64 at2] W fun e w' => ∃ a' c', e = .returned (.slice a' bd.length c') ∧ Own W.heap.size w' a' bd.length c' bd ∧ Below W.heap.size W w') := by
    intro W
    exact l16Body_any 7 hl hs hr at2 bd W hhr hE
  have HSA : Hid (∀ W am c, Row W am bd.length bd → (am = none → c = 0) → Calls Tryz.prog 26 #[.agg #[.int .i64 sc, .int .u64 x, .int .i64 h, .int .i64 n], .slice am bd.length c] W fun e w' => ∃ a cap, e = .returned (.tuple #[.slice a sg.length cap, .agg #[.int .i64 t.1, .int .u64 t.2.1, .int .i64 t.2.2.1, .int .i64 t.2.2.2], .int .i64 cd]) ∧ Own W.heap.size w' a sg.length cap sg ∧ Below W.heap.size W w') := by
    intro W am c h1 h2
    have := specSignAny_walk HSPEC sc x h n am bd.length c bd W hx h1 (by omega) h2
    rw [← hsg, ← ht, ← hcd] at this
    exact this
  have HPU : Hid (∀ w, Calls Tryz.prog 28 #[.agg #[.int .i64 sc, .int .u64 x, .int .i64 h, .int .i64 n]] w fun e w' => e = .returned (.tuple #[.agg #[.int .i64 p.1, .int .u64 p.2.1, .int .i64 p.2.2], .bool pb]) ∧ Below w.heap.size w w') := by
    intro w'
    have := specPubOf_any sc x h n w' hx
    rw [← hp0, ← hpb] at this
    exact this
  have HKI : Hid (∀ w, Calls Tryz.prog 29 #[.agg #[.int .i64 p.1, .int .u64 p.2.1, .int .i64 p.2.2]] w fun e w' => e = .returned (.int .u64 kd) ∧ Below w.heap.size w w') := by
    intro w'
    have := specKeyId_any p.1 p.2.1 p.2.2 w' hpd.1 hpd.2.1 hpd.2.2
    rw [← hkd] at this
    exact this
  rw [← hV]
  clear hC hV hhB hcB hbd hsg ht hcd hp0 hpb hkd hpd hE hEl hE6 hEl6 HSPEC
  obtain ⟨w1, hw1⟩ : ∃ w1, w1 = ((((((w.alloc (.cells #[.int .i64 wl, .int .i64 ws, .int .u64 wr] 34)).alloc (.cells #[.int .i64 hl, .int .i64 hs, .int .u64 hr, .int .i64 ha, .slice ag ng cg] 41)).alloc (.cells #[.int .i64 ps, .int .u64 py, .int .i64 ph] 44)).alloc (.cells #[.int .i64 sc, .int .u64 x, .int .i64 h, .int .i64 n] 37)).alloc (.cells #[.int .i64 0, .int .i64 0, .int .u64 0] 34)).alloc (.cells #[.int .u64 0, .int .i64 0, .slice none 0 0] 36)).alloc (.cells #[.int .i64 0, .int .u64 0, .int .i64 0, .int .i64 0] 37) := ⟨_, rfl⟩
  obtain ⟨hb1, hbb⟩ := bxw_new w wl ws wr hl hs hr ha ag ng cg ps py ph sc x h n
  rw [← hw1] at hb1 hbb
  have HB1 : Hid (BxW w.heap.size wl ws wr hl hs hr ha ag ng cg ps py ph sc x h n w1) := hb1
  have HG : Hid (∀ W, Below w.heap.size w W → Row W ag ng ss ∧ RowU W ap np zs) := fun W hW => ⟨hg.kept hW, hp.kept hW⟩
  have HW : Hid (_ = _) := hw1
  clear hw1 hb1 hg hp
  go_enter Tryz.func5, Tryz.ntmps5
  go_upto_region 1 with fail
  rw [← HW.out]
  clear HW
  obtain ⟨a0, a1, a2⟩ := cells3w HB1.out.fw
  go_wp2_with fail
  refine (l16Seen_any wl ws wr _).mono ?_
  rintro e w2 ⟨rfl, hw2⟩
  have hw2 := hw2.symm
  subst hw2
  clear a0 a1 a2
  by_cases h1 : seenP wl ws wr
  case neg =>
    have HF := (show Hid (V = wtBad 1) by
      have hC : C = 1 := by rw [HC.out, if_neg (fun h => h1 h.1)]
      show _ = _
      rw [HV.out, hC, if_neg (by decide)])
    rw [decide_eq_false h1]
    go_upto_region 11 with fail
    have HBB : w.heap.size ≤ w1.heap.size := by have := hbb.size; omega
    refine wp_region_rp (szA 1 w.heap.size (w.heap.size)) [15, 69, 70, 71, 72] (w.heap.size) (fun a0 => a0.tmps.size = 112 ∧ aT a0 12 = .pointer (some ⟨(w.heap.size + 1 + 1 + 1 + 1), 0, none⟩) ∧ aT a0 13 = .pointer (some ⟨(w.heap.size + 1 + 1 + 1 + 1 + 1), 0, none⟩) ∧ aT a0 14 = .pointer (some ⟨(w.heap.size + 1 + 1 + 1 + 1 + 1 + 1), 0, none⟩) ∧ aT a0 16 = .int .i64 1) rfl (by kernel_rfl) rfl ⟨rfl, rfl, rfl, rfl, rfl⟩ (szA_stb 1 w.heap.size (w.heap.size)) ?_ ?_ ?_
    · intro k hk hk2
      match k, hk, hk2 with
      | 8, _, _ => exact HB1.out.frw
      | 9, _, _ => exact HB1.out.frc
      | 10, _, _ => exact HB1.out.frs
      | 0, hk, _ => exact absurd hk (by show ¬ (8 ≤ 0); omega)
      | 1, hk, _ => exact absurd hk (by show ¬ (8 ≤ 1); omega)
      | 2, hk, _ => exact absurd hk (by show ¬ (8 ≤ 2); omega)
      | 3, hk, _ => exact absurd hk (by show ¬ (8 ≤ 3); omega)
      | 4, hk, _ => exact absurd hk (by show ¬ (8 ≤ 4); omega)
      | 5, hk, _ => exact absurd hk (by show ¬ (8 ≤ 5); omega)
      | 6, hk, _ => exact absurd hk (by show ¬ (8 ≤ 6); omega)
      | 7, hk, _ => exact absurd hk (by show ¬ (8 ≤ 7); omega)
      | k + 11, _, hk2 => exact absurd hk2 (by show ¬ (k + 11 < 11); omega)
    · rintro a0 ⟨hz, g12, g13, g14, g16⟩
      refine StepsRI.cons ?_ (StepsRI.cons ?_ (StepsRI.cons ?_ (StepsRI.cons ?_ (StepsRI.cons ?_ (StepsRI.cons ?_ (StepsRI.cons ?_ (StepsRI.cons ?_ (StepsRI.nil))))))))
      · intro lQ b W hI hUN hED KQ hKQ
        refine opw_build 34 _ rfl #[] (by simp []) (.agg #[.int .i64 0, .int .i64 0, .int .u64 0]) (by kernel_rfl) ?_
        exact hKQ.out _ _ (hI.put 0 69 rfl rfl (by rw [hz]; decide) rfl hUN rfl HBB (szA_stb 1 w.heap.size (w.heap.size)) (Below.refl _ _) rfl)
      · intro lQ b W hI hUN hED KQ hKQ
        refine opw_build 36 _ rfl #[] (by simp []) (.agg #[.int .u64 0, .int .i64 0, .slice none 0 0]) (by kernel_rfl) ?_
        exact hKQ.out _ _ (hI.put 1 70 rfl rfl (by rw [hz]; decide) rfl hUN rfl HBB (szA_stb 1 w.heap.size (w.heap.size)) (Below.refl _ _) rfl)
      · intro lQ b W hI hUN hED KQ hKQ
        refine opw_build 37 _ rfl #[] (by simp []) (.agg #[.int .i64 0, .int .u64 0, .int .i64 0, .int .i64 0]) (by kernel_rfl) ?_
        exact hKQ.out _ _ (hI.put 2 71 rfl rfl (by rw [hz]; decide) rfl hUN rfl HBB (szA_stb 1 w.heap.size (w.heap.size)) (Below.refl _ _) rfl)
      · intro lQ b W hI hUN hED KQ hKQ
        exact opw_move 16 rfl (hKQ.out _ _ (hI.put 3 72 rfl rfl (by rw [hz]; decide) rfl hUN rfl HBB (szA_stb 1 w.heap.size (w.heap.size)) (Below.refl _ _) ((hI.fr.same 16 (by decide)).trans g16)))
      · intro lQ b W hI hUN hED KQ hKQ
        have hgb := (hI.vot1 8 4 (of_decide_eq_true rfl) (of_decide_eq_true rfl) hUN rfl)
        have fb := ((hI.fr.same 12 (by decide)).trans g12)
        have f := hI.got 0 (of_decide_eq_true rfl) (edge hED 0 (by kernel_rfl)) rfl
        refine wp_store_row 34 _ _ rfl ((w.heap.size + 1 + 1 + 1 + 1)) #[.int .i64 0, .int .i64 0, .int .u64 0] fb f 34 _ hgb (by kernel_rfl) rfl (by simp [Value.oneCell']) ?_
        have ht := setRow_touch W ((w.heap.size + 1 + 1 + 1 + 1)) #[.int .i64 0, .int .i64 0, .int .u64 0]
        exact hKQ.out _ _ (hI.store 4 (fun j hj => by cases hj) (hI.bel.trans (ht.below (by first | exact HGE12 | omega) (Nat.le_trans HBB hI.bel.size))) (szA_st4 1 w.heap.size (w.heap.size) hgb ht) (setRow_heap W ((w.heap.size + 1 + 1 + 1 + 1)) _ _ _ _ hgb))
      · intro lQ b W hI hUN hED KQ hKQ
        have hgb := (hI.vot1 9 5 (of_decide_eq_true rfl) (of_decide_eq_true rfl) hUN rfl)
        have fb := ((hI.fr.same 13 (by decide)).trans g13)
        have f := hI.got 1 (of_decide_eq_true rfl) (edge hED 1 (by kernel_rfl)) rfl
        refine wp_store_row 36 _ _ rfl ((w.heap.size + 1 + 1 + 1 + 1 + 1)) #[.int .u64 0, .int .i64 0, .slice none 0 0] fb f 36 _ hgb (by kernel_rfl) rfl (by simp [Value.oneCell']) ?_
        have ht := setRow_touch W ((w.heap.size + 1 + 1 + 1 + 1 + 1)) #[.int .u64 0, .int .i64 0, .slice none 0 0]
        exact hKQ.out _ _ (hI.store 5 (fun j hj => by cases hj) (hI.bel.trans (ht.below (by first | exact HGE13 | omega) (Nat.le_trans HBB hI.bel.size))) (szA_st5 1 w.heap.size (w.heap.size) hgb ht) (setRow_heap W ((w.heap.size + 1 + 1 + 1 + 1 + 1)) _ _ _ _ hgb))
      · intro lQ b W hI hUN hED KQ hKQ
        have hgb := (hI.vot1 10 6 (of_decide_eq_true rfl) (of_decide_eq_true rfl) hUN rfl)
        have fb := ((hI.fr.same 14 (by decide)).trans g14)
        have f := hI.got 2 (of_decide_eq_true rfl) (edge hED 2 (by kernel_rfl)) rfl
        refine wp_store_row 37 _ _ rfl ((w.heap.size + 1 + 1 + 1 + 1 + 1 + 1)) #[.int .i64 0, .int .u64 0, .int .i64 0, .int .i64 0] fb f 37 _ hgb (by kernel_rfl) rfl (by simp [Value.oneCell']) ?_
        have ht := setRow_touch W ((w.heap.size + 1 + 1 + 1 + 1 + 1 + 1)) #[.int .i64 0, .int .u64 0, .int .i64 0, .int .i64 0]
        exact hKQ.out _ _ (hI.store 6 (fun j hj => by cases hj) (hI.bel.trans (ht.below (by first | exact HGE14 | omega) (Nat.le_trans HBB hI.bel.size))) (szA_st6 1 w.heap.size (w.heap.size) hgb ht) (setRow_heap W ((w.heap.size + 1 + 1 + 1 + 1 + 1 + 1)) _ _ _ _ hgb))
      · intro lQ b W hI hUN hED KQ hKQ
        have f := hI.got 3 (of_decide_eq_true rfl) (edge hED 3 (by kernel_rfl)) rfl
        exact opw_assign 72 rfl (hKQ.out _ _ (hI.put 7 15 rfl rfl (by rw [hz]; decide) rfl hUN rfl HBB (szA_stb 1 w.heap.size (w.heap.size)) (Below.refl _ _) f))
    · intro b W hf hb F
      have e0 := F 4 (of_decide_eq_true rfl) rfl
      have e1 := F 5 (of_decide_eq_true rfl) rfl
      have e2 := F 6 (of_decide_eq_true rfl) rfl
      have e3 := F 7 (of_decide_eq_true rfl) rfl
      replace e3 : aT b 15 = _ := e3
      rw [hf.eq]
      simp only [puts, Act.put, List.setIfInBounds_toArray, List.set_cons_zero, List.set_cons_succ, e3]
      clear hf F
      go_wp2
      try simp only [Exit.inBlock, Exit.then]
      exact bodyPost_ret (results_wt rfl _ (w.heap.size + 1 + 1 + 1 + 1) (w.heap.size + 1 + 1 + 1 + 1 + 1) (w.heap.size + 1 + 1 + 1 + 1 + 1 + 1) rfl rfl rfl _ rfl _ _ _ _ e0 e1 e2 rfl rfl rfl) rfl ⟨none, 0, by rw [HF.out]; rfl, by rw [HF.out]; exact own_none _ _, hbb.trans hb⟩
  rw [decide_eq_true h1]
  go_wp2_with fail
  refine (l10Tim_any at2 _).mono ?_
  rintro e w2 ⟨rfl, hw2⟩
  have hw2 := hw2.symm
  subst hw2
  by_cases h2 : timP at2
  case neg =>
    have HF := (show Hid (V = wtBad 1) by
      have hC : C = 1 := by rw [HC.out, if_neg (fun h => h2 h.2)]
      show _ = _
      rw [HV.out, hC, if_neg (by decide)])
    rw [decide_eq_false h2]
    go_upto_region 11 with fail
    have HBB : w.heap.size ≤ w1.heap.size := by have := hbb.size; omega
    refine wp_region_rp (szA 1 w.heap.size (w.heap.size)) [15, 69, 70, 71, 72] (w.heap.size) (fun a0 => a0.tmps.size = 112 ∧ aT a0 12 = .pointer (some ⟨(w.heap.size + 1 + 1 + 1 + 1), 0, none⟩) ∧ aT a0 13 = .pointer (some ⟨(w.heap.size + 1 + 1 + 1 + 1 + 1), 0, none⟩) ∧ aT a0 14 = .pointer (some ⟨(w.heap.size + 1 + 1 + 1 + 1 + 1 + 1), 0, none⟩) ∧ aT a0 16 = .int .i64 1) rfl (by kernel_rfl) rfl ⟨rfl, rfl, rfl, rfl, rfl⟩ (szA_stb 1 w.heap.size (w.heap.size)) ?_ ?_ ?_
    · intro k hk hk2
      match k, hk, hk2 with
      | 8, _, _ => exact HB1.out.frw
      | 9, _, _ => exact HB1.out.frc
      | 10, _, _ => exact HB1.out.frs
      | 0, hk, _ => exact absurd hk (by show ¬ (8 ≤ 0); omega)
      | 1, hk, _ => exact absurd hk (by show ¬ (8 ≤ 1); omega)
      | 2, hk, _ => exact absurd hk (by show ¬ (8 ≤ 2); omega)
      | 3, hk, _ => exact absurd hk (by show ¬ (8 ≤ 3); omega)
      | 4, hk, _ => exact absurd hk (by show ¬ (8 ≤ 4); omega)
      | 5, hk, _ => exact absurd hk (by show ¬ (8 ≤ 5); omega)
      | 6, hk, _ => exact absurd hk (by show ¬ (8 ≤ 6); omega)
      | 7, hk, _ => exact absurd hk (by show ¬ (8 ≤ 7); omega)
      | k + 11, _, hk2 => exact absurd hk2 (by show ¬ (k + 11 < 11); omega)
    · rintro a0 ⟨hz, g12, g13, g14, g16⟩
      refine StepsRI.cons ?_ (StepsRI.cons ?_ (StepsRI.cons ?_ (StepsRI.cons ?_ (StepsRI.cons ?_ (StepsRI.cons ?_ (StepsRI.cons ?_ (StepsRI.cons ?_ (StepsRI.nil))))))))
      · intro lQ b W hI hUN hED KQ hKQ
        refine opw_build 34 _ rfl #[] (by simp []) (.agg #[.int .i64 0, .int .i64 0, .int .u64 0]) (by kernel_rfl) ?_
        exact hKQ.out _ _ (hI.put 0 69 rfl rfl (by rw [hz]; decide) rfl hUN rfl HBB (szA_stb 1 w.heap.size (w.heap.size)) (Below.refl _ _) rfl)
      · intro lQ b W hI hUN hED KQ hKQ
        refine opw_build 36 _ rfl #[] (by simp []) (.agg #[.int .u64 0, .int .i64 0, .slice none 0 0]) (by kernel_rfl) ?_
        exact hKQ.out _ _ (hI.put 1 70 rfl rfl (by rw [hz]; decide) rfl hUN rfl HBB (szA_stb 1 w.heap.size (w.heap.size)) (Below.refl _ _) rfl)
      · intro lQ b W hI hUN hED KQ hKQ
        refine opw_build 37 _ rfl #[] (by simp []) (.agg #[.int .i64 0, .int .u64 0, .int .i64 0, .int .i64 0]) (by kernel_rfl) ?_
        exact hKQ.out _ _ (hI.put 2 71 rfl rfl (by rw [hz]; decide) rfl hUN rfl HBB (szA_stb 1 w.heap.size (w.heap.size)) (Below.refl _ _) rfl)
      · intro lQ b W hI hUN hED KQ hKQ
        exact opw_move 16 rfl (hKQ.out _ _ (hI.put 3 72 rfl rfl (by rw [hz]; decide) rfl hUN rfl HBB (szA_stb 1 w.heap.size (w.heap.size)) (Below.refl _ _) ((hI.fr.same 16 (by decide)).trans g16)))
      · intro lQ b W hI hUN hED KQ hKQ
        have hgb := (hI.vot1 8 4 (of_decide_eq_true rfl) (of_decide_eq_true rfl) hUN rfl)
        have fb := ((hI.fr.same 12 (by decide)).trans g12)
        have f := hI.got 0 (of_decide_eq_true rfl) (edge hED 0 (by kernel_rfl)) rfl
        refine wp_store_row 34 _ _ rfl ((w.heap.size + 1 + 1 + 1 + 1)) #[.int .i64 0, .int .i64 0, .int .u64 0] fb f 34 _ hgb (by kernel_rfl) rfl (by simp [Value.oneCell']) ?_
        have ht := setRow_touch W ((w.heap.size + 1 + 1 + 1 + 1)) #[.int .i64 0, .int .i64 0, .int .u64 0]
        exact hKQ.out _ _ (hI.store 4 (fun j hj => by cases hj) (hI.bel.trans (ht.below (by first | exact HGE12 | omega) (Nat.le_trans HBB hI.bel.size))) (szA_st4 1 w.heap.size (w.heap.size) hgb ht) (setRow_heap W ((w.heap.size + 1 + 1 + 1 + 1)) _ _ _ _ hgb))
      · intro lQ b W hI hUN hED KQ hKQ
        have hgb := (hI.vot1 9 5 (of_decide_eq_true rfl) (of_decide_eq_true rfl) hUN rfl)
        have fb := ((hI.fr.same 13 (by decide)).trans g13)
        have f := hI.got 1 (of_decide_eq_true rfl) (edge hED 1 (by kernel_rfl)) rfl
        refine wp_store_row 36 _ _ rfl ((w.heap.size + 1 + 1 + 1 + 1 + 1)) #[.int .u64 0, .int .i64 0, .slice none 0 0] fb f 36 _ hgb (by kernel_rfl) rfl (by simp [Value.oneCell']) ?_
        have ht := setRow_touch W ((w.heap.size + 1 + 1 + 1 + 1 + 1)) #[.int .u64 0, .int .i64 0, .slice none 0 0]
        exact hKQ.out _ _ (hI.store 5 (fun j hj => by cases hj) (hI.bel.trans (ht.below (by first | exact HGE13 | omega) (Nat.le_trans HBB hI.bel.size))) (szA_st5 1 w.heap.size (w.heap.size) hgb ht) (setRow_heap W ((w.heap.size + 1 + 1 + 1 + 1 + 1)) _ _ _ _ hgb))
      · intro lQ b W hI hUN hED KQ hKQ
        have hgb := (hI.vot1 10 6 (of_decide_eq_true rfl) (of_decide_eq_true rfl) hUN rfl)
        have fb := ((hI.fr.same 14 (by decide)).trans g14)
        have f := hI.got 2 (of_decide_eq_true rfl) (edge hED 2 (by kernel_rfl)) rfl
        refine wp_store_row 37 _ _ rfl ((w.heap.size + 1 + 1 + 1 + 1 + 1 + 1)) #[.int .i64 0, .int .u64 0, .int .i64 0, .int .i64 0] fb f 37 _ hgb (by kernel_rfl) rfl (by simp [Value.oneCell']) ?_
        have ht := setRow_touch W ((w.heap.size + 1 + 1 + 1 + 1 + 1 + 1)) #[.int .i64 0, .int .u64 0, .int .i64 0, .int .i64 0]
        exact hKQ.out _ _ (hI.store 6 (fun j hj => by cases hj) (hI.bel.trans (ht.below (by first | exact HGE14 | omega) (Nat.le_trans HBB hI.bel.size))) (szA_st6 1 w.heap.size (w.heap.size) hgb ht) (setRow_heap W ((w.heap.size + 1 + 1 + 1 + 1 + 1 + 1)) _ _ _ _ hgb))
      · intro lQ b W hI hUN hED KQ hKQ
        have f := hI.got 3 (of_decide_eq_true rfl) (edge hED 3 (by kernel_rfl)) rfl
        exact opw_assign 72 rfl (hKQ.out _ _ (hI.put 7 15 rfl rfl (by rw [hz]; decide) rfl hUN rfl HBB (szA_stb 1 w.heap.size (w.heap.size)) (Below.refl _ _) f))
    · intro b W hf hb F
      have e0 := F 4 (of_decide_eq_true rfl) rfl
      have e1 := F 5 (of_decide_eq_true rfl) rfl
      have e2 := F 6 (of_decide_eq_true rfl) rfl
      have e3 := F 7 (of_decide_eq_true rfl) rfl
      replace e3 : aT b 15 = _ := e3
      rw [hf.eq]
      simp only [puts, Act.put, List.setIfInBounds_toArray, List.set_cons_zero, List.set_cons_succ, e3]
      clear hf F
      go_wp2
      try simp only [Exit.inBlock, Exit.then]
      exact bodyPost_ret (results_wt rfl _ (w.heap.size + 1 + 1 + 1 + 1) (w.heap.size + 1 + 1 + 1 + 1 + 1) (w.heap.size + 1 + 1 + 1 + 1 + 1 + 1) rfl rfl rfl _ rfl _ _ _ _ e0 e1 e2 rfl rfl rfl) rfl ⟨none, 0, by rw [HF.out]; rfl, by rw [HF.out]; exact own_none _ _, hbb.trans hb⟩
  rw [decide_eq_true h2]
  have HCa := (show Hid (C = if hB = true ∧ hl = wl then (if hs < ws then 3 else if 0 < ws ∧ cB = false then 4 else 0) else 2) by show _ = _; rw [HC.out, if_pos ⟨h1, h2⟩])
  clear HC h1 h2
  obtain ⟨b0, b1, b2, b3, b4⟩ := cells5w HB1.out.fh
  obtain ⟨d0, d1, d2⟩ := cells3w HB1.out.fp
  go_wp2_with fail
  refine (HHS.out _ (HG.out _ hbb).1).mono ?_
  rintro e w3 ⟨rfl, hb3⟩
  clear b0 b1 b2 b3 b4 d0 d1 d2
  have hc3 := keepT hbb hb3
  have HB3 : Hid (_) := HB1.out.kept hb3
  clear HB1 hb3 hbb
  cases hB with
  | false =>
    have HF := (show Hid (V = wtBad 2) by
      have hC : C = 2 := by rw [HCa.out, if_neg (fun h => by cases h.1)]
      show _ = _
      rw [HV.out, hC, if_neg (by decide)])
    go_upto_region 11 with fail
    have HBB : w.heap.size ≤ w3.heap.size := by have := hc3.size; omega
    refine wp_region_rp (szA 2 w.heap.size (w.heap.size)) [15, 69, 70, 71, 72] (w.heap.size) (fun a0 => a0.tmps.size = 112 ∧ aT a0 12 = .pointer (some ⟨(w.heap.size + 1 + 1 + 1 + 1), 0, none⟩) ∧ aT a0 13 = .pointer (some ⟨(w.heap.size + 1 + 1 + 1 + 1 + 1), 0, none⟩) ∧ aT a0 14 = .pointer (some ⟨(w.heap.size + 1 + 1 + 1 + 1 + 1 + 1), 0, none⟩) ∧ aT a0 16 = .int .i64 2) rfl (by kernel_rfl) rfl ⟨rfl, rfl, rfl, rfl, rfl⟩ (szA_stb 2 w.heap.size (w.heap.size)) ?_ ?_ ?_
    · intro k hk hk2
      match k, hk, hk2 with
      | 8, _, _ => exact HB3.out.frw
      | 9, _, _ => exact HB3.out.frc
      | 10, _, _ => exact HB3.out.frs
      | 0, hk, _ => exact absurd hk (by show ¬ (8 ≤ 0); omega)
      | 1, hk, _ => exact absurd hk (by show ¬ (8 ≤ 1); omega)
      | 2, hk, _ => exact absurd hk (by show ¬ (8 ≤ 2); omega)
      | 3, hk, _ => exact absurd hk (by show ¬ (8 ≤ 3); omega)
      | 4, hk, _ => exact absurd hk (by show ¬ (8 ≤ 4); omega)
      | 5, hk, _ => exact absurd hk (by show ¬ (8 ≤ 5); omega)
      | 6, hk, _ => exact absurd hk (by show ¬ (8 ≤ 6); omega)
      | 7, hk, _ => exact absurd hk (by show ¬ (8 ≤ 7); omega)
      | k + 11, _, hk2 => exact absurd hk2 (by show ¬ (k + 11 < 11); omega)
    · rintro a0 ⟨hz, g12, g13, g14, g16⟩
      refine StepsRI.cons ?_ (StepsRI.cons ?_ (StepsRI.cons ?_ (StepsRI.cons ?_ (StepsRI.cons ?_ (StepsRI.cons ?_ (StepsRI.cons ?_ (StepsRI.cons ?_ (StepsRI.nil))))))))
      · intro lQ b W hI hUN hED KQ hKQ
        refine opw_build 34 _ rfl #[] (by simp []) (.agg #[.int .i64 0, .int .i64 0, .int .u64 0]) (by kernel_rfl) ?_
        exact hKQ.out _ _ (hI.put 0 69 rfl rfl (by rw [hz]; decide) rfl hUN rfl HBB (szA_stb 2 w.heap.size (w.heap.size)) (Below.refl _ _) rfl)
      · intro lQ b W hI hUN hED KQ hKQ
        refine opw_build 36 _ rfl #[] (by simp []) (.agg #[.int .u64 0, .int .i64 0, .slice none 0 0]) (by kernel_rfl) ?_
        exact hKQ.out _ _ (hI.put 1 70 rfl rfl (by rw [hz]; decide) rfl hUN rfl HBB (szA_stb 2 w.heap.size (w.heap.size)) (Below.refl _ _) rfl)
      · intro lQ b W hI hUN hED KQ hKQ
        refine opw_build 37 _ rfl #[] (by simp []) (.agg #[.int .i64 0, .int .u64 0, .int .i64 0, .int .i64 0]) (by kernel_rfl) ?_
        exact hKQ.out _ _ (hI.put 2 71 rfl rfl (by rw [hz]; decide) rfl hUN rfl HBB (szA_stb 2 w.heap.size (w.heap.size)) (Below.refl _ _) rfl)
      · intro lQ b W hI hUN hED KQ hKQ
        exact opw_move 16 rfl (hKQ.out _ _ (hI.put 3 72 rfl rfl (by rw [hz]; decide) rfl hUN rfl HBB (szA_stb 2 w.heap.size (w.heap.size)) (Below.refl _ _) ((hI.fr.same 16 (by decide)).trans g16)))
      · intro lQ b W hI hUN hED KQ hKQ
        have hgb := (hI.vot1 8 4 (of_decide_eq_true rfl) (of_decide_eq_true rfl) hUN rfl)
        have fb := ((hI.fr.same 12 (by decide)).trans g12)
        have f := hI.got 0 (of_decide_eq_true rfl) (edge hED 0 (by kernel_rfl)) rfl
        refine wp_store_row 34 _ _ rfl ((w.heap.size + 1 + 1 + 1 + 1)) #[.int .i64 0, .int .i64 0, .int .u64 0] fb f 34 _ hgb (by kernel_rfl) rfl (by simp [Value.oneCell']) ?_
        have ht := setRow_touch W ((w.heap.size + 1 + 1 + 1 + 1)) #[.int .i64 0, .int .i64 0, .int .u64 0]
        exact hKQ.out _ _ (hI.store 4 (fun j hj => by cases hj) (hI.bel.trans (ht.below (by first | exact HGE12 | omega) (Nat.le_trans HBB hI.bel.size))) (szA_st4 2 w.heap.size (w.heap.size) hgb ht) (setRow_heap W ((w.heap.size + 1 + 1 + 1 + 1)) _ _ _ _ hgb))
      · intro lQ b W hI hUN hED KQ hKQ
        have hgb := (hI.vot1 9 5 (of_decide_eq_true rfl) (of_decide_eq_true rfl) hUN rfl)
        have fb := ((hI.fr.same 13 (by decide)).trans g13)
        have f := hI.got 1 (of_decide_eq_true rfl) (edge hED 1 (by kernel_rfl)) rfl
        refine wp_store_row 36 _ _ rfl ((w.heap.size + 1 + 1 + 1 + 1 + 1)) #[.int .u64 0, .int .i64 0, .slice none 0 0] fb f 36 _ hgb (by kernel_rfl) rfl (by simp [Value.oneCell']) ?_
        have ht := setRow_touch W ((w.heap.size + 1 + 1 + 1 + 1 + 1)) #[.int .u64 0, .int .i64 0, .slice none 0 0]
        exact hKQ.out _ _ (hI.store 5 (fun j hj => by cases hj) (hI.bel.trans (ht.below (by first | exact HGE13 | omega) (Nat.le_trans HBB hI.bel.size))) (szA_st5 2 w.heap.size (w.heap.size) hgb ht) (setRow_heap W ((w.heap.size + 1 + 1 + 1 + 1 + 1)) _ _ _ _ hgb))
      · intro lQ b W hI hUN hED KQ hKQ
        have hgb := (hI.vot1 10 6 (of_decide_eq_true rfl) (of_decide_eq_true rfl) hUN rfl)
        have fb := ((hI.fr.same 14 (by decide)).trans g14)
        have f := hI.got 2 (of_decide_eq_true rfl) (edge hED 2 (by kernel_rfl)) rfl
        refine wp_store_row 37 _ _ rfl ((w.heap.size + 1 + 1 + 1 + 1 + 1 + 1)) #[.int .i64 0, .int .u64 0, .int .i64 0, .int .i64 0] fb f 37 _ hgb (by kernel_rfl) rfl (by simp [Value.oneCell']) ?_
        have ht := setRow_touch W ((w.heap.size + 1 + 1 + 1 + 1 + 1 + 1)) #[.int .i64 0, .int .u64 0, .int .i64 0, .int .i64 0]
        exact hKQ.out _ _ (hI.store 6 (fun j hj => by cases hj) (hI.bel.trans (ht.below (by first | exact HGE14 | omega) (Nat.le_trans HBB hI.bel.size))) (szA_st6 2 w.heap.size (w.heap.size) hgb ht) (setRow_heap W ((w.heap.size + 1 + 1 + 1 + 1 + 1 + 1)) _ _ _ _ hgb))
      · intro lQ b W hI hUN hED KQ hKQ
        have f := hI.got 3 (of_decide_eq_true rfl) (edge hED 3 (by kernel_rfl)) rfl
        exact opw_assign 72 rfl (hKQ.out _ _ (hI.put 7 15 rfl rfl (by rw [hz]; decide) rfl hUN rfl HBB (szA_stb 2 w.heap.size (w.heap.size)) (Below.refl _ _) f))
    · intro b W hf hb F
      have e0 := F 4 (of_decide_eq_true rfl) rfl
      have e1 := F 5 (of_decide_eq_true rfl) rfl
      have e2 := F 6 (of_decide_eq_true rfl) rfl
      have e3 := F 7 (of_decide_eq_true rfl) rfl
      replace e3 : aT b 15 = _ := e3
      rw [hf.eq]
      simp only [puts, Act.put, List.setIfInBounds_toArray, List.set_cons_zero, List.set_cons_succ, e3]
      clear hf F
      go_wp2
      try simp only [Exit.inBlock, Exit.then]
      exact bodyPost_ret (results_wt rfl _ (w.heap.size + 1 + 1 + 1 + 1) (w.heap.size + 1 + 1 + 1 + 1 + 1) (w.heap.size + 1 + 1 + 1 + 1 + 1 + 1) rfl rfl rfl _ rfl _ _ _ _ e0 e1 e2 rfl rfl rfl) rfl ⟨none, 0, by rw [HF.out]; rfl, by rw [HF.out]; exact own_none _ _, hc3.trans hb⟩
  | true =>
  obtain ⟨b0, b1, b2, b3, b4⟩ := cells5w HB3.out.fh
  obtain ⟨a0, a1, a2⟩ := cells3w HB3.out.fw
  by_cases h3 : hl = wl
  case neg =>
    have HF := (show Hid (V = wtBad 2) by
      have hC : C = 2 := by rw [HCa.out, if_neg (fun h => h3 h.2)]
      show _ = _
      rw [HV.out, hC, if_neg (by decide)])
    have z1 : (hl != wl) = true := by simp [h3]
    have z2 : ¬ wl = hl := fun e => h3 e.symm
    go_upto_region 11 with fail
    have HBB : w.heap.size ≤ w3.heap.size := by have := hc3.size; omega
    refine wp_region_rp (szA 2 w.heap.size (w.heap.size)) [15, 69, 70, 71, 72] (w.heap.size) (fun a0 => a0.tmps.size = 112 ∧ aT a0 12 = .pointer (some ⟨(w.heap.size + 1 + 1 + 1 + 1), 0, none⟩) ∧ aT a0 13 = .pointer (some ⟨(w.heap.size + 1 + 1 + 1 + 1 + 1), 0, none⟩) ∧ aT a0 14 = .pointer (some ⟨(w.heap.size + 1 + 1 + 1 + 1 + 1 + 1), 0, none⟩) ∧ aT a0 16 = .int .i64 2) rfl (by kernel_rfl) rfl ⟨rfl, rfl, rfl, rfl, rfl⟩ (szA_stb 2 w.heap.size (w.heap.size)) ?_ ?_ ?_
    · intro k hk hk2
      match k, hk, hk2 with
      | 8, _, _ => exact HB3.out.frw
      | 9, _, _ => exact HB3.out.frc
      | 10, _, _ => exact HB3.out.frs
      | 0, hk, _ => exact absurd hk (by show ¬ (8 ≤ 0); omega)
      | 1, hk, _ => exact absurd hk (by show ¬ (8 ≤ 1); omega)
      | 2, hk, _ => exact absurd hk (by show ¬ (8 ≤ 2); omega)
      | 3, hk, _ => exact absurd hk (by show ¬ (8 ≤ 3); omega)
      | 4, hk, _ => exact absurd hk (by show ¬ (8 ≤ 4); omega)
      | 5, hk, _ => exact absurd hk (by show ¬ (8 ≤ 5); omega)
      | 6, hk, _ => exact absurd hk (by show ¬ (8 ≤ 6); omega)
      | 7, hk, _ => exact absurd hk (by show ¬ (8 ≤ 7); omega)
      | k + 11, _, hk2 => exact absurd hk2 (by show ¬ (k + 11 < 11); omega)
    · rintro a0 ⟨hz, g12, g13, g14, g16⟩
      refine StepsRI.cons ?_ (StepsRI.cons ?_ (StepsRI.cons ?_ (StepsRI.cons ?_ (StepsRI.cons ?_ (StepsRI.cons ?_ (StepsRI.cons ?_ (StepsRI.cons ?_ (StepsRI.nil))))))))
      · intro lQ b W hI hUN hED KQ hKQ
        refine opw_build 34 _ rfl #[] (by simp []) (.agg #[.int .i64 0, .int .i64 0, .int .u64 0]) (by kernel_rfl) ?_
        exact hKQ.out _ _ (hI.put 0 69 rfl rfl (by rw [hz]; decide) rfl hUN rfl HBB (szA_stb 2 w.heap.size (w.heap.size)) (Below.refl _ _) rfl)
      · intro lQ b W hI hUN hED KQ hKQ
        refine opw_build 36 _ rfl #[] (by simp []) (.agg #[.int .u64 0, .int .i64 0, .slice none 0 0]) (by kernel_rfl) ?_
        exact hKQ.out _ _ (hI.put 1 70 rfl rfl (by rw [hz]; decide) rfl hUN rfl HBB (szA_stb 2 w.heap.size (w.heap.size)) (Below.refl _ _) rfl)
      · intro lQ b W hI hUN hED KQ hKQ
        refine opw_build 37 _ rfl #[] (by simp []) (.agg #[.int .i64 0, .int .u64 0, .int .i64 0, .int .i64 0]) (by kernel_rfl) ?_
        exact hKQ.out _ _ (hI.put 2 71 rfl rfl (by rw [hz]; decide) rfl hUN rfl HBB (szA_stb 2 w.heap.size (w.heap.size)) (Below.refl _ _) rfl)
      · intro lQ b W hI hUN hED KQ hKQ
        exact opw_move 16 rfl (hKQ.out _ _ (hI.put 3 72 rfl rfl (by rw [hz]; decide) rfl hUN rfl HBB (szA_stb 2 w.heap.size (w.heap.size)) (Below.refl _ _) ((hI.fr.same 16 (by decide)).trans g16)))
      · intro lQ b W hI hUN hED KQ hKQ
        have hgb := (hI.vot1 8 4 (of_decide_eq_true rfl) (of_decide_eq_true rfl) hUN rfl)
        have fb := ((hI.fr.same 12 (by decide)).trans g12)
        have f := hI.got 0 (of_decide_eq_true rfl) (edge hED 0 (by kernel_rfl)) rfl
        refine wp_store_row 34 _ _ rfl ((w.heap.size + 1 + 1 + 1 + 1)) #[.int .i64 0, .int .i64 0, .int .u64 0] fb f 34 _ hgb (by kernel_rfl) rfl (by simp [Value.oneCell']) ?_
        have ht := setRow_touch W ((w.heap.size + 1 + 1 + 1 + 1)) #[.int .i64 0, .int .i64 0, .int .u64 0]
        exact hKQ.out _ _ (hI.store 4 (fun j hj => by cases hj) (hI.bel.trans (ht.below (by first | exact HGE12 | omega) (Nat.le_trans HBB hI.bel.size))) (szA_st4 2 w.heap.size (w.heap.size) hgb ht) (setRow_heap W ((w.heap.size + 1 + 1 + 1 + 1)) _ _ _ _ hgb))
      · intro lQ b W hI hUN hED KQ hKQ
        have hgb := (hI.vot1 9 5 (of_decide_eq_true rfl) (of_decide_eq_true rfl) hUN rfl)
        have fb := ((hI.fr.same 13 (by decide)).trans g13)
        have f := hI.got 1 (of_decide_eq_true rfl) (edge hED 1 (by kernel_rfl)) rfl
        refine wp_store_row 36 _ _ rfl ((w.heap.size + 1 + 1 + 1 + 1 + 1)) #[.int .u64 0, .int .i64 0, .slice none 0 0] fb f 36 _ hgb (by kernel_rfl) rfl (by simp [Value.oneCell']) ?_
        have ht := setRow_touch W ((w.heap.size + 1 + 1 + 1 + 1 + 1)) #[.int .u64 0, .int .i64 0, .slice none 0 0]
        exact hKQ.out _ _ (hI.store 5 (fun j hj => by cases hj) (hI.bel.trans (ht.below (by first | exact HGE13 | omega) (Nat.le_trans HBB hI.bel.size))) (szA_st5 2 w.heap.size (w.heap.size) hgb ht) (setRow_heap W ((w.heap.size + 1 + 1 + 1 + 1 + 1)) _ _ _ _ hgb))
      · intro lQ b W hI hUN hED KQ hKQ
        have hgb := (hI.vot1 10 6 (of_decide_eq_true rfl) (of_decide_eq_true rfl) hUN rfl)
        have fb := ((hI.fr.same 14 (by decide)).trans g14)
        have f := hI.got 2 (of_decide_eq_true rfl) (edge hED 2 (by kernel_rfl)) rfl
        refine wp_store_row 37 _ _ rfl ((w.heap.size + 1 + 1 + 1 + 1 + 1 + 1)) #[.int .i64 0, .int .u64 0, .int .i64 0, .int .i64 0] fb f 37 _ hgb (by kernel_rfl) rfl (by simp [Value.oneCell']) ?_
        have ht := setRow_touch W ((w.heap.size + 1 + 1 + 1 + 1 + 1 + 1)) #[.int .i64 0, .int .u64 0, .int .i64 0, .int .i64 0]
        exact hKQ.out _ _ (hI.store 6 (fun j hj => by cases hj) (hI.bel.trans (ht.below (by first | exact HGE14 | omega) (Nat.le_trans HBB hI.bel.size))) (szA_st6 2 w.heap.size (w.heap.size) hgb ht) (setRow_heap W ((w.heap.size + 1 + 1 + 1 + 1 + 1 + 1)) _ _ _ _ hgb))
      · intro lQ b W hI hUN hED KQ hKQ
        have f := hI.got 3 (of_decide_eq_true rfl) (edge hED 3 (by kernel_rfl)) rfl
        exact opw_assign 72 rfl (hKQ.out _ _ (hI.put 7 15 rfl rfl (by rw [hz]; decide) rfl hUN rfl HBB (szA_stb 2 w.heap.size (w.heap.size)) (Below.refl _ _) f))
    · intro b W hf hb F
      have e0 := F 4 (of_decide_eq_true rfl) rfl
      have e1 := F 5 (of_decide_eq_true rfl) rfl
      have e2 := F 6 (of_decide_eq_true rfl) rfl
      have e3 := F 7 (of_decide_eq_true rfl) rfl
      replace e3 : aT b 15 = _ := e3
      rw [hf.eq]
      simp only [puts, Act.put, List.setIfInBounds_toArray, List.set_cons_zero, List.set_cons_succ, e3]
      clear hf F
      go_wp2
      try simp only [Exit.inBlock, Exit.then]
      exact bodyPost_ret (results_wt rfl _ (w.heap.size + 1 + 1 + 1 + 1) (w.heap.size + 1 + 1 + 1 + 1 + 1) (w.heap.size + 1 + 1 + 1 + 1 + 1 + 1) rfl rfl rfl _ rfl _ _ _ _ e0 e1 e2 rfl rfl rfl) rfl ⟨none, 0, by rw [HF.out]; rfl, by rw [HF.out]; exact own_none _ _, hc3.trans hb⟩
  have HCb := (show Hid (C = if hs < ws then 3 else if 0 < ws ∧ cB = false then 4 else 0) by show _ = _; rw [HCa.out, if_pos ⟨by trivial, h3⟩])
  clear HCa
  subst h3
  by_cases h4 : hs < ws
  case pos =>
    have HF := (show Hid (V = wtBad 3) by
      have hC : C = 3 := by rw [HCb.out, if_pos h4]
      show _ = _
      rw [HV.out, hC, if_neg (by decide)])
    go_upto_region 11 with fail
    have HBB : w.heap.size ≤ w3.heap.size := by have := hc3.size; omega
    refine wp_region_rp (szA 3 w.heap.size (w.heap.size)) [15, 69, 70, 71, 72] (w.heap.size) (fun a0 => a0.tmps.size = 112 ∧ aT a0 12 = .pointer (some ⟨(w.heap.size + 1 + 1 + 1 + 1), 0, none⟩) ∧ aT a0 13 = .pointer (some ⟨(w.heap.size + 1 + 1 + 1 + 1 + 1), 0, none⟩) ∧ aT a0 14 = .pointer (some ⟨(w.heap.size + 1 + 1 + 1 + 1 + 1 + 1), 0, none⟩) ∧ aT a0 16 = .int .i64 3) rfl (by kernel_rfl) rfl ⟨rfl, rfl, rfl, rfl, rfl⟩ (szA_stb 3 w.heap.size (w.heap.size)) ?_ ?_ ?_
    · intro k hk hk2
      match k, hk, hk2 with
      | 8, _, _ => exact HB3.out.frw
      | 9, _, _ => exact HB3.out.frc
      | 10, _, _ => exact HB3.out.frs
      | 0, hk, _ => exact absurd hk (by show ¬ (8 ≤ 0); omega)
      | 1, hk, _ => exact absurd hk (by show ¬ (8 ≤ 1); omega)
      | 2, hk, _ => exact absurd hk (by show ¬ (8 ≤ 2); omega)
      | 3, hk, _ => exact absurd hk (by show ¬ (8 ≤ 3); omega)
      | 4, hk, _ => exact absurd hk (by show ¬ (8 ≤ 4); omega)
      | 5, hk, _ => exact absurd hk (by show ¬ (8 ≤ 5); omega)
      | 6, hk, _ => exact absurd hk (by show ¬ (8 ≤ 6); omega)
      | 7, hk, _ => exact absurd hk (by show ¬ (8 ≤ 7); omega)
      | k + 11, _, hk2 => exact absurd hk2 (by show ¬ (k + 11 < 11); omega)
    · rintro a0 ⟨hz, g12, g13, g14, g16⟩
      refine StepsRI.cons ?_ (StepsRI.cons ?_ (StepsRI.cons ?_ (StepsRI.cons ?_ (StepsRI.cons ?_ (StepsRI.cons ?_ (StepsRI.cons ?_ (StepsRI.cons ?_ (StepsRI.nil))))))))
      · intro lQ b W hI hUN hED KQ hKQ
        refine opw_build 34 _ rfl #[] (by simp []) (.agg #[.int .i64 0, .int .i64 0, .int .u64 0]) (by kernel_rfl) ?_
        exact hKQ.out _ _ (hI.put 0 69 rfl rfl (by rw [hz]; decide) rfl hUN rfl HBB (szA_stb 3 w.heap.size (w.heap.size)) (Below.refl _ _) rfl)
      · intro lQ b W hI hUN hED KQ hKQ
        refine opw_build 36 _ rfl #[] (by simp []) (.agg #[.int .u64 0, .int .i64 0, .slice none 0 0]) (by kernel_rfl) ?_
        exact hKQ.out _ _ (hI.put 1 70 rfl rfl (by rw [hz]; decide) rfl hUN rfl HBB (szA_stb 3 w.heap.size (w.heap.size)) (Below.refl _ _) rfl)
      · intro lQ b W hI hUN hED KQ hKQ
        refine opw_build 37 _ rfl #[] (by simp []) (.agg #[.int .i64 0, .int .u64 0, .int .i64 0, .int .i64 0]) (by kernel_rfl) ?_
        exact hKQ.out _ _ (hI.put 2 71 rfl rfl (by rw [hz]; decide) rfl hUN rfl HBB (szA_stb 3 w.heap.size (w.heap.size)) (Below.refl _ _) rfl)
      · intro lQ b W hI hUN hED KQ hKQ
        exact opw_move 16 rfl (hKQ.out _ _ (hI.put 3 72 rfl rfl (by rw [hz]; decide) rfl hUN rfl HBB (szA_stb 3 w.heap.size (w.heap.size)) (Below.refl _ _) ((hI.fr.same 16 (by decide)).trans g16)))
      · intro lQ b W hI hUN hED KQ hKQ
        have hgb := (hI.vot1 8 4 (of_decide_eq_true rfl) (of_decide_eq_true rfl) hUN rfl)
        have fb := ((hI.fr.same 12 (by decide)).trans g12)
        have f := hI.got 0 (of_decide_eq_true rfl) (edge hED 0 (by kernel_rfl)) rfl
        refine wp_store_row 34 _ _ rfl ((w.heap.size + 1 + 1 + 1 + 1)) #[.int .i64 0, .int .i64 0, .int .u64 0] fb f 34 _ hgb (by kernel_rfl) rfl (by simp [Value.oneCell']) ?_
        have ht := setRow_touch W ((w.heap.size + 1 + 1 + 1 + 1)) #[.int .i64 0, .int .i64 0, .int .u64 0]
        exact hKQ.out _ _ (hI.store 4 (fun j hj => by cases hj) (hI.bel.trans (ht.below (by first | exact HGE12 | omega) (Nat.le_trans HBB hI.bel.size))) (szA_st4 3 w.heap.size (w.heap.size) hgb ht) (setRow_heap W ((w.heap.size + 1 + 1 + 1 + 1)) _ _ _ _ hgb))
      · intro lQ b W hI hUN hED KQ hKQ
        have hgb := (hI.vot1 9 5 (of_decide_eq_true rfl) (of_decide_eq_true rfl) hUN rfl)
        have fb := ((hI.fr.same 13 (by decide)).trans g13)
        have f := hI.got 1 (of_decide_eq_true rfl) (edge hED 1 (by kernel_rfl)) rfl
        refine wp_store_row 36 _ _ rfl ((w.heap.size + 1 + 1 + 1 + 1 + 1)) #[.int .u64 0, .int .i64 0, .slice none 0 0] fb f 36 _ hgb (by kernel_rfl) rfl (by simp [Value.oneCell']) ?_
        have ht := setRow_touch W ((w.heap.size + 1 + 1 + 1 + 1 + 1)) #[.int .u64 0, .int .i64 0, .slice none 0 0]
        exact hKQ.out _ _ (hI.store 5 (fun j hj => by cases hj) (hI.bel.trans (ht.below (by first | exact HGE13 | omega) (Nat.le_trans HBB hI.bel.size))) (szA_st5 3 w.heap.size (w.heap.size) hgb ht) (setRow_heap W ((w.heap.size + 1 + 1 + 1 + 1 + 1)) _ _ _ _ hgb))
      · intro lQ b W hI hUN hED KQ hKQ
        have hgb := (hI.vot1 10 6 (of_decide_eq_true rfl) (of_decide_eq_true rfl) hUN rfl)
        have fb := ((hI.fr.same 14 (by decide)).trans g14)
        have f := hI.got 2 (of_decide_eq_true rfl) (edge hED 2 (by kernel_rfl)) rfl
        refine wp_store_row 37 _ _ rfl ((w.heap.size + 1 + 1 + 1 + 1 + 1 + 1)) #[.int .i64 0, .int .u64 0, .int .i64 0, .int .i64 0] fb f 37 _ hgb (by kernel_rfl) rfl (by simp [Value.oneCell']) ?_
        have ht := setRow_touch W ((w.heap.size + 1 + 1 + 1 + 1 + 1 + 1)) #[.int .i64 0, .int .u64 0, .int .i64 0, .int .i64 0]
        exact hKQ.out _ _ (hI.store 6 (fun j hj => by cases hj) (hI.bel.trans (ht.below (by first | exact HGE14 | omega) (Nat.le_trans HBB hI.bel.size))) (szA_st6 3 w.heap.size (w.heap.size) hgb ht) (setRow_heap W ((w.heap.size + 1 + 1 + 1 + 1 + 1 + 1)) _ _ _ _ hgb))
      · intro lQ b W hI hUN hED KQ hKQ
        have f := hI.got 3 (of_decide_eq_true rfl) (edge hED 3 (by kernel_rfl)) rfl
        exact opw_assign 72 rfl (hKQ.out _ _ (hI.put 7 15 rfl rfl (by rw [hz]; decide) rfl hUN rfl HBB (szA_stb 3 w.heap.size (w.heap.size)) (Below.refl _ _) f))
    · intro b W hf hb F
      have e0 := F 4 (of_decide_eq_true rfl) rfl
      have e1 := F 5 (of_decide_eq_true rfl) rfl
      have e2 := F 6 (of_decide_eq_true rfl) rfl
      have e3 := F 7 (of_decide_eq_true rfl) rfl
      replace e3 : aT b 15 = _ := e3
      rw [hf.eq]
      simp only [puts, Act.put, List.setIfInBounds_toArray, List.set_cons_zero, List.set_cons_succ, e3]
      clear hf F
      go_wp2
      try simp only [Exit.inBlock, Exit.then]
      exact bodyPost_ret (results_wt rfl _ (w.heap.size + 1 + 1 + 1 + 1) (w.heap.size + 1 + 1 + 1 + 1 + 1) (w.heap.size + 1 + 1 + 1 + 1 + 1 + 1) rfl rfl rfl _ rfl _ _ _ _ e0 e1 e2 rfl rfl rfl) rfl ⟨none, 0, by rw [HF.out]; rfl, by rw [HF.out]; exact own_none _ _, hc3.trans hb⟩
  by_cases h5 : 0 < ws
  case neg =>
    have HV1 := (show Hid (V = if cd = 0 then ⟨hl, hs, hr, kd, at2, sg, t, 0⟩ else wtBad (10 + cd)) by
      have hC : C = 0 := by rw [HCb.out, if_neg h4, if_neg (fun h => h5 h.1)]
      show _ = _
      rw [HV.out, if_pos hC])
    have z5 : decide (0 < ws) = false := decide_eq_false h5
    go_upto_region 12 with fail
    have HBB : w3.heap.size ≤ w3.heap.size := Nat.le_refl _
    have hl6 : w.heap.size + 1 + 1 + 1 + 1 + 1 + 1 < w3.heap.size := (Array.getElem?_eq_some_iff.1 HB3.out.frs).1
    refine wp_region_ri (s12Sp hl hs hr ha ag ng cg sc x h n at2 bd sg t cd w.heap.size (w3.heap.size)) [17, 18, 19, 73, 74, 75, 76, 77, 78, 79, 80, 81, 82, 83, 84, 85, 86] (w3.heap.size) (fun a0 => a0.tmps.size = 112 ∧ aT a0 4 = .int .i64 at2 ∧ aT a0 7 = .pointer (some ⟨(w.heap.size + 1), 0, none⟩) ∧ aT a0 11 = .pointer (some ⟨(w.heap.size + 1 + 1 + 1), 0, none⟩)) (by kernel_rfl) rfl (by kernel_rfl) rfl ⟨rfl, rfl, rfl, rfl⟩ (s12Sp_stb hl hs hr ha ag ng cg sc x h n at2 bd sg t cd w.heap.size (w3.heap.size)) ?_ ?_ ?_
    · intro k hk hk2
      match k, hk, hk2 with
      | 18, _, _ => exact ⟨HB3.out.fs, by omega⟩
      | 19, _, _ => exact HB3.out.fh
      | 0, hk, _ => exact absurd hk (by show ¬ (18 ≤ 0); omega)
      | 1, hk, _ => exact absurd hk (by show ¬ (18 ≤ 1); omega)
      | 2, hk, _ => exact absurd hk (by show ¬ (18 ≤ 2); omega)
      | 3, hk, _ => exact absurd hk (by show ¬ (18 ≤ 3); omega)
      | 4, hk, _ => exact absurd hk (by show ¬ (18 ≤ 4); omega)
      | 5, hk, _ => exact absurd hk (by show ¬ (18 ≤ 5); omega)
      | 6, hk, _ => exact absurd hk (by show ¬ (18 ≤ 6); omega)
      | 7, hk, _ => exact absurd hk (by show ¬ (18 ≤ 7); omega)
      | 8, hk, _ => exact absurd hk (by show ¬ (18 ≤ 8); omega)
      | 9, hk, _ => exact absurd hk (by show ¬ (18 ≤ 9); omega)
      | 10, hk, _ => exact absurd hk (by show ¬ (18 ≤ 10); omega)
      | 11, hk, _ => exact absurd hk (by show ¬ (18 ≤ 11); omega)
      | 12, hk, _ => exact absurd hk (by show ¬ (18 ≤ 12); omega)
      | 13, hk, _ => exact absurd hk (by show ¬ (18 ≤ 13); omega)
      | 14, hk, _ => exact absurd hk (by show ¬ (18 ≤ 14); omega)
      | 15, hk, _ => exact absurd hk (by show ¬ (18 ≤ 15); omega)
      | 16, hk, _ => exact absurd hk (by show ¬ (18 ≤ 16); omega)
      | 17, hk, _ => exact absurd hk (by show ¬ (18 ≤ 17); omega)
      | k + 20, _, hk2 => exact absurd hk2 (by show ¬ (k + 20 < 20); omega)
    · rintro a0 ⟨hz, g4, g7, g11⟩
      refine StepsRI.cons ?_ (StepsRI.cons ?_ (StepsRI.cons ?_ (StepsRI.cons ?_ (StepsRI.cons ?_ (StepsRI.cons ?_ (StepsRI.cons ?_ (StepsRI.cons ?_ (StepsRI.cons ?_ (StepsRI.cons ?_ (StepsRI.cons ?_ (StepsRI.cons ?_ (StepsRI.cons ?_ (StepsRI.cons ?_ (StepsRI.cons ?_ (StepsRI.cons ?_ (StepsRI.cons ?_ (StepsRI.cons ?_ (StepsRI.nil))))))))))))))))))
      · intro lQ b W hI hUN hED KQ hKQ
        have hg := (hI.vot 18 (of_decide_eq_true rfl) (of_decide_eq_true rfl) rfl).1
        refine wp_load_row 37 _ rfl ((w.heap.size + 1 + 1 + 1)) ((hI.fr.same 11 (by decide)).trans g11) 37 #[.int .i64 sc, .int .u64 x, .int .i64 h, .int .i64 n] (0, 0) _ hg Tryz.underlying37 rfl (by kernel_rfl) ?_
        exact hKQ.out _ _ (hI.put 0 74 rfl rfl (by rw [hz]; decide) rfl hUN rfl HBB (s12Sp_stb hl hs hr ha ag ng cg sc x h n at2 bd sg t cd w.heap.size (w3.heap.size)) (Below.refl _ _) rfl)
      · intro lQ b W hI hUN hED KQ hKQ
        exact opw_field 41 7 0 rfl _ ((hI.fr.same 7 (by decide)).trans g7) _ (by kernel_rfl) (hKQ.out _ _ (hI.put 1 75 rfl rfl (by rw [hz]; decide) rfl hUN rfl HBB (s12Sp_stb hl hs hr ha ag ng cg sc x h n at2 bd sg t cd w.heap.size (w3.heap.size)) (Below.refl _ _) rfl))
      · intro lQ b W hI hUN hED KQ hKQ
        have f := hI.got 1 (of_decide_eq_true rfl) (edge hED 1 (by kernel_rfl)) rfl
        have hg := (hI.vot 19 (of_decide_eq_true rfl) (of_decide_eq_true rfl) rfl)
        have hc : W.cell? ⟨(w.heap.size + 1), 0, none⟩ = some (.int .i64 hl) := (cell_of_row _ _ 0 _ _ (0, 0) hg).trans rfl
        exact opw_load1 2 75 rfl _ f _ (by simp [Instr.loadAt, go_sem, hc]) (hKQ.out _ _ (hI.put 2 76 rfl rfl (by rw [hz]; decide) rfl hUN rfl HBB (s12Sp_stb hl hs hr ha ag ng cg sc x h n at2 bd sg t cd w.heap.size (w3.heap.size)) (Below.refl _ _) rfl))
      · intro lQ b W hI hUN hED KQ hKQ
        exact opw_field 41 7 1 rfl _ ((hI.fr.same 7 (by decide)).trans g7) _ (by kernel_rfl) (hKQ.out _ _ (hI.put 3 77 rfl rfl (by rw [hz]; decide) rfl hUN rfl HBB (s12Sp_stb hl hs hr ha ag ng cg sc x h n at2 bd sg t cd w.heap.size (w3.heap.size)) (Below.refl _ _) rfl))
      · intro lQ b W hI hUN hED KQ hKQ
        have f := hI.got 3 (of_decide_eq_true rfl) (edge hED 3 (by kernel_rfl)) rfl
        have hg := (hI.vot 19 (of_decide_eq_true rfl) (of_decide_eq_true rfl) rfl)
        have hc : W.cell? ⟨(w.heap.size + 1), 1, none⟩ = some (.int .i64 hs) := (cell_of_row _ _ 1 _ _ (0, 0) hg).trans rfl
        exact opw_load1 2 77 rfl _ f _ (by simp [Instr.loadAt, go_sem, hc]) (hKQ.out _ _ (hI.put 4 78 rfl rfl (by rw [hz]; decide) rfl hUN rfl HBB (s12Sp_stb hl hs hr ha ag ng cg sc x h n at2 bd sg t cd w.heap.size (w3.heap.size)) (Below.refl _ _) rfl))
      · intro lQ b W hI hUN hED KQ hKQ
        exact opw_field 41 7 2 rfl _ ((hI.fr.same 7 (by decide)).trans g7) _ (by kernel_rfl) (hKQ.out _ _ (hI.put 5 79 rfl rfl (by rw [hz]; decide) rfl hUN rfl HBB (s12Sp_stb hl hs hr ha ag ng cg sc x h n at2 bd sg t cd w.heap.size (w3.heap.size)) (Below.refl _ _) rfl))
      · intro lQ b W hI hUN hED KQ hKQ
        have f := hI.got 5 (of_decide_eq_true rfl) (edge hED 5 (by kernel_rfl)) rfl
        have hg := (hI.vot 19 (of_decide_eq_true rfl) (of_decide_eq_true rfl) rfl)
        have hc : W.cell? ⟨(w.heap.size + 1), 2, none⟩ = some (.int .u64 hr) := (cell_of_row _ _ 2 _ _ (0, 0) hg).trans rfl
        exact opw_load1 22 79 rfl _ f _ (by simp [Instr.loadAt, go_sem, hc]) (hKQ.out _ _ (hI.put 6 80 rfl rfl (by rw [hz]; decide) rfl hUN rfl HBB (s12Sp_stb hl hs hr ha ag ng cg sc x h n at2 bd sg t cd w.heap.size (w3.heap.size)) (Below.refl _ _) rfl))
      · intro lQ b W hI hUN hED KQ hKQ
        exact opw_move 4 rfl (hKQ.out _ _ (hI.put 7 81 rfl rfl (by rw [hz]; decide) rfl hUN rfl HBB (s12Sp_stb hl hs hr ha ag ng cg sc x h n at2 bd sg t cd w.heap.size (w3.heap.size)) (Below.refl _ _) ((hI.fr.same 4 (by decide)).trans g4)))
      · intro lQ b W hI hUN hED KQ hKQ
        have f1 := hI.got 2 (of_decide_eq_true rfl) (edge hED 2 (by kernel_rfl)) rfl
        replace f1 : aT b 76 = .int .i64 hl := f1
        have f2 := hI.got 4 (of_decide_eq_true rfl) (edge hED 4 (by kernel_rfl)) rfl
        replace f2 : aT b 78 = .int .i64 hs := f2
        have f3 := hI.got 6 (of_decide_eq_true rfl) (edge hED 6 (by kernel_rfl)) rfl
        replace f3 : aT b 80 = .int .u64 hr := f3
        have f4 := hI.got 7 (of_decide_eq_true rfl) (edge hED 7 (by kernel_rfl)) rfl
        replace f4 : aT b 81 = .int .i64 at2 := f4
        refine opw_call 27 #[.const (.int .i64 7), .tmp 76, .tmp 78, .tmp 80, .tmp 81] _ _ _ rfl Tryz.func27 (by kernel_rfl) rfl #[.int .i64 7, .int .i64 hl, .int .i64 hs, .int .u64 hr, .int .i64 at2] (by simp [ev, evc, f1, f2, f3, f4]) ?_
        refine (HHB.out W).mono ?_
        rintro e W2 ⟨a1, c1, rfl, ho, hb⟩
        exact ⟨_, rfl, hKQ.out _ _ (hI.put 8 82 rfl rfl (by rw [hz]; decide) rfl hUN rfl HBB (s12Sp_stb hl hs hr ha ag ng cg sc x h n at2 bd sg t cd w.heap.size (w3.heap.size)) hb ⟨a1, c1, rfl, ho.mono (Nat.le_trans HBB hI.bel.size)⟩)⟩
      · intro lQ b W hI hUN hED KQ hKQ
        have f0 := hI.got 0 (of_decide_eq_true rfl) (edge hED 0 (by kernel_rfl)) rfl
        replace f0 : aT b 74 = .agg #[.int .i64 sc, .int .u64 x, .int .i64 h, .int .i64 n] := f0
        have f1 := hI.got 8 (of_decide_eq_true rfl) (edge hED 8 (by kernel_rfl)) rfl
        obtain ⟨a1, c1, f1, o1_0⟩ := f1
        replace f1 : aT b 82 = .slice a1 bd.length c1 := f1
        refine opw_call 26 #[.tmp 74, .tmp 82] _ _ _ rfl Tryz.func26 (by kernel_rfl) rfl #[.agg #[.int .i64 sc, .int .u64 x, .int .i64 h, .int .i64 n], .slice a1 bd.length c1] (by simp [ev, f0, f1]) ?_
        refine (HSA.out W a1 c1 o1_0.toRow o1_0.nil).mono ?_
        rintro e W2 ⟨a2, c2, rfl, ho, hb⟩
        exact ⟨_, rfl, hKQ.out _ _ (hI.put 9 83 rfl rfl (by rw [hz]; decide) rfl hUN rfl HBB (s12Sp_stb hl hs hr ha ag ng cg sc x h n at2 bd sg t cd w.heap.size (w3.heap.size)) hb ⟨a2, c2, rfl, ho.mono (Nat.le_trans HBB hI.bel.size)⟩)⟩
      · intro lQ b W hI hUN hED KQ hKQ
        have f := hI.got 9 (of_decide_eq_true rfl) (edge hED 9 (by kernel_rfl)) rfl
        exact opw_move 83 rfl (hKQ.out _ _ (hI.put 10 73 rfl rfl (by rw [hz]; decide) rfl hUN rfl HBB (s12Sp_stb hl hs hr ha ag ng cg sc x h n at2 bd sg t cd w.heap.size (w3.heap.size)) (Below.refl _ _) f))
      · intro lQ b W hI hUN hED KQ hKQ
        have f := hI.got 10 (of_decide_eq_true rfl) (edge hED 10 (by kernel_rfl)) rfl
        obtain ⟨a2, c2, f, o_0⟩ := f
        exact opw_extract 73 0 rfl _ _ f rfl (hKQ.out _ _ (hI.put 11 84 rfl rfl (by rw [hz]; decide) rfl hUN rfl HBB (s12Sp_stb hl hs hr ha ag ng cg sc x h n at2 bd sg t cd w.heap.size (w3.heap.size)) (Below.refl _ _) ⟨a2, c2, rfl, o_0⟩))
      · intro lQ b W hI hUN hED KQ hKQ
        have f := hI.got 10 (of_decide_eq_true rfl) (edge hED 10 (by kernel_rfl)) rfl
        obtain ⟨a2, c2, f, o_0⟩ := f
        exact opw_extract 73 1 rfl _ _ f rfl (hKQ.out _ _ (hI.put 12 85 rfl rfl (by rw [hz]; decide) rfl hUN rfl HBB (s12Sp_stb hl hs hr ha ag ng cg sc x h n at2 bd sg t cd w.heap.size (w3.heap.size)) (Below.refl _ _) rfl))
      · intro lQ b W hI hUN hED KQ hKQ
        have f := hI.got 10 (of_decide_eq_true rfl) (edge hED 10 (by kernel_rfl)) rfl
        obtain ⟨a2, c2, f, o_0⟩ := f
        exact opw_extract 73 2 rfl _ _ f rfl (hKQ.out _ _ (hI.put 13 86 rfl rfl (by rw [hz]; decide) rfl hUN rfl HBB (s12Sp_stb hl hs hr ha ag ng cg sc x h n at2 bd sg t cd w.heap.size (w3.heap.size)) (Below.refl _ _) rfl))
      · intro lQ b W hI hUN hED KQ hKQ
        refine opw_value (w' := W.alloc (.cells #[.int .i64 0, .int .u64 0, .int .i64 0, .int .i64 0] 37)) (.pointer (some ⟨W.heap.size, 0, none⟩)) (by kernel_rfl) ?_
        exact hKQ.out _ _ (hI.put 14 18 rfl rfl (by rw [hz]; decide) rfl hUN rfl HBB (s12Sp_stb hl hs hr ha ag ng cg sc x h n at2 bd sg t cd w.heap.size (w3.heap.size)) ((Below.refl _ _).alloc (Nat.le_refl _) _) ⟨W.heap.size, rfl, heap_alloc_new W _, Nat.le_trans HBB hI.bel.size⟩)
      · intro lQ b W hI hUN hED KQ hKQ
        have f := hI.got 11 (of_decide_eq_true rfl) (edge hED 11 (by kernel_rfl)) rfl
        exact opw_assign 84 rfl (hKQ.out _ _ (hI.put 15 17 rfl rfl (by rw [hz]; decide) rfl hUN rfl HBB (s12Sp_stb hl hs hr ha ag ng cg sc x h n at2 bd sg t cd w.heap.size (w3.heap.size)) (Below.refl _ _) f))
      · intro lQ b W hI hUN hED KQ hKQ
        obtain ⟨g, fb, hgb, hge⟩ := hI.got1 14 16 (of_decide_eq_true rfl) (edge hED 14 (by kernel_rfl)) hUN rfl
        have f := hI.got 12 (of_decide_eq_true rfl) (edge hED 12 (by kernel_rfl)) rfl
        refine wp_store_row 37 _ _ rfl g #[.int .i64 t.1, .int .u64 t.2.1, .int .i64 t.2.2.1, .int .i64 t.2.2.2] fb f 37 _ hgb (by kernel_rfl) rfl (by simp [Value.oneCell']) ?_
        have ht := setRow_touch W g #[.int .i64 t.1, .int .u64 t.2.1, .int .i64 t.2.2.1, .int .i64 t.2.2.2]
        exact hKQ.out _ _ (hI.store 16 (fun j hj => by
            rcases List.mem_singleton.1 hj with rfl
            exact edge hED 14 (by kernel_rfl)) (hI.bel.trans (ht.below hge (Nat.le_trans HBB hI.bel.size))) (s12Sp_st16 hl hs hr ha ag ng cg sc x h n at2 bd sg t cd w.heap.size (w3.heap.size) hgb ht hge) ⟨g, fb, (setRow_heap W g _ _ _ _ hgb), hge⟩)
      · intro lQ b W hI hUN hED KQ hKQ
        have f := hI.got 13 (of_decide_eq_true rfl) (edge hED 13 (by kernel_rfl)) rfl
        exact opw_assign 86 rfl (hKQ.out _ _ (hI.put 17 19 rfl rfl (by rw [hz]; decide) rfl hUN rfl HBB (s12Sp_stb hl hs hr ha ag ng cg sc x h n at2 bd sg t cd w.heap.size (w3.heap.size)) (Below.refl _ _) f))
    · intro b W hf hb F
      obtain ⟨gs, e18, hgs, hge⟩ := F 16 (of_decide_eq_true rfl) rfl
      obtain ⟨a2, c2, e17, ho⟩ := F 15 (of_decide_eq_true rfl) rfl
      have e19 := F 17 (of_decide_eq_true rfl) rfl
      replace e18 : aT b 18 = _ := e18
      replace e17 : aT b 17 = _ := e17
      replace e19 : aT b 19 = _ := e19
      have HB5 : Hid (_) := HB3.out.kept hb
      have HGS : Hid (W.heap[gs]? = some (.cells #[.int .i64 t.1, .int .u64 t.2.1, .int .i64 t.2.2.1, .int .i64 t.2.2.2] 37 (0, 0))) := hgs
      have hc5 := keepT hc3 hb
      have hbs := hb.size
      have HO5 : Hid (Own w.heap.size W a2 sg.length c2 sg) := ho.mono hc3.size
      rw [hf.eq]
      simp only [puts, Act.put, List.setIfInBounds_toArray, List.set_cons_zero, List.set_cons_succ, e17, e18, e19]
      clear hf F e17 e18 e19 hgs ho hb
      generalize aT b = AT
      clear b
      obtain ⟨W4, hW4⟩ : ∃ W4, W4 = W := ⟨_, rfl⟩
      subst hW4
      go_upto_region 13 with fail
      by_cases hc6 : cd = 0
      case neg =>
        have HF := (show Hid (V = wtBad (10 + cd)) by show _ = _; rw [HV1.out, if_neg hc6])
        have z5 : (cd != 0) = true := by simp [hc6]
        have z10 : IntKind.i64.wrap (cd + 10) = 10 + cd := by
          have : cd = 1 ∨ cd = 2 := by omega
          rcases this with rfl | rfl <;> decide
        go_upto_region 14 with fail
        have HBB : w.heap.size ≤ W4.heap.size := by have := hc5.size; omega
        refine wp_region_rp (szB cd w.heap.size (w.heap.size)) [15, 89, 90, 91, 92, 93] (w.heap.size) (fun a0 => a0.tmps.size = 112 ∧ aT a0 12 = .pointer (some ⟨(w.heap.size + 1 + 1 + 1 + 1), 0, none⟩) ∧ aT a0 13 = .pointer (some ⟨(w.heap.size + 1 + 1 + 1 + 1 + 1), 0, none⟩) ∧ aT a0 14 = .pointer (some ⟨(w.heap.size + 1 + 1 + 1 + 1 + 1 + 1), 0, none⟩) ∧ aT a0 19 = .int .i64 cd) rfl (by kernel_rfl) rfl ⟨rfl, rfl, rfl, rfl, rfl⟩ (szB_stb cd w.heap.size (w.heap.size)) ?_ ?_ ?_
        · intro k hk hk2
          match k, hk, hk2 with
          | 9, _, _ => exact HB5.out.frw
          | 10, _, _ => exact HB5.out.frc
          | 11, _, _ => exact HB5.out.frs
          | 0, hk, _ => exact absurd hk (by show ¬ (9 ≤ 0); omega)
          | 1, hk, _ => exact absurd hk (by show ¬ (9 ≤ 1); omega)
          | 2, hk, _ => exact absurd hk (by show ¬ (9 ≤ 2); omega)
          | 3, hk, _ => exact absurd hk (by show ¬ (9 ≤ 3); omega)
          | 4, hk, _ => exact absurd hk (by show ¬ (9 ≤ 4); omega)
          | 5, hk, _ => exact absurd hk (by show ¬ (9 ≤ 5); omega)
          | 6, hk, _ => exact absurd hk (by show ¬ (9 ≤ 6); omega)
          | 7, hk, _ => exact absurd hk (by show ¬ (9 ≤ 7); omega)
          | 8, hk, _ => exact absurd hk (by show ¬ (9 ≤ 8); omega)
          | k + 12, _, hk2 => exact absurd hk2 (by show ¬ (k + 12 < 12); omega)
        · rintro a0 ⟨hz, g12, g13, g14, g19⟩
          refine StepsRI.cons ?_ (StepsRI.cons ?_ (StepsRI.cons ?_ (StepsRI.cons ?_ (StepsRI.cons ?_ (StepsRI.cons ?_ (StepsRI.cons ?_ (StepsRI.cons ?_ (StepsRI.cons ?_ (StepsRI.nil)))))))))
          · intro lQ b W hI hUN hED KQ hKQ
            refine opw_build 34 _ rfl #[] (by simp []) (.agg #[.int .i64 0, .int .i64 0, .int .u64 0]) (by kernel_rfl) ?_
            exact hKQ.out _ _ (hI.put 0 89 rfl rfl (by rw [hz]; decide) rfl hUN rfl HBB (szB_stb cd w.heap.size (w.heap.size)) (Below.refl _ _) rfl)
          · intro lQ b W hI hUN hED KQ hKQ
            refine opw_build 36 _ rfl #[] (by simp []) (.agg #[.int .u64 0, .int .i64 0, .slice none 0 0]) (by kernel_rfl) ?_
            exact hKQ.out _ _ (hI.put 1 90 rfl rfl (by rw [hz]; decide) rfl hUN rfl HBB (szB_stb cd w.heap.size (w.heap.size)) (Below.refl _ _) rfl)
          · intro lQ b W hI hUN hED KQ hKQ
            refine opw_build 37 _ rfl #[] (by simp []) (.agg #[.int .i64 0, .int .u64 0, .int .i64 0, .int .i64 0]) (by kernel_rfl) ?_
            exact hKQ.out _ _ (hI.put 2 91 rfl rfl (by rw [hz]; decide) rfl hUN rfl HBB (szB_stb cd w.heap.size (w.heap.size)) (Below.refl _ _) rfl)
          · intro lQ b W hI hUN hED KQ hKQ
            exact opw_move 19 rfl (hKQ.out _ _ (hI.put 3 92 rfl rfl (by rw [hz]; decide) rfl hUN rfl HBB (szB_stb cd w.heap.size (w.heap.size)) (Below.refl _ _) ((hI.fr.same 19 (by decide)).trans g19)))
          · intro lQ b W hI hUN hED KQ hKQ
            have f := hI.got 3 (of_decide_eq_true rfl) (edge hED 3 (by kernel_rfl)) rfl
            replace f : aT b 92 = .int .i64 cd := f
            have f2 : b.tmps[92]?.getD undef = .int .i64 cd := by simpa [aT] using f
            exact opw_value (.int .i64 (10 + cd)) (by simp [execOp, Act.eval, f2, go_sem, z10]) (hKQ.out _ _ (hI.put 4 93 rfl rfl (by rw [hz]; decide) rfl hUN rfl HBB (szB_stb cd w.heap.size (w.heap.size)) (Below.refl _ _) rfl))
          · intro lQ b W hI hUN hED KQ hKQ
            have hgb := (hI.vot1 9 5 (of_decide_eq_true rfl) (of_decide_eq_true rfl) hUN rfl)
            have fb := ((hI.fr.same 12 (by decide)).trans g12)
            have f := hI.got 0 (of_decide_eq_true rfl) (edge hED 0 (by kernel_rfl)) rfl
            refine wp_store_row 34 _ _ rfl ((w.heap.size + 1 + 1 + 1 + 1)) #[.int .i64 0, .int .i64 0, .int .u64 0] fb f 34 _ hgb (by kernel_rfl) rfl (by simp [Value.oneCell']) ?_
            have ht := setRow_touch W ((w.heap.size + 1 + 1 + 1 + 1)) #[.int .i64 0, .int .i64 0, .int .u64 0]
            exact hKQ.out _ _ (hI.store 5 (fun j hj => by cases hj) (hI.bel.trans (ht.below (by first | exact HGE12 | omega) (Nat.le_trans HBB hI.bel.size))) (szB_st5 cd w.heap.size (w.heap.size) hgb ht) (setRow_heap W ((w.heap.size + 1 + 1 + 1 + 1)) _ _ _ _ hgb))
          · intro lQ b W hI hUN hED KQ hKQ
            have hgb := (hI.vot1 10 6 (of_decide_eq_true rfl) (of_decide_eq_true rfl) hUN rfl)
            have fb := ((hI.fr.same 13 (by decide)).trans g13)
            have f := hI.got 1 (of_decide_eq_true rfl) (edge hED 1 (by kernel_rfl)) rfl
            refine wp_store_row 36 _ _ rfl ((w.heap.size + 1 + 1 + 1 + 1 + 1)) #[.int .u64 0, .int .i64 0, .slice none 0 0] fb f 36 _ hgb (by kernel_rfl) rfl (by simp [Value.oneCell']) ?_
            have ht := setRow_touch W ((w.heap.size + 1 + 1 + 1 + 1 + 1)) #[.int .u64 0, .int .i64 0, .slice none 0 0]
            exact hKQ.out _ _ (hI.store 6 (fun j hj => by cases hj) (hI.bel.trans (ht.below (by first | exact HGE13 | omega) (Nat.le_trans HBB hI.bel.size))) (szB_st6 cd w.heap.size (w.heap.size) hgb ht) (setRow_heap W ((w.heap.size + 1 + 1 + 1 + 1 + 1)) _ _ _ _ hgb))
          · intro lQ b W hI hUN hED KQ hKQ
            have hgb := (hI.vot1 11 7 (of_decide_eq_true rfl) (of_decide_eq_true rfl) hUN rfl)
            have fb := ((hI.fr.same 14 (by decide)).trans g14)
            have f := hI.got 2 (of_decide_eq_true rfl) (edge hED 2 (by kernel_rfl)) rfl
            refine wp_store_row 37 _ _ rfl ((w.heap.size + 1 + 1 + 1 + 1 + 1 + 1)) #[.int .i64 0, .int .u64 0, .int .i64 0, .int .i64 0] fb f 37 _ hgb (by kernel_rfl) rfl (by simp [Value.oneCell']) ?_
            have ht := setRow_touch W ((w.heap.size + 1 + 1 + 1 + 1 + 1 + 1)) #[.int .i64 0, .int .u64 0, .int .i64 0, .int .i64 0]
            exact hKQ.out _ _ (hI.store 7 (fun j hj => by cases hj) (hI.bel.trans (ht.below (by first | exact HGE14 | omega) (Nat.le_trans HBB hI.bel.size))) (szB_st7 cd w.heap.size (w.heap.size) hgb ht) (setRow_heap W ((w.heap.size + 1 + 1 + 1 + 1 + 1 + 1)) _ _ _ _ hgb))
          · intro lQ b W hI hUN hED KQ hKQ
            have f := hI.got 4 (of_decide_eq_true rfl) (edge hED 4 (by kernel_rfl)) rfl
            exact opw_assign 93 rfl (hKQ.out _ _ (hI.put 8 15 rfl rfl (by rw [hz]; decide) rfl hUN rfl HBB (szB_stb cd w.heap.size (w.heap.size)) (Below.refl _ _) f))
        · intro b W hf hb F
          have e0 := F 5 (of_decide_eq_true rfl) rfl
          have e1 := F 6 (of_decide_eq_true rfl) rfl
          have e2 := F 7 (of_decide_eq_true rfl) rfl
          have e3 := F 8 (of_decide_eq_true rfl) rfl
          replace e3 : aT b 15 = _ := e3
          rw [hf.eq]
          simp only [puts, Act.put, List.setIfInBounds_toArray, List.set_cons_zero, List.set_cons_succ, e3]
          clear hf F
          go_wp2
          try simp only [Exit.inBlock, Exit.then]
          exact bodyPost_ret (results_wt rfl _ (w.heap.size + 1 + 1 + 1 + 1) (w.heap.size + 1 + 1 + 1 + 1 + 1) (w.heap.size + 1 + 1 + 1 + 1 + 1 + 1) rfl rfl rfl _ rfl _ _ _ _ e0 e1 e2 rfl rfl rfl) rfl ⟨none, 0, by rw [HF.out]; rfl, by rw [HF.out]; exact own_none _ _, hc5.trans hb⟩
  
      case pos =>
        have HF := (show Hid (V = ⟨hl, hs, hr, kd, at2, sg, t, 0⟩) by show _ = _; rw [HV1.out, if_pos hc6])
        have z5 : (cd != 0) = false := by simp [hc6]
        clear hc6
        obtain ⟨s0, s1, s2, s3⟩ := cells4 HB5.out.fs
        go_wp2_with fail
        refine (HPU.out W4).mono ?_
        rintro e w5 ⟨rfl, hb5⟩
        clear s0 s1 s2 s3
        obtain ⟨w6, hw6⟩ : ∃ w6, w6 = w5.alloc (.cells #[.int .i64 p.1, .int .u64 p.2.1, .int .i64 p.2.2] 44) := ⟨_, rfl⟩
        have hb6 : Below w5.heap.size w5 w6 := by rw [hw6]; exact (Below.refl _ _).alloc (Nat.le_refl _) _
        have hb56 := keepT hb5 hb6
        have HP6 : Hid (w6.heap[w5.heap.size]? = some (.cells #[.int .i64 p.1, .int .u64 p.2.1, .int .i64 p.2.2] 44 (0, 0))) := by show _ = _; rw [hw6]; exact heap_alloc_new w5 _
        have HB6 : Hid (_) := HB5.out.kept hb56
        have HGS6 : Hid (_) := below_kept HGS.out hb56
        have hc6 := keepT hc5 hb56
        have HO6 : Hid (_) := HO5.out.kept hb56
        have HW : Hid (_ = _) := hw6
        have hs5 := hb5.size
        have hs6 := hb6.size
        clear hw6
        go_upto_region 16 with fail
        rw [← HW.out]
        clear HW HB5 HGS HO5
        obtain ⟨a0, a1, a2'⟩ := cells3w HB6.out.fw
        obtain ⟨b0, b1, b2, b3, b4⟩ := cells5w HB6.out.fh
        obtain ⟨f0, f1, f2⟩ := frozen3w HB6.out.fw
        obtain ⟨w7, hw7⟩ : ∃ w7, w7 = (w6.setCell ⟨w.heap.size, 1, none⟩ (.int .i64 hs)).setCell ⟨w.heap.size, 2, none⟩ (.int .u64 hr) := ⟨_, rfl⟩
        have ht7 : Touch w.heap.size (w.heap.size + 1) w6 w7 := by rw [hw7]; exact (touch_set1 _ _ _ _).trans (touch_set1 _ _ _ _)
        have H7W : Hid (w7.heap[w.heap.size]? = some (.cells #[.int .i64 hl, .int .i64 hs, .int .u64 hr] 34 (0, 0))) := by show _ = _; rw [hw7]; exact set12 HB6.out.fw _ _
        have hc7 : Below w.heap.size w w7 := hc6.trans (ht7.below (Nat.le_refl _) hc6.size)
        have H7R : Hid (w7.heap[w.heap.size + 1 + 1 + 1 + 1]? = some (.cells #[.int .i64 0, .int .i64 0, .int .u64 0] 34 (0, 0)) ∧ w7.heap[w.heap.size + 1 + 1 + 1 + 1 + 1]? = some (.cells #[.int .u64 0, .int .i64 0, .slice none 0 0] 36 (0, 0)) ∧ w7.heap[w.heap.size + 1 + 1 + 1 + 1 + 1 + 1]? = some (.cells #[.int .i64 0, .int .u64 0, .int .i64 0, .int .i64 0] 37 (0, 0)) ∧ w7.heap[w5.heap.size]? = some (.cells #[.int .i64 p.1, .int .u64 p.2.1, .int .i64 p.2.2] 44 (0, 0)) ∧ w7.heap[gs]? = some (.cells #[.int .i64 t.1, .int .u64 t.2.1, .int .i64 t.2.2.1, .int .i64 t.2.2.2] 37 (0, 0))) :=
          ⟨touch_kept ht7 HB6.out.frw (by omega), touch_kept ht7 HB6.out.frc (by omega), touch_kept ht7 HB6.out.frs (by omega), touch_kept ht7 HP6.out (by omega), touch_kept ht7 HGS6.out (by omega)⟩
        have HO7 : Hid (Own w.heap.size w7 a2 sg.length c2 sg) := ⟨ownsRow_box HO6.out.row HB6.out.fw (by decide) ht7, HO6.out.byte⟩
        have hs7 := ht7.size
        have HW : Hid (_ = _) := hw7
        clear hw7
        go_upto_region 18 with fail
        rw [← HW.out]
        clear HW a0 a1 a2' b0 b1 b2 b3 b4 f0 f1 f2
        have HBB : w.heap.size ≤ w7.heap.size := by have := hc7.size; omega
        refine wp_region_ri (s18Sp hl hs hr p kd at2 sg t a2 c2 gs w5.heap.size w.heap.size (w.heap.size)) [15, 105, 106, 107, 108, 109, 110, 111] (w.heap.size) (fun a0 => a0.tmps.size = 112 ∧ aT a0 4 = .int .i64 at2 ∧ aT a0 6 = .pointer (some ⟨w.heap.size, 0, none⟩) ∧ aT a0 12 = .pointer (some ⟨(w.heap.size + 1 + 1 + 1 + 1), 0, none⟩) ∧ aT a0 13 = .pointer (some ⟨(w.heap.size + 1 + 1 + 1 + 1 + 1), 0, none⟩) ∧ aT a0 14 = .pointer (some ⟨(w.heap.size + 1 + 1 + 1 + 1 + 1 + 1), 0, none⟩) ∧ aT a0 17 = .slice a2 sg.length c2 ∧ aT a0 18 = .pointer (some ⟨gs, 0, none⟩) ∧ aT a0 20 = .pointer (some ⟨w5.heap.size, 0, none⟩)) (by kernel_rfl) rfl (by kernel_rfl) rfl ⟨rfl, rfl, rfl, rfl, rfl, rfl, rfl, rfl, rfl⟩ (s18Sp_stb hl hs hr p kd at2 sg t a2 c2 gs w5.heap.size w.heap.size (w.heap.size)) ?_ ?_ ?_
        · intro k hk hk2
          match k, hk, hk2 with
          | 11, _, _ => exact H7R.out.1
          | 12, _, _ => exact H7R.out.2.1
          | 13, _, _ => exact H7R.out.2.2.1
          | 14, _, _ => exact H7W.out
          | 15, _, _ => exact H7R.out.2.2.2.1
          | 16, _, _ => exact ⟨H7R.out.2.2.2.2, by omega⟩
          | 17, _, _ => exact (show Own w.heap.size w7 a2 sg.length c2 sg from HO7.out)
          | 0, hk, _ => exact absurd hk (by show ¬ (11 ≤ 0); omega)
          | 1, hk, _ => exact absurd hk (by show ¬ (11 ≤ 1); omega)
          | 2, hk, _ => exact absurd hk (by show ¬ (11 ≤ 2); omega)
          | 3, hk, _ => exact absurd hk (by show ¬ (11 ≤ 3); omega)
          | 4, hk, _ => exact absurd hk (by show ¬ (11 ≤ 4); omega)
          | 5, hk, _ => exact absurd hk (by show ¬ (11 ≤ 5); omega)
          | 6, hk, _ => exact absurd hk (by show ¬ (11 ≤ 6); omega)
          | 7, hk, _ => exact absurd hk (by show ¬ (11 ≤ 7); omega)
          | 8, hk, _ => exact absurd hk (by show ¬ (11 ≤ 8); omega)
          | 9, hk, _ => exact absurd hk (by show ¬ (11 ≤ 9); omega)
          | 10, hk, _ => exact absurd hk (by show ¬ (11 ≤ 10); omega)
          | k + 18, _, hk2 => exact absurd hk2 (by show ¬ (k + 18 < 18); omega)
        · rintro a0 ⟨hz, g4, g6, g12, g13, g14, g17, g18, g20⟩
          refine StepsRI.cons ?_ (StepsRI.cons ?_ (StepsRI.cons ?_ (StepsRI.cons ?_ (StepsRI.cons ?_ (StepsRI.cons ?_ (StepsRI.cons ?_ (StepsRI.cons ?_ (StepsRI.cons ?_ (StepsRI.cons ?_ (StepsRI.cons ?_ (StepsRI.nil)))))))))))
          · intro lQ b W hI hUN hED KQ hKQ
            have hg := (hI.vot 14 (of_decide_eq_true rfl) (of_decide_eq_true rfl) rfl)
            refine wp_load_row 34 _ rfl (w.heap.size) ((hI.fr.same 6 (by decide)).trans g6) 34 #[.int .i64 hl, .int .i64 hs, .int .u64 hr] (0, 0) _ hg Tryz.underlying34 rfl (by kernel_rfl) ?_
            exact hKQ.out _ _ (hI.put 0 105 rfl rfl (by rw [hz]; decide) rfl hUN rfl HBB (s18Sp_stb hl hs hr p kd at2 sg t a2 c2 gs w5.heap.size w.heap.size (w.heap.size)) (Below.refl _ _) rfl)
          · intro lQ b W hI hUN hED KQ hKQ
            have hg := (hI.vot 15 (of_decide_eq_true rfl) (of_decide_eq_true rfl) rfl)
            refine wp_load_row 44 _ rfl (w5.heap.size) ((hI.fr.same 20 (by decide)).trans g20) 44 #[.int .i64 p.1, .int .u64 p.2.1, .int .i64 p.2.2] (0, 0) _ hg Tryz.underlying44 rfl (by kernel_rfl) ?_
            exact hKQ.out _ _ (hI.put 1 106 rfl rfl (by rw [hz]; decide) rfl hUN rfl HBB (s18Sp_stb hl hs hr p kd at2 sg t a2 c2 gs w5.heap.size w.heap.size (w.heap.size)) (Below.refl _ _) rfl)
          · intro lQ b W hI hUN hED KQ hKQ
            have f0 := hI.got 1 (of_decide_eq_true rfl) (edge hED 1 (by kernel_rfl)) rfl
            replace f0 : aT b 106 = .agg #[.int .i64 p.1, .int .u64 p.2.1, .int .i64 p.2.2] := f0
            refine opw_call 29 #[.tmp 106] _ _ _ rfl Tryz.func29 (by kernel_rfl) rfl #[.agg #[.int .i64 p.1, .int .u64 p.2.1, .int .i64 p.2.2]] (by simp [ev, f0]) ?_
            refine (HKI.out W).mono ?_
            rintro e W2 ⟨rfl, hb⟩
            exact ⟨_, rfl, hKQ.out _ _ (hI.put 2 107 rfl rfl (by rw [hz]; decide) rfl hUN rfl HBB (s18Sp_stb hl hs hr p kd at2 sg t a2 c2 gs w5.heap.size w.heap.size (w.heap.size)) hb rfl)⟩
          · intro lQ b W hI hUN hED KQ hKQ
            exact opw_move 4 rfl (hKQ.out _ _ (hI.put 3 108 rfl rfl (by rw [hz]; decide) rfl hUN rfl HBB (s18Sp_stb hl hs hr p kd at2 sg t a2 c2 gs w5.heap.size w.heap.size (w.heap.size)) (Below.refl _ _) ((hI.fr.same 4 (by decide)).trans g4)))
          · intro lQ b W hI hUN hED KQ hKQ
            exact opw_move 17 rfl (hKQ.out _ _ (hI.put 4 109 rfl rfl (by rw [hz]; decide) rfl hUN rfl HBB (s18Sp_stb hl hs hr p kd at2 sg t a2 c2 gs w5.heap.size w.heap.size (w.heap.size)) (Below.refl _ _) ((hI.fr.same 17 (by decide)).trans g17)))
          · intro lQ b W hI hUN hED KQ hKQ
            have f0 := hI.got 2 (of_decide_eq_true rfl) (edge hED 2 (by kernel_rfl)) rfl
            replace f0 : aT b 107 = .int .u64 kd := f0
            have f1 := hI.got 3 (of_decide_eq_true rfl) (edge hED 3 (by kernel_rfl)) rfl
            replace f1 : aT b 108 = .int .i64 at2 := f1
            have f2 := hI.got 4 (of_decide_eq_true rfl) (edge hED 4 (by kernel_rfl)) rfl
            replace f2 : aT b 109 = .slice a2 sg.length c2 := f2
            refine opw_build 36 _ rfl #[(0, .int .u64 kd), (1, .int .i64 at2), (2, .slice a2 sg.length c2)] (by simp [ev, f0, f1, f2]) (.agg #[.int .u64 kd, .int .i64 at2, .slice a2 sg.length c2]) (by kernel_rfl) ?_
            exact hKQ.out _ _ (hI.put 5 110 rfl rfl (by rw [hz]; decide) rfl hUN rfl HBB (s18Sp_stb hl hs hr p kd at2 sg t a2 c2 gs w5.heap.size w.heap.size (w.heap.size)) (Below.refl _ _) rfl)
          · intro lQ b W hI hUN hED KQ hKQ
            have hg := (hI.vot 16 (of_decide_eq_true rfl) (of_decide_eq_true rfl) rfl).1
            refine wp_load_row 37 _ rfl (gs) ((hI.fr.same 18 (by decide)).trans g18) 37 #[.int .i64 t.1, .int .u64 t.2.1, .int .i64 t.2.2.1, .int .i64 t.2.2.2] (0, 0) _ hg Tryz.underlying37 rfl (by kernel_rfl) ?_
            exact hKQ.out _ _ (hI.put 6 111 rfl rfl (by rw [hz]; decide) rfl hUN rfl HBB (s18Sp_stb hl hs hr p kd at2 sg t a2 c2 gs w5.heap.size w.heap.size (w.heap.size)) (Below.refl _ _) rfl)
          · intro lQ b W hI hUN hED KQ hKQ
            have hgb := (hI.vot1 11 7 (of_decide_eq_true rfl) (of_decide_eq_true rfl) hUN rfl)
            have fb := ((hI.fr.same 12 (by decide)).trans g12)
            have f := hI.got 0 (of_decide_eq_true rfl) (edge hED 0 (by kernel_rfl)) rfl
            refine wp_store_row 34 _ _ rfl ((w.heap.size + 1 + 1 + 1 + 1)) #[.int .i64 hl, .int .i64 hs, .int .u64 hr] fb f 34 _ hgb (by kernel_rfl) rfl (by simp [Value.oneCell']) ?_
            have ht := setRow_touch W ((w.heap.size + 1 + 1 + 1 + 1)) #[.int .i64 hl, .int .i64 hs, .int .u64 hr]
            exact hKQ.out _ _ (hI.store 7 (fun j hj => by cases hj) (hI.bel.trans (ht.below (by first | exact HGE12 | omega) (Nat.le_trans HBB hI.bel.size))) (s18Sp_st7 hl hs hr p kd at2 sg t a2 c2 gs w5.heap.size w.heap.size (w.heap.size) hgb ht) (setRow_heap W ((w.heap.size + 1 + 1 + 1 + 1)) _ _ _ _ hgb))
          · intro lQ b W hI hUN hED KQ hKQ
            have hgb := (hI.vot1 12 8 (of_decide_eq_true rfl) (of_decide_eq_true rfl) hUN rfl)
            have fb := ((hI.fr.same 13 (by decide)).trans g13)
            have f := hI.got 5 (of_decide_eq_true rfl) (edge hED 5 (by kernel_rfl)) rfl
            refine wp_store_row 36 _ _ rfl ((w.heap.size + 1 + 1 + 1 + 1 + 1)) #[.int .u64 kd, .int .i64 at2, .slice a2 sg.length c2] fb f 36 _ hgb (by kernel_rfl) rfl (by simp [Value.oneCell']) ?_
            have ht := setRow_touch W ((w.heap.size + 1 + 1 + 1 + 1 + 1)) #[.int .u64 kd, .int .i64 at2, .slice a2 sg.length c2]
            exact hKQ.out _ _ (hI.store 8 (fun j hj => by cases hj) (hI.bel.trans (ht.below (by first | exact HGE13 | omega) (Nat.le_trans HBB hI.bel.size))) (s18Sp_st8 hl hs hr p kd at2 sg t a2 c2 gs w5.heap.size w.heap.size (w.heap.size) hgb ht) (setRow_heap W ((w.heap.size + 1 + 1 + 1 + 1 + 1)) _ _ _ _ hgb))
          · intro lQ b W hI hUN hED KQ hKQ
            have hgb := (hI.vot1 13 9 (of_decide_eq_true rfl) (of_decide_eq_true rfl) hUN rfl)
            have fb := ((hI.fr.same 14 (by decide)).trans g14)
            have f := hI.got 6 (of_decide_eq_true rfl) (edge hED 6 (by kernel_rfl)) rfl
            refine wp_store_row 37 _ _ rfl ((w.heap.size + 1 + 1 + 1 + 1 + 1 + 1)) #[.int .i64 t.1, .int .u64 t.2.1, .int .i64 t.2.2.1, .int .i64 t.2.2.2] fb f 37 _ hgb (by kernel_rfl) rfl (by simp [Value.oneCell']) ?_
            have ht := setRow_touch W ((w.heap.size + 1 + 1 + 1 + 1 + 1 + 1)) #[.int .i64 t.1, .int .u64 t.2.1, .int .i64 t.2.2.1, .int .i64 t.2.2.2]
            exact hKQ.out _ _ (hI.store 9 (fun j hj => by cases hj) (hI.bel.trans (ht.below (by first | exact HGE14 | omega) (Nat.le_trans HBB hI.bel.size))) (s18Sp_st9 hl hs hr p kd at2 sg t a2 c2 gs w5.heap.size w.heap.size (w.heap.size) hgb ht) (setRow_heap W ((w.heap.size + 1 + 1 + 1 + 1 + 1 + 1)) _ _ _ _ hgb))
          · intro lQ b W hI hUN hED KQ hKQ
            exact opw_const (.int .i64 0) rfl (hKQ.out _ _ (hI.put 10 15 rfl rfl (by rw [hz]; decide) rfl hUN rfl HBB (s18Sp_stb hl hs hr p kd at2 sg t a2 c2 gs w5.heap.size w.heap.size (w.heap.size)) (Below.refl _ _) rfl))
        · intro b W hf hb F
          have e12 := F 7 (of_decide_eq_true rfl) rfl
          have e13 := F 8 (of_decide_eq_true rfl) rfl
          have e14 := F 9 (of_decide_eq_true rfl) rfl
          have e15 := F 10 (of_decide_eq_true rfl) rfl
          have hO := F 17 (of_decide_eq_true rfl) rfl
          replace e15 : aT b 15 = _ := e15
          rw [hf.eq]
          simp only [puts, Act.put, List.setIfInBounds_toArray, List.set_cons_zero, List.set_cons_succ, e15]
          clear hf F
          go_wp2
          try simp only [Exit.inBlock, Exit.then]
          exact bodyPost_ret (results_wt rfl _ (w.heap.size + 1 + 1 + 1 + 1) (w.heap.size + 1 + 1 + 1 + 1 + 1) (w.heap.size + 1 + 1 + 1 + 1 + 1 + 1) rfl rfl rfl _ rfl _ _ _ _ e12 e13 e14 rfl rfl rfl) rfl ⟨a2, c2, by rw [HF.out]; rfl, by rw [HF.out]; exact hO, hc7.trans hb⟩
  have z5 : decide (0 < ws) = true := decide_eq_true h5
  go_wp2_with fail
  refine (HCX.out _ (HG.out _ hc3).2).mono ?_
  rintro e w4 ⟨rfl, hb4⟩
  have hc4 := keepT hc3 hb4
  have HB4 : Hid (_) := HB3.out.kept hb4
  clear b0 b1 b2 b3 b4 a0 a1 a2
  cases cB with
  | false =>
    have HF := (show Hid (V = wtBad 4) by
      have hC : C = 4 := by rw [HCb.out, if_neg (by omega), if_pos ⟨by omega, by trivial⟩]
      show _ = _
      rw [HV.out, hC, if_neg (by decide)])
    go_upto_region 11 with fail
    have HBB : w.heap.size ≤ w4.heap.size := by have := hc4.size; omega
    refine wp_region_rp (szA 4 w.heap.size (w.heap.size)) [15, 69, 70, 71, 72] (w.heap.size) (fun a0 => a0.tmps.size = 112 ∧ aT a0 12 = .pointer (some ⟨(w.heap.size + 1 + 1 + 1 + 1), 0, none⟩) ∧ aT a0 13 = .pointer (some ⟨(w.heap.size + 1 + 1 + 1 + 1 + 1), 0, none⟩) ∧ aT a0 14 = .pointer (some ⟨(w.heap.size + 1 + 1 + 1 + 1 + 1 + 1), 0, none⟩) ∧ aT a0 16 = .int .i64 4) rfl (by kernel_rfl) rfl ⟨rfl, rfl, rfl, rfl, rfl⟩ (szA_stb 4 w.heap.size (w.heap.size)) ?_ ?_ ?_
    · intro k hk hk2
      match k, hk, hk2 with
      | 8, _, _ => exact HB4.out.frw
      | 9, _, _ => exact HB4.out.frc
      | 10, _, _ => exact HB4.out.frs
      | 0, hk, _ => exact absurd hk (by show ¬ (8 ≤ 0); omega)
      | 1, hk, _ => exact absurd hk (by show ¬ (8 ≤ 1); omega)
      | 2, hk, _ => exact absurd hk (by show ¬ (8 ≤ 2); omega)
      | 3, hk, _ => exact absurd hk (by show ¬ (8 ≤ 3); omega)
      | 4, hk, _ => exact absurd hk (by show ¬ (8 ≤ 4); omega)
      | 5, hk, _ => exact absurd hk (by show ¬ (8 ≤ 5); omega)
      | 6, hk, _ => exact absurd hk (by show ¬ (8 ≤ 6); omega)
      | 7, hk, _ => exact absurd hk (by show ¬ (8 ≤ 7); omega)
      | k + 11, _, hk2 => exact absurd hk2 (by show ¬ (k + 11 < 11); omega)
    · rintro a0 ⟨hz, g12, g13, g14, g16⟩
      refine StepsRI.cons ?_ (StepsRI.cons ?_ (StepsRI.cons ?_ (StepsRI.cons ?_ (StepsRI.cons ?_ (StepsRI.cons ?_ (StepsRI.cons ?_ (StepsRI.cons ?_ (StepsRI.nil))))))))
      · intro lQ b W hI hUN hED KQ hKQ
        refine opw_build 34 _ rfl #[] (by simp []) (.agg #[.int .i64 0, .int .i64 0, .int .u64 0]) (by kernel_rfl) ?_
        exact hKQ.out _ _ (hI.put 0 69 rfl rfl (by rw [hz]; decide) rfl hUN rfl HBB (szA_stb 4 w.heap.size (w.heap.size)) (Below.refl _ _) rfl)
      · intro lQ b W hI hUN hED KQ hKQ
        refine opw_build 36 _ rfl #[] (by simp []) (.agg #[.int .u64 0, .int .i64 0, .slice none 0 0]) (by kernel_rfl) ?_
        exact hKQ.out _ _ (hI.put 1 70 rfl rfl (by rw [hz]; decide) rfl hUN rfl HBB (szA_stb 4 w.heap.size (w.heap.size)) (Below.refl _ _) rfl)
      · intro lQ b W hI hUN hED KQ hKQ
        refine opw_build 37 _ rfl #[] (by simp []) (.agg #[.int .i64 0, .int .u64 0, .int .i64 0, .int .i64 0]) (by kernel_rfl) ?_
        exact hKQ.out _ _ (hI.put 2 71 rfl rfl (by rw [hz]; decide) rfl hUN rfl HBB (szA_stb 4 w.heap.size (w.heap.size)) (Below.refl _ _) rfl)
      · intro lQ b W hI hUN hED KQ hKQ
        exact opw_move 16 rfl (hKQ.out _ _ (hI.put 3 72 rfl rfl (by rw [hz]; decide) rfl hUN rfl HBB (szA_stb 4 w.heap.size (w.heap.size)) (Below.refl _ _) ((hI.fr.same 16 (by decide)).trans g16)))
      · intro lQ b W hI hUN hED KQ hKQ
        have hgb := (hI.vot1 8 4 (of_decide_eq_true rfl) (of_decide_eq_true rfl) hUN rfl)
        have fb := ((hI.fr.same 12 (by decide)).trans g12)
        have f := hI.got 0 (of_decide_eq_true rfl) (edge hED 0 (by kernel_rfl)) rfl
        refine wp_store_row 34 _ _ rfl ((w.heap.size + 1 + 1 + 1 + 1)) #[.int .i64 0, .int .i64 0, .int .u64 0] fb f 34 _ hgb (by kernel_rfl) rfl (by simp [Value.oneCell']) ?_
        have ht := setRow_touch W ((w.heap.size + 1 + 1 + 1 + 1)) #[.int .i64 0, .int .i64 0, .int .u64 0]
        exact hKQ.out _ _ (hI.store 4 (fun j hj => by cases hj) (hI.bel.trans (ht.below (by first | exact HGE12 | omega) (Nat.le_trans HBB hI.bel.size))) (szA_st4 4 w.heap.size (w.heap.size) hgb ht) (setRow_heap W ((w.heap.size + 1 + 1 + 1 + 1)) _ _ _ _ hgb))
      · intro lQ b W hI hUN hED KQ hKQ
        have hgb := (hI.vot1 9 5 (of_decide_eq_true rfl) (of_decide_eq_true rfl) hUN rfl)
        have fb := ((hI.fr.same 13 (by decide)).trans g13)
        have f := hI.got 1 (of_decide_eq_true rfl) (edge hED 1 (by kernel_rfl)) rfl
        refine wp_store_row 36 _ _ rfl ((w.heap.size + 1 + 1 + 1 + 1 + 1)) #[.int .u64 0, .int .i64 0, .slice none 0 0] fb f 36 _ hgb (by kernel_rfl) rfl (by simp [Value.oneCell']) ?_
        have ht := setRow_touch W ((w.heap.size + 1 + 1 + 1 + 1 + 1)) #[.int .u64 0, .int .i64 0, .slice none 0 0]
        exact hKQ.out _ _ (hI.store 5 (fun j hj => by cases hj) (hI.bel.trans (ht.below (by first | exact HGE13 | omega) (Nat.le_trans HBB hI.bel.size))) (szA_st5 4 w.heap.size (w.heap.size) hgb ht) (setRow_heap W ((w.heap.size + 1 + 1 + 1 + 1 + 1)) _ _ _ _ hgb))
      · intro lQ b W hI hUN hED KQ hKQ
        have hgb := (hI.vot1 10 6 (of_decide_eq_true rfl) (of_decide_eq_true rfl) hUN rfl)
        have fb := ((hI.fr.same 14 (by decide)).trans g14)
        have f := hI.got 2 (of_decide_eq_true rfl) (edge hED 2 (by kernel_rfl)) rfl
        refine wp_store_row 37 _ _ rfl ((w.heap.size + 1 + 1 + 1 + 1 + 1 + 1)) #[.int .i64 0, .int .u64 0, .int .i64 0, .int .i64 0] fb f 37 _ hgb (by kernel_rfl) rfl (by simp [Value.oneCell']) ?_
        have ht := setRow_touch W ((w.heap.size + 1 + 1 + 1 + 1 + 1 + 1)) #[.int .i64 0, .int .u64 0, .int .i64 0, .int .i64 0]
        exact hKQ.out _ _ (hI.store 6 (fun j hj => by cases hj) (hI.bel.trans (ht.below (by first | exact HGE14 | omega) (Nat.le_trans HBB hI.bel.size))) (szA_st6 4 w.heap.size (w.heap.size) hgb ht) (setRow_heap W ((w.heap.size + 1 + 1 + 1 + 1 + 1 + 1)) _ _ _ _ hgb))
      · intro lQ b W hI hUN hED KQ hKQ
        have f := hI.got 3 (of_decide_eq_true rfl) (edge hED 3 (by kernel_rfl)) rfl
        exact opw_assign 72 rfl (hKQ.out _ _ (hI.put 7 15 rfl rfl (by rw [hz]; decide) rfl hUN rfl HBB (szA_stb 4 w.heap.size (w.heap.size)) (Below.refl _ _) f))
    · intro b W hf hb F
      have e0 := F 4 (of_decide_eq_true rfl) rfl
      have e1 := F 5 (of_decide_eq_true rfl) rfl
      have e2 := F 6 (of_decide_eq_true rfl) rfl
      have e3 := F 7 (of_decide_eq_true rfl) rfl
      replace e3 : aT b 15 = _ := e3
      rw [hf.eq]
      simp only [puts, Act.put, List.setIfInBounds_toArray, List.set_cons_zero, List.set_cons_succ, e3]
      clear hf F
      go_wp2
      try simp only [Exit.inBlock, Exit.then]
      exact bodyPost_ret (results_wt rfl _ (w.heap.size + 1 + 1 + 1 + 1) (w.heap.size + 1 + 1 + 1 + 1 + 1) (w.heap.size + 1 + 1 + 1 + 1 + 1 + 1) rfl rfl rfl _ rfl _ _ _ _ e0 e1 e2 rfl rfl rfl) rfl ⟨none, 0, by rw [HF.out]; rfl, by rw [HF.out]; exact own_none _ _, hc4.trans hb⟩
  | true =>
    have HV1 := (show Hid (V = if cd = 0 then ⟨hl, hs, hr, kd, at2, sg, t, 0⟩ else wtBad (10 + cd)) by
      have hC : C = 0 := by rw [HCb.out, if_neg (by omega), if_neg (fun h => by cases h.2)]
      show _ = _
      rw [HV.out, if_pos hC])
    clear h4 h5 z5
    go_upto_region 12 with fail
    have HBB : w4.heap.size ≤ w4.heap.size := Nat.le_refl _
    have hl6 : w.heap.size + 1 + 1 + 1 + 1 + 1 + 1 < w4.heap.size := (Array.getElem?_eq_some_iff.1 HB4.out.frs).1
    refine wp_region_ri (s12Sp hl hs hr ha ag ng cg sc x h n at2 bd sg t cd w.heap.size (w4.heap.size)) [17, 18, 19, 73, 74, 75, 76, 77, 78, 79, 80, 81, 82, 83, 84, 85, 86] (w4.heap.size) (fun a0 => a0.tmps.size = 112 ∧ aT a0 4 = .int .i64 at2 ∧ aT a0 7 = .pointer (some ⟨(w.heap.size + 1), 0, none⟩) ∧ aT a0 11 = .pointer (some ⟨(w.heap.size + 1 + 1 + 1), 0, none⟩)) (by kernel_rfl) rfl (by kernel_rfl) rfl ⟨rfl, rfl, rfl, rfl⟩ (s12Sp_stb hl hs hr ha ag ng cg sc x h n at2 bd sg t cd w.heap.size (w4.heap.size)) ?_ ?_ ?_
    · intro k hk hk2
      match k, hk, hk2 with
      | 18, _, _ => exact ⟨HB4.out.fs, by omega⟩
      | 19, _, _ => exact HB4.out.fh
      | 0, hk, _ => exact absurd hk (by show ¬ (18 ≤ 0); omega)
      | 1, hk, _ => exact absurd hk (by show ¬ (18 ≤ 1); omega)
      | 2, hk, _ => exact absurd hk (by show ¬ (18 ≤ 2); omega)
      | 3, hk, _ => exact absurd hk (by show ¬ (18 ≤ 3); omega)
      | 4, hk, _ => exact absurd hk (by show ¬ (18 ≤ 4); omega)
      | 5, hk, _ => exact absurd hk (by show ¬ (18 ≤ 5); omega)
      | 6, hk, _ => exact absurd hk (by show ¬ (18 ≤ 6); omega)
      | 7, hk, _ => exact absurd hk (by show ¬ (18 ≤ 7); omega)
      | 8, hk, _ => exact absurd hk (by show ¬ (18 ≤ 8); omega)
      | 9, hk, _ => exact absurd hk (by show ¬ (18 ≤ 9); omega)
      | 10, hk, _ => exact absurd hk (by show ¬ (18 ≤ 10); omega)
      | 11, hk, _ => exact absurd hk (by show ¬ (18 ≤ 11); omega)
      | 12, hk, _ => exact absurd hk (by show ¬ (18 ≤ 12); omega)
      | 13, hk, _ => exact absurd hk (by show ¬ (18 ≤ 13); omega)
      | 14, hk, _ => exact absurd hk (by show ¬ (18 ≤ 14); omega)
      | 15, hk, _ => exact absurd hk (by show ¬ (18 ≤ 15); omega)
      | 16, hk, _ => exact absurd hk (by show ¬ (18 ≤ 16); omega)
      | 17, hk, _ => exact absurd hk (by show ¬ (18 ≤ 17); omega)
      | k + 20, _, hk2 => exact absurd hk2 (by show ¬ (k + 20 < 20); omega)
    · rintro a0 ⟨hz, g4, g7, g11⟩
      refine StepsRI.cons ?_ (StepsRI.cons ?_ (StepsRI.cons ?_ (StepsRI.cons ?_ (StepsRI.cons ?_ (StepsRI.cons ?_ (StepsRI.cons ?_ (StepsRI.cons ?_ (StepsRI.cons ?_ (StepsRI.cons ?_ (StepsRI.cons ?_ (StepsRI.cons ?_ (StepsRI.cons ?_ (StepsRI.cons ?_ (StepsRI.cons ?_ (StepsRI.cons ?_ (StepsRI.cons ?_ (StepsRI.cons ?_ (StepsRI.nil))))))))))))))))))
      · intro lQ b W hI hUN hED KQ hKQ
        have hg := (hI.vot 18 (of_decide_eq_true rfl) (of_decide_eq_true rfl) rfl).1
        refine wp_load_row 37 _ rfl ((w.heap.size + 1 + 1 + 1)) ((hI.fr.same 11 (by decide)).trans g11) 37 #[.int .i64 sc, .int .u64 x, .int .i64 h, .int .i64 n] (0, 0) _ hg Tryz.underlying37 rfl (by kernel_rfl) ?_
        exact hKQ.out _ _ (hI.put 0 74 rfl rfl (by rw [hz]; decide) rfl hUN rfl HBB (s12Sp_stb hl hs hr ha ag ng cg sc x h n at2 bd sg t cd w.heap.size (w4.heap.size)) (Below.refl _ _) rfl)
      · intro lQ b W hI hUN hED KQ hKQ
        exact opw_field 41 7 0 rfl _ ((hI.fr.same 7 (by decide)).trans g7) _ (by kernel_rfl) (hKQ.out _ _ (hI.put 1 75 rfl rfl (by rw [hz]; decide) rfl hUN rfl HBB (s12Sp_stb hl hs hr ha ag ng cg sc x h n at2 bd sg t cd w.heap.size (w4.heap.size)) (Below.refl _ _) rfl))
      · intro lQ b W hI hUN hED KQ hKQ
        have f := hI.got 1 (of_decide_eq_true rfl) (edge hED 1 (by kernel_rfl)) rfl
        have hg := (hI.vot 19 (of_decide_eq_true rfl) (of_decide_eq_true rfl) rfl)
        have hc : W.cell? ⟨(w.heap.size + 1), 0, none⟩ = some (.int .i64 hl) := (cell_of_row _ _ 0 _ _ (0, 0) hg).trans rfl
        exact opw_load1 2 75 rfl _ f _ (by simp [Instr.loadAt, go_sem, hc]) (hKQ.out _ _ (hI.put 2 76 rfl rfl (by rw [hz]; decide) rfl hUN rfl HBB (s12Sp_stb hl hs hr ha ag ng cg sc x h n at2 bd sg t cd w.heap.size (w4.heap.size)) (Below.refl _ _) rfl))
      · intro lQ b W hI hUN hED KQ hKQ
        exact opw_field 41 7 1 rfl _ ((hI.fr.same 7 (by decide)).trans g7) _ (by kernel_rfl) (hKQ.out _ _ (hI.put 3 77 rfl rfl (by rw [hz]; decide) rfl hUN rfl HBB (s12Sp_stb hl hs hr ha ag ng cg sc x h n at2 bd sg t cd w.heap.size (w4.heap.size)) (Below.refl _ _) rfl))
      · intro lQ b W hI hUN hED KQ hKQ
        have f := hI.got 3 (of_decide_eq_true rfl) (edge hED 3 (by kernel_rfl)) rfl
        have hg := (hI.vot 19 (of_decide_eq_true rfl) (of_decide_eq_true rfl) rfl)
        have hc : W.cell? ⟨(w.heap.size + 1), 1, none⟩ = some (.int .i64 hs) := (cell_of_row _ _ 1 _ _ (0, 0) hg).trans rfl
        exact opw_load1 2 77 rfl _ f _ (by simp [Instr.loadAt, go_sem, hc]) (hKQ.out _ _ (hI.put 4 78 rfl rfl (by rw [hz]; decide) rfl hUN rfl HBB (s12Sp_stb hl hs hr ha ag ng cg sc x h n at2 bd sg t cd w.heap.size (w4.heap.size)) (Below.refl _ _) rfl))
      · intro lQ b W hI hUN hED KQ hKQ
        exact opw_field 41 7 2 rfl _ ((hI.fr.same 7 (by decide)).trans g7) _ (by kernel_rfl) (hKQ.out _ _ (hI.put 5 79 rfl rfl (by rw [hz]; decide) rfl hUN rfl HBB (s12Sp_stb hl hs hr ha ag ng cg sc x h n at2 bd sg t cd w.heap.size (w4.heap.size)) (Below.refl _ _) rfl))
      · intro lQ b W hI hUN hED KQ hKQ
        have f := hI.got 5 (of_decide_eq_true rfl) (edge hED 5 (by kernel_rfl)) rfl
        have hg := (hI.vot 19 (of_decide_eq_true rfl) (of_decide_eq_true rfl) rfl)
        have hc : W.cell? ⟨(w.heap.size + 1), 2, none⟩ = some (.int .u64 hr) := (cell_of_row _ _ 2 _ _ (0, 0) hg).trans rfl
        exact opw_load1 22 79 rfl _ f _ (by simp [Instr.loadAt, go_sem, hc]) (hKQ.out _ _ (hI.put 6 80 rfl rfl (by rw [hz]; decide) rfl hUN rfl HBB (s12Sp_stb hl hs hr ha ag ng cg sc x h n at2 bd sg t cd w.heap.size (w4.heap.size)) (Below.refl _ _) rfl))
      · intro lQ b W hI hUN hED KQ hKQ
        exact opw_move 4 rfl (hKQ.out _ _ (hI.put 7 81 rfl rfl (by rw [hz]; decide) rfl hUN rfl HBB (s12Sp_stb hl hs hr ha ag ng cg sc x h n at2 bd sg t cd w.heap.size (w4.heap.size)) (Below.refl _ _) ((hI.fr.same 4 (by decide)).trans g4)))
      · intro lQ b W hI hUN hED KQ hKQ
        have f1 := hI.got 2 (of_decide_eq_true rfl) (edge hED 2 (by kernel_rfl)) rfl
        replace f1 : aT b 76 = .int .i64 hl := f1
        have f2 := hI.got 4 (of_decide_eq_true rfl) (edge hED 4 (by kernel_rfl)) rfl
        replace f2 : aT b 78 = .int .i64 hs := f2
        have f3 := hI.got 6 (of_decide_eq_true rfl) (edge hED 6 (by kernel_rfl)) rfl
        replace f3 : aT b 80 = .int .u64 hr := f3
        have f4 := hI.got 7 (of_decide_eq_true rfl) (edge hED 7 (by kernel_rfl)) rfl
        replace f4 : aT b 81 = .int .i64 at2 := f4
        refine opw_call 27 #[.const (.int .i64 7), .tmp 76, .tmp 78, .tmp 80, .tmp 81] _ _ _ rfl Tryz.func27 (by kernel_rfl) rfl #[.int .i64 7, .int .i64 hl, .int .i64 hs, .int .u64 hr, .int .i64 at2] (by simp [ev, evc, f1, f2, f3, f4]) ?_
        refine (HHB.out W).mono ?_
        rintro e W2 ⟨a1, c1, rfl, ho, hb⟩
        exact ⟨_, rfl, hKQ.out _ _ (hI.put 8 82 rfl rfl (by rw [hz]; decide) rfl hUN rfl HBB (s12Sp_stb hl hs hr ha ag ng cg sc x h n at2 bd sg t cd w.heap.size (w4.heap.size)) hb ⟨a1, c1, rfl, ho.mono (Nat.le_trans HBB hI.bel.size)⟩)⟩
      · intro lQ b W hI hUN hED KQ hKQ
        have f0 := hI.got 0 (of_decide_eq_true rfl) (edge hED 0 (by kernel_rfl)) rfl
        replace f0 : aT b 74 = .agg #[.int .i64 sc, .int .u64 x, .int .i64 h, .int .i64 n] := f0
        have f1 := hI.got 8 (of_decide_eq_true rfl) (edge hED 8 (by kernel_rfl)) rfl
        obtain ⟨a1, c1, f1, o1_0⟩ := f1
        replace f1 : aT b 82 = .slice a1 bd.length c1 := f1
        refine opw_call 26 #[.tmp 74, .tmp 82] _ _ _ rfl Tryz.func26 (by kernel_rfl) rfl #[.agg #[.int .i64 sc, .int .u64 x, .int .i64 h, .int .i64 n], .slice a1 bd.length c1] (by simp [ev, f0, f1]) ?_
        refine (HSA.out W a1 c1 o1_0.toRow o1_0.nil).mono ?_
        rintro e W2 ⟨a2, c2, rfl, ho, hb⟩
        exact ⟨_, rfl, hKQ.out _ _ (hI.put 9 83 rfl rfl (by rw [hz]; decide) rfl hUN rfl HBB (s12Sp_stb hl hs hr ha ag ng cg sc x h n at2 bd sg t cd w.heap.size (w4.heap.size)) hb ⟨a2, c2, rfl, ho.mono (Nat.le_trans HBB hI.bel.size)⟩)⟩
      · intro lQ b W hI hUN hED KQ hKQ
        have f := hI.got 9 (of_decide_eq_true rfl) (edge hED 9 (by kernel_rfl)) rfl
        exact opw_move 83 rfl (hKQ.out _ _ (hI.put 10 73 rfl rfl (by rw [hz]; decide) rfl hUN rfl HBB (s12Sp_stb hl hs hr ha ag ng cg sc x h n at2 bd sg t cd w.heap.size (w4.heap.size)) (Below.refl _ _) f))
      · intro lQ b W hI hUN hED KQ hKQ
        have f := hI.got 10 (of_decide_eq_true rfl) (edge hED 10 (by kernel_rfl)) rfl
        obtain ⟨a2, c2, f, o_0⟩ := f
        exact opw_extract 73 0 rfl _ _ f rfl (hKQ.out _ _ (hI.put 11 84 rfl rfl (by rw [hz]; decide) rfl hUN rfl HBB (s12Sp_stb hl hs hr ha ag ng cg sc x h n at2 bd sg t cd w.heap.size (w4.heap.size)) (Below.refl _ _) ⟨a2, c2, rfl, o_0⟩))
      · intro lQ b W hI hUN hED KQ hKQ
        have f := hI.got 10 (of_decide_eq_true rfl) (edge hED 10 (by kernel_rfl)) rfl
        obtain ⟨a2, c2, f, o_0⟩ := f
        exact opw_extract 73 1 rfl _ _ f rfl (hKQ.out _ _ (hI.put 12 85 rfl rfl (by rw [hz]; decide) rfl hUN rfl HBB (s12Sp_stb hl hs hr ha ag ng cg sc x h n at2 bd sg t cd w.heap.size (w4.heap.size)) (Below.refl _ _) rfl))
      · intro lQ b W hI hUN hED KQ hKQ
        have f := hI.got 10 (of_decide_eq_true rfl) (edge hED 10 (by kernel_rfl)) rfl
        obtain ⟨a2, c2, f, o_0⟩ := f
        exact opw_extract 73 2 rfl _ _ f rfl (hKQ.out _ _ (hI.put 13 86 rfl rfl (by rw [hz]; decide) rfl hUN rfl HBB (s12Sp_stb hl hs hr ha ag ng cg sc x h n at2 bd sg t cd w.heap.size (w4.heap.size)) (Below.refl _ _) rfl))
      · intro lQ b W hI hUN hED KQ hKQ
        refine opw_value (w' := W.alloc (.cells #[.int .i64 0, .int .u64 0, .int .i64 0, .int .i64 0] 37)) (.pointer (some ⟨W.heap.size, 0, none⟩)) (by kernel_rfl) ?_
        exact hKQ.out _ _ (hI.put 14 18 rfl rfl (by rw [hz]; decide) rfl hUN rfl HBB (s12Sp_stb hl hs hr ha ag ng cg sc x h n at2 bd sg t cd w.heap.size (w4.heap.size)) ((Below.refl _ _).alloc (Nat.le_refl _) _) ⟨W.heap.size, rfl, heap_alloc_new W _, Nat.le_trans HBB hI.bel.size⟩)
      · intro lQ b W hI hUN hED KQ hKQ
        have f := hI.got 11 (of_decide_eq_true rfl) (edge hED 11 (by kernel_rfl)) rfl
        exact opw_assign 84 rfl (hKQ.out _ _ (hI.put 15 17 rfl rfl (by rw [hz]; decide) rfl hUN rfl HBB (s12Sp_stb hl hs hr ha ag ng cg sc x h n at2 bd sg t cd w.heap.size (w4.heap.size)) (Below.refl _ _) f))
      · intro lQ b W hI hUN hED KQ hKQ
        obtain ⟨g, fb, hgb, hge⟩ := hI.got1 14 16 (of_decide_eq_true rfl) (edge hED 14 (by kernel_rfl)) hUN rfl
        have f := hI.got 12 (of_decide_eq_true rfl) (edge hED 12 (by kernel_rfl)) rfl
        refine wp_store_row 37 _ _ rfl g #[.int .i64 t.1, .int .u64 t.2.1, .int .i64 t.2.2.1, .int .i64 t.2.2.2] fb f 37 _ hgb (by kernel_rfl) rfl (by simp [Value.oneCell']) ?_
        have ht := setRow_touch W g #[.int .i64 t.1, .int .u64 t.2.1, .int .i64 t.2.2.1, .int .i64 t.2.2.2]
        exact hKQ.out _ _ (hI.store 16 (fun j hj => by
            rcases List.mem_singleton.1 hj with rfl
            exact edge hED 14 (by kernel_rfl)) (hI.bel.trans (ht.below hge (Nat.le_trans HBB hI.bel.size))) (s12Sp_st16 hl hs hr ha ag ng cg sc x h n at2 bd sg t cd w.heap.size (w4.heap.size) hgb ht hge) ⟨g, fb, (setRow_heap W g _ _ _ _ hgb), hge⟩)
      · intro lQ b W hI hUN hED KQ hKQ
        have f := hI.got 13 (of_decide_eq_true rfl) (edge hED 13 (by kernel_rfl)) rfl
        exact opw_assign 86 rfl (hKQ.out _ _ (hI.put 17 19 rfl rfl (by rw [hz]; decide) rfl hUN rfl HBB (s12Sp_stb hl hs hr ha ag ng cg sc x h n at2 bd sg t cd w.heap.size (w4.heap.size)) (Below.refl _ _) f))
    · intro b W hf hb F
      obtain ⟨gs, e18, hgs, hge⟩ := F 16 (of_decide_eq_true rfl) rfl
      obtain ⟨a2, c2, e17, ho⟩ := F 15 (of_decide_eq_true rfl) rfl
      have e19 := F 17 (of_decide_eq_true rfl) rfl
      replace e18 : aT b 18 = _ := e18
      replace e17 : aT b 17 = _ := e17
      replace e19 : aT b 19 = _ := e19
      have HB5 : Hid (_) := HB4.out.kept hb
      have HGS : Hid (W.heap[gs]? = some (.cells #[.int .i64 t.1, .int .u64 t.2.1, .int .i64 t.2.2.1, .int .i64 t.2.2.2] 37 (0, 0))) := hgs
      have hc5 := keepT hc4 hb
      have hbs := hb.size
      have HO5 : Hid (Own w.heap.size W a2 sg.length c2 sg) := ho.mono hc4.size
      rw [hf.eq]
      simp only [puts, Act.put, List.setIfInBounds_toArray, List.set_cons_zero, List.set_cons_succ, e17, e18, e19]
      clear hf F e17 e18 e19 hgs ho hb
      generalize aT b = AT
      clear b
      obtain ⟨W4, hW4⟩ : ∃ W4, W4 = W := ⟨_, rfl⟩
      subst hW4
      go_upto_region 13 with fail
      by_cases hc6 : cd = 0
      case neg =>
        have HF := (show Hid (V = wtBad (10 + cd)) by show _ = _; rw [HV1.out, if_neg hc6])
        have z5 : (cd != 0) = true := by simp [hc6]
        have z10 : IntKind.i64.wrap (cd + 10) = 10 + cd := by
          have : cd = 1 ∨ cd = 2 := by omega
          rcases this with rfl | rfl <;> decide
        go_upto_region 14 with fail
        have HBB : w.heap.size ≤ W4.heap.size := by have := hc5.size; omega
        refine wp_region_rp (szB cd w.heap.size (w.heap.size)) [15, 89, 90, 91, 92, 93] (w.heap.size) (fun a0 => a0.tmps.size = 112 ∧ aT a0 12 = .pointer (some ⟨(w.heap.size + 1 + 1 + 1 + 1), 0, none⟩) ∧ aT a0 13 = .pointer (some ⟨(w.heap.size + 1 + 1 + 1 + 1 + 1), 0, none⟩) ∧ aT a0 14 = .pointer (some ⟨(w.heap.size + 1 + 1 + 1 + 1 + 1 + 1), 0, none⟩) ∧ aT a0 19 = .int .i64 cd) rfl (by kernel_rfl) rfl ⟨rfl, rfl, rfl, rfl, rfl⟩ (szB_stb cd w.heap.size (w.heap.size)) ?_ ?_ ?_
        · intro k hk hk2
          match k, hk, hk2 with
          | 9, _, _ => exact HB5.out.frw
          | 10, _, _ => exact HB5.out.frc
          | 11, _, _ => exact HB5.out.frs
          | 0, hk, _ => exact absurd hk (by show ¬ (9 ≤ 0); omega)
          | 1, hk, _ => exact absurd hk (by show ¬ (9 ≤ 1); omega)
          | 2, hk, _ => exact absurd hk (by show ¬ (9 ≤ 2); omega)
          | 3, hk, _ => exact absurd hk (by show ¬ (9 ≤ 3); omega)
          | 4, hk, _ => exact absurd hk (by show ¬ (9 ≤ 4); omega)
          | 5, hk, _ => exact absurd hk (by show ¬ (9 ≤ 5); omega)
          | 6, hk, _ => exact absurd hk (by show ¬ (9 ≤ 6); omega)
          | 7, hk, _ => exact absurd hk (by show ¬ (9 ≤ 7); omega)
          | 8, hk, _ => exact absurd hk (by show ¬ (9 ≤ 8); omega)
          | k + 12, _, hk2 => exact absurd hk2 (by show ¬ (k + 12 < 12); omega)
        · rintro a0 ⟨hz, g12, g13, g14, g19⟩
          refine StepsRI.cons ?_ (StepsRI.cons ?_ (StepsRI.cons ?_ (StepsRI.cons ?_ (StepsRI.cons ?_ (StepsRI.cons ?_ (StepsRI.cons ?_ (StepsRI.cons ?_ (StepsRI.cons ?_ (StepsRI.nil)))))))))
          · intro lQ b W hI hUN hED KQ hKQ
            refine opw_build 34 _ rfl #[] (by simp []) (.agg #[.int .i64 0, .int .i64 0, .int .u64 0]) (by kernel_rfl) ?_
            exact hKQ.out _ _ (hI.put 0 89 rfl rfl (by rw [hz]; decide) rfl hUN rfl HBB (szB_stb cd w.heap.size (w.heap.size)) (Below.refl _ _) rfl)
          · intro lQ b W hI hUN hED KQ hKQ
            refine opw_build 36 _ rfl #[] (by simp []) (.agg #[.int .u64 0, .int .i64 0, .slice none 0 0]) (by kernel_rfl) ?_
            exact hKQ.out _ _ (hI.put 1 90 rfl rfl (by rw [hz]; decide) rfl hUN rfl HBB (szB_stb cd w.heap.size (w.heap.size)) (Below.refl _ _) rfl)
          · intro lQ b W hI hUN hED KQ hKQ
            refine opw_build 37 _ rfl #[] (by simp []) (.agg #[.int .i64 0, .int .u64 0, .int .i64 0, .int .i64 0]) (by kernel_rfl) ?_
            exact hKQ.out _ _ (hI.put 2 91 rfl rfl (by rw [hz]; decide) rfl hUN rfl HBB (szB_stb cd w.heap.size (w.heap.size)) (Below.refl _ _) rfl)
          · intro lQ b W hI hUN hED KQ hKQ
            exact opw_move 19 rfl (hKQ.out _ _ (hI.put 3 92 rfl rfl (by rw [hz]; decide) rfl hUN rfl HBB (szB_stb cd w.heap.size (w.heap.size)) (Below.refl _ _) ((hI.fr.same 19 (by decide)).trans g19)))
          · intro lQ b W hI hUN hED KQ hKQ
            have f := hI.got 3 (of_decide_eq_true rfl) (edge hED 3 (by kernel_rfl)) rfl
            replace f : aT b 92 = .int .i64 cd := f
            have f2 : b.tmps[92]?.getD undef = .int .i64 cd := by simpa [aT] using f
            exact opw_value (.int .i64 (10 + cd)) (by simp [execOp, Act.eval, f2, go_sem, z10]) (hKQ.out _ _ (hI.put 4 93 rfl rfl (by rw [hz]; decide) rfl hUN rfl HBB (szB_stb cd w.heap.size (w.heap.size)) (Below.refl _ _) rfl))
          · intro lQ b W hI hUN hED KQ hKQ
            have hgb := (hI.vot1 9 5 (of_decide_eq_true rfl) (of_decide_eq_true rfl) hUN rfl)
            have fb := ((hI.fr.same 12 (by decide)).trans g12)
            have f := hI.got 0 (of_decide_eq_true rfl) (edge hED 0 (by kernel_rfl)) rfl
            refine wp_store_row 34 _ _ rfl ((w.heap.size + 1 + 1 + 1 + 1)) #[.int .i64 0, .int .i64 0, .int .u64 0] fb f 34 _ hgb (by kernel_rfl) rfl (by simp [Value.oneCell']) ?_
            have ht := setRow_touch W ((w.heap.size + 1 + 1 + 1 + 1)) #[.int .i64 0, .int .i64 0, .int .u64 0]
            exact hKQ.out _ _ (hI.store 5 (fun j hj => by cases hj) (hI.bel.trans (ht.below (by first | exact HGE12 | omega) (Nat.le_trans HBB hI.bel.size))) (szB_st5 cd w.heap.size (w.heap.size) hgb ht) (setRow_heap W ((w.heap.size + 1 + 1 + 1 + 1)) _ _ _ _ hgb))
          · intro lQ b W hI hUN hED KQ hKQ
            have hgb := (hI.vot1 10 6 (of_decide_eq_true rfl) (of_decide_eq_true rfl) hUN rfl)
            have fb := ((hI.fr.same 13 (by decide)).trans g13)
            have f := hI.got 1 (of_decide_eq_true rfl) (edge hED 1 (by kernel_rfl)) rfl
            refine wp_store_row 36 _ _ rfl ((w.heap.size + 1 + 1 + 1 + 1 + 1)) #[.int .u64 0, .int .i64 0, .slice none 0 0] fb f 36 _ hgb (by kernel_rfl) rfl (by simp [Value.oneCell']) ?_
            have ht := setRow_touch W ((w.heap.size + 1 + 1 + 1 + 1 + 1)) #[.int .u64 0, .int .i64 0, .slice none 0 0]
            exact hKQ.out _ _ (hI.store 6 (fun j hj => by cases hj) (hI.bel.trans (ht.below (by first | exact HGE13 | omega) (Nat.le_trans HBB hI.bel.size))) (szB_st6 cd w.heap.size (w.heap.size) hgb ht) (setRow_heap W ((w.heap.size + 1 + 1 + 1 + 1 + 1)) _ _ _ _ hgb))
          · intro lQ b W hI hUN hED KQ hKQ
            have hgb := (hI.vot1 11 7 (of_decide_eq_true rfl) (of_decide_eq_true rfl) hUN rfl)
            have fb := ((hI.fr.same 14 (by decide)).trans g14)
            have f := hI.got 2 (of_decide_eq_true rfl) (edge hED 2 (by kernel_rfl)) rfl
            refine wp_store_row 37 _ _ rfl ((w.heap.size + 1 + 1 + 1 + 1 + 1 + 1)) #[.int .i64 0, .int .u64 0, .int .i64 0, .int .i64 0] fb f 37 _ hgb (by kernel_rfl) rfl (by simp [Value.oneCell']) ?_
            have ht := setRow_touch W ((w.heap.size + 1 + 1 + 1 + 1 + 1 + 1)) #[.int .i64 0, .int .u64 0, .int .i64 0, .int .i64 0]
            exact hKQ.out _ _ (hI.store 7 (fun j hj => by cases hj) (hI.bel.trans (ht.below (by first | exact HGE14 | omega) (Nat.le_trans HBB hI.bel.size))) (szB_st7 cd w.heap.size (w.heap.size) hgb ht) (setRow_heap W ((w.heap.size + 1 + 1 + 1 + 1 + 1 + 1)) _ _ _ _ hgb))
          · intro lQ b W hI hUN hED KQ hKQ
            have f := hI.got 4 (of_decide_eq_true rfl) (edge hED 4 (by kernel_rfl)) rfl
            exact opw_assign 93 rfl (hKQ.out _ _ (hI.put 8 15 rfl rfl (by rw [hz]; decide) rfl hUN rfl HBB (szB_stb cd w.heap.size (w.heap.size)) (Below.refl _ _) f))
        · intro b W hf hb F
          have e0 := F 5 (of_decide_eq_true rfl) rfl
          have e1 := F 6 (of_decide_eq_true rfl) rfl
          have e2 := F 7 (of_decide_eq_true rfl) rfl
          have e3 := F 8 (of_decide_eq_true rfl) rfl
          replace e3 : aT b 15 = _ := e3
          rw [hf.eq]
          simp only [puts, Act.put, List.setIfInBounds_toArray, List.set_cons_zero, List.set_cons_succ, e3]
          clear hf F
          go_wp2
          try simp only [Exit.inBlock, Exit.then]
          exact bodyPost_ret (results_wt rfl _ (w.heap.size + 1 + 1 + 1 + 1) (w.heap.size + 1 + 1 + 1 + 1 + 1) (w.heap.size + 1 + 1 + 1 + 1 + 1 + 1) rfl rfl rfl _ rfl _ _ _ _ e0 e1 e2 rfl rfl rfl) rfl ⟨none, 0, by rw [HF.out]; rfl, by rw [HF.out]; exact own_none _ _, hc5.trans hb⟩
  
      case pos =>
        have HF := (show Hid (V = ⟨hl, hs, hr, kd, at2, sg, t, 0⟩) by show _ = _; rw [HV1.out, if_pos hc6])
        have z5 : (cd != 0) = false := by simp [hc6]
        clear hc6
        obtain ⟨s0, s1, s2, s3⟩ := cells4 HB5.out.fs
        go_wp2_with fail
        refine (HPU.out W4).mono ?_
        rintro e w5 ⟨rfl, hb5⟩
        clear s0 s1 s2 s3
        obtain ⟨w6, hw6⟩ : ∃ w6, w6 = w5.alloc (.cells #[.int .i64 p.1, .int .u64 p.2.1, .int .i64 p.2.2] 44) := ⟨_, rfl⟩
        have hb6 : Below w5.heap.size w5 w6 := by rw [hw6]; exact (Below.refl _ _).alloc (Nat.le_refl _) _
        have hb56 := keepT hb5 hb6
        have HP6 : Hid (w6.heap[w5.heap.size]? = some (.cells #[.int .i64 p.1, .int .u64 p.2.1, .int .i64 p.2.2] 44 (0, 0))) := by show _ = _; rw [hw6]; exact heap_alloc_new w5 _
        have HB6 : Hid (_) := HB5.out.kept hb56
        have HGS6 : Hid (_) := below_kept HGS.out hb56
        have hc6 := keepT hc5 hb56
        have HO6 : Hid (_) := HO5.out.kept hb56
        have HW : Hid (_ = _) := hw6
        have hs5 := hb5.size
        have hs6 := hb6.size
        clear hw6
        go_upto_region 16 with fail
        rw [← HW.out]
        clear HW HB5 HGS HO5
        obtain ⟨a0, a1, a2'⟩ := cells3w HB6.out.fw
        obtain ⟨b0, b1, b2, b3, b4⟩ := cells5w HB6.out.fh
        obtain ⟨f0, f1, f2⟩ := frozen3w HB6.out.fw
        obtain ⟨w7, hw7⟩ : ∃ w7, w7 = (w6.setCell ⟨w.heap.size, 1, none⟩ (.int .i64 hs)).setCell ⟨w.heap.size, 2, none⟩ (.int .u64 hr) := ⟨_, rfl⟩
        have ht7 : Touch w.heap.size (w.heap.size + 1) w6 w7 := by rw [hw7]; exact (touch_set1 _ _ _ _).trans (touch_set1 _ _ _ _)
        have H7W : Hid (w7.heap[w.heap.size]? = some (.cells #[.int .i64 hl, .int .i64 hs, .int .u64 hr] 34 (0, 0))) := by show _ = _; rw [hw7]; exact set12 HB6.out.fw _ _
        have hc7 : Below w.heap.size w w7 := hc6.trans (ht7.below (Nat.le_refl _) hc6.size)
        have H7R : Hid (w7.heap[w.heap.size + 1 + 1 + 1 + 1]? = some (.cells #[.int .i64 0, .int .i64 0, .int .u64 0] 34 (0, 0)) ∧ w7.heap[w.heap.size + 1 + 1 + 1 + 1 + 1]? = some (.cells #[.int .u64 0, .int .i64 0, .slice none 0 0] 36 (0, 0)) ∧ w7.heap[w.heap.size + 1 + 1 + 1 + 1 + 1 + 1]? = some (.cells #[.int .i64 0, .int .u64 0, .int .i64 0, .int .i64 0] 37 (0, 0)) ∧ w7.heap[w5.heap.size]? = some (.cells #[.int .i64 p.1, .int .u64 p.2.1, .int .i64 p.2.2] 44 (0, 0)) ∧ w7.heap[gs]? = some (.cells #[.int .i64 t.1, .int .u64 t.2.1, .int .i64 t.2.2.1, .int .i64 t.2.2.2] 37 (0, 0))) :=
          ⟨touch_kept ht7 HB6.out.frw (by omega), touch_kept ht7 HB6.out.frc (by omega), touch_kept ht7 HB6.out.frs (by omega), touch_kept ht7 HP6.out (by omega), touch_kept ht7 HGS6.out (by omega)⟩
        have HO7 : Hid (Own w.heap.size w7 a2 sg.length c2 sg) := ⟨ownsRow_box HO6.out.row HB6.out.fw (by decide) ht7, HO6.out.byte⟩
        have hs7 := ht7.size
        have HW : Hid (_ = _) := hw7
        clear hw7
        go_upto_region 18 with fail
        rw [← HW.out]
        clear HW a0 a1 a2' b0 b1 b2 b3 b4 f0 f1 f2
        have HBB : w.heap.size ≤ w7.heap.size := by have := hc7.size; omega
        refine wp_region_ri (s18Sp hl hs hr p kd at2 sg t a2 c2 gs w5.heap.size w.heap.size (w.heap.size)) [15, 105, 106, 107, 108, 109, 110, 111] (w.heap.size) (fun a0 => a0.tmps.size = 112 ∧ aT a0 4 = .int .i64 at2 ∧ aT a0 6 = .pointer (some ⟨w.heap.size, 0, none⟩) ∧ aT a0 12 = .pointer (some ⟨(w.heap.size + 1 + 1 + 1 + 1), 0, none⟩) ∧ aT a0 13 = .pointer (some ⟨(w.heap.size + 1 + 1 + 1 + 1 + 1), 0, none⟩) ∧ aT a0 14 = .pointer (some ⟨(w.heap.size + 1 + 1 + 1 + 1 + 1 + 1), 0, none⟩) ∧ aT a0 17 = .slice a2 sg.length c2 ∧ aT a0 18 = .pointer (some ⟨gs, 0, none⟩) ∧ aT a0 20 = .pointer (some ⟨w5.heap.size, 0, none⟩)) (by kernel_rfl) rfl (by kernel_rfl) rfl ⟨rfl, rfl, rfl, rfl, rfl, rfl, rfl, rfl, rfl⟩ (s18Sp_stb hl hs hr p kd at2 sg t a2 c2 gs w5.heap.size w.heap.size (w.heap.size)) ?_ ?_ ?_
        · intro k hk hk2
          match k, hk, hk2 with
          | 11, _, _ => exact H7R.out.1
          | 12, _, _ => exact H7R.out.2.1
          | 13, _, _ => exact H7R.out.2.2.1
          | 14, _, _ => exact H7W.out
          | 15, _, _ => exact H7R.out.2.2.2.1
          | 16, _, _ => exact ⟨H7R.out.2.2.2.2, by omega⟩
          | 17, _, _ => exact (show Own w.heap.size w7 a2 sg.length c2 sg from HO7.out)
          | 0, hk, _ => exact absurd hk (by show ¬ (11 ≤ 0); omega)
          | 1, hk, _ => exact absurd hk (by show ¬ (11 ≤ 1); omega)
          | 2, hk, _ => exact absurd hk (by show ¬ (11 ≤ 2); omega)
          | 3, hk, _ => exact absurd hk (by show ¬ (11 ≤ 3); omega)
          | 4, hk, _ => exact absurd hk (by show ¬ (11 ≤ 4); omega)
          | 5, hk, _ => exact absurd hk (by show ¬ (11 ≤ 5); omega)
          | 6, hk, _ => exact absurd hk (by show ¬ (11 ≤ 6); omega)
          | 7, hk, _ => exact absurd hk (by show ¬ (11 ≤ 7); omega)
          | 8, hk, _ => exact absurd hk (by show ¬ (11 ≤ 8); omega)
          | 9, hk, _ => exact absurd hk (by show ¬ (11 ≤ 9); omega)
          | 10, hk, _ => exact absurd hk (by show ¬ (11 ≤ 10); omega)
          | k + 18, _, hk2 => exact absurd hk2 (by show ¬ (k + 18 < 18); omega)
        · rintro a0 ⟨hz, g4, g6, g12, g13, g14, g17, g18, g20⟩
          refine StepsRI.cons ?_ (StepsRI.cons ?_ (StepsRI.cons ?_ (StepsRI.cons ?_ (StepsRI.cons ?_ (StepsRI.cons ?_ (StepsRI.cons ?_ (StepsRI.cons ?_ (StepsRI.cons ?_ (StepsRI.cons ?_ (StepsRI.cons ?_ (StepsRI.nil)))))))))))
          · intro lQ b W hI hUN hED KQ hKQ
            have hg := (hI.vot 14 (of_decide_eq_true rfl) (of_decide_eq_true rfl) rfl)
            refine wp_load_row 34 _ rfl (w.heap.size) ((hI.fr.same 6 (by decide)).trans g6) 34 #[.int .i64 hl, .int .i64 hs, .int .u64 hr] (0, 0) _ hg Tryz.underlying34 rfl (by kernel_rfl) ?_
            exact hKQ.out _ _ (hI.put 0 105 rfl rfl (by rw [hz]; decide) rfl hUN rfl HBB (s18Sp_stb hl hs hr p kd at2 sg t a2 c2 gs w5.heap.size w.heap.size (w.heap.size)) (Below.refl _ _) rfl)
          · intro lQ b W hI hUN hED KQ hKQ
            have hg := (hI.vot 15 (of_decide_eq_true rfl) (of_decide_eq_true rfl) rfl)
            refine wp_load_row 44 _ rfl (w5.heap.size) ((hI.fr.same 20 (by decide)).trans g20) 44 #[.int .i64 p.1, .int .u64 p.2.1, .int .i64 p.2.2] (0, 0) _ hg Tryz.underlying44 rfl (by kernel_rfl) ?_
            exact hKQ.out _ _ (hI.put 1 106 rfl rfl (by rw [hz]; decide) rfl hUN rfl HBB (s18Sp_stb hl hs hr p kd at2 sg t a2 c2 gs w5.heap.size w.heap.size (w.heap.size)) (Below.refl _ _) rfl)
          · intro lQ b W hI hUN hED KQ hKQ
            have f0 := hI.got 1 (of_decide_eq_true rfl) (edge hED 1 (by kernel_rfl)) rfl
            replace f0 : aT b 106 = .agg #[.int .i64 p.1, .int .u64 p.2.1, .int .i64 p.2.2] := f0
            refine opw_call 29 #[.tmp 106] _ _ _ rfl Tryz.func29 (by kernel_rfl) rfl #[.agg #[.int .i64 p.1, .int .u64 p.2.1, .int .i64 p.2.2]] (by simp [ev, f0]) ?_
            refine (HKI.out W).mono ?_
            rintro e W2 ⟨rfl, hb⟩
            exact ⟨_, rfl, hKQ.out _ _ (hI.put 2 107 rfl rfl (by rw [hz]; decide) rfl hUN rfl HBB (s18Sp_stb hl hs hr p kd at2 sg t a2 c2 gs w5.heap.size w.heap.size (w.heap.size)) hb rfl)⟩
          · intro lQ b W hI hUN hED KQ hKQ
            exact opw_move 4 rfl (hKQ.out _ _ (hI.put 3 108 rfl rfl (by rw [hz]; decide) rfl hUN rfl HBB (s18Sp_stb hl hs hr p kd at2 sg t a2 c2 gs w5.heap.size w.heap.size (w.heap.size)) (Below.refl _ _) ((hI.fr.same 4 (by decide)).trans g4)))
          · intro lQ b W hI hUN hED KQ hKQ
            exact opw_move 17 rfl (hKQ.out _ _ (hI.put 4 109 rfl rfl (by rw [hz]; decide) rfl hUN rfl HBB (s18Sp_stb hl hs hr p kd at2 sg t a2 c2 gs w5.heap.size w.heap.size (w.heap.size)) (Below.refl _ _) ((hI.fr.same 17 (by decide)).trans g17)))
          · intro lQ b W hI hUN hED KQ hKQ
            have f0 := hI.got 2 (of_decide_eq_true rfl) (edge hED 2 (by kernel_rfl)) rfl
            replace f0 : aT b 107 = .int .u64 kd := f0
            have f1 := hI.got 3 (of_decide_eq_true rfl) (edge hED 3 (by kernel_rfl)) rfl
            replace f1 : aT b 108 = .int .i64 at2 := f1
            have f2 := hI.got 4 (of_decide_eq_true rfl) (edge hED 4 (by kernel_rfl)) rfl
            replace f2 : aT b 109 = .slice a2 sg.length c2 := f2
            refine opw_build 36 _ rfl #[(0, .int .u64 kd), (1, .int .i64 at2), (2, .slice a2 sg.length c2)] (by simp [ev, f0, f1, f2]) (.agg #[.int .u64 kd, .int .i64 at2, .slice a2 sg.length c2]) (by kernel_rfl) ?_
            exact hKQ.out _ _ (hI.put 5 110 rfl rfl (by rw [hz]; decide) rfl hUN rfl HBB (s18Sp_stb hl hs hr p kd at2 sg t a2 c2 gs w5.heap.size w.heap.size (w.heap.size)) (Below.refl _ _) rfl)
          · intro lQ b W hI hUN hED KQ hKQ
            have hg := (hI.vot 16 (of_decide_eq_true rfl) (of_decide_eq_true rfl) rfl).1
            refine wp_load_row 37 _ rfl (gs) ((hI.fr.same 18 (by decide)).trans g18) 37 #[.int .i64 t.1, .int .u64 t.2.1, .int .i64 t.2.2.1, .int .i64 t.2.2.2] (0, 0) _ hg Tryz.underlying37 rfl (by kernel_rfl) ?_
            exact hKQ.out _ _ (hI.put 6 111 rfl rfl (by rw [hz]; decide) rfl hUN rfl HBB (s18Sp_stb hl hs hr p kd at2 sg t a2 c2 gs w5.heap.size w.heap.size (w.heap.size)) (Below.refl _ _) rfl)
          · intro lQ b W hI hUN hED KQ hKQ
            have hgb := (hI.vot1 11 7 (of_decide_eq_true rfl) (of_decide_eq_true rfl) hUN rfl)
            have fb := ((hI.fr.same 12 (by decide)).trans g12)
            have f := hI.got 0 (of_decide_eq_true rfl) (edge hED 0 (by kernel_rfl)) rfl
            refine wp_store_row 34 _ _ rfl ((w.heap.size + 1 + 1 + 1 + 1)) #[.int .i64 hl, .int .i64 hs, .int .u64 hr] fb f 34 _ hgb (by kernel_rfl) rfl (by simp [Value.oneCell']) ?_
            have ht := setRow_touch W ((w.heap.size + 1 + 1 + 1 + 1)) #[.int .i64 hl, .int .i64 hs, .int .u64 hr]
            exact hKQ.out _ _ (hI.store 7 (fun j hj => by cases hj) (hI.bel.trans (ht.below (by first | exact HGE12 | omega) (Nat.le_trans HBB hI.bel.size))) (s18Sp_st7 hl hs hr p kd at2 sg t a2 c2 gs w5.heap.size w.heap.size (w.heap.size) hgb ht) (setRow_heap W ((w.heap.size + 1 + 1 + 1 + 1)) _ _ _ _ hgb))
          · intro lQ b W hI hUN hED KQ hKQ
            have hgb := (hI.vot1 12 8 (of_decide_eq_true rfl) (of_decide_eq_true rfl) hUN rfl)
            have fb := ((hI.fr.same 13 (by decide)).trans g13)
            have f := hI.got 5 (of_decide_eq_true rfl) (edge hED 5 (by kernel_rfl)) rfl
            refine wp_store_row 36 _ _ rfl ((w.heap.size + 1 + 1 + 1 + 1 + 1)) #[.int .u64 kd, .int .i64 at2, .slice a2 sg.length c2] fb f 36 _ hgb (by kernel_rfl) rfl (by simp [Value.oneCell']) ?_
            have ht := setRow_touch W ((w.heap.size + 1 + 1 + 1 + 1 + 1)) #[.int .u64 kd, .int .i64 at2, .slice a2 sg.length c2]
            exact hKQ.out _ _ (hI.store 8 (fun j hj => by cases hj) (hI.bel.trans (ht.below (by first | exact HGE13 | omega) (Nat.le_trans HBB hI.bel.size))) (s18Sp_st8 hl hs hr p kd at2 sg t a2 c2 gs w5.heap.size w.heap.size (w.heap.size) hgb ht) (setRow_heap W ((w.heap.size + 1 + 1 + 1 + 1 + 1)) _ _ _ _ hgb))
          · intro lQ b W hI hUN hED KQ hKQ
            have hgb := (hI.vot1 13 9 (of_decide_eq_true rfl) (of_decide_eq_true rfl) hUN rfl)
            have fb := ((hI.fr.same 14 (by decide)).trans g14)
            have f := hI.got 6 (of_decide_eq_true rfl) (edge hED 6 (by kernel_rfl)) rfl
            refine wp_store_row 37 _ _ rfl ((w.heap.size + 1 + 1 + 1 + 1 + 1 + 1)) #[.int .i64 t.1, .int .u64 t.2.1, .int .i64 t.2.2.1, .int .i64 t.2.2.2] fb f 37 _ hgb (by kernel_rfl) rfl (by simp [Value.oneCell']) ?_
            have ht := setRow_touch W ((w.heap.size + 1 + 1 + 1 + 1 + 1 + 1)) #[.int .i64 t.1, .int .u64 t.2.1, .int .i64 t.2.2.1, .int .i64 t.2.2.2]
            exact hKQ.out _ _ (hI.store 9 (fun j hj => by cases hj) (hI.bel.trans (ht.below (by first | exact HGE14 | omega) (Nat.le_trans HBB hI.bel.size))) (s18Sp_st9 hl hs hr p kd at2 sg t a2 c2 gs w5.heap.size w.heap.size (w.heap.size) hgb ht) (setRow_heap W ((w.heap.size + 1 + 1 + 1 + 1 + 1 + 1)) _ _ _ _ hgb))
          · intro lQ b W hI hUN hED KQ hKQ
            exact opw_const (.int .i64 0) rfl (hKQ.out _ _ (hI.put 10 15 rfl rfl (by rw [hz]; decide) rfl hUN rfl HBB (s18Sp_stb hl hs hr p kd at2 sg t a2 c2 gs w5.heap.size w.heap.size (w.heap.size)) (Below.refl _ _) rfl))
        · intro b W hf hb F
          have e12 := F 7 (of_decide_eq_true rfl) rfl
          have e13 := F 8 (of_decide_eq_true rfl) rfl
          have e14 := F 9 (of_decide_eq_true rfl) rfl
          have e15 := F 10 (of_decide_eq_true rfl) rfl
          have hO := F 17 (of_decide_eq_true rfl) rfl
          replace e15 : aT b 15 = _ := e15
          rw [hf.eq]
          simp only [puts, Act.put, List.setIfInBounds_toArray, List.set_cons_zero, List.set_cons_succ, e15]
          clear hf F
          go_wp2
          try simp only [Exit.inBlock, Exit.then]
          exact bodyPost_ret (results_wt rfl _ (w.heap.size + 1 + 1 + 1 + 1) (w.heap.size + 1 + 1 + 1 + 1 + 1) (w.heap.size + 1 + 1 + 1 + 1 + 1 + 1) rfl rfl rfl _ rfl _ _ _ _ e12 e13 e14 rfl rfl rfl) rfl ⟨a2, c2, by rw [HF.out]; rfl, by rw [HF.out]; exact hO, hc7.trans hb⟩
end Go.Proofs.YtmoekmonkpihhaaGreat

set_option linter.unusedVariables false
namespace Go.Proofs.YtmoekmonkpihhaaGreat
open Go.RowKit Go.Sort

theorem toSecret_agg (a b c d : Int) (w : World) : Calls Tryz.prog 10 #[.agg #[.int .i64 a, .int .u64 b, .int .i64 c, .int .i64 d]] w fun e w' => e = .returned (.agg #[.int .i64 a, .int .u64 b, .int .i64 c, .int .i64 d]) ∧ Below w.heap.size w w' := toSecret_any a b c d w
theorem results_wa {fn : Func} {t : Tmp} (h : fn.results = #[.cell t 34]) (tmps : Array Value) (g : Nat) (ht : tmps.getD t undef = .pointer (some ⟨g, 0, none⟩)) (w : World) (cs : Array Value) (hb : w.heap[g]? = some (.cells cs 34 (0, 0))) (hs : cs.size = 3) : (results fn tmps).run Tryz.prog w = .ok (.agg cs) w :=
  results_cell_row h tmps w g _ cs (0, 0) _ ht hb Tryz.underlying34 rfl (by rw [hs]; kernel_rfl)

set_option maxRecDepth 10000 in
set_option maxHeartbeats 1000000 in
theorem toWatcher_any (wl ws wr : Int) (w : World) : Calls Tryz.prog 6 #[.agg #[.int .i64 wl, .int .i64 ws, .int .u64 wr]] w fun e w' => e = .returned (.agg #[.int .i64 wl, .int .i64 ws, .int .u64 wr]) ∧ Below w.heap.size w w' := by
  have b1 : (((w.alloc (.cells #[.int .i64 wl, .int .i64 ws, .int .u64 wr] 24)).alloc (.cells #[.int .i64 wl, .int .i64 ws, .int .u64 wr] 34)).alloc (.cells #[.int .i64 wl, .int .i64 ws, .int .u64 wr] 34)).heap[w.heap.size + 1]? = some (.cells #[.int .i64 wl, .int .i64 ws, .int .u64 wr] 34 (0, 0)) := by
    exact (alloc_oldT _ _ _ (by simp)).trans (two_blocks w _ _).2
  have HB1 : Hid (_ = _) := b1
  clear b1
  go_enter Tryz.func6, Tryz.ntmps6
  go_wp2
  try simp only [Exit.inBlock, Exit.then]
  exact bodyPost_ret (results_wa rfl _ (w.heap.size + 1) rfl _ _ HB1.out rfl) rfl ⟨rfl, three_belowT _ _ _ _⟩

set_option maxRecDepth 10000 in
set_option maxHeartbeats 1000000 in
theorem eqWatcher_same (wl ws wr : Int) (w : World) : Calls Tryz.prog 12 #[.agg #[.int .i64 wl, .int .i64 ws, .int .u64 wr], .agg #[.int .i64 wl, .int .i64 ws, .int .u64 wr]] w fun e w' => e = .returned (.bool true) ∧ Below w.heap.size w w' := by
  have z1 : (wl != wl) = false := by simp
  have z2 : (ws != ws) = false := by simp
  have z3 : (wr != wr) = false := by simp
  obtain ⟨w1, hw1⟩ : ∃ w1, w1 = (w.alloc (.cells #[.int .i64 wl, .int .i64 ws, .int .u64 wr] 34)).alloc (.cells #[.int .i64 wl, .int .i64 ws, .int .u64 wr] 34) := ⟨_, rfl⟩
  have hbb : Below w.heap.size w w1 := by rw [hw1]; exact two_below w _ _
  have hB : w1.heap[w.heap.size]? = some (.cells #[.int .i64 wl, .int .i64 ws, .int .u64 wr] 34 (0, 0)) ∧ w1.heap[w.heap.size + 1]? = some (.cells #[.int .i64 wl, .int .i64 ws, .int .u64 wr] 34 (0, 0)) := by rw [hw1]; exact two_blocks w _ _
  obtain ⟨a0, a1, a2⟩ := cells3w hB.1
  obtain ⟨b0, b1, b2⟩ := cells3w hB.2
  have HW : Hid (_ = _) := hw1
  clear hw1 hB
  go_enter Tryz.func12, Tryz.ntmps12
  go_upto_region 1 with fail
  rw [← HW.out]
  clear HW
  go_wp2
  go_ret
  exact ⟨rfl, hbb⟩

set_option maxRecDepth 10000 in
set_option maxHeartbeats 2000000 in
theorem eqCosig_same (ky at2 : Int) (sg : List Int) (a b : Option Addr) (n ca cb : Nat) (w : World) (h : Row w a n sg) (h2 : Row w b n sg) (hn : n ≤ maxLen) :
    Calls Tryz.prog 13 #[.agg #[.int .u64 ky, .int .i64 at2, .slice a n ca], .agg #[.int .u64 ky, .int .i64 at2, .slice b n cb]] w fun e w' => e = .returned (.bool true) ∧ Below w.heap.size w w' := by
  obtain ⟨w1, hw1⟩ : ∃ w1, w1 = (w.alloc (.cells #[.int .u64 ky, .int .i64 at2, .slice a n ca] 36)).alloc (.cells #[.int .u64 ky, .int .i64 at2, .slice b n cb] 36) := ⟨_, rfl⟩
  have hbb : Below w.heap.size w w1 := by rw [hw1]; exact ((Below.refl _ _).alloc (Nat.le_refl _) _).alloc (by simp) _
  have HA : Hid (Row w1 a n sg) := h.kept hbb
  have HB : Hid (Row w1 b n sg) := h2.kept hbb
  have s1 : (w.alloc (.cells #[.int .u64 ky, .int .i64 at2, .slice a n ca] 36)).heap.size = w.heap.size + 1 := by simp
  have B0 : w1.heap[w.heap.size]? = some (.cells #[.int .u64 ky, .int .i64 at2, .slice a n ca] 36 (0, 0)) := by rw [hw1]; exact (alloc_oldT _ _ _ (by simp)).trans (heap_alloc_new w _)
  have B1 : w1.heap[w.heap.size + 1]? = some (.cells #[.int .u64 ky, .int .i64 at2, .slice b n cb] 36 (0, 0)) := by rw [hw1, ← s1]; exact heap_alloc_new _ _
  have x0 : w1.cell? ⟨w.heap.size, 0, none⟩ = some (.int .u64 ky) := (cell_of_row _ _ 0 _ 36 (0, 0) B0).trans rfl
  have y0 : w1.cell? ⟨w.heap.size + 1, 0, none⟩ = some (.int .u64 ky) := (cell_of_row _ _ 0 _ 36 (0, 0) B1).trans rfl
  have x1 : w1.cell? ⟨w.heap.size, 1, none⟩ = some (.int .i64 at2) := (cell_of_row _ _ 1 _ 36 (0, 0) B0).trans rfl
  have y1 : w1.cell? ⟨w.heap.size + 1, 1, none⟩ = some (.int .i64 at2) := (cell_of_row _ _ 1 _ 36 (0, 0) B1).trans rfl
  have x2 : w1.cell? ⟨w.heap.size, 2, none⟩ = some (.slice a n ca) := (cell_of_row _ _ 2 _ 36 (0, 0) B0).trans rfl
  have y2 : w1.cell? ⟨w.heap.size + 1, 2, none⟩ = some (.slice b n cb) := (cell_of_row _ _ 2 _ 36 (0, 0) B1).trans rfl
  have z0 : (ky != ky) = false := by simp
  have z1 : (at2 != at2) = false := by simp
  have HW : Hid (_ = _) := hw1
  clear hw1 s1 B0 B1 h h2
  go_enter Tryz.func13, Tryz.ntmps13
  go_upto_region 1 with fail
  rw [← HW.out]
  clear HW
  go_wp2_with fail
  refine (eqByteS_any a b n n ca cb sg sg _ HA.out HB.out hn hn).mono ?_
  rintro e w2 ⟨rfl, hb2⟩
  rw [decide_eq_true (rfl : sg = sg)]
  go_wp2
  go_ret
  exact ⟨rfl, keepT hbb hb2⟩

set_option maxRecDepth 10000 in
set_option maxHeartbeats 2000000 in
theorem markHead_any (B lo hi : Nat) (lg sz rt at2 : Int) (a : Option Addr) (n cap : Nat) (k : Int) (bs : List Int) (w : World) (h : Own B w a n cap bs) (hn : n ≤ 1000000000) (hk0 : 0 ≤ k) (hk : k ≤ 1000000000) (hin : ∀ j, (Value.slice a n cap).ownBlock = some j → lo ≤ j ∧ j < hi) :
    Calls Tryz.prog 17 #[.agg #[.int .i64 lg, .int .i64 sz, .int .u64 rt, .int .i64 at2, .slice a n cap], .int .i64 k] w fun e w' => e = .returned (.int .i64 (k + n)) ∧ Own B w' a n cap (marks k.toNat n) ∧ Touch lo hi w w' := by
  obtain ⟨w1, hw1⟩ : ∃ w1, w1 = w.alloc (.cells #[.int .i64 lg, .int .i64 sz, .int .u64 rt, .int .i64 at2, .slice a n cap] 41) := ⟨_, rfl⟩
  have hb : Below w.heap.size w w1 := by rw [hw1]; exact (Below.refl _ _).alloc (Nat.le_refl _) _
  have hk1 : w1.heap[w.heap.size]? = some (.cells #[.int .i64 lg, .int .i64 sz, .int .u64 rt, .int .i64 at2, .slice a n cap] 41 (0, 0)) := by rw [hw1]; exact heap_alloc_new w _
  have HO : Hid (Own B w1 a n cap bs) := h.kept hb
  have p4 := (cells5w hk1).2.2.2.2
  have HW : Hid (_ = _) := hw1
  have HIN : Hid (∀ j, (Value.slice a n cap).ownBlock = some j → lo ≤ j ∧ j < hi) := hin
  clear hw1 h hk1 hin
  go_enter Tryz.func17, Tryz.ntmps17
  go_upto_region 1 with fail
  rw [← HW.out]
  clear HW
  go_wp2_with fail
  refine (markByteS_int B a n cap k bs _ HO.out hn hk0 hk).mono ?_
  rintro e w2 ⟨rfl, ho2, hg2⟩
  have HO2 : Hid (Own B w2 a n cap (marks k.toNat n)) := ho2
  have HT : Hid (Touch lo hi w w2) := (Touch.of_below hb).trans (touch_grownS hg2 HIN.out)
  clear ho2 hg2 p4
  go_wp2
  go_ret
  exact ⟨rfl, HO2.out, HT.out⟩

set_option maxRecDepth 10000 in
set_option maxHeartbeats 2000000 in
theorem markCosig_any (B lo hi : Nat) (ky at2 : Int) (a : Option Addr) (n cap : Nat) (k : Int) (bs : List Int) (w : World) (h : Own B w a n cap bs) (hn : n ≤ 1000000000) (hk0 : 0 ≤ k) (hk : k ≤ 1000000000) (hin : ∀ j, (Value.slice a n cap).ownBlock = some j → lo ≤ j ∧ j < hi) :
    Calls Tryz.prog 19 #[.agg #[.int .u64 ky, .int .i64 at2, .slice a n cap], .int .i64 k] w fun e w' => e = .returned (.int .i64 (k + n)) ∧ Own B w' a n cap (marks k.toNat n) ∧ Touch lo hi w w' := by
  obtain ⟨w1, hw1⟩ : ∃ w1, w1 = w.alloc (.cells #[.int .u64 ky, .int .i64 at2, .slice a n cap] 36) := ⟨_, rfl⟩
  have hb : Below w.heap.size w w1 := by rw [hw1]; exact (Below.refl _ _).alloc (Nat.le_refl _) _
  have hk1 : w1.heap[w.heap.size]? = some (.cells #[.int .u64 ky, .int .i64 at2, .slice a n cap] 36 (0, 0)) := by rw [hw1]; exact heap_alloc_new w _
  have HO : Hid (Own B w1 a n cap bs) := h.kept hb
  have p2 := (cells3w hk1).2.2
  have HW : Hid (_ = _) := hw1
  have HIN : Hid (∀ j, (Value.slice a n cap).ownBlock = some j → lo ≤ j ∧ j < hi) := hin
  clear hw1 h hk1 hin
  go_enter Tryz.func19, Tryz.ntmps19
  go_upto_region 1 with fail
  rw [← HW.out]
  clear HW
  go_wp2_with fail
  refine (markByteS_int B a n cap k bs _ HO.out hn hk0 hk).mono ?_
  rintro e w2 ⟨rfl, ho2, hg2⟩
  have HO2 : Hid (Own B w2 a n cap (marks k.toNat n)) := ho2
  have HT : Hid (Touch lo hi w w2) := (Touch.of_below hb).trans (touch_grownS hg2 HIN.out)
  clear ho2 hg2 p2
  go_wp2
  go_ret
  exact ⟨rfl, HO2.out, HT.out⟩

set_option maxRecDepth 10000 in
set_option maxHeartbeats 2000000 in
theorem heldCosig_any (ky at2 : Int) (a : Option Addr) (n cap : Nat) (k : Int) (w : World) (h : Row w a n (marks k.toNat n)) (hn : n ≤ 1000000000) (hk0 : 0 ≤ k) (hk : k ≤ 1000000000) :
    Calls Tryz.prog 20 #[.agg #[.int .u64 ky, .int .i64 at2, .slice a n cap], .int .i64 k] w fun e w' => e = .returned (.int .i64 (k + n)) ∧ Below w.heap.size w w' := by
  obtain ⟨w1, hw1⟩ : ∃ w1, w1 = w.alloc (.cells #[.int .u64 ky, .int .i64 at2, .slice a n cap] 36) := ⟨_, rfl⟩
  have hb : Below w.heap.size w w1 := by rw [hw1]; exact (Below.refl _ _).alloc (Nat.le_refl _) _
  have hk1 : w1.heap[w.heap.size]? = some (.cells #[.int .u64 ky, .int .i64 at2, .slice a n cap] 36 (0, 0)) := by rw [hw1]; exact heap_alloc_new w _
  have HO : Hid (Row w1 a n (marks k.toNat n)) := h.kept hb
  have p2 := (cells3w hk1).2.2
  have HW : Hid (_ = _) := hw1
  have hz : ¬ (k + (n : Int) < 0) := by omega
  clear hw1 h hk1
  go_enter Tryz.func20, Tryz.ntmps20
  go_upto_region 1 with fail
  rw [← HW.out]
  clear HW
  go_wp2_with fail
  refine (heldByteS_int a n cap k _ HO.out hn hk0 hk).mono ?_
  rintro e w2 ⟨rfl, hw2⟩
  subst hw2
  clear p2
  go_wp2
  go_ret
  exact ⟨rfl, hb⟩

end Go.Proofs.YtmoekmonkpihhaaGreat

set_option linter.unusedVariables false
namespace Go.Proofs.YtmoekmonkpihhaaGreat
open Go.RowKit Go.Sort

/-- Boxes that lie there. -/
structure Bxs (L : List (Nat × Array Value × Nat)) (W : World) : Prop where
  all : ∀ p ∈ L, W.heap[p.1]? = some (.cells p.2.1 p.2.2 (0, 0))
theorem Bxs.kept {L : List (Nat × Array Value × Nat)} {W W' : World} (h : Bxs L W) (hb : Below W.heap.size W W') : Bxs L W' := ⟨fun p hp => below_kept (h.all p hp) hb⟩
theorem Bxs.touch {L : List (Nat × Array Value × Nat)} {W W' : World} {lo hi : Nat} (h : Bxs L W) (ht : Touch lo hi W W') (hd : ∀ p ∈ L, p.1 < lo ∨ hi ≤ p.1) : Bxs L W' := ⟨fun p hp => touch_kept ht (h.all p hp) (hd p hp)⟩
/-- Where a row of bytes of our own lies: no box lies there. -/
theorem own_spot {B : Nat} {w : World} {a : Option Addr} {n cap : Nat} {bs : List Int} (h : Own B w a n cap bs) (hB : B ≤ w.heap.size) : ∃ j, B ≤ j ∧ (∀ k, (Value.slice a n cap).ownBlock = some k → j ≤ k ∧ k < j + 1) ∧ ∀ (g t : Nat) (cs : Array Value), w.heap[g]? = some (.cells cs t (0, 0)) → t ≠ 5 → g < j ∨ j + 1 ≤ g := by
  rcases h.row.2 with ⟨hv, _⟩ | ⟨g, cap', cur, hv, hb, hg, _⟩
  · refine ⟨w.heap.size, hB, fun k hk => ?_, fun g t cs hh _ => .inl (Array.getElem?_eq_some_iff.1 hh).1⟩
    rw [hv] at hk
    cases hk
  · refine ⟨g, hb, fun k hk => ?_, fun g' t cs hh ht => ?_⟩
    · rw [hv] at hk
      have : g = k := by injection hk
      omega
    · have : g' ≠ g := fun e => by
        subst e
        rw [hg] at hh
        simp only [Option.some.injEq, Obj.cells.injEq] at hh
        exact ht hh.2.1.symm
      omega
theorem owns_touchW {B e k n lo hi : Nat} {w w' : World} {v : Value} {xs : List Value} (h : w.ownsRow B e k v n xs) (ht : Touch lo hi w w') (hd : hi ≤ B) : w'.ownsRow B e k v n xs := by
  refine ⟨h.1, ?_⟩
  rcases h.2 with h0 | ⟨g', cap, cur, hv, hb, hh, rest⟩
  · exact .inl h0
  · exact .inr ⟨g', cap, cur, hv, hb, (ht.block g' (Array.getElem?_eq_some_iff.1 hh).1 (by omega)).trans hh, rest⟩
theorem wtV_len (wl ws wr hl hs hr ha : Int) (ss : List Int) (ps py ph : Int) (zs : List Int) (at2 sc x h n : Int) : (wtV wl ws wr hl hs hr ha ss ps py ph zs at2 sc x h n).sg.length ≤ 1000 := by
  unfold wtV
  split
  · split
    · unfold asV
      split
      · exact saV_len _ _ _ _ _
      · exact Nat.zero_le _
    · exact Nat.zero_le _
  · exact Nat.zero_le _

theorem four_new (w : World) (o0 o1 o2 o3 : Obj) : ((((((w.alloc o0).alloc o1).alloc o2).alloc o3).heap[w.heap.size]? = some o0) ∧ (((((w.alloc o0).alloc o1).alloc o2).alloc o3).heap[w.heap.size + 1]? = some o1) ∧ (((((w.alloc o0).alloc o1).alloc o2).alloc o3).heap[w.heap.size + 1 + 1]? = some o2) ∧ (((((w.alloc o0).alloc o1).alloc o2).alloc o3).heap[w.heap.size + 1 + 1 + 1]? = some o3)) ∧ Below w.heap.size w ((((w.alloc o0).alloc o1).alloc o2).alloc o3) := by
  have hB : ∀ (W : World) (o : Obj), Below W.heap.size W (W.alloc o) := fun W o => (Below.refl _ _).alloc (Nat.le_refl _) _
  have h2 := two_blocks w o0 o1
  have s2 : ((w.alloc o0).alloc o1).heap.size = w.heap.size + 1 + 1 := by simp
  have h3 := two_blocks ((w.alloc o0).alloc o1) o2 o3
  rw [s2] at h3
  exact ⟨⟨below_kept (below_kept h2.1 (hB _ _)) (hB _ _), below_kept (below_kept h2.2 (hB _ _)) (hB _ _), h3.1, h3.2⟩, keepT (two_below w o0 o1) (two_below _ o2 o3)⟩

/-- What is known of a region (RJ). -/
def wa7 (wl ws wr hl hs hr ha : Int) (ag : Option Addr) (ng cg : Nat) (ss : List Int) (ps py ph : Int) (ap : Option Addr) (np cp : Nat) (zs : List Int) (at2 sc x h n : Int) (V : WtV) (G B : Nat) : RSpec where
  m := 24
  n := 28
  slots := [40, 41, 42, 43, 44, 45, 46, 47, 48, 49, 50, 51, 39, 52, 53, 54, 55, 14, 15, 16, 14, 15, 16, 17, 100024, 100025, 100026, 100027]
  kills := [[], [], [], [], [], [], [], [], [], [], [], [], [], [], [], [], [], [20], [21], [22], [], [], [], [], [], [], [], []]
  pres := [[], [], [], [], [], [], [], [], [], [], [], [], [], [], [], [], [], [], [], [], [17], [18], [19], [], [], [], [], []]
  fact := fun k v w => match k with
    | 0 => v = .agg #[.int .i64 wl, .int .i64 ws, .int .u64 wr]
    | 1 => v = .agg #[.int .i64 wl, .int .i64 ws, .int .u64 wr]
    | 2 => v = .agg #[.int .i64 hl, .int .i64 hs, .int .u64 hr, .int .i64 ha, .slice ag ng cg]
    | 3 => ∃ a1, v = .agg #[.int .i64 hl, .int .i64 hs, .int .u64 hr, .int .i64 ha, .slice a1 ng ng] ∧ Own B w a1 ng ng ss
    | 4 => v = .slice ap np cp
    | 5 => ∃ a2, v = .slice a2 np np ∧ OwnU B w a2 np np zs
    | 6 => v = .agg #[.int .i64 ps, .int .u64 py, .int .i64 ph]
    | 7 => v = .agg #[.int .i64 ps, .int .u64 py, .int .i64 ph]
    | 8 => v = .int .i64 at2
    | 9 => v = .agg #[.int .i64 sc, .int .u64 x, .int .i64 h, .int .i64 n]
    | 10 => v = .agg #[.int .i64 sc, .int .u64 x, .int .i64 h, .int .i64 n]
    | 11 => ∃ a3 c3, v = .tuple #[.agg #[.int .i64 V.wl, .int .i64 V.ws, .int .u64 V.wr], .agg #[.int .u64 V.ck, .int .i64 V.ca, .slice a3 V.sg.length c3], .agg #[.int .i64 V.t.1, .int .u64 V.t.2.1, .int .i64 V.t.2.2.1, .int .i64 V.t.2.2.2], .int .i64 V.cd] ∧ Own B w a3 V.sg.length c3 V.sg
    | 12 => ∃ a3 c3, v = .tuple #[.agg #[.int .i64 V.wl, .int .i64 V.ws, .int .u64 V.wr], .agg #[.int .u64 V.ck, .int .i64 V.ca, .slice a3 V.sg.length c3], .agg #[.int .i64 V.t.1, .int .u64 V.t.2.1, .int .i64 V.t.2.2.1, .int .i64 V.t.2.2.2], .int .i64 V.cd] ∧ Own B w a3 V.sg.length c3 V.sg
    | 13 => v = .agg #[.int .i64 V.wl, .int .i64 V.ws, .int .u64 V.wr]
    | 14 => ∃ a3 c3, v = .agg #[.int .u64 V.ck, .int .i64 V.ca, .slice a3 V.sg.length c3] ∧ Own B w a3 V.sg.length c3 V.sg
    | 15 => v = .agg #[.int .i64 V.t.1, .int .u64 V.t.2.1, .int .i64 V.t.2.2.1, .int .i64 V.t.2.2.2]
    | 16 => v = .int .i64 V.cd
    | 17 => ∃ gb17, v = .pointer (some ⟨gb17, 0, none⟩) ∧ w.heap[gb17]? = some (.cells #[.int .i64 0, .int .i64 0, .int .u64 0] 34 (0, 0)) ∧ B ≤ gb17
    | 18 => ∃ gb18, v = .pointer (some ⟨gb18, 0, none⟩) ∧ w.heap[gb18]? = some (.cells #[.int .u64 0, .int .i64 0, .slice none 0 0] 36 (0, 0)) ∧ B ≤ gb18
    | 19 => ∃ gb19, v = .pointer (some ⟨gb19, 0, none⟩) ∧ w.heap[gb19]? = some (.cells #[.int .i64 0, .int .u64 0, .int .i64 0, .int .i64 0] 37 (0, 0)) ∧ B ≤ gb19
    | 20 => ∃ gs20, v = .pointer (some ⟨gs20, 0, none⟩) ∧ w.heap[gs20]? = some (.cells #[.int .i64 V.wl, .int .i64 V.ws, .int .u64 V.wr] 34 (0, 0)) ∧ B ≤ gs20
    | 21 => ∃ gs21 a3 c3, v = .pointer (some ⟨gs21, 0, none⟩) ∧ w.heap[gs21]? = some (.cells #[.int .u64 V.ck, .int .i64 V.ca, .slice a3 V.sg.length c3] 36 (0, 0)) ∧ B ≤ gs21 ∧ Own B w a3 V.sg.length c3 V.sg
    | 22 => ∃ gs22, v = .pointer (some ⟨gs22, 0, none⟩) ∧ w.heap[gs22]? = some (.cells #[.int .i64 V.t.1, .int .u64 V.t.2.1, .int .i64 V.t.2.2.1, .int .i64 V.t.2.2.2] 37 (0, 0)) ∧ B ≤ gs22
    | 23 => v = .int .i64 V.cd
    | 24 => w.heap[G]? = some (.cells #[.int .i64 wl, .int .i64 ws, .int .u64 wr] 24 (0, 0))
    | 25 => w.heap[(G + 1)]? = some (.cells #[.int .i64 hl, .int .i64 hs, .int .u64 hr, .int .i64 ha, .slice ag ng cg] 27 (0, 0))
    | 26 => w.heap[(G + 1 + 1)]? = some (.cells #[.int .i64 ps, .int .u64 py, .int .i64 ph] 30 (0, 0))
    | _ => w.heap[(G + 1 + 1 + 1)]? = some (.cells #[.int .i64 sc, .int .u64 x, .int .i64 h, .int .i64 n] 32 (0, 0))
set_option linter.unusedVariables false in
theorem wa7_stb (wl ws wr hl hs hr ha : Int) (ag : Option Addr) (ng cg : Nat) (ss : List Int) (ps py ph : Int) (ap : Option Addr) (np cp : Nat) (zs : List Int) (at2 sc x h n : Int) (V : WtV) (G B : Nat) (k : Nat) (hk : k < 28) : StB ((wa7 wl ws wr hl hs hr ha ag ng cg ss ps py ph ap np cp zs at2 sc x h n V G (B)).fact k) := by
  match k, hk with
  | 0, _ => exact fun _ _ _ h _ => h
  | 1, _ => exact fun _ _ _ h _ => h
  | 2, _ => exact fun _ _ _ h _ => h
  | 3, _ => exact fun _ _ _ ⟨a1, hv, q_0⟩ hb => ⟨a1, hv, q_0.kept hb⟩
  | 4, _ => exact fun _ _ _ h _ => h
  | 5, _ => exact fun _ _ _ ⟨a2, hv, q_0⟩ hb => ⟨a2, hv, q_0.kept hb⟩
  | 6, _ => exact fun _ _ _ h _ => h
  | 7, _ => exact fun _ _ _ h _ => h
  | 8, _ => exact fun _ _ _ h _ => h
  | 9, _ => exact fun _ _ _ h _ => h
  | 10, _ => exact fun _ _ _ h _ => h
  | 11, _ => exact fun _ _ _ ⟨a3, c3, hv, q_0⟩ hb => ⟨a3, c3, hv, q_0.kept hb⟩
  | 12, _ => exact fun _ _ _ ⟨a3, c3, hv, q_0⟩ hb => ⟨a3, c3, hv, q_0.kept hb⟩
  | 13, _ => exact fun _ _ _ h _ => h
  | 14, _ => exact fun _ _ _ ⟨a3, c3, hv, q_0⟩ hb => ⟨a3, c3, hv, q_0.kept hb⟩
  | 15, _ => exact fun _ _ _ h _ => h
  | 16, _ => exact fun _ _ _ h _ => h
  | 17, _ => exact fun _ _ _ ⟨gb17, hv, q_0, q_1⟩ hb => ⟨gb17, hv, below_kept q_0 hb, q_1⟩
  | 18, _ => exact fun _ _ _ ⟨gb18, hv, q_0, q_1⟩ hb => ⟨gb18, hv, below_kept q_0 hb, q_1⟩
  | 19, _ => exact fun _ _ _ ⟨gb19, hv, q_0, q_1⟩ hb => ⟨gb19, hv, below_kept q_0 hb, q_1⟩
  | 20, _ => exact fun _ _ _ ⟨gs20, hv, q_0, q_1⟩ hb => ⟨gs20, hv, below_kept q_0 hb, q_1⟩
  | 21, _ => exact fun _ _ _ ⟨gs21, a3, c3, hv, q_0, q_1, q_2⟩ hb => ⟨gs21, a3, c3, hv, below_kept q_0 hb, q_1, q_2.kept hb⟩
  | 22, _ => exact fun _ _ _ ⟨gs22, hv, q_0, q_1⟩ hb => ⟨gs22, hv, below_kept q_0 hb, q_1⟩
  | 23, _ => exact fun _ _ _ h _ => h
  | 24, _ => exact fun _ _ _ q_0 hb => below_kept q_0 hb
  | 25, _ => exact fun _ _ _ q_0 hb => below_kept q_0 hb
  | 26, _ => exact fun _ _ _ q_0 hb => below_kept q_0 hb
  | 27, _ => exact fun _ _ _ q_0 hb => below_kept q_0 hb
  | k + 28, hk => omega
set_option linter.unusedVariables false in
theorem wa7_st20 (wl ws wr hl hs hr ha : Int) (ag : Option Addr) (ng cg : Nat) (ss : List Int) (ps py ph : Int) (ap : Option Addr) (np cp : Nat) (zs : List Int) (at2 sc x h n : Int) (V : WtV) (G B : Nat) {W W2 : World} {g : Nat} {cs : Array Value} {fr : Nat × Nat} (hg : W.heap[g]? = some (.cells cs 34 fr)) (ht : Touch (g) (g + 1) W W2) (hge : B ≤ g) (k : Nat) (hk : k < 28) (hne : k ≠ 20) (hkill : 20 ∉ (wa7 wl ws wr hl hs hr ha ag ng cg ss ps py ph ap np cp zs at2 sc x h n V G (B)).kill k) (v : Value) (hfact : (wa7 wl ws wr hl hs hr ha ag ng cg ss ps py ph ap np cp zs at2 sc x h n V G (B)).fact k v W) : (wa7 wl ws wr hl hs hr ha ag ng cg ss ps py ph ap np cp zs at2 sc x h n V G (B)).fact k v W2 := by
  match k, hk, hne, hkill, hfact with
  | 0, _, _, _, hq => exact hq
  | 1, _, _, _, hq => exact hq
  | 2, _, _, _, hq => exact hq
  | 3, _, _, _, ⟨a1, hv, q_0⟩ => exact ⟨a1, hv, ⟨ownsRow_box q_0.row hg (by decide) ht, q_0.byte⟩⟩
  | 4, _, _, _, hq => exact hq
  | 5, _, _, _, ⟨a2, hv, q_0⟩ => exact ⟨a2, hv, ⟨ownsRow_box q_0.row hg (by decide) ht, q_0.rng⟩⟩
  | 6, _, _, _, hq => exact hq
  | 7, _, _, _, hq => exact hq
  | 8, _, _, _, hq => exact hq
  | 9, _, _, _, hq => exact hq
  | 10, _, _, _, hq => exact hq
  | 11, _, _, _, ⟨a3, c3, hv, q_0⟩ => exact ⟨a3, c3, hv, ⟨ownsRow_box q_0.row hg (by decide) ht, q_0.byte⟩⟩
  | 12, _, _, _, ⟨a3, c3, hv, q_0⟩ => exact ⟨a3, c3, hv, ⟨ownsRow_box q_0.row hg (by decide) ht, q_0.byte⟩⟩
  | 13, _, _, _, hq => exact hq
  | 14, _, _, _, ⟨a3, c3, hv, q_0⟩ => exact ⟨a3, c3, hv, ⟨ownsRow_box q_0.row hg (by decide) ht, q_0.byte⟩⟩
  | 15, _, _, _, hq => exact hq
  | 16, _, _, _, hq => exact hq
  | 17, _, _, hkill, _ => exact absurd (List.Mem.head _) hkill
  | 18, _, _, _, ⟨gb18, hv, q_0, q_1⟩ => exact ⟨gb18, hv, box_box q_0 hg (by decide) ht, q_1⟩
  | 19, _, _, _, ⟨gb19, hv, q_0, q_1⟩ => exact ⟨gb19, hv, box_box q_0 hg (by decide) ht, q_1⟩
  | 20, _, hne, _, _ => exact absurd rfl hne
  | 21, _, _, _, ⟨gs21, a3, c3, hv, q_0, q_1, q_2⟩ => exact ⟨gs21, a3, c3, hv, box_box q_0 hg (by decide) ht, q_1, ⟨ownsRow_box q_2.row hg (by decide) ht, q_2.byte⟩⟩
  | 22, _, _, _, ⟨gs22, hv, q_0, q_1⟩ => exact ⟨gs22, hv, box_box q_0 hg (by decide) ht, q_1⟩
  | 23, _, _, _, hq => exact hq
  | 24, _, _, _, q_0 => exact box_box q_0 hg (by decide) ht
  | 25, _, _, _, q_0 => exact box_box q_0 hg (by decide) ht
  | 26, _, _, _, q_0 => exact box_box q_0 hg (by decide) ht
  | 27, _, _, _, q_0 => exact box_box q_0 hg (by decide) ht
  | k + 28, hk, _, _, _ => omega
set_option linter.unusedVariables false in
theorem wa7_st21 (wl ws wr hl hs hr ha : Int) (ag : Option Addr) (ng cg : Nat) (ss : List Int) (ps py ph : Int) (ap : Option Addr) (np cp : Nat) (zs : List Int) (at2 sc x h n : Int) (V : WtV) (G B : Nat) {W W2 : World} {g : Nat} {cs : Array Value} {fr : Nat × Nat} (hg : W.heap[g]? = some (.cells cs 36 fr)) (ht : Touch (g) (g + 1) W W2) (hge : B ≤ g) (k : Nat) (hk : k < 28) (hne : k ≠ 21) (hkill : 21 ∉ (wa7 wl ws wr hl hs hr ha ag ng cg ss ps py ph ap np cp zs at2 sc x h n V G (B)).kill k) (v : Value) (hfact : (wa7 wl ws wr hl hs hr ha ag ng cg ss ps py ph ap np cp zs at2 sc x h n V G (B)).fact k v W) : (wa7 wl ws wr hl hs hr ha ag ng cg ss ps py ph ap np cp zs at2 sc x h n V G (B)).fact k v W2 := by
  match k, hk, hne, hkill, hfact with
  | 0, _, _, _, hq => exact hq
  | 1, _, _, _, hq => exact hq
  | 2, _, _, _, hq => exact hq
  | 3, _, _, _, ⟨a1, hv, q_0⟩ => exact ⟨a1, hv, ⟨ownsRow_box q_0.row hg (by decide) ht, q_0.byte⟩⟩
  | 4, _, _, _, hq => exact hq
  | 5, _, _, _, ⟨a2, hv, q_0⟩ => exact ⟨a2, hv, ⟨ownsRow_box q_0.row hg (by decide) ht, q_0.rng⟩⟩
  | 6, _, _, _, hq => exact hq
  | 7, _, _, _, hq => exact hq
  | 8, _, _, _, hq => exact hq
  | 9, _, _, _, hq => exact hq
  | 10, _, _, _, hq => exact hq
  | 11, _, _, _, ⟨a3, c3, hv, q_0⟩ => exact ⟨a3, c3, hv, ⟨ownsRow_box q_0.row hg (by decide) ht, q_0.byte⟩⟩
  | 12, _, _, _, ⟨a3, c3, hv, q_0⟩ => exact ⟨a3, c3, hv, ⟨ownsRow_box q_0.row hg (by decide) ht, q_0.byte⟩⟩
  | 13, _, _, _, hq => exact hq
  | 14, _, _, _, ⟨a3, c3, hv, q_0⟩ => exact ⟨a3, c3, hv, ⟨ownsRow_box q_0.row hg (by decide) ht, q_0.byte⟩⟩
  | 15, _, _, _, hq => exact hq
  | 16, _, _, _, hq => exact hq
  | 17, _, _, _, ⟨gb17, hv, q_0, q_1⟩ => exact ⟨gb17, hv, box_box q_0 hg (by decide) ht, q_1⟩
  | 18, _, _, hkill, _ => exact absurd (List.Mem.head _) hkill
  | 19, _, _, _, ⟨gb19, hv, q_0, q_1⟩ => exact ⟨gb19, hv, box_box q_0 hg (by decide) ht, q_1⟩
  | 20, _, _, _, ⟨gs20, hv, q_0, q_1⟩ => exact ⟨gs20, hv, box_box q_0 hg (by decide) ht, q_1⟩
  | 21, _, hne, _, _ => exact absurd rfl hne
  | 22, _, _, _, ⟨gs22, hv, q_0, q_1⟩ => exact ⟨gs22, hv, box_box q_0 hg (by decide) ht, q_1⟩
  | 23, _, _, _, hq => exact hq
  | 24, _, _, _, q_0 => exact box_box q_0 hg (by decide) ht
  | 25, _, _, _, q_0 => exact box_box q_0 hg (by decide) ht
  | 26, _, _, _, q_0 => exact box_box q_0 hg (by decide) ht
  | 27, _, _, _, q_0 => exact box_box q_0 hg (by decide) ht
  | k + 28, hk, _, _, _ => omega
set_option linter.unusedVariables false in
theorem wa7_st22 (wl ws wr hl hs hr ha : Int) (ag : Option Addr) (ng cg : Nat) (ss : List Int) (ps py ph : Int) (ap : Option Addr) (np cp : Nat) (zs : List Int) (at2 sc x h n : Int) (V : WtV) (G B : Nat) {W W2 : World} {g : Nat} {cs : Array Value} {fr : Nat × Nat} (hg : W.heap[g]? = some (.cells cs 37 fr)) (ht : Touch (g) (g + 1) W W2) (hge : B ≤ g) (k : Nat) (hk : k < 28) (hne : k ≠ 22) (hkill : 22 ∉ (wa7 wl ws wr hl hs hr ha ag ng cg ss ps py ph ap np cp zs at2 sc x h n V G (B)).kill k) (v : Value) (hfact : (wa7 wl ws wr hl hs hr ha ag ng cg ss ps py ph ap np cp zs at2 sc x h n V G (B)).fact k v W) : (wa7 wl ws wr hl hs hr ha ag ng cg ss ps py ph ap np cp zs at2 sc x h n V G (B)).fact k v W2 := by
  match k, hk, hne, hkill, hfact with
  | 0, _, _, _, hq => exact hq
  | 1, _, _, _, hq => exact hq
  | 2, _, _, _, hq => exact hq
  | 3, _, _, _, ⟨a1, hv, q_0⟩ => exact ⟨a1, hv, ⟨ownsRow_box q_0.row hg (by decide) ht, q_0.byte⟩⟩
  | 4, _, _, _, hq => exact hq
  | 5, _, _, _, ⟨a2, hv, q_0⟩ => exact ⟨a2, hv, ⟨ownsRow_box q_0.row hg (by decide) ht, q_0.rng⟩⟩
  | 6, _, _, _, hq => exact hq
  | 7, _, _, _, hq => exact hq
  | 8, _, _, _, hq => exact hq
  | 9, _, _, _, hq => exact hq
  | 10, _, _, _, hq => exact hq
  | 11, _, _, _, ⟨a3, c3, hv, q_0⟩ => exact ⟨a3, c3, hv, ⟨ownsRow_box q_0.row hg (by decide) ht, q_0.byte⟩⟩
  | 12, _, _, _, ⟨a3, c3, hv, q_0⟩ => exact ⟨a3, c3, hv, ⟨ownsRow_box q_0.row hg (by decide) ht, q_0.byte⟩⟩
  | 13, _, _, _, hq => exact hq
  | 14, _, _, _, ⟨a3, c3, hv, q_0⟩ => exact ⟨a3, c3, hv, ⟨ownsRow_box q_0.row hg (by decide) ht, q_0.byte⟩⟩
  | 15, _, _, _, hq => exact hq
  | 16, _, _, _, hq => exact hq
  | 17, _, _, _, ⟨gb17, hv, q_0, q_1⟩ => exact ⟨gb17, hv, box_box q_0 hg (by decide) ht, q_1⟩
  | 18, _, _, _, ⟨gb18, hv, q_0, q_1⟩ => exact ⟨gb18, hv, box_box q_0 hg (by decide) ht, q_1⟩
  | 19, _, _, hkill, _ => exact absurd (List.Mem.head _) hkill
  | 20, _, _, _, ⟨gs20, hv, q_0, q_1⟩ => exact ⟨gs20, hv, box_box q_0 hg (by decide) ht, q_1⟩
  | 21, _, _, _, ⟨gs21, a3, c3, hv, q_0, q_1, q_2⟩ => exact ⟨gs21, a3, c3, hv, box_box q_0 hg (by decide) ht, q_1, ⟨ownsRow_box q_2.row hg (by decide) ht, q_2.byte⟩⟩
  | 22, _, hne, _, _ => exact absurd rfl hne
  | 23, _, _, _, hq => exact hq
  | 24, _, _, _, q_0 => exact box_box q_0 hg (by decide) ht
  | 25, _, _, _, q_0 => exact box_box q_0 hg (by decide) ht
  | 26, _, _, _, q_0 => exact box_box q_0 hg (by decide) ht
  | 27, _, _, _, q_0 => exact box_box q_0 hg (by decide) ht
  | k + 28, hk, _, _, _ => omega
/-- What is known of a region (RJ). -/
def wa10 (wl ws wr hl hs hr ha : Int) (ng : Nat) (ps py ph : Int) (np : Nat) (at2 sc x h n : Int) (V : WtV) (ax ay : Option Addr) (gx G B : Nat) : RSpec where
  m := 22
  n := 26
  slots := [61, 62, 63, 64, 65, 66, 67, 68, 69, 70, 60, 71, 72, 73, 74, 20, 21, 22, 20, 21, 22, 23, 100022, 100023, 100024, 100025]
  kills := [[], [], [], [], [], [], [], [], [], [], [], [], [], [], [], [18], [19], [20], [], [], [], [], [], [], [], []]
  pres := [[], [], [], [], [], [], [], [], [], [], [], [], [], [], [], [], [], [], [15], [16], [17], [], [], [], [], []]
  fact := fun k v w => match k with
    | 0 => v = .agg #[.int .i64 wl, .int .i64 ws, .int .u64 wr]
    | 1 => v = .agg #[.int .i64 wl, .int .i64 ws, .int .u64 wr]
    | 2 => v = .agg #[.int .i64 hl, .int .i64 hs, .int .u64 hr, .int .i64 ha, .slice ax ng ng]
    | 3 => v = .slice ay np np
    | 4 => v = .agg #[.int .i64 ps, .int .u64 py, .int .i64 ph]
    | 5 => v = .agg #[.int .i64 ps, .int .u64 py, .int .i64 ph]
    | 6 => v = .int .i64 at2
    | 7 => v = .agg #[.int .i64 sc, .int .u64 x, .int .i64 h, .int .i64 n]
    | 8 => v = .agg #[.int .i64 sc, .int .u64 x, .int .i64 h, .int .i64 n]
    | 9 => ∃ a3 c3, v = .tuple #[.agg #[.int .i64 V.wl, .int .i64 V.ws, .int .u64 V.wr], .agg #[.int .u64 V.ck, .int .i64 V.ca, .slice a3 V.sg.length c3], .agg #[.int .i64 V.t.1, .int .u64 V.t.2.1, .int .i64 V.t.2.2.1, .int .i64 V.t.2.2.2], .int .i64 V.cd] ∧ Own B w a3 V.sg.length c3 V.sg
    | 10 => ∃ a3 c3, v = .tuple #[.agg #[.int .i64 V.wl, .int .i64 V.ws, .int .u64 V.wr], .agg #[.int .u64 V.ck, .int .i64 V.ca, .slice a3 V.sg.length c3], .agg #[.int .i64 V.t.1, .int .u64 V.t.2.1, .int .i64 V.t.2.2.1, .int .i64 V.t.2.2.2], .int .i64 V.cd] ∧ Own B w a3 V.sg.length c3 V.sg
    | 11 => v = .agg #[.int .i64 V.wl, .int .i64 V.ws, .int .u64 V.wr]
    | 12 => ∃ a3 c3, v = .agg #[.int .u64 V.ck, .int .i64 V.ca, .slice a3 V.sg.length c3] ∧ Own B w a3 V.sg.length c3 V.sg
    | 13 => v = .agg #[.int .i64 V.t.1, .int .u64 V.t.2.1, .int .i64 V.t.2.2.1, .int .i64 V.t.2.2.2]
    | 14 => v = .int .i64 V.cd
    | 15 => ∃ gb15, v = .pointer (some ⟨gb15, 0, none⟩) ∧ w.heap[gb15]? = some (.cells #[.int .i64 0, .int .i64 0, .int .u64 0] 34 (0, 0)) ∧ B ≤ gb15
    | 16 => ∃ gb16, v = .pointer (some ⟨gb16, 0, none⟩) ∧ w.heap[gb16]? = some (.cells #[.int .u64 0, .int .i64 0, .slice none 0 0] 36 (0, 0)) ∧ B ≤ gb16
    | 17 => ∃ gb17, v = .pointer (some ⟨gb17, 0, none⟩) ∧ w.heap[gb17]? = some (.cells #[.int .i64 0, .int .u64 0, .int .i64 0, .int .i64 0] 37 (0, 0)) ∧ B ≤ gb17
    | 18 => ∃ gs18, v = .pointer (some ⟨gs18, 0, none⟩) ∧ w.heap[gs18]? = some (.cells #[.int .i64 V.wl, .int .i64 V.ws, .int .u64 V.wr] 34 (0, 0)) ∧ B ≤ gs18
    | 19 => ∃ gs19 a3 c3, v = .pointer (some ⟨gs19, 0, none⟩) ∧ w.heap[gs19]? = some (.cells #[.int .u64 V.ck, .int .i64 V.ca, .slice a3 V.sg.length c3] 36 (0, 0)) ∧ B ≤ gs19 ∧ Own B w a3 V.sg.length c3 V.sg
    | 20 => ∃ gs20, v = .pointer (some ⟨gs20, 0, none⟩) ∧ w.heap[gs20]? = some (.cells #[.int .i64 V.t.1, .int .u64 V.t.2.1, .int .i64 V.t.2.2.1, .int .i64 V.t.2.2.2] 37 (0, 0)) ∧ B ≤ gs20
    | 21 => v = .int .i64 V.cd
    | 22 => w.heap[G]? = some (.cells #[.int .i64 wl, .int .i64 ws, .int .u64 wr] 24 (0, 0))
    | 23 => w.heap[(G + 1 + 1)]? = some (.cells #[.int .i64 ps, .int .u64 py, .int .i64 ph] 30 (0, 0))
    | 24 => w.heap[(G + 1 + 1 + 1)]? = some (.cells #[.int .i64 sc, .int .u64 x, .int .i64 h, .int .i64 n] 32 (0, 0))
    | _ => w.heap[gx]? = some (.cells #[.int .i64 hl, .int .i64 hs, .int .u64 hr, .int .i64 ha, .slice ax ng ng] 41 (0, 0))
set_option linter.unusedVariables false in
theorem wa10_stb (wl ws wr hl hs hr ha : Int) (ng : Nat) (ps py ph : Int) (np : Nat) (at2 sc x h n : Int) (V : WtV) (ax ay : Option Addr) (gx G B : Nat) (k : Nat) (hk : k < 26) : StB ((wa10 wl ws wr hl hs hr ha ng ps py ph np at2 sc x h n V ax ay gx G (B)).fact k) := by
  match k, hk with
  | 0, _ => exact fun _ _ _ h _ => h
  | 1, _ => exact fun _ _ _ h _ => h
  | 2, _ => exact fun _ _ _ h _ => h
  | 3, _ => exact fun _ _ _ h _ => h
  | 4, _ => exact fun _ _ _ h _ => h
  | 5, _ => exact fun _ _ _ h _ => h
  | 6, _ => exact fun _ _ _ h _ => h
  | 7, _ => exact fun _ _ _ h _ => h
  | 8, _ => exact fun _ _ _ h _ => h
  | 9, _ => exact fun _ _ _ ⟨a3, c3, hv, q_0⟩ hb => ⟨a3, c3, hv, q_0.kept hb⟩
  | 10, _ => exact fun _ _ _ ⟨a3, c3, hv, q_0⟩ hb => ⟨a3, c3, hv, q_0.kept hb⟩
  | 11, _ => exact fun _ _ _ h _ => h
  | 12, _ => exact fun _ _ _ ⟨a3, c3, hv, q_0⟩ hb => ⟨a3, c3, hv, q_0.kept hb⟩
  | 13, _ => exact fun _ _ _ h _ => h
  | 14, _ => exact fun _ _ _ h _ => h
  | 15, _ => exact fun _ _ _ ⟨gb15, hv, q_0, q_1⟩ hb => ⟨gb15, hv, below_kept q_0 hb, q_1⟩
  | 16, _ => exact fun _ _ _ ⟨gb16, hv, q_0, q_1⟩ hb => ⟨gb16, hv, below_kept q_0 hb, q_1⟩
  | 17, _ => exact fun _ _ _ ⟨gb17, hv, q_0, q_1⟩ hb => ⟨gb17, hv, below_kept q_0 hb, q_1⟩
  | 18, _ => exact fun _ _ _ ⟨gs18, hv, q_0, q_1⟩ hb => ⟨gs18, hv, below_kept q_0 hb, q_1⟩
  | 19, _ => exact fun _ _ _ ⟨gs19, a3, c3, hv, q_0, q_1, q_2⟩ hb => ⟨gs19, a3, c3, hv, below_kept q_0 hb, q_1, q_2.kept hb⟩
  | 20, _ => exact fun _ _ _ ⟨gs20, hv, q_0, q_1⟩ hb => ⟨gs20, hv, below_kept q_0 hb, q_1⟩
  | 21, _ => exact fun _ _ _ h _ => h
  | 22, _ => exact fun _ _ _ q_0 hb => below_kept q_0 hb
  | 23, _ => exact fun _ _ _ q_0 hb => below_kept q_0 hb
  | 24, _ => exact fun _ _ _ q_0 hb => below_kept q_0 hb
  | 25, _ => exact fun _ _ _ q_0 hb => below_kept q_0 hb
  | k + 26, hk => omega
set_option linter.unusedVariables false in
theorem wa10_st18 (wl ws wr hl hs hr ha : Int) (ng : Nat) (ps py ph : Int) (np : Nat) (at2 sc x h n : Int) (V : WtV) (ax ay : Option Addr) (gx G B : Nat) {W W2 : World} {g : Nat} {cs : Array Value} {fr : Nat × Nat} (hg : W.heap[g]? = some (.cells cs 34 fr)) (ht : Touch (g) (g + 1) W W2) (hge : B ≤ g) (k : Nat) (hk : k < 26) (hne : k ≠ 18) (hkill : 18 ∉ (wa10 wl ws wr hl hs hr ha ng ps py ph np at2 sc x h n V ax ay gx G (B)).kill k) (v : Value) (hfact : (wa10 wl ws wr hl hs hr ha ng ps py ph np at2 sc x h n V ax ay gx G (B)).fact k v W) : (wa10 wl ws wr hl hs hr ha ng ps py ph np at2 sc x h n V ax ay gx G (B)).fact k v W2 := by
  match k, hk, hne, hkill, hfact with
  | 0, _, _, _, hq => exact hq
  | 1, _, _, _, hq => exact hq
  | 2, _, _, _, hq => exact hq
  | 3, _, _, _, hq => exact hq
  | 4, _, _, _, hq => exact hq
  | 5, _, _, _, hq => exact hq
  | 6, _, _, _, hq => exact hq
  | 7, _, _, _, hq => exact hq
  | 8, _, _, _, hq => exact hq
  | 9, _, _, _, ⟨a3, c3, hv, q_0⟩ => exact ⟨a3, c3, hv, ⟨ownsRow_box q_0.row hg (by decide) ht, q_0.byte⟩⟩
  | 10, _, _, _, ⟨a3, c3, hv, q_0⟩ => exact ⟨a3, c3, hv, ⟨ownsRow_box q_0.row hg (by decide) ht, q_0.byte⟩⟩
  | 11, _, _, _, hq => exact hq
  | 12, _, _, _, ⟨a3, c3, hv, q_0⟩ => exact ⟨a3, c3, hv, ⟨ownsRow_box q_0.row hg (by decide) ht, q_0.byte⟩⟩
  | 13, _, _, _, hq => exact hq
  | 14, _, _, _, hq => exact hq
  | 15, _, _, hkill, _ => exact absurd (List.Mem.head _) hkill
  | 16, _, _, _, ⟨gb16, hv, q_0, q_1⟩ => exact ⟨gb16, hv, box_box q_0 hg (by decide) ht, q_1⟩
  | 17, _, _, _, ⟨gb17, hv, q_0, q_1⟩ => exact ⟨gb17, hv, box_box q_0 hg (by decide) ht, q_1⟩
  | 18, _, hne, _, _ => exact absurd rfl hne
  | 19, _, _, _, ⟨gs19, a3, c3, hv, q_0, q_1, q_2⟩ => exact ⟨gs19, a3, c3, hv, box_box q_0 hg (by decide) ht, q_1, ⟨ownsRow_box q_2.row hg (by decide) ht, q_2.byte⟩⟩
  | 20, _, _, _, ⟨gs20, hv, q_0, q_1⟩ => exact ⟨gs20, hv, box_box q_0 hg (by decide) ht, q_1⟩
  | 21, _, _, _, hq => exact hq
  | 22, _, _, _, q_0 => exact box_box q_0 hg (by decide) ht
  | 23, _, _, _, q_0 => exact box_box q_0 hg (by decide) ht
  | 24, _, _, _, q_0 => exact box_box q_0 hg (by decide) ht
  | 25, _, _, _, q_0 => exact box_box q_0 hg (by decide) ht
  | k + 26, hk, _, _, _ => omega
set_option linter.unusedVariables false in
theorem wa10_st19 (wl ws wr hl hs hr ha : Int) (ng : Nat) (ps py ph : Int) (np : Nat) (at2 sc x h n : Int) (V : WtV) (ax ay : Option Addr) (gx G B : Nat) {W W2 : World} {g : Nat} {cs : Array Value} {fr : Nat × Nat} (hg : W.heap[g]? = some (.cells cs 36 fr)) (ht : Touch (g) (g + 1) W W2) (hge : B ≤ g) (k : Nat) (hk : k < 26) (hne : k ≠ 19) (hkill : 19 ∉ (wa10 wl ws wr hl hs hr ha ng ps py ph np at2 sc x h n V ax ay gx G (B)).kill k) (v : Value) (hfact : (wa10 wl ws wr hl hs hr ha ng ps py ph np at2 sc x h n V ax ay gx G (B)).fact k v W) : (wa10 wl ws wr hl hs hr ha ng ps py ph np at2 sc x h n V ax ay gx G (B)).fact k v W2 := by
  match k, hk, hne, hkill, hfact with
  | 0, _, _, _, hq => exact hq
  | 1, _, _, _, hq => exact hq
  | 2, _, _, _, hq => exact hq
  | 3, _, _, _, hq => exact hq
  | 4, _, _, _, hq => exact hq
  | 5, _, _, _, hq => exact hq
  | 6, _, _, _, hq => exact hq
  | 7, _, _, _, hq => exact hq
  | 8, _, _, _, hq => exact hq
  | 9, _, _, _, ⟨a3, c3, hv, q_0⟩ => exact ⟨a3, c3, hv, ⟨ownsRow_box q_0.row hg (by decide) ht, q_0.byte⟩⟩
  | 10, _, _, _, ⟨a3, c3, hv, q_0⟩ => exact ⟨a3, c3, hv, ⟨ownsRow_box q_0.row hg (by decide) ht, q_0.byte⟩⟩
  | 11, _, _, _, hq => exact hq
  | 12, _, _, _, ⟨a3, c3, hv, q_0⟩ => exact ⟨a3, c3, hv, ⟨ownsRow_box q_0.row hg (by decide) ht, q_0.byte⟩⟩
  | 13, _, _, _, hq => exact hq
  | 14, _, _, _, hq => exact hq
  | 15, _, _, _, ⟨gb15, hv, q_0, q_1⟩ => exact ⟨gb15, hv, box_box q_0 hg (by decide) ht, q_1⟩
  | 16, _, _, hkill, _ => exact absurd (List.Mem.head _) hkill
  | 17, _, _, _, ⟨gb17, hv, q_0, q_1⟩ => exact ⟨gb17, hv, box_box q_0 hg (by decide) ht, q_1⟩
  | 18, _, _, _, ⟨gs18, hv, q_0, q_1⟩ => exact ⟨gs18, hv, box_box q_0 hg (by decide) ht, q_1⟩
  | 19, _, hne, _, _ => exact absurd rfl hne
  | 20, _, _, _, ⟨gs20, hv, q_0, q_1⟩ => exact ⟨gs20, hv, box_box q_0 hg (by decide) ht, q_1⟩
  | 21, _, _, _, hq => exact hq
  | 22, _, _, _, q_0 => exact box_box q_0 hg (by decide) ht
  | 23, _, _, _, q_0 => exact box_box q_0 hg (by decide) ht
  | 24, _, _, _, q_0 => exact box_box q_0 hg (by decide) ht
  | 25, _, _, _, q_0 => exact box_box q_0 hg (by decide) ht
  | k + 26, hk, _, _, _ => omega
set_option linter.unusedVariables false in
theorem wa10_st20 (wl ws wr hl hs hr ha : Int) (ng : Nat) (ps py ph : Int) (np : Nat) (at2 sc x h n : Int) (V : WtV) (ax ay : Option Addr) (gx G B : Nat) {W W2 : World} {g : Nat} {cs : Array Value} {fr : Nat × Nat} (hg : W.heap[g]? = some (.cells cs 37 fr)) (ht : Touch (g) (g + 1) W W2) (hge : B ≤ g) (k : Nat) (hk : k < 26) (hne : k ≠ 20) (hkill : 20 ∉ (wa10 wl ws wr hl hs hr ha ng ps py ph np at2 sc x h n V ax ay gx G (B)).kill k) (v : Value) (hfact : (wa10 wl ws wr hl hs hr ha ng ps py ph np at2 sc x h n V ax ay gx G (B)).fact k v W) : (wa10 wl ws wr hl hs hr ha ng ps py ph np at2 sc x h n V ax ay gx G (B)).fact k v W2 := by
  match k, hk, hne, hkill, hfact with
  | 0, _, _, _, hq => exact hq
  | 1, _, _, _, hq => exact hq
  | 2, _, _, _, hq => exact hq
  | 3, _, _, _, hq => exact hq
  | 4, _, _, _, hq => exact hq
  | 5, _, _, _, hq => exact hq
  | 6, _, _, _, hq => exact hq
  | 7, _, _, _, hq => exact hq
  | 8, _, _, _, hq => exact hq
  | 9, _, _, _, ⟨a3, c3, hv, q_0⟩ => exact ⟨a3, c3, hv, ⟨ownsRow_box q_0.row hg (by decide) ht, q_0.byte⟩⟩
  | 10, _, _, _, ⟨a3, c3, hv, q_0⟩ => exact ⟨a3, c3, hv, ⟨ownsRow_box q_0.row hg (by decide) ht, q_0.byte⟩⟩
  | 11, _, _, _, hq => exact hq
  | 12, _, _, _, ⟨a3, c3, hv, q_0⟩ => exact ⟨a3, c3, hv, ⟨ownsRow_box q_0.row hg (by decide) ht, q_0.byte⟩⟩
  | 13, _, _, _, hq => exact hq
  | 14, _, _, _, hq => exact hq
  | 15, _, _, _, ⟨gb15, hv, q_0, q_1⟩ => exact ⟨gb15, hv, box_box q_0 hg (by decide) ht, q_1⟩
  | 16, _, _, _, ⟨gb16, hv, q_0, q_1⟩ => exact ⟨gb16, hv, box_box q_0 hg (by decide) ht, q_1⟩
  | 17, _, _, hkill, _ => exact absurd (List.Mem.head _) hkill
  | 18, _, _, _, ⟨gs18, hv, q_0, q_1⟩ => exact ⟨gs18, hv, box_box q_0 hg (by decide) ht, q_1⟩
  | 19, _, _, _, ⟨gs19, a3, c3, hv, q_0, q_1, q_2⟩ => exact ⟨gs19, a3, c3, hv, box_box q_0 hg (by decide) ht, q_1, ⟨ownsRow_box q_2.row hg (by decide) ht, q_2.byte⟩⟩
  | 20, _, hne, _, _ => exact absurd rfl hne
  | 21, _, _, _, hq => exact hq
  | 22, _, _, _, q_0 => exact box_box q_0 hg (by decide) ht
  | 23, _, _, _, q_0 => exact box_box q_0 hg (by decide) ht
  | 24, _, _, _, q_0 => exact box_box q_0 hg (by decide) ht
  | 25, _, _, _, q_0 => exact box_box q_0 hg (by decide) ht
  | k + 26, hk, _, _, _ => omega
/-- What is known of a region (RJ). -/
def wa13 (hl hs hr ha : Int) (ag : Option Addr) (ng cg : Nat) (ss : List Int) (ax : Option Addr) (gx G B : Nat) : RSpec where
  m := 5
  n := 7
  slots := [96, 97, 98, 99, 100, 100005, 100006]
  kills := [[], [], [], [], [], [], []]
  pres := [[], [], [], [], [], [], []]
  fact := fun k v w => match k with
    | 0 => v = .agg #[.int .i64 hl, .int .i64 hs, .int .u64 hr, .int .i64 ha, .slice ax ng ng]
    | 1 => v = .agg #[.int .i64 hl, .int .i64 hs, .int .u64 hr, .int .i64 ha, .slice ag ng cg]
    | 2 => ∃ a1, v = .agg #[.int .i64 hl, .int .i64 hs, .int .u64 hr, .int .i64 ha, .slice a1 ng ng] ∧ Own B w a1 ng ng ss
    | 3 => v = .bool true
    | 4 => v = .bool false
    | 5 => w.heap[(G + 1)]? = some (.cells #[.int .i64 hl, .int .i64 hs, .int .u64 hr, .int .i64 ha, .slice ag ng cg] 27 (0, 0))
    | _ => w.heap[gx]? = some (.cells #[.int .i64 hl, .int .i64 hs, .int .u64 hr, .int .i64 ha, .slice ax ng ng] 41 (0, 0))
set_option linter.unusedVariables false in
theorem wa13_stb (hl hs hr ha : Int) (ag : Option Addr) (ng cg : Nat) (ss : List Int) (ax : Option Addr) (gx G B : Nat) (k : Nat) (hk : k < 7) : StB ((wa13 hl hs hr ha ag ng cg ss ax gx G (B)).fact k) := by
  match k, hk with
  | 0, _ => exact fun _ _ _ h _ => h
  | 1, _ => exact fun _ _ _ h _ => h
  | 2, _ => exact fun _ _ _ ⟨a1, hv, q_0⟩ hb => ⟨a1, hv, q_0.kept hb⟩
  | 3, _ => exact fun _ _ _ h _ => h
  | 4, _ => exact fun _ _ _ h _ => h
  | 5, _ => exact fun _ _ _ q_0 hb => below_kept q_0 hb
  | 6, _ => exact fun _ _ _ q_0 hb => below_kept q_0 hb
  | k + 7, hk => omega
/-- What is known of a region (RJ). -/
def wa30 (wl ws wr hl hs hr ha : Int) (ag : Option Addr) (ng cg : Nat) (ss : List Int) (ps py ph : Int) (ap : Option Addr) (np cp : Nat) (zs : List Int) (at2 sc x h n : Int) (V : WtV) (G B : Nat) : RSpec where
  m := 24
  n := 28
  slots := [149, 150, 151, 152, 153, 154, 155, 156, 157, 158, 159, 160, 148, 161, 162, 163, 164, 27, 28, 29, 27, 28, 29, 30, 100024, 100025, 100026, 100027]
  kills := [[], [], [], [], [], [], [], [], [], [], [], [], [], [], [], [], [], [20], [21], [22], [], [], [], [], [], [], [], []]
  pres := [[], [], [], [], [], [], [], [], [], [], [], [], [], [], [], [], [], [], [], [], [17], [18], [19], [], [], [], [], []]
  fact := fun k v w => match k with
    | 0 => v = .agg #[.int .i64 wl, .int .i64 ws, .int .u64 wr]
    | 1 => v = .agg #[.int .i64 wl, .int .i64 ws, .int .u64 wr]
    | 2 => v = .agg #[.int .i64 hl, .int .i64 hs, .int .u64 hr, .int .i64 ha, .slice ag ng cg]
    | 3 => ∃ a1, v = .agg #[.int .i64 hl, .int .i64 hs, .int .u64 hr, .int .i64 ha, .slice a1 ng ng] ∧ Own B w a1 ng ng ss
    | 4 => v = .slice ap np cp
    | 5 => ∃ a2, v = .slice a2 np np ∧ OwnU B w a2 np np zs
    | 6 => v = .agg #[.int .i64 ps, .int .u64 py, .int .i64 ph]
    | 7 => v = .agg #[.int .i64 ps, .int .u64 py, .int .i64 ph]
    | 8 => v = .int .i64 at2
    | 9 => v = .agg #[.int .i64 sc, .int .u64 x, .int .i64 h, .int .i64 n]
    | 10 => v = .agg #[.int .i64 sc, .int .u64 x, .int .i64 h, .int .i64 n]
    | 11 => ∃ a3 c3, v = .tuple #[.agg #[.int .i64 V.wl, .int .i64 V.ws, .int .u64 V.wr], .agg #[.int .u64 V.ck, .int .i64 V.ca, .slice a3 V.sg.length c3], .agg #[.int .i64 V.t.1, .int .u64 V.t.2.1, .int .i64 V.t.2.2.1, .int .i64 V.t.2.2.2], .int .i64 V.cd] ∧ Own B w a3 V.sg.length c3 V.sg
    | 12 => ∃ a3 c3, v = .tuple #[.agg #[.int .i64 V.wl, .int .i64 V.ws, .int .u64 V.wr], .agg #[.int .u64 V.ck, .int .i64 V.ca, .slice a3 V.sg.length c3], .agg #[.int .i64 V.t.1, .int .u64 V.t.2.1, .int .i64 V.t.2.2.1, .int .i64 V.t.2.2.2], .int .i64 V.cd] ∧ Own B w a3 V.sg.length c3 V.sg
    | 13 => v = .agg #[.int .i64 V.wl, .int .i64 V.ws, .int .u64 V.wr]
    | 14 => ∃ a3 c3, v = .agg #[.int .u64 V.ck, .int .i64 V.ca, .slice a3 V.sg.length c3] ∧ Own B w a3 V.sg.length c3 V.sg
    | 15 => v = .agg #[.int .i64 V.t.1, .int .u64 V.t.2.1, .int .i64 V.t.2.2.1, .int .i64 V.t.2.2.2]
    | 16 => v = .int .i64 V.cd
    | 17 => ∃ gb17, v = .pointer (some ⟨gb17, 0, none⟩) ∧ w.heap[gb17]? = some (.cells #[.int .i64 0, .int .i64 0, .int .u64 0] 34 (0, 0)) ∧ B ≤ gb17
    | 18 => ∃ gb18, v = .pointer (some ⟨gb18, 0, none⟩) ∧ w.heap[gb18]? = some (.cells #[.int .u64 0, .int .i64 0, .slice none 0 0] 36 (0, 0)) ∧ B ≤ gb18
    | 19 => ∃ gb19, v = .pointer (some ⟨gb19, 0, none⟩) ∧ w.heap[gb19]? = some (.cells #[.int .i64 0, .int .u64 0, .int .i64 0, .int .i64 0] 37 (0, 0)) ∧ B ≤ gb19
    | 20 => ∃ gs20, v = .pointer (some ⟨gs20, 0, none⟩) ∧ w.heap[gs20]? = some (.cells #[.int .i64 V.wl, .int .i64 V.ws, .int .u64 V.wr] 34 (0, 0)) ∧ B ≤ gs20
    | 21 => ∃ gs21 a3 c3, v = .pointer (some ⟨gs21, 0, none⟩) ∧ w.heap[gs21]? = some (.cells #[.int .u64 V.ck, .int .i64 V.ca, .slice a3 V.sg.length c3] 36 (0, 0)) ∧ B ≤ gs21 ∧ Own B w a3 V.sg.length c3 V.sg
    | 22 => ∃ gs22, v = .pointer (some ⟨gs22, 0, none⟩) ∧ w.heap[gs22]? = some (.cells #[.int .i64 V.t.1, .int .u64 V.t.2.1, .int .i64 V.t.2.2.1, .int .i64 V.t.2.2.2] 37 (0, 0)) ∧ B ≤ gs22
    | 23 => v = .int .i64 V.cd
    | 24 => w.heap[G]? = some (.cells #[.int .i64 wl, .int .i64 ws, .int .u64 wr] 24 (0, 0))
    | 25 => w.heap[(G + 1)]? = some (.cells #[.int .i64 hl, .int .i64 hs, .int .u64 hr, .int .i64 ha, .slice ag ng cg] 27 (0, 0))
    | 26 => w.heap[(G + 1 + 1)]? = some (.cells #[.int .i64 ps, .int .u64 py, .int .i64 ph] 30 (0, 0))
    | _ => w.heap[(G + 1 + 1 + 1)]? = some (.cells #[.int .i64 sc, .int .u64 x, .int .i64 h, .int .i64 n] 32 (0, 0))
set_option linter.unusedVariables false in
theorem wa30_stb (wl ws wr hl hs hr ha : Int) (ag : Option Addr) (ng cg : Nat) (ss : List Int) (ps py ph : Int) (ap : Option Addr) (np cp : Nat) (zs : List Int) (at2 sc x h n : Int) (V : WtV) (G B : Nat) (k : Nat) (hk : k < 28) : StB ((wa30 wl ws wr hl hs hr ha ag ng cg ss ps py ph ap np cp zs at2 sc x h n V G (B)).fact k) := by
  match k, hk with
  | 0, _ => exact fun _ _ _ h _ => h
  | 1, _ => exact fun _ _ _ h _ => h
  | 2, _ => exact fun _ _ _ h _ => h
  | 3, _ => exact fun _ _ _ ⟨a1, hv, q_0⟩ hb => ⟨a1, hv, q_0.kept hb⟩
  | 4, _ => exact fun _ _ _ h _ => h
  | 5, _ => exact fun _ _ _ ⟨a2, hv, q_0⟩ hb => ⟨a2, hv, q_0.kept hb⟩
  | 6, _ => exact fun _ _ _ h _ => h
  | 7, _ => exact fun _ _ _ h _ => h
  | 8, _ => exact fun _ _ _ h _ => h
  | 9, _ => exact fun _ _ _ h _ => h
  | 10, _ => exact fun _ _ _ h _ => h
  | 11, _ => exact fun _ _ _ ⟨a3, c3, hv, q_0⟩ hb => ⟨a3, c3, hv, q_0.kept hb⟩
  | 12, _ => exact fun _ _ _ ⟨a3, c3, hv, q_0⟩ hb => ⟨a3, c3, hv, q_0.kept hb⟩
  | 13, _ => exact fun _ _ _ h _ => h
  | 14, _ => exact fun _ _ _ ⟨a3, c3, hv, q_0⟩ hb => ⟨a3, c3, hv, q_0.kept hb⟩
  | 15, _ => exact fun _ _ _ h _ => h
  | 16, _ => exact fun _ _ _ h _ => h
  | 17, _ => exact fun _ _ _ ⟨gb17, hv, q_0, q_1⟩ hb => ⟨gb17, hv, below_kept q_0 hb, q_1⟩
  | 18, _ => exact fun _ _ _ ⟨gb18, hv, q_0, q_1⟩ hb => ⟨gb18, hv, below_kept q_0 hb, q_1⟩
  | 19, _ => exact fun _ _ _ ⟨gb19, hv, q_0, q_1⟩ hb => ⟨gb19, hv, below_kept q_0 hb, q_1⟩
  | 20, _ => exact fun _ _ _ ⟨gs20, hv, q_0, q_1⟩ hb => ⟨gs20, hv, below_kept q_0 hb, q_1⟩
  | 21, _ => exact fun _ _ _ ⟨gs21, a3, c3, hv, q_0, q_1, q_2⟩ hb => ⟨gs21, a3, c3, hv, below_kept q_0 hb, q_1, q_2.kept hb⟩
  | 22, _ => exact fun _ _ _ ⟨gs22, hv, q_0, q_1⟩ hb => ⟨gs22, hv, below_kept q_0 hb, q_1⟩
  | 23, _ => exact fun _ _ _ h _ => h
  | 24, _ => exact fun _ _ _ q_0 hb => below_kept q_0 hb
  | 25, _ => exact fun _ _ _ q_0 hb => below_kept q_0 hb
  | 26, _ => exact fun _ _ _ q_0 hb => below_kept q_0 hb
  | 27, _ => exact fun _ _ _ q_0 hb => below_kept q_0 hb
  | k + 28, hk => omega
set_option linter.unusedVariables false in
theorem wa30_st20 (wl ws wr hl hs hr ha : Int) (ag : Option Addr) (ng cg : Nat) (ss : List Int) (ps py ph : Int) (ap : Option Addr) (np cp : Nat) (zs : List Int) (at2 sc x h n : Int) (V : WtV) (G B : Nat) {W W2 : World} {g : Nat} {cs : Array Value} {fr : Nat × Nat} (hg : W.heap[g]? = some (.cells cs 34 fr)) (ht : Touch (g) (g + 1) W W2) (hge : B ≤ g) (k : Nat) (hk : k < 28) (hne : k ≠ 20) (hkill : 20 ∉ (wa30 wl ws wr hl hs hr ha ag ng cg ss ps py ph ap np cp zs at2 sc x h n V G (B)).kill k) (v : Value) (hfact : (wa30 wl ws wr hl hs hr ha ag ng cg ss ps py ph ap np cp zs at2 sc x h n V G (B)).fact k v W) : (wa30 wl ws wr hl hs hr ha ag ng cg ss ps py ph ap np cp zs at2 sc x h n V G (B)).fact k v W2 := by
  match k, hk, hne, hkill, hfact with
  | 0, _, _, _, hq => exact hq
  | 1, _, _, _, hq => exact hq
  | 2, _, _, _, hq => exact hq
  | 3, _, _, _, ⟨a1, hv, q_0⟩ => exact ⟨a1, hv, ⟨ownsRow_box q_0.row hg (by decide) ht, q_0.byte⟩⟩
  | 4, _, _, _, hq => exact hq
  | 5, _, _, _, ⟨a2, hv, q_0⟩ => exact ⟨a2, hv, ⟨ownsRow_box q_0.row hg (by decide) ht, q_0.rng⟩⟩
  | 6, _, _, _, hq => exact hq
  | 7, _, _, _, hq => exact hq
  | 8, _, _, _, hq => exact hq
  | 9, _, _, _, hq => exact hq
  | 10, _, _, _, hq => exact hq
  | 11, _, _, _, ⟨a3, c3, hv, q_0⟩ => exact ⟨a3, c3, hv, ⟨ownsRow_box q_0.row hg (by decide) ht, q_0.byte⟩⟩
  | 12, _, _, _, ⟨a3, c3, hv, q_0⟩ => exact ⟨a3, c3, hv, ⟨ownsRow_box q_0.row hg (by decide) ht, q_0.byte⟩⟩
  | 13, _, _, _, hq => exact hq
  | 14, _, _, _, ⟨a3, c3, hv, q_0⟩ => exact ⟨a3, c3, hv, ⟨ownsRow_box q_0.row hg (by decide) ht, q_0.byte⟩⟩
  | 15, _, _, _, hq => exact hq
  | 16, _, _, _, hq => exact hq
  | 17, _, _, hkill, _ => exact absurd (List.Mem.head _) hkill
  | 18, _, _, _, ⟨gb18, hv, q_0, q_1⟩ => exact ⟨gb18, hv, box_box q_0 hg (by decide) ht, q_1⟩
  | 19, _, _, _, ⟨gb19, hv, q_0, q_1⟩ => exact ⟨gb19, hv, box_box q_0 hg (by decide) ht, q_1⟩
  | 20, _, hne, _, _ => exact absurd rfl hne
  | 21, _, _, _, ⟨gs21, a3, c3, hv, q_0, q_1, q_2⟩ => exact ⟨gs21, a3, c3, hv, box_box q_0 hg (by decide) ht, q_1, ⟨ownsRow_box q_2.row hg (by decide) ht, q_2.byte⟩⟩
  | 22, _, _, _, ⟨gs22, hv, q_0, q_1⟩ => exact ⟨gs22, hv, box_box q_0 hg (by decide) ht, q_1⟩
  | 23, _, _, _, hq => exact hq
  | 24, _, _, _, q_0 => exact box_box q_0 hg (by decide) ht
  | 25, _, _, _, q_0 => exact box_box q_0 hg (by decide) ht
  | 26, _, _, _, q_0 => exact box_box q_0 hg (by decide) ht
  | 27, _, _, _, q_0 => exact box_box q_0 hg (by decide) ht
  | k + 28, hk, _, _, _ => omega
set_option linter.unusedVariables false in
theorem wa30_st21 (wl ws wr hl hs hr ha : Int) (ag : Option Addr) (ng cg : Nat) (ss : List Int) (ps py ph : Int) (ap : Option Addr) (np cp : Nat) (zs : List Int) (at2 sc x h n : Int) (V : WtV) (G B : Nat) {W W2 : World} {g : Nat} {cs : Array Value} {fr : Nat × Nat} (hg : W.heap[g]? = some (.cells cs 36 fr)) (ht : Touch (g) (g + 1) W W2) (hge : B ≤ g) (k : Nat) (hk : k < 28) (hne : k ≠ 21) (hkill : 21 ∉ (wa30 wl ws wr hl hs hr ha ag ng cg ss ps py ph ap np cp zs at2 sc x h n V G (B)).kill k) (v : Value) (hfact : (wa30 wl ws wr hl hs hr ha ag ng cg ss ps py ph ap np cp zs at2 sc x h n V G (B)).fact k v W) : (wa30 wl ws wr hl hs hr ha ag ng cg ss ps py ph ap np cp zs at2 sc x h n V G (B)).fact k v W2 := by
  match k, hk, hne, hkill, hfact with
  | 0, _, _, _, hq => exact hq
  | 1, _, _, _, hq => exact hq
  | 2, _, _, _, hq => exact hq
  | 3, _, _, _, ⟨a1, hv, q_0⟩ => exact ⟨a1, hv, ⟨ownsRow_box q_0.row hg (by decide) ht, q_0.byte⟩⟩
  | 4, _, _, _, hq => exact hq
  | 5, _, _, _, ⟨a2, hv, q_0⟩ => exact ⟨a2, hv, ⟨ownsRow_box q_0.row hg (by decide) ht, q_0.rng⟩⟩
  | 6, _, _, _, hq => exact hq
  | 7, _, _, _, hq => exact hq
  | 8, _, _, _, hq => exact hq
  | 9, _, _, _, hq => exact hq
  | 10, _, _, _, hq => exact hq
  | 11, _, _, _, ⟨a3, c3, hv, q_0⟩ => exact ⟨a3, c3, hv, ⟨ownsRow_box q_0.row hg (by decide) ht, q_0.byte⟩⟩
  | 12, _, _, _, ⟨a3, c3, hv, q_0⟩ => exact ⟨a3, c3, hv, ⟨ownsRow_box q_0.row hg (by decide) ht, q_0.byte⟩⟩
  | 13, _, _, _, hq => exact hq
  | 14, _, _, _, ⟨a3, c3, hv, q_0⟩ => exact ⟨a3, c3, hv, ⟨ownsRow_box q_0.row hg (by decide) ht, q_0.byte⟩⟩
  | 15, _, _, _, hq => exact hq
  | 16, _, _, _, hq => exact hq
  | 17, _, _, _, ⟨gb17, hv, q_0, q_1⟩ => exact ⟨gb17, hv, box_box q_0 hg (by decide) ht, q_1⟩
  | 18, _, _, hkill, _ => exact absurd (List.Mem.head _) hkill
  | 19, _, _, _, ⟨gb19, hv, q_0, q_1⟩ => exact ⟨gb19, hv, box_box q_0 hg (by decide) ht, q_1⟩
  | 20, _, _, _, ⟨gs20, hv, q_0, q_1⟩ => exact ⟨gs20, hv, box_box q_0 hg (by decide) ht, q_1⟩
  | 21, _, hne, _, _ => exact absurd rfl hne
  | 22, _, _, _, ⟨gs22, hv, q_0, q_1⟩ => exact ⟨gs22, hv, box_box q_0 hg (by decide) ht, q_1⟩
  | 23, _, _, _, hq => exact hq
  | 24, _, _, _, q_0 => exact box_box q_0 hg (by decide) ht
  | 25, _, _, _, q_0 => exact box_box q_0 hg (by decide) ht
  | 26, _, _, _, q_0 => exact box_box q_0 hg (by decide) ht
  | 27, _, _, _, q_0 => exact box_box q_0 hg (by decide) ht
  | k + 28, hk, _, _, _ => omega
set_option linter.unusedVariables false in
theorem wa30_st22 (wl ws wr hl hs hr ha : Int) (ag : Option Addr) (ng cg : Nat) (ss : List Int) (ps py ph : Int) (ap : Option Addr) (np cp : Nat) (zs : List Int) (at2 sc x h n : Int) (V : WtV) (G B : Nat) {W W2 : World} {g : Nat} {cs : Array Value} {fr : Nat × Nat} (hg : W.heap[g]? = some (.cells cs 37 fr)) (ht : Touch (g) (g + 1) W W2) (hge : B ≤ g) (k : Nat) (hk : k < 28) (hne : k ≠ 22) (hkill : 22 ∉ (wa30 wl ws wr hl hs hr ha ag ng cg ss ps py ph ap np cp zs at2 sc x h n V G (B)).kill k) (v : Value) (hfact : (wa30 wl ws wr hl hs hr ha ag ng cg ss ps py ph ap np cp zs at2 sc x h n V G (B)).fact k v W) : (wa30 wl ws wr hl hs hr ha ag ng cg ss ps py ph ap np cp zs at2 sc x h n V G (B)).fact k v W2 := by
  match k, hk, hne, hkill, hfact with
  | 0, _, _, _, hq => exact hq
  | 1, _, _, _, hq => exact hq
  | 2, _, _, _, hq => exact hq
  | 3, _, _, _, ⟨a1, hv, q_0⟩ => exact ⟨a1, hv, ⟨ownsRow_box q_0.row hg (by decide) ht, q_0.byte⟩⟩
  | 4, _, _, _, hq => exact hq
  | 5, _, _, _, ⟨a2, hv, q_0⟩ => exact ⟨a2, hv, ⟨ownsRow_box q_0.row hg (by decide) ht, q_0.rng⟩⟩
  | 6, _, _, _, hq => exact hq
  | 7, _, _, _, hq => exact hq
  | 8, _, _, _, hq => exact hq
  | 9, _, _, _, hq => exact hq
  | 10, _, _, _, hq => exact hq
  | 11, _, _, _, ⟨a3, c3, hv, q_0⟩ => exact ⟨a3, c3, hv, ⟨ownsRow_box q_0.row hg (by decide) ht, q_0.byte⟩⟩
  | 12, _, _, _, ⟨a3, c3, hv, q_0⟩ => exact ⟨a3, c3, hv, ⟨ownsRow_box q_0.row hg (by decide) ht, q_0.byte⟩⟩
  | 13, _, _, _, hq => exact hq
  | 14, _, _, _, ⟨a3, c3, hv, q_0⟩ => exact ⟨a3, c3, hv, ⟨ownsRow_box q_0.row hg (by decide) ht, q_0.byte⟩⟩
  | 15, _, _, _, hq => exact hq
  | 16, _, _, _, hq => exact hq
  | 17, _, _, _, ⟨gb17, hv, q_0, q_1⟩ => exact ⟨gb17, hv, box_box q_0 hg (by decide) ht, q_1⟩
  | 18, _, _, _, ⟨gb18, hv, q_0, q_1⟩ => exact ⟨gb18, hv, box_box q_0 hg (by decide) ht, q_1⟩
  | 19, _, _, hkill, _ => exact absurd (List.Mem.head _) hkill
  | 20, _, _, _, ⟨gs20, hv, q_0, q_1⟩ => exact ⟨gs20, hv, box_box q_0 hg (by decide) ht, q_1⟩
  | 21, _, _, _, ⟨gs21, a3, c3, hv, q_0, q_1, q_2⟩ => exact ⟨gs21, a3, c3, hv, box_box q_0 hg (by decide) ht, q_1, ⟨ownsRow_box q_2.row hg (by decide) ht, q_2.byte⟩⟩
  | 22, _, hne, _, _ => exact absurd rfl hne
  | 23, _, _, _, hq => exact hq
  | 24, _, _, _, q_0 => exact box_box q_0 hg (by decide) ht
  | 25, _, _, _, q_0 => exact box_box q_0 hg (by decide) ht
  | 26, _, _, _, q_0 => exact box_box q_0 hg (by decide) ht
  | 27, _, _, _, q_0 => exact box_box q_0 hg (by decide) ht
  | k + 28, hk, _, _, _ => omega

set_option maxRecDepth 10000 in
set_option maxHeartbeats 16000000 in
theorem lawWatch_walk (HSPEC : ∀ (seed h next : Int) (am : Option Addr) (n c : Nat) (bs : List Int) (w : World), U64 seed → Row w am n bs → n ≤ 1000000000000 → Calls Tryz.prog 43 #[tkv seed h next, .slice am n c] w fun e w' => ∃ v, e = .returned v ∧ SgR seed h next bs w.heap.size w' v ∧ Below w.heap.size w w')
    (wl ws wr hl hs hr ha : Int) (ag : Option Addr) (ng cg : Nat) (ss : List Int) (ap : Option Addr) (np cp : Nat) (zs : List Int) (ps py ph at2 sc x h n : Int) (w : World)
    (hwr : U64 wr) (hhr : U64 hr) (hpy : U64 py) (hx : U64 x) (hhl : -9223372036854775808 ≤ hl ∧ hl ≤ 9223372036854775807) (hhs : -9223372036854775808 ≤ hs ∧ hs ≤ 9223372036854775807) (hat : -9223372036854775808 ≤ at2 ∧ at2 ≤ 9223372036854775807) (hg : Row w ag ng ss) (hgm : ng ≤ 9223372036854775807) (hp : RowU w ap np zs) (hpm : np ≤ 9223372036854775807) :
    Calls Tryz.prog 3 #[.agg #[.int .i64 wl, .int .i64 ws, .int .u64 wr], .agg #[.int .i64 hl, .int .i64 hs, .int .u64 hr, .int .i64 ha, .slice ag ng cg], .slice ap np cp, .agg #[.int .i64 ps, .int .u64 py, .int .i64 ph], .int .i64 at2, .agg #[.int .i64 sc, .int .u64 x, .int .i64 h, .int .i64 n]] w fun e w' => e = .returned (.bool true) ∧ Below w.heap.size w w' := by
  obtain ⟨w1, hw1⟩ : ∃ w1, w1 = (((w.alloc (.cells #[.int .i64 wl, .int .i64 ws, .int .u64 wr] 24)).alloc (.cells #[.int .i64 hl, .int .i64 hs, .int .u64 hr, .int .i64 ha, .slice ag ng cg] 27)).alloc (.cells #[.int .i64 ps, .int .u64 py, .int .i64 ph] 30)).alloc (.cells #[.int .i64 sc, .int .u64 x, .int .i64 h, .int .i64 n] 32) := ⟨_, rfl⟩
  have hn4 := four_new w (.cells #[.int .i64 wl, .int .i64 ws, .int .u64 wr] 24) (.cells #[.int .i64 hl, .int .i64 hs, .int .u64 hr, .int .i64 ha, .slice ag ng cg] 27) (.cells #[.int .i64 ps, .int .u64 py, .int .i64 ph] 30) (.cells #[.int .i64 sc, .int .u64 x, .int .i64 h, .int .i64 n] 32)
  rw [← hw1] at hn4
  have hb0 : Below w.heap.size w w1 := hn4.2
  have HL1 : Hid (Bxs [(w.heap.size, #[.int .i64 wl, .int .i64 ws, .int .u64 wr], 24), (w.heap.size + 1, #[.int .i64 hl, .int .i64 hs, .int .u64 hr, .int .i64 ha, .slice ag ng cg], 27), (w.heap.size + 1 + 1, #[.int .i64 ps, .int .u64 py, .int .i64 ph], 30), (w.heap.size + 1 + 1 + 1, #[.int .i64 sc, .int .u64 x, .int .i64 h, .int .i64 n], 32)] w1) := by
    refine ⟨fun p hp => ?_⟩
    simp only [List.mem_cons, List.not_mem_nil, or_false] at hp
    rcases hp with rfl | rfl | rfl | rfl
    · exact hn4.1.1
    · exact hn4.1.2.1
    · exact hn4.1.2.2.1
    · exact hn4.1.2.2.2
  have hk3 : w.heap.size + 1 + 1 + 1 < w1.heap.size := (Array.getElem?_eq_some_iff.1 hn4.1.2.2.2).1
  have HRM : Hid (∀ W, Below w1.heap.size w1 W → Row W ag ng ss ∧ RowU W ap np zs) := fun W hW => ⟨hg.kept (keepT hb0 hW), hp.kept (keepT hb0 hW)⟩
  have HW1 : Hid (_ = _) := hw1
  clear hw1 hg hp hn4
  by_cases hbig : 1048576 < np
  · go_enter Tryz.func3, Tryz.ntmps3
    go_upto_region 1 with fail
    rw [← HW1.out]
    clear HW1
    go_wp2
    go_ret
    exact ⟨rfl, hb0⟩
  have hnp : np ≤ 1048576 := by omega
  clear hpm
  obtain ⟨V, hV⟩ : ∃ V, V = wtV wl ws wr hl hs hr ha ss ps py ph zs at2 sc x h n := ⟨_, rfl⟩
  have hL1 : V.sg.length ≤ 1000 := by rw [hV]; exact wtV_len _ _ _ _ _ _ _ _ _ _ _ _ _ _ _ _ _
  go_enter Tryz.func3, Tryz.ntmps3
  go_upto_region 1 with fail
  rw [← HW1.out]
  clear HW1
  obtain ⟨x0, x1, x2, x3, x4⟩ := cells5w (HL1.out.all (w.heap.size + 1, #[.int .i64 hl, .int .i64 hs, .int .u64 hr, .int .i64 ha, .slice ag ng cg], 27) (by simp))
  go_wp2_with fail
  refine (szHead_any hl hs hr ha ag ng cg _ hgm).mono ?_
  rintro e w2 ⟨r, rfl, hr2, hb2⟩
  clear x0 x1 x2 x3 x4
  have hc2 := hb2
  have HL2 : Hid (_) := HL1.out.kept hb2
  clear HL1
  by_cases hng : ng ≤ 1048576
  case neg =>
    rw [if_neg hng] at hr2
    subst hr2
    go_wp2
    go_ret
    exact ⟨rfl, keepT hb0 hc2⟩
  rw [if_pos hng] at hr2
  have hrz : ¬ (r < 0) := by omega
  clear hr2
  have HSP : Hid (∀ (W : World) (a1 a2 : Option Addr), Row W a1 ng ss → RowU W a2 np zs → Calls Tryz.prog 5 #[.agg #[.int .i64 wl, .int .i64 ws, .int .u64 wr], .agg #[.int .i64 hl, .int .i64 hs, .int .u64 hr, .int .i64 ha, .slice a1 ng ng], .slice a2 np np, .agg #[.int .i64 ps, .int .u64 py, .int .i64 ph], .int .i64 at2, .agg #[.int .i64 sc, .int .u64 x, .int .i64 h, .int .i64 n]] W fun e w' => ∃ a3 c3, e = .returned (.tuple #[.agg #[.int .i64 V.wl, .int .i64 V.ws, .int .u64 V.wr], .agg #[.int .u64 V.ck, .int .i64 V.ca, .slice a3 V.sg.length c3], .agg #[.int .i64 V.t.1, .int .u64 V.t.2.1, .int .i64 V.t.2.2.1, .int .i64 V.t.2.2.2], .int .i64 V.cd]) ∧ Own W.heap.size w' a3 V.sg.length c3 V.sg ∧ Below W.heap.size W w') := by
    intro W a1 a2 h1 h2
    have := specWatch_any HSPEC wl ws wr hl hs hr ha a1 ng ng ss ps py ph a2 np np zs at2 sc x h n W hwr hhr hpy hx hhl hhs hat h1 hng (Nat.le_refl _) h2 (Nat.le_refl _) (by omega)
    rw [← hV] at this
    exact this
  have HIM : Hid (∀ (W : World) (a1 a2 : Option Addr), Row W a1 ng ss → RowU W a2 np zs → Calls Tryz.prog 11 #[.agg #[.int .i64 wl, .int .i64 ws, .int .u64 wr], .agg #[.int .i64 hl, .int .i64 hs, .int .u64 hr, .int .i64 ha, .slice a1 ng ng], .slice a2 np np, .agg #[.int .i64 ps, .int .u64 py, .int .i64 ph], .int .i64 at2, .agg #[.int .i64 sc, .int .u64 x, .int .i64 h, .int .i64 n]] W fun e w' => ∃ a3 c3, e = .returned (.tuple #[.agg #[.int .i64 V.wl, .int .i64 V.ws, .int .u64 V.wr], .agg #[.int .u64 V.ck, .int .i64 V.ca, .slice a3 V.sg.length c3], .agg #[.int .i64 V.t.1, .int .u64 V.t.2.1, .int .i64 V.t.2.2.1, .int .i64 V.t.2.2.2], .int .i64 V.cd]) ∧ Own W.heap.size w' a3 V.sg.length c3 V.sg ∧ Below W.heap.size W w') := by
    intro W a1 a2 h1 h2
    have := implWatch_any wl ws wr hl hs hr ha a1 ng ng ss ps py ph a2 np np zs at2 sc x h n W hwr hhr hpy hx hhl hhs hat h1 hng (Nat.le_refl _) h2 (Nat.le_refl _) (by omega)
    rw [← hV] at this
    exact this
  clear hV HSPEC
  have t0 : (V.cd != V.cd) = false := by simp
  have hs2 := hb2.size
  clear hb2
  go_upto_region 7 with fail
  have HBB : w2.heap.size ≤ w2.heap.size := Nat.le_refl _
  have HRR : Hid (∀ W, Below w2.heap.size w2 W → Row W ag ng ss ∧ RowU W ap np zs) := fun W hW => HRM.out W (keepT hc2 hW)
  refine wp_region_ri (wa7 wl ws wr hl hs hr ha ag ng cg ss ps py ph ap np cp zs at2 sc x h n V w.heap.size (w2.heap.size)) [14, 15, 16, 17, 39, 40, 41, 42, 43, 44, 45, 46, 47, 48, 49, 50, 51, 52, 53, 54, 55] (w2.heap.size) (fun a0 => a0.tmps.size = 194 ∧ aT a0 2 = .slice ap np cp ∧ aT a0 4 = .int .i64 at2 ∧ aT a0 6 = .pointer (some ⟨w.heap.size, 0, none⟩) ∧ aT a0 7 = .pointer (some ⟨(w.heap.size + 1), 0, none⟩) ∧ aT a0 9 = .pointer (some ⟨(w.heap.size + 1 + 1), 0, none⟩) ∧ aT a0 11 = .pointer (some ⟨(w.heap.size + 1 + 1 + 1), 0, none⟩)) (by kernel_rfl) rfl (by kernel_rfl) rfl ⟨rfl, rfl, rfl, rfl, rfl, rfl, rfl⟩ (wa7_stb wl ws wr hl hs hr ha ag ng cg ss ps py ph ap np cp zs at2 sc x h n V w.heap.size (w2.heap.size)) ?_ ?_ ?_
  · intro k hk hk2
    match k, hk, hk2 with
    | 24, _, _ => exact (HL2.out.all (w.heap.size, #[.int .i64 wl, .int .i64 ws, .int .u64 wr], 24) (by simp))
    | 25, _, _ => exact (HL2.out.all (w.heap.size + 1, #[.int .i64 hl, .int .i64 hs, .int .u64 hr, .int .i64 ha, .slice ag ng cg], 27) (by simp))
    | 26, _, _ => exact (HL2.out.all (w.heap.size + 1 + 1, #[.int .i64 ps, .int .u64 py, .int .i64 ph], 30) (by simp))
    | 27, _, _ => exact (HL2.out.all (w.heap.size + 1 + 1 + 1, #[.int .i64 sc, .int .u64 x, .int .i64 h, .int .i64 n], 32) (by simp))
    | 0, hk, _ => exact absurd hk (by show ¬ (24 ≤ 0); omega)
    | 1, hk, _ => exact absurd hk (by show ¬ (24 ≤ 1); omega)
    | 2, hk, _ => exact absurd hk (by show ¬ (24 ≤ 2); omega)
    | 3, hk, _ => exact absurd hk (by show ¬ (24 ≤ 3); omega)
    | 4, hk, _ => exact absurd hk (by show ¬ (24 ≤ 4); omega)
    | 5, hk, _ => exact absurd hk (by show ¬ (24 ≤ 5); omega)
    | 6, hk, _ => exact absurd hk (by show ¬ (24 ≤ 6); omega)
    | 7, hk, _ => exact absurd hk (by show ¬ (24 ≤ 7); omega)
    | 8, hk, _ => exact absurd hk (by show ¬ (24 ≤ 8); omega)
    | 9, hk, _ => exact absurd hk (by show ¬ (24 ≤ 9); omega)
    | 10, hk, _ => exact absurd hk (by show ¬ (24 ≤ 10); omega)
    | 11, hk, _ => exact absurd hk (by show ¬ (24 ≤ 11); omega)
    | 12, hk, _ => exact absurd hk (by show ¬ (24 ≤ 12); omega)
    | 13, hk, _ => exact absurd hk (by show ¬ (24 ≤ 13); omega)
    | 14, hk, _ => exact absurd hk (by show ¬ (24 ≤ 14); omega)
    | 15, hk, _ => exact absurd hk (by show ¬ (24 ≤ 15); omega)
    | 16, hk, _ => exact absurd hk (by show ¬ (24 ≤ 16); omega)
    | 17, hk, _ => exact absurd hk (by show ¬ (24 ≤ 17); omega)
    | 18, hk, _ => exact absurd hk (by show ¬ (24 ≤ 18); omega)
    | 19, hk, _ => exact absurd hk (by show ¬ (24 ≤ 19); omega)
    | 20, hk, _ => exact absurd hk (by show ¬ (24 ≤ 20); omega)
    | 21, hk, _ => exact absurd hk (by show ¬ (24 ≤ 21); omega)
    | 22, hk, _ => exact absurd hk (by show ¬ (24 ≤ 22); omega)
    | 23, hk, _ => exact absurd hk (by show ¬ (24 ≤ 23); omega)
    | k + 28, _, hk2 => exact absurd hk2 (by show ¬ (k + 28 < 28); omega)
  · rintro a0 ⟨hz, g2, g4, g6, g7, g9, g11⟩
    refine StepsRI.cons ?_ (StepsRI.cons ?_ (StepsRI.cons ?_ (StepsRI.cons ?_ (StepsRI.cons ?_ (StepsRI.cons ?_ (StepsRI.cons ?_ (StepsRI.cons ?_ (StepsRI.cons ?_ (StepsRI.cons ?_ (StepsRI.cons ?_ (StepsRI.cons ?_ (StepsRI.cons ?_ (StepsRI.cons ?_ (StepsRI.cons ?_ (StepsRI.cons ?_ (StepsRI.cons ?_ (StepsRI.cons ?_ (StepsRI.cons ?_ (StepsRI.cons ?_ (StepsRI.cons ?_ (StepsRI.cons ?_ (StepsRI.cons ?_ (StepsRI.cons ?_ (StepsRI.nil))))))))))))))))))))))))
    · intro lQ b W hI hUN hED KQ hKQ
      have hg := (hI.vot 24 (of_decide_eq_true rfl) (of_decide_eq_true rfl) rfl)
      refine wp_load_row 24 _ rfl (w.heap.size) ((hI.fr.same 6 (by decide)).trans g6) 24 #[.int .i64 wl, .int .i64 ws, .int .u64 wr] (0, 0) _ hg Tryz.underlying24 rfl (by kernel_rfl) ?_
      exact hKQ.out _ _ (hI.put 0 40 rfl rfl (by rw [hz]; decide) rfl hUN rfl HBB (wa7_stb wl ws wr hl hs hr ha ag ng cg ss ps py ph ap np cp zs at2 sc x h n V w.heap.size (w2.heap.size)) (Below.refl _ _) rfl)
    · intro lQ b W hI hUN hED KQ hKQ
      have f0 := hI.got 0 (of_decide_eq_true rfl) (edge hED 0 (by kernel_rfl)) rfl
      replace f0 : aT b 40 = .agg #[.int .i64 wl, .int .i64 ws, .int .u64 wr] := f0
      refine opw_call 6 #[.tmp 40] _ _ _ rfl Tryz.func6 (by kernel_rfl) rfl #[.agg #[.int .i64 wl, .int .i64 ws, .int .u64 wr]] (by simp [ev, f0]) ?_
      refine (toWatcher_any wl ws wr W).mono ?_
      rintro e W2 ⟨rfl, hb⟩
      exact ⟨_, rfl, hKQ.out _ _ (hI.put 1 41 rfl rfl (by rw [hz]; decide) rfl hUN rfl HBB (wa7_stb wl ws wr hl hs hr ha ag ng cg ss ps py ph ap np cp zs at2 sc x h n V w.heap.size (w2.heap.size)) hb rfl)⟩
    · intro lQ b W hI hUN hED KQ hKQ
      have hg := (hI.vot 25 (of_decide_eq_true rfl) (of_decide_eq_true rfl) rfl)
      refine wp_load_row 27 _ rfl ((w.heap.size + 1)) ((hI.fr.same 7 (by decide)).trans g7) 27 #[.int .i64 hl, .int .i64 hs, .int .u64 hr, .int .i64 ha, .slice ag ng cg] (0, 0) _ hg Tryz.underlying27 rfl (by kernel_rfl) ?_
      exact hKQ.out _ _ (hI.put 2 42 rfl rfl (by rw [hz]; decide) rfl hUN rfl HBB (wa7_stb wl ws wr hl hs hr ha ag ng cg ss ps py ph ap np cp zs at2 sc x h n V w.heap.size (w2.heap.size)) (Below.refl _ _) rfl)
    · intro lQ b W hI hUN hED KQ hKQ
      have f0 := hI.got 2 (of_decide_eq_true rfl) (edge hED 2 (by kernel_rfl)) rfl
      replace f0 : aT b 42 = .agg #[.int .i64 hl, .int .i64 hs, .int .u64 hr, .int .i64 ha, .slice ag ng cg] := f0
      refine opw_call 7 #[.tmp 42] _ _ _ rfl Tryz.func7 (by kernel_rfl) rfl #[.agg #[.int .i64 hl, .int .i64 hs, .int .u64 hr, .int .i64 ha, .slice ag ng cg]] (by simp [ev, f0]) ?_
      refine (toHead_any hl hs hr ha ag ng cg ss W (HRR.out W hI.bel).1 hng).mono ?_
      rintro e W2 ⟨a1, rfl, ho, hb⟩
      exact ⟨_, rfl, hKQ.out _ _ (hI.put 3 43 rfl rfl (by rw [hz]; decide) rfl hUN rfl HBB (wa7_stb wl ws wr hl hs hr ha ag ng cg ss ps py ph ap np cp zs at2 sc x h n V w.heap.size (w2.heap.size)) hb ⟨a1, rfl, ho.mono (Nat.le_trans HBB hI.bel.size)⟩)⟩
    · intro lQ b W hI hUN hED KQ hKQ
      exact opw_move 2 rfl (hKQ.out _ _ (hI.put 4 44 rfl rfl (by rw [hz]; decide) rfl hUN rfl HBB (wa7_stb wl ws wr hl hs hr ha ag ng cg ss ps py ph ap np cp zs at2 sc x h n V w.heap.size (w2.heap.size)) (Below.refl _ _) ((hI.fr.same 2 (by decide)).trans g2)))
    · intro lQ b W hI hUN hED KQ hKQ
      have f0 := hI.got 4 (of_decide_eq_true rfl) (edge hED 4 (by kernel_rfl)) rfl
      replace f0 : aT b 44 = .slice ap np cp := f0
      refine opw_call 8 #[.tmp 44] _ _ _ rfl Tryz.func8 (by kernel_rfl) rfl #[.slice ap np cp] (by simp [ev, f0]) ?_
      refine (toUint64S_any ap np cp zs W (HRR.out W hI.bel).2 hnp).mono ?_
      rintro e W2 ⟨a2, rfl, ho, hb⟩
      exact ⟨_, rfl, hKQ.out _ _ (hI.put 5 45 rfl rfl (by rw [hz]; decide) rfl hUN rfl HBB (wa7_stb wl ws wr hl hs hr ha ag ng cg ss ps py ph ap np cp zs at2 sc x h n V w.heap.size (w2.heap.size)) hb ⟨a2, rfl, ho.mono (Nat.le_trans HBB hI.bel.size)⟩)⟩
    · intro lQ b W hI hUN hED KQ hKQ
      have hg := (hI.vot 26 (of_decide_eq_true rfl) (of_decide_eq_true rfl) rfl)
      refine wp_load_row 30 _ rfl ((w.heap.size + 1 + 1)) ((hI.fr.same 9 (by decide)).trans g9) 30 #[.int .i64 ps, .int .u64 py, .int .i64 ph] (0, 0) _ hg Tryz.underlying30 rfl (by kernel_rfl) ?_
      exact hKQ.out _ _ (hI.put 6 46 rfl rfl (by rw [hz]; decide) rfl hUN rfl HBB (wa7_stb wl ws wr hl hs hr ha ag ng cg ss ps py ph ap np cp zs at2 sc x h n V w.heap.size (w2.heap.size)) (Below.refl _ _) rfl)
    · intro lQ b W hI hUN hED KQ hKQ
      have f0 := hI.got 6 (of_decide_eq_true rfl) (edge hED 6 (by kernel_rfl)) rfl
      replace f0 : aT b 46 = .agg #[.int .i64 ps, .int .u64 py, .int .i64 ph] := f0
      refine opw_call 9 #[.tmp 46] _ _ _ rfl Tryz.func9 (by kernel_rfl) rfl #[.agg #[.int .i64 ps, .int .u64 py, .int .i64 ph]] (by simp [ev, f0]) ?_
      refine (toPub_agg ps py ph W).mono ?_
      rintro e W2 ⟨rfl, hb⟩
      exact ⟨_, rfl, hKQ.out _ _ (hI.put 7 47 rfl rfl (by rw [hz]; decide) rfl hUN rfl HBB (wa7_stb wl ws wr hl hs hr ha ag ng cg ss ps py ph ap np cp zs at2 sc x h n V w.heap.size (w2.heap.size)) hb rfl)⟩
    · intro lQ b W hI hUN hED KQ hKQ
      exact opw_move 4 rfl (hKQ.out _ _ (hI.put 8 48 rfl rfl (by rw [hz]; decide) rfl hUN rfl HBB (wa7_stb wl ws wr hl hs hr ha ag ng cg ss ps py ph ap np cp zs at2 sc x h n V w.heap.size (w2.heap.size)) (Below.refl _ _) ((hI.fr.same 4 (by decide)).trans g4)))
    · intro lQ b W hI hUN hED KQ hKQ
      have hg := (hI.vot 27 (of_decide_eq_true rfl) (of_decide_eq_true rfl) rfl)
      refine wp_load_row 32 _ rfl ((w.heap.size + 1 + 1 + 1)) ((hI.fr.same 11 (by decide)).trans g11) 32 #[.int .i64 sc, .int .u64 x, .int .i64 h, .int .i64 n] (0, 0) _ hg Tryz.underlying32 rfl (by kernel_rfl) ?_
      exact hKQ.out _ _ (hI.put 9 49 rfl rfl (by rw [hz]; decide) rfl hUN rfl HBB (wa7_stb wl ws wr hl hs hr ha ag ng cg ss ps py ph ap np cp zs at2 sc x h n V w.heap.size (w2.heap.size)) (Below.refl _ _) rfl)
    · intro lQ b W hI hUN hED KQ hKQ
      have f0 := hI.got 9 (of_decide_eq_true rfl) (edge hED 9 (by kernel_rfl)) rfl
      replace f0 : aT b 49 = .agg #[.int .i64 sc, .int .u64 x, .int .i64 h, .int .i64 n] := f0
      refine opw_call 10 #[.tmp 49] _ _ _ rfl Tryz.func10 (by kernel_rfl) rfl #[.agg #[.int .i64 sc, .int .u64 x, .int .i64 h, .int .i64 n]] (by simp [ev, f0]) ?_
      refine (toSecret_agg sc x h n W).mono ?_
      rintro e W2 ⟨rfl, hb⟩
      exact ⟨_, rfl, hKQ.out _ _ (hI.put 10 50 rfl rfl (by rw [hz]; decide) rfl hUN rfl HBB (wa7_stb wl ws wr hl hs hr ha ag ng cg ss ps py ph ap np cp zs at2 sc x h n V w.heap.size (w2.heap.size)) hb rfl)⟩
    · intro lQ b W hI hUN hED KQ hKQ
      have f0 := hI.got 1 (of_decide_eq_true rfl) (edge hED 1 (by kernel_rfl)) rfl
      replace f0 : aT b 41 = .agg #[.int .i64 wl, .int .i64 ws, .int .u64 wr] := f0
      have f1 := hI.got 3 (of_decide_eq_true rfl) (edge hED 3 (by kernel_rfl)) rfl
      obtain ⟨a1, f1, o1_0⟩ := f1
      replace f1 : aT b 43 = .agg #[.int .i64 hl, .int .i64 hs, .int .u64 hr, .int .i64 ha, .slice a1 ng ng] := f1
      have f2 := hI.got 5 (of_decide_eq_true rfl) (edge hED 5 (by kernel_rfl)) rfl
      obtain ⟨a2, f2, o2_0⟩ := f2
      replace f2 : aT b 45 = .slice a2 np np := f2
      have f3 := hI.got 7 (of_decide_eq_true rfl) (edge hED 7 (by kernel_rfl)) rfl
      replace f3 : aT b 47 = .agg #[.int .i64 ps, .int .u64 py, .int .i64 ph] := f3
      have f4 := hI.got 8 (of_decide_eq_true rfl) (edge hED 8 (by kernel_rfl)) rfl
      replace f4 : aT b 48 = .int .i64 at2 := f4
      have f5 := hI.got 10 (of_decide_eq_true rfl) (edge hED 10 (by kernel_rfl)) rfl
      replace f5 : aT b 50 = .agg #[.int .i64 sc, .int .u64 x, .int .i64 h, .int .i64 n] := f5
      refine opw_call 5 #[.tmp 41, .tmp 43, .tmp 45, .tmp 47, .tmp 48, .tmp 50] _ _ _ rfl Tryz.func5 (by kernel_rfl) rfl #[.agg #[.int .i64 wl, .int .i64 ws, .int .u64 wr], .agg #[.int .i64 hl, .int .i64 hs, .int .u64 hr, .int .i64 ha, .slice a1 ng ng], .slice a2 np np, .agg #[.int .i64 ps, .int .u64 py, .int .i64 ph], .int .i64 at2, .agg #[.int .i64 sc, .int .u64 x, .int .i64 h, .int .i64 n]] (by simp [ev, f0, f1, f2, f3, f4, f5]) ?_
      refine (HSP.out W a1 a2 o1_0.toRow o2_0.toRow).mono ?_
      rintro e W2 ⟨a3, c3, rfl, ho, hb⟩
      exact ⟨_, rfl, hKQ.out _ _ (hI.put 11 51 rfl rfl (by rw [hz]; decide) rfl hUN rfl HBB (wa7_stb wl ws wr hl hs hr ha ag ng cg ss ps py ph ap np cp zs at2 sc x h n V w.heap.size (w2.heap.size)) hb ⟨a3, c3, rfl, ho.mono (Nat.le_trans HBB hI.bel.size)⟩)⟩
    · intro lQ b W hI hUN hED KQ hKQ
      have f := hI.got 11 (of_decide_eq_true rfl) (edge hED 11 (by kernel_rfl)) rfl
      exact opw_move 51 rfl (hKQ.out _ _ (hI.put 12 39 rfl rfl (by rw [hz]; decide) rfl hUN rfl HBB (wa7_stb wl ws wr hl hs hr ha ag ng cg ss ps py ph ap np cp zs at2 sc x h n V w.heap.size (w2.heap.size)) (Below.refl _ _) f))
    · intro lQ b W hI hUN hED KQ hKQ
      have f := hI.got 12 (of_decide_eq_true rfl) (edge hED 12 (by kernel_rfl)) rfl
      obtain ⟨a3, c3, f, o_0⟩ := f
      exact opw_extract 39 0 rfl _ _ f rfl (hKQ.out _ _ (hI.put 13 52 rfl rfl (by rw [hz]; decide) rfl hUN rfl HBB (wa7_stb wl ws wr hl hs hr ha ag ng cg ss ps py ph ap np cp zs at2 sc x h n V w.heap.size (w2.heap.size)) (Below.refl _ _) rfl))
    · intro lQ b W hI hUN hED KQ hKQ
      have f := hI.got 12 (of_decide_eq_true rfl) (edge hED 12 (by kernel_rfl)) rfl
      obtain ⟨a3, c3, f, o_0⟩ := f
      exact opw_extract 39 1 rfl _ _ f rfl (hKQ.out _ _ (hI.put 14 53 rfl rfl (by rw [hz]; decide) rfl hUN rfl HBB (wa7_stb wl ws wr hl hs hr ha ag ng cg ss ps py ph ap np cp zs at2 sc x h n V w.heap.size (w2.heap.size)) (Below.refl _ _) ⟨a3, c3, rfl, o_0⟩))
    · intro lQ b W hI hUN hED KQ hKQ
      have f := hI.got 12 (of_decide_eq_true rfl) (edge hED 12 (by kernel_rfl)) rfl
      obtain ⟨a3, c3, f, o_0⟩ := f
      exact opw_extract 39 2 rfl _ _ f rfl (hKQ.out _ _ (hI.put 15 54 rfl rfl (by rw [hz]; decide) rfl hUN rfl HBB (wa7_stb wl ws wr hl hs hr ha ag ng cg ss ps py ph ap np cp zs at2 sc x h n V w.heap.size (w2.heap.size)) (Below.refl _ _) rfl))
    · intro lQ b W hI hUN hED KQ hKQ
      have f := hI.got 12 (of_decide_eq_true rfl) (edge hED 12 (by kernel_rfl)) rfl
      obtain ⟨a3, c3, f, o_0⟩ := f
      exact opw_extract 39 3 rfl _ _ f rfl (hKQ.out _ _ (hI.put 16 55 rfl rfl (by rw [hz]; decide) rfl hUN rfl HBB (wa7_stb wl ws wr hl hs hr ha ag ng cg ss ps py ph ap np cp zs at2 sc x h n V w.heap.size (w2.heap.size)) (Below.refl _ _) rfl))
    · intro lQ b W hI hUN hED KQ hKQ
      refine opw_value (w' := W.alloc (.cells #[.int .i64 0, .int .i64 0, .int .u64 0] 34)) (.pointer (some ⟨W.heap.size, 0, none⟩)) (by kernel_rfl) ?_
      exact hKQ.out _ _ (hI.put 17 14 rfl rfl (by rw [hz]; decide) rfl hUN rfl HBB (wa7_stb wl ws wr hl hs hr ha ag ng cg ss ps py ph ap np cp zs at2 sc x h n V w.heap.size (w2.heap.size)) ((Below.refl _ _).alloc (Nat.le_refl _) _) ⟨W.heap.size, rfl, heap_alloc_new W _, Nat.le_trans HBB hI.bel.size⟩)
    · intro lQ b W hI hUN hED KQ hKQ
      refine opw_value (w' := W.alloc (.cells #[.int .u64 0, .int .i64 0, .slice none 0 0] 36)) (.pointer (some ⟨W.heap.size, 0, none⟩)) (by kernel_rfl) ?_
      exact hKQ.out _ _ (hI.put 18 15 rfl rfl (by rw [hz]; decide) rfl hUN rfl HBB (wa7_stb wl ws wr hl hs hr ha ag ng cg ss ps py ph ap np cp zs at2 sc x h n V w.heap.size (w2.heap.size)) ((Below.refl _ _).alloc (Nat.le_refl _) _) ⟨W.heap.size, rfl, heap_alloc_new W _, Nat.le_trans HBB hI.bel.size⟩)
    · intro lQ b W hI hUN hED KQ hKQ
      refine opw_value (w' := W.alloc (.cells #[.int .i64 0, .int .u64 0, .int .i64 0, .int .i64 0] 37)) (.pointer (some ⟨W.heap.size, 0, none⟩)) (by kernel_rfl) ?_
      exact hKQ.out _ _ (hI.put 19 16 rfl rfl (by rw [hz]; decide) rfl hUN rfl HBB (wa7_stb wl ws wr hl hs hr ha ag ng cg ss ps py ph ap np cp zs at2 sc x h n V w.heap.size (w2.heap.size)) ((Below.refl _ _).alloc (Nat.le_refl _) _) ⟨W.heap.size, rfl, heap_alloc_new W _, Nat.le_trans HBB hI.bel.size⟩)
    · intro lQ b W hI hUN hED KQ hKQ
      obtain ⟨g, fb, hgb, hge⟩ := hI.got1 17 20 (of_decide_eq_true rfl) (edge hED 17 (by kernel_rfl)) hUN rfl
      have f := hI.got 13 (of_decide_eq_true rfl) (edge hED 13 (by kernel_rfl)) rfl
      refine wp_store_row 34 _ _ rfl g #[.int .i64 V.wl, .int .i64 V.ws, .int .u64 V.wr] fb f 34 _ hgb (by kernel_rfl) rfl (by simp [Value.oneCell']) ?_
      have ht := setRow_touch W g #[.int .i64 V.wl, .int .i64 V.ws, .int .u64 V.wr]
      exact hKQ.out _ _ (hI.store 20 (fun j hj => by
          rcases List.mem_singleton.1 hj with rfl
          exact edge hED 17 (by kernel_rfl)) (hI.bel.trans (ht.below hge (Nat.le_trans HBB hI.bel.size))) (wa7_st20 wl ws wr hl hs hr ha ag ng cg ss ps py ph ap np cp zs at2 sc x h n V w.heap.size (w2.heap.size) hgb ht hge) ⟨g, fb, (setRow_heap W g _ _ _ _ hgb), hge⟩)
    · intro lQ b W hI hUN hED KQ hKQ
      obtain ⟨g, fb, hgb, hge⟩ := hI.got1 18 21 (of_decide_eq_true rfl) (edge hED 18 (by kernel_rfl)) hUN rfl
      have f := hI.got 14 (of_decide_eq_true rfl) (edge hED 14 (by kernel_rfl)) rfl
      obtain ⟨a3, c3, f, o_0⟩ := f
      refine wp_store_row 36 _ _ rfl g #[.int .u64 V.ck, .int .i64 V.ca, .slice a3 V.sg.length c3] fb f 36 _ hgb (by kernel_rfl) rfl (by simp [Value.oneCell']) ?_
      have ht := setRow_touch W g #[.int .u64 V.ck, .int .i64 V.ca, .slice a3 V.sg.length c3]
      exact hKQ.out _ _ (hI.store 21 (fun j hj => by
          rcases List.mem_singleton.1 hj with rfl
          exact edge hED 18 (by kernel_rfl)) (hI.bel.trans (ht.below hge (Nat.le_trans HBB hI.bel.size))) (wa7_st21 wl ws wr hl hs hr ha ag ng cg ss ps py ph ap np cp zs at2 sc x h n V w.heap.size (w2.heap.size) hgb ht hge) ⟨g, a3, c3, fb, (setRow_heap W g _ _ _ _ hgb), hge, ⟨ownsRow_box o_0.row hgb (by decide) ht, o_0.byte⟩⟩)
    · intro lQ b W hI hUN hED KQ hKQ
      obtain ⟨g, fb, hgb, hge⟩ := hI.got1 19 22 (of_decide_eq_true rfl) (edge hED 19 (by kernel_rfl)) hUN rfl
      have f := hI.got 15 (of_decide_eq_true rfl) (edge hED 15 (by kernel_rfl)) rfl
      refine wp_store_row 37 _ _ rfl g #[.int .i64 V.t.1, .int .u64 V.t.2.1, .int .i64 V.t.2.2.1, .int .i64 V.t.2.2.2] fb f 37 _ hgb (by kernel_rfl) rfl (by simp [Value.oneCell']) ?_
      have ht := setRow_touch W g #[.int .i64 V.t.1, .int .u64 V.t.2.1, .int .i64 V.t.2.2.1, .int .i64 V.t.2.2.2]
      exact hKQ.out _ _ (hI.store 22 (fun j hj => by
          rcases List.mem_singleton.1 hj with rfl
          exact edge hED 19 (by kernel_rfl)) (hI.bel.trans (ht.below hge (Nat.le_trans HBB hI.bel.size))) (wa7_st22 wl ws wr hl hs hr ha ag ng cg ss ps py ph ap np cp zs at2 sc x h n V w.heap.size (w2.heap.size) hgb ht hge) ⟨g, fb, (setRow_heap W g _ _ _ _ hgb), hge⟩)
    · intro lQ b W hI hUN hED KQ hKQ
      have f := hI.got 16 (of_decide_eq_true rfl) (edge hED 16 (by kernel_rfl)) rfl
      exact opw_assign 55 rfl (hKQ.out _ _ (hI.put 23 17 rfl rfl (by rw [hz]; decide) rfl hUN rfl HBB (wa7_stb wl ws wr hl hs hr ha ag ng cg ss ps py ph ap np cp zs at2 sc x h n V w.heap.size (w2.heap.size)) (Below.refl _ _) f))
  · intro b W hf hb F
    obtain ⟨gw, eW, hW0, hWge⟩ := F 20 (of_decide_eq_true rfl) rfl
    obtain ⟨gc, aw, cw, eC, hC0, hCge, hO⟩ := F 21 (of_decide_eq_true rfl) rfl
    obtain ⟨gs, eS, hS0, hSge⟩ := F 22 (of_decide_eq_true rfl) rfl
    have eK := F 23 (of_decide_eq_true rfl) rfl
    replace eW : aT b 14 = _ := eW
    replace eC : aT b 15 = _ := eC
    replace eS : aT b 16 = _ := eS
    replace eK : aT b 17 = _ := eK
    rw [hf.eq]
    simp only [puts, Act.put, List.setIfInBounds_toArray, List.set_cons_zero, List.set_cons_succ, eW, eC, eS, eK]
    clear hf F
    clear eW eC eS eK
    generalize aT b = AT
    clear b
    obtain ⟨wA, hWn⟩ : ∃ wA, wA = W := ⟨_, rfl⟩
    subst hWn
    have HLA : Hid (Bxs [(w.heap.size, #[.int .i64 wl, .int .i64 ws, .int .u64 wr], 24), (w.heap.size + 1, #[.int .i64 hl, .int .i64 hs, .int .u64 hr, .int .i64 ha, .slice ag ng cg], 27), (w.heap.size + 1 + 1, #[.int .i64 ps, .int .u64 py, .int .i64 ph], 30), (w.heap.size + 1 + 1 + 1, #[.int .i64 sc, .int .u64 x, .int .i64 h, .int .i64 n], 32), (gw, #[.int .i64 V.wl, .int .i64 V.ws, .int .u64 V.wr], 34), (gc, #[.int .u64 V.ck, .int .i64 V.ca, .slice aw V.sg.length cw], 36), (gs, #[.int .i64 V.t.1, .int .u64 V.t.2.1, .int .i64 V.t.2.2.1, .int .i64 V.t.2.2.2], 37)] wA) := by
      refine ⟨fun p hp => ?_⟩
      have h1 := HL2.out.kept hb
      simp only [List.mem_cons, List.not_mem_nil, or_false] at hp
      rcases hp with rfl | rfl | rfl | rfl | rfl | rfl | rfl
      all_goals first | exact hW0 | exact hC0 | exact hS0 | exact h1.all _ (by simp)
    have hcA := keepT hc2 hb
    have lW := (Array.getElem?_eq_some_iff.1 hW0).1
    have lC := (Array.getElem?_eq_some_iff.1 hC0).1
    have lS := (Array.getElem?_eq_some_iff.1 hS0).1
    have HIN : Hid (In aw V.sg.length w2.heap.size wA.heap.size) := hO.in_
    have HRSA : Hid (Row wA aw V.sg.length V.sg) := hO.toRow
    have hsA := hb.size
    clear hW0 hC0 hS0 hO HL2 hb
    obtain ⟨x0, x1, x2, x3, x4⟩ := cells5w (HLA.out.all (w.heap.size + 1, #[.int .i64 hl, .int .i64 hs, .int .u64 hr, .int .i64 ha, .slice ag ng cg], 27) (by simp))
    go_wp2_with fail
    refine (toHead_any hl hs hr ha ag ng cg ss _ (HRM.out _ hcA).1 hng).mono ?_
    rintro e w4 ⟨ax, rfl, hox, hb4⟩
    clear x0 x1 x2 x3 x4
    obtain ⟨w5, hw5⟩ : ∃ w5, w5 = w4.alloc (.cells #[.int .i64 hl, .int .i64 hs, .int .u64 hr, .int .i64 ha, .slice ax ng ng] 41) := ⟨_, rfl⟩
    have hb5 : Below w4.heap.size w4 w5 := by rw [hw5]; exact (Below.refl _ _).alloc (Nat.le_refl _) _
    have hb45 := keepT hb4 hb5
    have HXN : Hid (w5.heap[w4.heap.size]? = some (.cells #[.int .i64 hl, .int .i64 hs, .int .u64 hr, .int .i64 ha, .slice ax ng ng] 41 (0, 0))) := by show _ = _; rw [hw5]; exact heap_alloc_new w4 _
    have HL5 : Hid (Bxs [(w.heap.size, #[.int .i64 wl, .int .i64 ws, .int .u64 wr], 24), (w.heap.size + 1, #[.int .i64 hl, .int .i64 hs, .int .u64 hr, .int .i64 ha, .slice ag ng cg], 27), (w.heap.size + 1 + 1, #[.int .i64 ps, .int .u64 py, .int .i64 ph], 30), (w.heap.size + 1 + 1 + 1, #[.int .i64 sc, .int .u64 x, .int .i64 h, .int .i64 n], 32), (gw, #[.int .i64 V.wl, .int .i64 V.ws, .int .u64 V.wr], 34), (gc, #[.int .u64 V.ck, .int .i64 V.ca, .slice aw V.sg.length cw], 36), (gs, #[.int .i64 V.t.1, .int .u64 V.t.2.1, .int .i64 V.t.2.2.1, .int .i64 V.t.2.2.2], 37), (w4.heap.size, #[.int .i64 hl, .int .i64 hs, .int .u64 hr, .int .i64 ha, .slice ax ng ng], 41)] w5) := by
      refine ⟨fun p hp => ?_⟩
      have h1 := HLA.out.kept hb45
      simp only [List.mem_cons, List.not_mem_nil, or_false] at hp
      rcases hp with rfl | rfl | rfl | rfl | rfl | rfl | rfl | rfl
      all_goals first | exact HXN.out | exact h1.all _ (by simp)
    have hc5 := keepT hcA hb45
    have HX5 : Hid (Own wA.heap.size w5 ax ng ng ss) := hox.kept hb5
    have HXL : Hid (∀ k, (Value.slice ax ng ng).ownBlock = some k → wA.heap.size ≤ k ∧ k < w4.heap.size) := fun k hk => ⟨(hox.row.lt k hk).1, (hox.row.lt k hk).2⟩
    have HRS5 : Hid (_) := HRSA.out.kept hb45
    have hs4 := hb4.size
    have hl5 : w4.heap.size < w5.heap.size := (Array.getElem?_eq_some_iff.1 HXN.out).1
    have HW : Hid (_ = _) := hw5
    clear hw5 hox HLA HRSA HXN hb4 hb5 hb45
    go_upto_region 9 with fail
    rw [← HW.out]
    clear HW
    go_wp2_with fail
    refine (toUint64S_any ap np cp zs _ (HRM.out _ hc5).2 hnp).mono ?_
    rintro e w6 ⟨ay, rfl, hoy, hb6⟩
    have hc6 := keepT hc5 hb6
    have HL6 : Hid (_) := HL5.out.kept hb6
    have HX6 : Hid (_) := HX5.out.kept hb6
    have HY6 : Hid (OwnU w5.heap.size w6 ay np np zs) := hoy
    have HYL : Hid (∀ k, (Value.slice ay np np).ownBlock = some k → w5.heap.size ≤ k ∧ k < w6.heap.size) := fun k hk => ⟨(hoy.row.lt k hk).1, (hoy.row.lt k hk).2⟩
    have HRS6 : Hid (_) := HRS5.out.kept hb6
    have hs6 := hb6.size
    clear hoy HL5 HX5 HRS5 hb6
    go_upto_region 10 with fail
    have HBB : w6.heap.size ≤ w6.heap.size := Nat.le_refl _
    have HXX : Hid (∀ W, Below w6.heap.size w6 W → Row W ax ng ss ∧ RowU W ay np zs) := fun W hW => ⟨(HX6.out.kept hW).toRow, (HY6.out.kept hW).toRow⟩
    refine wp_region_ri (wa10 wl ws wr hl hs hr ha ng ps py ph np at2 sc x h n V ax ay w4.heap.size w.heap.size (w6.heap.size)) [20, 21, 22, 23, 60, 61, 62, 63, 64, 65, 66, 67, 68, 69, 70, 71, 72, 73, 74] (w6.heap.size) (fun a0 => a0.tmps.size = 194 ∧ aT a0 4 = .int .i64 at2 ∧ aT a0 6 = .pointer (some ⟨w.heap.size, 0, none⟩) ∧ aT a0 9 = .pointer (some ⟨(w.heap.size + 1 + 1), 0, none⟩) ∧ aT a0 11 = .pointer (some ⟨(w.heap.size + 1 + 1 + 1), 0, none⟩) ∧ aT a0 18 = .pointer (some ⟨w4.heap.size, 0, none⟩) ∧ aT a0 19 = .slice ay np np) (by kernel_rfl) rfl (by kernel_rfl) rfl ⟨rfl, rfl, rfl, rfl, rfl, rfl, rfl⟩ (wa10_stb wl ws wr hl hs hr ha ng ps py ph np at2 sc x h n V ax ay w4.heap.size w.heap.size (w6.heap.size)) ?_ ?_ ?_
    · intro k hk hk2
      match k, hk, hk2 with
      | 22, _, _ => exact (HL6.out.all (w.heap.size, #[.int .i64 wl, .int .i64 ws, .int .u64 wr], 24) (by simp))
      | 23, _, _ => exact (HL6.out.all (w.heap.size + 1 + 1, #[.int .i64 ps, .int .u64 py, .int .i64 ph], 30) (by simp))
      | 24, _, _ => exact (HL6.out.all (w.heap.size + 1 + 1 + 1, #[.int .i64 sc, .int .u64 x, .int .i64 h, .int .i64 n], 32) (by simp))
      | 25, _, _ => exact (HL6.out.all (w4.heap.size, #[.int .i64 hl, .int .i64 hs, .int .u64 hr, .int .i64 ha, .slice ax ng ng], 41) (by simp))
      | 0, hk, _ => exact absurd hk (by show ¬ (22 ≤ 0); omega)
      | 1, hk, _ => exact absurd hk (by show ¬ (22 ≤ 1); omega)
      | 2, hk, _ => exact absurd hk (by show ¬ (22 ≤ 2); omega)
      | 3, hk, _ => exact absurd hk (by show ¬ (22 ≤ 3); omega)
      | 4, hk, _ => exact absurd hk (by show ¬ (22 ≤ 4); omega)
      | 5, hk, _ => exact absurd hk (by show ¬ (22 ≤ 5); omega)
      | 6, hk, _ => exact absurd hk (by show ¬ (22 ≤ 6); omega)
      | 7, hk, _ => exact absurd hk (by show ¬ (22 ≤ 7); omega)
      | 8, hk, _ => exact absurd hk (by show ¬ (22 ≤ 8); omega)
      | 9, hk, _ => exact absurd hk (by show ¬ (22 ≤ 9); omega)
      | 10, hk, _ => exact absurd hk (by show ¬ (22 ≤ 10); omega)
      | 11, hk, _ => exact absurd hk (by show ¬ (22 ≤ 11); omega)
      | 12, hk, _ => exact absurd hk (by show ¬ (22 ≤ 12); omega)
      | 13, hk, _ => exact absurd hk (by show ¬ (22 ≤ 13); omega)
      | 14, hk, _ => exact absurd hk (by show ¬ (22 ≤ 14); omega)
      | 15, hk, _ => exact absurd hk (by show ¬ (22 ≤ 15); omega)
      | 16, hk, _ => exact absurd hk (by show ¬ (22 ≤ 16); omega)
      | 17, hk, _ => exact absurd hk (by show ¬ (22 ≤ 17); omega)
      | 18, hk, _ => exact absurd hk (by show ¬ (22 ≤ 18); omega)
      | 19, hk, _ => exact absurd hk (by show ¬ (22 ≤ 19); omega)
      | 20, hk, _ => exact absurd hk (by show ¬ (22 ≤ 20); omega)
      | 21, hk, _ => exact absurd hk (by show ¬ (22 ≤ 21); omega)
      | k + 26, _, hk2 => exact absurd hk2 (by show ¬ (k + 26 < 26); omega)
    · rintro a0 ⟨hz, g4, g6, g9, g11, g18, g19⟩
      refine StepsRI.cons ?_ (StepsRI.cons ?_ (StepsRI.cons ?_ (StepsRI.cons ?_ (StepsRI.cons ?_ (StepsRI.cons ?_ (StepsRI.cons ?_ (StepsRI.cons ?_ (StepsRI.cons ?_ (StepsRI.cons ?_ (StepsRI.cons ?_ (StepsRI.cons ?_ (StepsRI.cons ?_ (StepsRI.cons ?_ (StepsRI.cons ?_ (StepsRI.cons ?_ (StepsRI.cons ?_ (StepsRI.cons ?_ (StepsRI.cons ?_ (StepsRI.cons ?_ (StepsRI.cons ?_ (StepsRI.cons ?_ (StepsRI.nil))))))))))))))))))))))
      · intro lQ b W hI hUN hED KQ hKQ
        have hg := (hI.vot 22 (of_decide_eq_true rfl) (of_decide_eq_true rfl) rfl)
        refine wp_load_row 24 _ rfl (w.heap.size) ((hI.fr.same 6 (by decide)).trans g6) 24 #[.int .i64 wl, .int .i64 ws, .int .u64 wr] (0, 0) _ hg Tryz.underlying24 rfl (by kernel_rfl) ?_
        exact hKQ.out _ _ (hI.put 0 61 rfl rfl (by rw [hz]; decide) rfl hUN rfl HBB (wa10_stb wl ws wr hl hs hr ha ng ps py ph np at2 sc x h n V ax ay w4.heap.size w.heap.size (w6.heap.size)) (Below.refl _ _) rfl)
      · intro lQ b W hI hUN hED KQ hKQ
        have f0 := hI.got 0 (of_decide_eq_true rfl) (edge hED 0 (by kernel_rfl)) rfl
        replace f0 : aT b 61 = .agg #[.int .i64 wl, .int .i64 ws, .int .u64 wr] := f0
        refine opw_call 6 #[.tmp 61] _ _ _ rfl Tryz.func6 (by kernel_rfl) rfl #[.agg #[.int .i64 wl, .int .i64 ws, .int .u64 wr]] (by simp [ev, f0]) ?_
        refine (toWatcher_any wl ws wr W).mono ?_
        rintro e W2 ⟨rfl, hb⟩
        exact ⟨_, rfl, hKQ.out _ _ (hI.put 1 62 rfl rfl (by rw [hz]; decide) rfl hUN rfl HBB (wa10_stb wl ws wr hl hs hr ha ng ps py ph np at2 sc x h n V ax ay w4.heap.size w.heap.size (w6.heap.size)) hb rfl)⟩
      · intro lQ b W hI hUN hED KQ hKQ
        have hg := (hI.vot 25 (of_decide_eq_true rfl) (of_decide_eq_true rfl) rfl)
        refine wp_load_row 41 _ rfl (w4.heap.size) ((hI.fr.same 18 (by decide)).trans g18) 41 #[.int .i64 hl, .int .i64 hs, .int .u64 hr, .int .i64 ha, .slice ax ng ng] (0, 0) _ hg Tryz.underlying41 rfl (by kernel_rfl) ?_
        exact hKQ.out _ _ (hI.put 2 63 rfl rfl (by rw [hz]; decide) rfl hUN rfl HBB (wa10_stb wl ws wr hl hs hr ha ng ps py ph np at2 sc x h n V ax ay w4.heap.size w.heap.size (w6.heap.size)) (Below.refl _ _) rfl)
      · intro lQ b W hI hUN hED KQ hKQ
        exact opw_move 19 rfl (hKQ.out _ _ (hI.put 3 64 rfl rfl (by rw [hz]; decide) rfl hUN rfl HBB (wa10_stb wl ws wr hl hs hr ha ng ps py ph np at2 sc x h n V ax ay w4.heap.size w.heap.size (w6.heap.size)) (Below.refl _ _) ((hI.fr.same 19 (by decide)).trans g19)))
      · intro lQ b W hI hUN hED KQ hKQ
        have hg := (hI.vot 23 (of_decide_eq_true rfl) (of_decide_eq_true rfl) rfl)
        refine wp_load_row 30 _ rfl ((w.heap.size + 1 + 1)) ((hI.fr.same 9 (by decide)).trans g9) 30 #[.int .i64 ps, .int .u64 py, .int .i64 ph] (0, 0) _ hg Tryz.underlying30 rfl (by kernel_rfl) ?_
        exact hKQ.out _ _ (hI.put 4 65 rfl rfl (by rw [hz]; decide) rfl hUN rfl HBB (wa10_stb wl ws wr hl hs hr ha ng ps py ph np at2 sc x h n V ax ay w4.heap.size w.heap.size (w6.heap.size)) (Below.refl _ _) rfl)
      · intro lQ b W hI hUN hED KQ hKQ
        have f0 := hI.got 4 (of_decide_eq_true rfl) (edge hED 4 (by kernel_rfl)) rfl
        replace f0 : aT b 65 = .agg #[.int .i64 ps, .int .u64 py, .int .i64 ph] := f0
        refine opw_call 9 #[.tmp 65] _ _ _ rfl Tryz.func9 (by kernel_rfl) rfl #[.agg #[.int .i64 ps, .int .u64 py, .int .i64 ph]] (by simp [ev, f0]) ?_
        refine (toPub_agg ps py ph W).mono ?_
        rintro e W2 ⟨rfl, hb⟩
        exact ⟨_, rfl, hKQ.out _ _ (hI.put 5 66 rfl rfl (by rw [hz]; decide) rfl hUN rfl HBB (wa10_stb wl ws wr hl hs hr ha ng ps py ph np at2 sc x h n V ax ay w4.heap.size w.heap.size (w6.heap.size)) hb rfl)⟩
      · intro lQ b W hI hUN hED KQ hKQ
        exact opw_move 4 rfl (hKQ.out _ _ (hI.put 6 67 rfl rfl (by rw [hz]; decide) rfl hUN rfl HBB (wa10_stb wl ws wr hl hs hr ha ng ps py ph np at2 sc x h n V ax ay w4.heap.size w.heap.size (w6.heap.size)) (Below.refl _ _) ((hI.fr.same 4 (by decide)).trans g4)))
      · intro lQ b W hI hUN hED KQ hKQ
        have hg := (hI.vot 24 (of_decide_eq_true rfl) (of_decide_eq_true rfl) rfl)
        refine wp_load_row 32 _ rfl ((w.heap.size + 1 + 1 + 1)) ((hI.fr.same 11 (by decide)).trans g11) 32 #[.int .i64 sc, .int .u64 x, .int .i64 h, .int .i64 n] (0, 0) _ hg Tryz.underlying32 rfl (by kernel_rfl) ?_
        exact hKQ.out _ _ (hI.put 7 68 rfl rfl (by rw [hz]; decide) rfl hUN rfl HBB (wa10_stb wl ws wr hl hs hr ha ng ps py ph np at2 sc x h n V ax ay w4.heap.size w.heap.size (w6.heap.size)) (Below.refl _ _) rfl)
      · intro lQ b W hI hUN hED KQ hKQ
        have f0 := hI.got 7 (of_decide_eq_true rfl) (edge hED 7 (by kernel_rfl)) rfl
        replace f0 : aT b 68 = .agg #[.int .i64 sc, .int .u64 x, .int .i64 h, .int .i64 n] := f0
        refine opw_call 10 #[.tmp 68] _ _ _ rfl Tryz.func10 (by kernel_rfl) rfl #[.agg #[.int .i64 sc, .int .u64 x, .int .i64 h, .int .i64 n]] (by simp [ev, f0]) ?_
        refine (toSecret_agg sc x h n W).mono ?_
        rintro e W2 ⟨rfl, hb⟩
        exact ⟨_, rfl, hKQ.out _ _ (hI.put 8 69 rfl rfl (by rw [hz]; decide) rfl hUN rfl HBB (wa10_stb wl ws wr hl hs hr ha ng ps py ph np at2 sc x h n V ax ay w4.heap.size w.heap.size (w6.heap.size)) hb rfl)⟩
      · intro lQ b W hI hUN hED KQ hKQ
        have f0 := hI.got 1 (of_decide_eq_true rfl) (edge hED 1 (by kernel_rfl)) rfl
        replace f0 : aT b 62 = .agg #[.int .i64 wl, .int .i64 ws, .int .u64 wr] := f0
        have f1 := hI.got 2 (of_decide_eq_true rfl) (edge hED 2 (by kernel_rfl)) rfl
        replace f1 : aT b 63 = .agg #[.int .i64 hl, .int .i64 hs, .int .u64 hr, .int .i64 ha, .slice ax ng ng] := f1
        have f2 := hI.got 3 (of_decide_eq_true rfl) (edge hED 3 (by kernel_rfl)) rfl
        replace f2 : aT b 64 = .slice ay np np := f2
        have f3 := hI.got 5 (of_decide_eq_true rfl) (edge hED 5 (by kernel_rfl)) rfl
        replace f3 : aT b 66 = .agg #[.int .i64 ps, .int .u64 py, .int .i64 ph] := f3
        have f4 := hI.got 6 (of_decide_eq_true rfl) (edge hED 6 (by kernel_rfl)) rfl
        replace f4 : aT b 67 = .int .i64 at2 := f4
        have f5 := hI.got 8 (of_decide_eq_true rfl) (edge hED 8 (by kernel_rfl)) rfl
        replace f5 : aT b 69 = .agg #[.int .i64 sc, .int .u64 x, .int .i64 h, .int .i64 n] := f5
        refine opw_call 11 #[.tmp 62, .tmp 63, .tmp 64, .tmp 66, .tmp 67, .tmp 69] _ _ _ rfl Tryz.func11 (by kernel_rfl) rfl #[.agg #[.int .i64 wl, .int .i64 ws, .int .u64 wr], .agg #[.int .i64 hl, .int .i64 hs, .int .u64 hr, .int .i64 ha, .slice ax ng ng], .slice ay np np, .agg #[.int .i64 ps, .int .u64 py, .int .i64 ph], .int .i64 at2, .agg #[.int .i64 sc, .int .u64 x, .int .i64 h, .int .i64 n]] (by simp [ev, f0, f1, f2, f3, f4, f5]) ?_
        refine (HIM.out W ax ay (HXX.out W hI.bel).1 (HXX.out W hI.bel).2).mono ?_
        rintro e W2 ⟨a3, c3, rfl, ho, hb⟩
        exact ⟨_, rfl, hKQ.out _ _ (hI.put 9 70 rfl rfl (by rw [hz]; decide) rfl hUN rfl HBB (wa10_stb wl ws wr hl hs hr ha ng ps py ph np at2 sc x h n V ax ay w4.heap.size w.heap.size (w6.heap.size)) hb ⟨a3, c3, rfl, ho.mono (Nat.le_trans HBB hI.bel.size)⟩)⟩
      · intro lQ b W hI hUN hED KQ hKQ
        have f := hI.got 9 (of_decide_eq_true rfl) (edge hED 9 (by kernel_rfl)) rfl
        exact opw_move 70 rfl (hKQ.out _ _ (hI.put 10 60 rfl rfl (by rw [hz]; decide) rfl hUN rfl HBB (wa10_stb wl ws wr hl hs hr ha ng ps py ph np at2 sc x h n V ax ay w4.heap.size w.heap.size (w6.heap.size)) (Below.refl _ _) f))
      · intro lQ b W hI hUN hED KQ hKQ
        have f := hI.got 10 (of_decide_eq_true rfl) (edge hED 10 (by kernel_rfl)) rfl
        obtain ⟨a3, c3, f, o_0⟩ := f
        exact opw_extract 60 0 rfl _ _ f rfl (hKQ.out _ _ (hI.put 11 71 rfl rfl (by rw [hz]; decide) rfl hUN rfl HBB (wa10_stb wl ws wr hl hs hr ha ng ps py ph np at2 sc x h n V ax ay w4.heap.size w.heap.size (w6.heap.size)) (Below.refl _ _) rfl))
      · intro lQ b W hI hUN hED KQ hKQ
        have f := hI.got 10 (of_decide_eq_true rfl) (edge hED 10 (by kernel_rfl)) rfl
        obtain ⟨a3, c3, f, o_0⟩ := f
        exact opw_extract 60 1 rfl _ _ f rfl (hKQ.out _ _ (hI.put 12 72 rfl rfl (by rw [hz]; decide) rfl hUN rfl HBB (wa10_stb wl ws wr hl hs hr ha ng ps py ph np at2 sc x h n V ax ay w4.heap.size w.heap.size (w6.heap.size)) (Below.refl _ _) ⟨a3, c3, rfl, o_0⟩))
      · intro lQ b W hI hUN hED KQ hKQ
        have f := hI.got 10 (of_decide_eq_true rfl) (edge hED 10 (by kernel_rfl)) rfl
        obtain ⟨a3, c3, f, o_0⟩ := f
        exact opw_extract 60 2 rfl _ _ f rfl (hKQ.out _ _ (hI.put 13 73 rfl rfl (by rw [hz]; decide) rfl hUN rfl HBB (wa10_stb wl ws wr hl hs hr ha ng ps py ph np at2 sc x h n V ax ay w4.heap.size w.heap.size (w6.heap.size)) (Below.refl _ _) rfl))
      · intro lQ b W hI hUN hED KQ hKQ
        have f := hI.got 10 (of_decide_eq_true rfl) (edge hED 10 (by kernel_rfl)) rfl
        obtain ⟨a3, c3, f, o_0⟩ := f
        exact opw_extract 60 3 rfl _ _ f rfl (hKQ.out _ _ (hI.put 14 74 rfl rfl (by rw [hz]; decide) rfl hUN rfl HBB (wa10_stb wl ws wr hl hs hr ha ng ps py ph np at2 sc x h n V ax ay w4.heap.size w.heap.size (w6.heap.size)) (Below.refl _ _) rfl))
      · intro lQ b W hI hUN hED KQ hKQ
        refine opw_value (w' := W.alloc (.cells #[.int .i64 0, .int .i64 0, .int .u64 0] 34)) (.pointer (some ⟨W.heap.size, 0, none⟩)) (by kernel_rfl) ?_
        exact hKQ.out _ _ (hI.put 15 20 rfl rfl (by rw [hz]; decide) rfl hUN rfl HBB (wa10_stb wl ws wr hl hs hr ha ng ps py ph np at2 sc x h n V ax ay w4.heap.size w.heap.size (w6.heap.size)) ((Below.refl _ _).alloc (Nat.le_refl _) _) ⟨W.heap.size, rfl, heap_alloc_new W _, Nat.le_trans HBB hI.bel.size⟩)
      · intro lQ b W hI hUN hED KQ hKQ
        refine opw_value (w' := W.alloc (.cells #[.int .u64 0, .int .i64 0, .slice none 0 0] 36)) (.pointer (some ⟨W.heap.size, 0, none⟩)) (by kernel_rfl) ?_
        exact hKQ.out _ _ (hI.put 16 21 rfl rfl (by rw [hz]; decide) rfl hUN rfl HBB (wa10_stb wl ws wr hl hs hr ha ng ps py ph np at2 sc x h n V ax ay w4.heap.size w.heap.size (w6.heap.size)) ((Below.refl _ _).alloc (Nat.le_refl _) _) ⟨W.heap.size, rfl, heap_alloc_new W _, Nat.le_trans HBB hI.bel.size⟩)
      · intro lQ b W hI hUN hED KQ hKQ
        refine opw_value (w' := W.alloc (.cells #[.int .i64 0, .int .u64 0, .int .i64 0, .int .i64 0] 37)) (.pointer (some ⟨W.heap.size, 0, none⟩)) (by kernel_rfl) ?_
        exact hKQ.out _ _ (hI.put 17 22 rfl rfl (by rw [hz]; decide) rfl hUN rfl HBB (wa10_stb wl ws wr hl hs hr ha ng ps py ph np at2 sc x h n V ax ay w4.heap.size w.heap.size (w6.heap.size)) ((Below.refl _ _).alloc (Nat.le_refl _) _) ⟨W.heap.size, rfl, heap_alloc_new W _, Nat.le_trans HBB hI.bel.size⟩)
      · intro lQ b W hI hUN hED KQ hKQ
        obtain ⟨g, fb, hgb, hge⟩ := hI.got1 15 18 (of_decide_eq_true rfl) (edge hED 15 (by kernel_rfl)) hUN rfl
        have f := hI.got 11 (of_decide_eq_true rfl) (edge hED 11 (by kernel_rfl)) rfl
        refine wp_store_row 34 _ _ rfl g #[.int .i64 V.wl, .int .i64 V.ws, .int .u64 V.wr] fb f 34 _ hgb (by kernel_rfl) rfl (by simp [Value.oneCell']) ?_
        have ht := setRow_touch W g #[.int .i64 V.wl, .int .i64 V.ws, .int .u64 V.wr]
        exact hKQ.out _ _ (hI.store 18 (fun j hj => by
            rcases List.mem_singleton.1 hj with rfl
            exact edge hED 15 (by kernel_rfl)) (hI.bel.trans (ht.below hge (Nat.le_trans HBB hI.bel.size))) (wa10_st18 wl ws wr hl hs hr ha ng ps py ph np at2 sc x h n V ax ay w4.heap.size w.heap.size (w6.heap.size) hgb ht hge) ⟨g, fb, (setRow_heap W g _ _ _ _ hgb), hge⟩)
      · intro lQ b W hI hUN hED KQ hKQ
        obtain ⟨g, fb, hgb, hge⟩ := hI.got1 16 19 (of_decide_eq_true rfl) (edge hED 16 (by kernel_rfl)) hUN rfl
        have f := hI.got 12 (of_decide_eq_true rfl) (edge hED 12 (by kernel_rfl)) rfl
        obtain ⟨a3, c3, f, o_0⟩ := f
        refine wp_store_row 36 _ _ rfl g #[.int .u64 V.ck, .int .i64 V.ca, .slice a3 V.sg.length c3] fb f 36 _ hgb (by kernel_rfl) rfl (by simp [Value.oneCell']) ?_
        have ht := setRow_touch W g #[.int .u64 V.ck, .int .i64 V.ca, .slice a3 V.sg.length c3]
        exact hKQ.out _ _ (hI.store 19 (fun j hj => by
            rcases List.mem_singleton.1 hj with rfl
            exact edge hED 16 (by kernel_rfl)) (hI.bel.trans (ht.below hge (Nat.le_trans HBB hI.bel.size))) (wa10_st19 wl ws wr hl hs hr ha ng ps py ph np at2 sc x h n V ax ay w4.heap.size w.heap.size (w6.heap.size) hgb ht hge) ⟨g, a3, c3, fb, (setRow_heap W g _ _ _ _ hgb), hge, ⟨ownsRow_box o_0.row hgb (by decide) ht, o_0.byte⟩⟩)
      · intro lQ b W hI hUN hED KQ hKQ
        obtain ⟨g, fb, hgb, hge⟩ := hI.got1 17 20 (of_decide_eq_true rfl) (edge hED 17 (by kernel_rfl)) hUN rfl
        have f := hI.got 13 (of_decide_eq_true rfl) (edge hED 13 (by kernel_rfl)) rfl
        refine wp_store_row 37 _ _ rfl g #[.int .i64 V.t.1, .int .u64 V.t.2.1, .int .i64 V.t.2.2.1, .int .i64 V.t.2.2.2] fb f 37 _ hgb (by kernel_rfl) rfl (by simp [Value.oneCell']) ?_
        have ht := setRow_touch W g #[.int .i64 V.t.1, .int .u64 V.t.2.1, .int .i64 V.t.2.2.1, .int .i64 V.t.2.2.2]
        exact hKQ.out _ _ (hI.store 20 (fun j hj => by
            rcases List.mem_singleton.1 hj with rfl
            exact edge hED 17 (by kernel_rfl)) (hI.bel.trans (ht.below hge (Nat.le_trans HBB hI.bel.size))) (wa10_st20 wl ws wr hl hs hr ha ng ps py ph np at2 sc x h n V ax ay w4.heap.size w.heap.size (w6.heap.size) hgb ht hge) ⟨g, fb, (setRow_heap W g _ _ _ _ hgb), hge⟩)
      · intro lQ b W hI hUN hED KQ hKQ
        have f := hI.got 14 (of_decide_eq_true rfl) (edge hED 14 (by kernel_rfl)) rfl
        exact opw_assign 74 rfl (hKQ.out _ _ (hI.put 21 23 rfl rfl (by rw [hz]; decide) rfl hUN rfl HBB (wa10_stb wl ws wr hl hs hr ha ng ps py ph np at2 sc x h n V ax ay w4.heap.size w.heap.size (w6.heap.size)) (Below.refl _ _) f))
    · intro b W hf hb F
      obtain ⟨hw, eW, hW0, hWge⟩ := F 18 (of_decide_eq_true rfl) rfl
      obtain ⟨hc, ai, ci, eC, hC0, hCge, hO⟩ := F 19 (of_decide_eq_true rfl) rfl
      obtain ⟨hs2, eS, hS0, hSge⟩ := F 20 (of_decide_eq_true rfl) rfl
      have eK := F 21 (of_decide_eq_true rfl) rfl
      replace eW : aT b 20 = _ := eW
      replace eC : aT b 21 = _ := eC
      replace eS : aT b 22 = _ := eS
      replace eK : aT b 23 = _ := eK
      rw [hf.eq]
      simp only [puts, Act.put, List.setIfInBounds_toArray, List.set_cons_zero, List.set_cons_succ, eW, eC, eS, eK]
      clear hf F
      clear eW eC eS eK
      generalize aT b = AT
      clear b
      obtain ⟨wB, hWn⟩ : ∃ wB, wB = W := ⟨_, rfl⟩
      subst hWn
      have HLB : Hid (Bxs [(w.heap.size, #[.int .i64 wl, .int .i64 ws, .int .u64 wr], 24), (w.heap.size + 1, #[.int .i64 hl, .int .i64 hs, .int .u64 hr, .int .i64 ha, .slice ag ng cg], 27), (w.heap.size + 1 + 1, #[.int .i64 ps, .int .u64 py, .int .i64 ph], 30), (w.heap.size + 1 + 1 + 1, #[.int .i64 sc, .int .u64 x, .int .i64 h, .int .i64 n], 32), (gw, #[.int .i64 V.wl, .int .i64 V.ws, .int .u64 V.wr], 34), (gc, #[.int .u64 V.ck, .int .i64 V.ca, .slice aw V.sg.length cw], 36), (gs, #[.int .i64 V.t.1, .int .u64 V.t.2.1, .int .i64 V.t.2.2.1, .int .i64 V.t.2.2.2], 37), (w4.heap.size, #[.int .i64 hl, .int .i64 hs, .int .u64 hr, .int .i64 ha, .slice ax ng ng], 41), (hw, #[.int .i64 V.wl, .int .i64 V.ws, .int .u64 V.wr], 34), (hc, #[.int .u64 V.ck, .int .i64 V.ca, .slice ai V.sg.length ci], 36), (hs2, #[.int .i64 V.t.1, .int .u64 V.t.2.1, .int .i64 V.t.2.2.1, .int .i64 V.t.2.2.2], 37)] wB) := by
        refine ⟨fun p hp => ?_⟩
        have h1 := HL6.out.kept hb
        simp only [List.mem_cons, List.not_mem_nil, or_false] at hp
        rcases hp with rfl | rfl | rfl | rfl | rfl | rfl | rfl | rfl | rfl | rfl | rfl
        all_goals first | exact hW0 | exact hC0 | exact hS0 | exact h1.all _ (by simp)
      have hcB := keepT hc6 hb
      have HRAB : Hid (Own w6.heap.size wB ai V.sg.length ci V.sg) := hO
      have HRSB : Hid (_) := HRS6.out.kept hb
      have HXB : Hid (_) := HX6.out.kept hb
      have HYB : Hid (_) := HY6.out.kept hb
      have hsB := hb.size
      clear hW0 hC0 hS0 hO HL6 HRS6 HX6 HY6
      obtain ⟨x0, x1, x2⟩ := cells3w (HLB.out.all (hw, #[.int .i64 V.wl, .int .i64 V.ws, .int .u64 V.wr], 34) (by simp))
      obtain ⟨y0, y1, y2⟩ := cells3w (HLB.out.all (gw, #[.int .i64 V.wl, .int .i64 V.ws, .int .u64 V.wr], 34) (by simp))
      go_wp2_with fail
      refine (eqWatcher_same V.wl V.ws V.wr _).mono ?_
      rintro e wCa ⟨rfl, hwCa⟩
      clear x0 x1 x2 y0 y1 y2
      have HZ : Hid (_) := HLB.out.kept hwCa
      obtain ⟨x0, x1, x2⟩ := cells3w (HZ.out.all (hc, #[.int .u64 V.ck, .int .i64 V.ca, .slice ai V.sg.length ci], 36) (by simp))
      obtain ⟨y0, y1, y2⟩ := cells3w (HZ.out.all (gc, #[.int .u64 V.ck, .int .i64 V.ca, .slice aw V.sg.length cw], 36) (by simp))
      go_wp2_with fail
      refine (eqCosig_same V.ck V.ca V.sg ai aw V.sg.length ci cw _ (HRAB.out.toRow.kept hwCa) (HRSB.out.kept hwCa) (by unfold maxLen; omega)).mono ?_
      rintro e wCb ⟨rfl, hwCb⟩
      clear x0 x1 x2 y0 y1 y2 HZ
      have hwCab := keepT hwCa hwCb
      have HZ : Hid (_) := HLB.out.kept hwCab
      obtain ⟨x0, x1, x2, x3⟩ := cells4 (HZ.out.all (hs2, #[.int .i64 V.t.1, .int .u64 V.t.2.1, .int .i64 V.t.2.2.1, .int .i64 V.t.2.2.2], 37) (by simp))
      obtain ⟨y0, y1, y2, y3⟩ := cells4 (HZ.out.all (gs, #[.int .i64 V.t.1, .int .u64 V.t.2.1, .int .i64 V.t.2.2.1, .int .i64 V.t.2.2.2], 37) (by simp))
      go_wp2_with fail
      refine (eqSecret_same V.t _).mono ?_
      rintro e wC ⟨rfl, hwCc⟩
      clear x0 x1 x2 x3 y0 y1 y2 y3 HZ
      have hwC := keepT hwCab hwCc
      clear hwCa hwCb hwCab hwCc
      have hcC := keepT hcB hwC
      have HLC : Hid (_) := HLB.out.kept hwC
      have HRAC : Hid (_) := HRAB.out.kept hwC
      have HRSC : Hid (_) := HRSB.out.kept hwC
      have HXC : Hid (_) := HXB.out.kept hwC
      have HYC : Hid (_) := HYB.out.kept hwC
      have hsC := hwC.size
      clear HLB HRAB HRSB HXB HYB hwC hb
      go_upto_region 13 with fail
      have HBB : wC.heap.size ≤ wC.heap.size := Nat.le_refl _
      have HRR : Hid (∀ W, Below wC.heap.size wC W → Row W ag ng ss ∧ RowU W ap np zs) := fun W hW => HRM.out W (keepT hcC hW)
      have HX13 : Hid (∀ W, Below wC.heap.size wC W → Row W ax ng ss) := fun W hW => (HXC.out.kept hW).toRow
      refine wp_region_ri (wa13 hl hs hr ha ag ng cg ss ax w4.heap.size w.heap.size (wC.heap.size)) [96, 97, 98, 99, 100] (wC.heap.size) (fun a0 => a0.tmps.size = 194 ∧ aT a0 7 = .pointer (some ⟨(w.heap.size + 1), 0, none⟩) ∧ aT a0 18 = .pointer (some ⟨w4.heap.size, 0, none⟩)) (by kernel_rfl) rfl (by kernel_rfl) rfl ⟨rfl, rfl, rfl⟩ (wa13_stb hl hs hr ha ag ng cg ss ax w4.heap.size w.heap.size (wC.heap.size)) ?_ ?_ ?_
      · intro k hk hk2
        match k, hk, hk2 with
        | 5, _, _ => exact (HLC.out.all (w.heap.size + 1, #[.int .i64 hl, .int .i64 hs, .int .u64 hr, .int .i64 ha, .slice ag ng cg], 27) (by simp))
        | 6, _, _ => exact (HLC.out.all (w4.heap.size, #[.int .i64 hl, .int .i64 hs, .int .u64 hr, .int .i64 ha, .slice ax ng ng], 41) (by simp))
        | 0, hk, _ => exact absurd hk (by show ¬ (5 ≤ 0); omega)
        | 1, hk, _ => exact absurd hk (by show ¬ (5 ≤ 1); omega)
        | 2, hk, _ => exact absurd hk (by show ¬ (5 ≤ 2); omega)
        | 3, hk, _ => exact absurd hk (by show ¬ (5 ≤ 3); omega)
        | 4, hk, _ => exact absurd hk (by show ¬ (5 ≤ 4); omega)
        | k + 7, _, hk2 => exact absurd hk2 (by show ¬ (k + 7 < 7); omega)
      · rintro a0 ⟨hz, g7, g18⟩
        refine StepsRI.cons ?_ (StepsRI.cons ?_ (StepsRI.cons ?_ (StepsRI.cons ?_ (StepsRI.cons ?_ (StepsRI.nil)))))
        · intro lQ b W hI hUN hED KQ hKQ
          have hg := (hI.vot 6 (of_decide_eq_true rfl) (of_decide_eq_true rfl) rfl)
          refine wp_load_row 41 _ rfl (w4.heap.size) ((hI.fr.same 18 (by decide)).trans g18) 41 #[.int .i64 hl, .int .i64 hs, .int .u64 hr, .int .i64 ha, .slice ax ng ng] (0, 0) _ hg Tryz.underlying41 rfl (by kernel_rfl) ?_
          exact hKQ.out _ _ (hI.put 0 96 rfl rfl (by rw [hz]; decide) rfl hUN rfl HBB (wa13_stb hl hs hr ha ag ng cg ss ax w4.heap.size w.heap.size (wC.heap.size)) (Below.refl _ _) rfl)
        · intro lQ b W hI hUN hED KQ hKQ
          have hg := (hI.vot 5 (of_decide_eq_true rfl) (of_decide_eq_true rfl) rfl)
          refine wp_load_row 27 _ rfl ((w.heap.size + 1)) ((hI.fr.same 7 (by decide)).trans g7) 27 #[.int .i64 hl, .int .i64 hs, .int .u64 hr, .int .i64 ha, .slice ag ng cg] (0, 0) _ hg Tryz.underlying27 rfl (by kernel_rfl) ?_
          exact hKQ.out _ _ (hI.put 1 97 rfl rfl (by rw [hz]; decide) rfl hUN rfl HBB (wa13_stb hl hs hr ha ag ng cg ss ax w4.heap.size w.heap.size (wC.heap.size)) (Below.refl _ _) rfl)
        · intro lQ b W hI hUN hED KQ hKQ
          have f0 := hI.got 1 (of_decide_eq_true rfl) (edge hED 1 (by kernel_rfl)) rfl
          replace f0 : aT b 97 = .agg #[.int .i64 hl, .int .i64 hs, .int .u64 hr, .int .i64 ha, .slice ag ng cg] := f0
          refine opw_call 7 #[.tmp 97] _ _ _ rfl Tryz.func7 (by kernel_rfl) rfl #[.agg #[.int .i64 hl, .int .i64 hs, .int .u64 hr, .int .i64 ha, .slice ag ng cg]] (by simp [ev, f0]) ?_
          refine (toHead_any hl hs hr ha ag ng cg ss W (HRR.out W hI.bel).1 hng).mono ?_
          rintro e W2 ⟨a1, rfl, ho, hb⟩
          exact ⟨_, rfl, hKQ.out _ _ (hI.put 2 98 rfl rfl (by rw [hz]; decide) rfl hUN rfl HBB (wa13_stb hl hs hr ha ag ng cg ss ax w4.heap.size w.heap.size (wC.heap.size)) hb ⟨a1, rfl, ho.mono (Nat.le_trans HBB hI.bel.size)⟩)⟩
        · intro lQ b W hI hUN hED KQ hKQ
          have f0 := hI.got 0 (of_decide_eq_true rfl) (edge hED 0 (by kernel_rfl)) rfl
          replace f0 : aT b 96 = .agg #[.int .i64 hl, .int .i64 hs, .int .u64 hr, .int .i64 ha, .slice ax ng ng] := f0
          have f1 := hI.got 2 (of_decide_eq_true rfl) (edge hED 2 (by kernel_rfl)) rfl
          obtain ⟨a1, f1, o1_0⟩ := f1
          replace f1 : aT b 98 = .agg #[.int .i64 hl, .int .i64 hs, .int .u64 hr, .int .i64 ha, .slice a1 ng ng] := f1
          refine opw_call 15 #[.tmp 96, .tmp 98] _ _ _ rfl Tryz.func15 (by kernel_rfl) rfl #[.agg #[.int .i64 hl, .int .i64 hs, .int .u64 hr, .int .i64 ha, .slice ax ng ng], .agg #[.int .i64 hl, .int .i64 hs, .int .u64 hr, .int .i64 ha, .slice a1 ng ng]] (by simp [ev, f0, f1]) ?_
          refine (eqHead_same hl hs hr ha ax a1 ng ng ng ss W (HX13.out W hI.bel) o1_0.toRow (by unfold maxLen; omega)).mono ?_
          rintro e W2 ⟨rfl, hb⟩
          exact ⟨_, rfl, hKQ.out _ _ (hI.put 3 99 rfl rfl (by rw [hz]; decide) rfl hUN rfl HBB (wa13_stb hl hs hr ha ag ng cg ss ax w4.heap.size w.heap.size (wC.heap.size)) hb rfl)⟩
        · intro lQ b W hI hUN hED KQ hKQ
          have f := hI.got 3 (of_decide_eq_true rfl) (edge hED 3 (by kernel_rfl)) rfl
          replace f : aT b 99 = .bool true := f
          have f2 : b.tmps[99]?.getD undef = .bool true := by simpa [aT] using f
          exact opw_value (.bool false) (by simp [execOp, Act.eval, f2, go_sem]) (hKQ.out _ _ (hI.put 4 100 rfl rfl (by rw [hz]; decide) rfl hUN rfl HBB (wa13_stb hl hs hr ha ag ng cg ss ax w4.heap.size w.heap.size (wC.heap.size)) (Below.refl _ _) rfl))
      · intro b W hf hb F
        have e100 := F 4 (of_decide_eq_true rfl) rfl
        replace e100 : aT b 100 = _ := e100
        rw [hf.eq]
        simp only [puts, Act.put, List.setIfInBounds_toArray, List.set_cons_zero, List.set_cons_succ, e100]
        clear hf F
        clear e100
        generalize aT b = AT
        clear b
        obtain ⟨wD, hWn⟩ : ∃ wD, wD = W := ⟨_, rfl⟩
        subst hWn
        have hcD := keepT hcC hb
        have HLD : Hid (_) := HLC.out.kept hb
        have HX : Hid (_) := HXC.out.kept hb
        have HY : Hid (_) := HYC.out.kept hb
        have HRA : Hid (_) := HRAC.out.kept hb
        have HRS : Hid (_) := HRSC.out.kept hb
        have hsD := hb.size
        clear hb HLC HXC HYC HRAC HRSC
        go_wp2_with fail
        refine (toUint64S_any ap np cp zs _ (HRM.out _ hcD).2 hnp).mono ?_
        rintro e wE ⟨az, rfl, hoz, hbE⟩
        go_wp2_with fail
        refine (eqUint64S_same ay az np np np zs _ (HY.out.kept hbE).toRow hoz.toRow (by omega)).mono ?_
        rintro e wF ⟨rfl, hbF⟩
        clear hoz
        have hDF := keepT hbE hbF
        have hsF := hDF.size
        have hcF := keepT hcD hDF
        have HLF : Hid (_) := HLD.out.kept hDF
        have HXF : Hid (_) := HX.out.kept hDF
        have HYF : Hid (_) := HY.out.kept hDF
        have HRAF : Hid (_) := HRA.out.kept hDF
        have HRSF : Hid (_) := HRS.out.kept hDF
        clear HLD HX HY HRA HRS hbE hbF
        obtain ⟨x0, x1, x2, x3, x4⟩ := cells5w (HLF.out.all (w4.heap.size, #[.int .i64 hl, .int .i64 hs, .int .u64 hr, .int .i64 ha, .slice ax ng ng], 41) (by simp))
        go_wp2_with fail
        refine (markHead_any wA.heap.size wA.heap.size w4.heap.size hl hs hr ha ax ng ng 1 ss _ HXF.out (by omega) (by decide) (by decide) HXL.out).mono ?_
        rintro e wG ⟨rfl, _, htG⟩
        clear x0 x1 x2 x3 x4
        have hcG : Below w1.heap.size w1 wG := hcF.trans (htG.below (by omega) (by have := hcF.size; omega))
        have HLG : Hid (_) := HLF.out.touch htG (by simp; omega)
        have HRAG : Hid (Own w6.heap.size wG ai V.sg.length ci V.sg) := own_touchS HRAF.out htG (by omega)
        have HRSG : Hid (Row wG aw V.sg.length V.sg) := HRSF.out.touch HIN.out (.inl (Nat.le_refl _)) htG
        have HYG : Hid (OwnU w5.heap.size wG ay np np zs) := ⟨owns_touchW HYF.out.row htG (by omega), HYF.out.rng⟩
        have hsG := htG.size
        clear htG HLF HRAF HRSF HYF HXF
        obtain ⟨kk, hkk⟩ : ∃ kk : Nat, kk = 1 + ng := ⟨_, rfl⟩
        have ek : (1 : Int) + (ng : Int) = ((kk : Nat) : Int) := by omega
        rw [ek]
        have hkb : kk ≤ 1048577 := by omega
        clear ek hkk
        go_wp2_with fail
        refine (markU_any w5.heap.size ay np np kk zs _ HYG.out (by omega) (by omega)).mono ?_
        rintro e wH ⟨rfl, _, hgH⟩
        have htH : Touch w5.heap.size w6.heap.size wG wH := touch_grownS hgH HYL.out
        have hcH : Below w1.heap.size w1 wH := hcG.trans (htH.below (by omega) (by have := hcG.size; omega))
        have HLH : Hid (_) := HLG.out.touch htH (by simp; omega)
        have HRAH : Hid (Own w6.heap.size wH ai V.sg.length ci V.sg) := own_touchS HRAG.out htH (Nat.le_refl _)
        have HRSH : Hid (Row wH aw V.sg.length V.sg) := HRSG.out.touch HIN.out (.inl (by omega)) htH
        have hsH := htH.size
        clear htH hgH HLG HRAG HRSG HYG
        obtain ⟨k2, hk2⟩ : ∃ k2 : Int, k2 = ((kk + np : Nat) : Int) := ⟨_, rfl⟩
        have kz : ¬ (k2 < 0) := by omega
        rw [← hk2]
        clear hk2
        obtain ⟨x0, x1, x2⟩ := cells3w (HLH.out.all (hw, #[.int .i64 V.wl, .int .i64 V.ws, .int .u64 V.wr], 34) (by simp))
        obtain ⟨y0, y1, y2⟩ := cells3w (HLH.out.all (gw, #[.int .i64 V.wl, .int .i64 V.ws, .int .u64 V.wr], 34) (by simp))
        go_wp2_with fail
        refine (eqWatcher_same V.wl V.ws V.wr _).mono ?_
        rintro e wIa ⟨rfl, hwIa⟩
        clear x0 x1 x2 y0 y1 y2
        have HZ : Hid (_) := HLH.out.kept hwIa
        obtain ⟨x0, x1, x2⟩ := cells3w (HZ.out.all (hc, #[.int .u64 V.ck, .int .i64 V.ca, .slice ai V.sg.length ci], 36) (by simp))
        obtain ⟨y0, y1, y2⟩ := cells3w (HZ.out.all (gc, #[.int .u64 V.ck, .int .i64 V.ca, .slice aw V.sg.length cw], 36) (by simp))
        go_wp2_with fail
        refine (eqCosig_same V.ck V.ca V.sg ai aw V.sg.length ci cw _ (HRAH.out.toRow.kept hwIa) (HRSH.out.kept hwIa) (by unfold maxLen; omega)).mono ?_
        rintro e wIb ⟨rfl, hwIb⟩
        clear x0 x1 x2 y0 y1 y2 HZ
        have hwIab := keepT hwIa hwIb
        have HZ : Hid (_) := HLH.out.kept hwIab
        obtain ⟨x0, x1, x2, x3⟩ := cells4 (HZ.out.all (hs2, #[.int .i64 V.t.1, .int .u64 V.t.2.1, .int .i64 V.t.2.2.1, .int .i64 V.t.2.2.2], 37) (by simp))
        obtain ⟨y0, y1, y2, y3⟩ := cells4 (HZ.out.all (gs, #[.int .i64 V.t.1, .int .u64 V.t.2.1, .int .i64 V.t.2.2.1, .int .i64 V.t.2.2.2], 37) (by simp))
        go_wp2_with fail
        refine (eqSecret_same V.t _).mono ?_
        rintro e wI ⟨rfl, hwIc⟩
        clear x0 x1 x2 x3 y0 y1 y2 y3 HZ
        have hwI := keepT hwIab hwIc
        clear hwIa hwIb hwIab hwIc
        have hcI := keepT hcH hwI
        have HLI : Hid (_) := HLH.out.kept hwI
        have HRAI : Hid (_) := HRAH.out.kept hwI
        have HRSI : Hid (_) := HRSH.out.kept hwI
        have hsI := hwI.size
        clear HLH HRAH HRSH hwI
        obtain ⟨j, hj0, hj1, hj2⟩ := own_spot HRAI.out (by omega)
        obtain ⟨x0, x1, x2⟩ := cells3w (HLI.out.all (hc, #[.int .u64 V.ck, .int .i64 V.ca, .slice ai V.sg.length ci], 36) (by simp))
        go_wp2_with fail
        refine (markCosig_any w6.heap.size j (j + 1) V.ck V.ca ai V.sg.length ci 1 V.sg _ HRAI.out (by omega) (by decide) (by decide) hj1).mono ?_
        rintro e wK ⟨rfl, hoK, htK⟩
        clear x0 x1 x2
        have HLK : Hid (Bxs [(w.heap.size, #[.int .i64 wl, .int .i64 ws, .int .u64 wr], 24), (w.heap.size + 1, #[.int .i64 hl, .int .i64 hs, .int .u64 hr, .int .i64 ha, .slice ag ng cg], 27), (w.heap.size + 1 + 1, #[.int .i64 ps, .int .u64 py, .int .i64 ph], 30), (w.heap.size + 1 + 1 + 1, #[.int .i64 sc, .int .u64 x, .int .i64 h, .int .i64 n], 32), (gw, #[.int .i64 V.wl, .int .i64 V.ws, .int .u64 V.wr], 34), (gc, #[.int .u64 V.ck, .int .i64 V.ca, .slice aw V.sg.length cw], 36), (gs, #[.int .i64 V.t.1, .int .u64 V.t.2.1, .int .i64 V.t.2.2.1, .int .i64 V.t.2.2.2], 37), (w4.heap.size, #[.int .i64 hl, .int .i64 hs, .int .u64 hr, .int .i64 ha, .slice ax ng ng], 41), (hw, #[.int .i64 V.wl, .int .i64 V.ws, .int .u64 V.wr], 34), (hc, #[.int .u64 V.ck, .int .i64 V.ca, .slice ai V.sg.length ci], 36), (hs2, #[.int .i64 V.t.1, .int .u64 V.t.2.1, .int .i64 V.t.2.2.1, .int .i64 V.t.2.2.2], 37)] wK) := by
          refine HLI.out.touch htK (fun p hp => ?_)
          have h1 := HLI.out.all p hp
          refine hj2 p.1 p.2.2 p.2.1 h1 ?_
          simp only [List.mem_cons, List.not_mem_nil, or_false] at hp
          rcases hp with rfl | rfl | rfl | rfl | rfl | rfl | rfl | rfl | rfl | rfl | rfl <;> (dsimp only; decide)
        have hcK : Below w1.heap.size w1 wK := hcI.trans (htK.below (by omega) (by have := hcI.size; omega))
        have HRSK : Hid (Row wK aw V.sg.length V.sg) := HRSI.out.touch HIN.out (.inl (by omega)) htK
        have HMK : Hid (Row wK ai V.sg.length (marks (1 : Int).toNat V.sg.length)) := hoK.toRow
        clear hoK htK hj0 hj1 hj2 HLI HRAI HRSI
        have tq : ((1 : Int) + (V.sg.length : Int) != 1 + (V.sg.length : Int)) = false := by simp
        have tz : ¬ ((1 : Int) + (V.sg.length : Int) < 0) := by omega
        obtain ⟨x0, x1, x2⟩ := cells3w (HLK.out.all (hc, #[.int .u64 V.ck, .int .i64 V.ca, .slice ai V.sg.length ci], 36) (by simp))
        go_wp2_with fail
        refine (heldCosig_any V.ck V.ca ai V.sg.length ci 1 _ HMK.out (by omega) (by decide) (by decide)).mono ?_
        rintro e wM ⟨rfl, hwM⟩
        clear x0 x1 x2
        have hcM := keepT hcK hwM
        have HL : Hid (_) := HLK.out.kept hwM
        have HRS : Hid (_) := HRSK.out.kept hwM
        have HM : Hid (_) := HMK.out.kept hwM
        have hc0 := keepT hb0 hcM
        clear HLK HRSK HMK hwM
        go_upto_region 30 with fail
        have HBB : wM.heap.size ≤ wM.heap.size := Nat.le_refl _
        have HRR : Hid (∀ W, Below wM.heap.size wM W → Row W ag ng ss ∧ RowU W ap np zs) := fun W hW => HRM.out W (keepT hcM hW)
        refine wp_region_ri (wa30 wl ws wr hl hs hr ha ag ng cg ss ps py ph ap np cp zs at2 sc x h n V w.heap.size (wM.heap.size)) [27, 28, 29, 30, 148, 149, 150, 151, 152, 153, 154, 155, 156, 157, 158, 159, 160, 161, 162, 163, 164] (wM.heap.size) (fun a0 => a0.tmps.size = 194 ∧ aT a0 2 = .slice ap np cp ∧ aT a0 4 = .int .i64 at2 ∧ aT a0 6 = .pointer (some ⟨w.heap.size, 0, none⟩) ∧ aT a0 7 = .pointer (some ⟨(w.heap.size + 1), 0, none⟩) ∧ aT a0 9 = .pointer (some ⟨(w.heap.size + 1 + 1), 0, none⟩) ∧ aT a0 11 = .pointer (some ⟨(w.heap.size + 1 + 1 + 1), 0, none⟩)) (by kernel_rfl) rfl (by kernel_rfl) rfl ⟨rfl, rfl, rfl, rfl, rfl, rfl, rfl⟩ (wa30_stb wl ws wr hl hs hr ha ag ng cg ss ps py ph ap np cp zs at2 sc x h n V w.heap.size (wM.heap.size)) ?_ ?_ ?_
        · intro k hk hk2
          match k, hk, hk2 with
          | 24, _, _ => exact (HL.out.all (w.heap.size, #[.int .i64 wl, .int .i64 ws, .int .u64 wr], 24) (by simp))
          | 25, _, _ => exact (HL.out.all (w.heap.size + 1, #[.int .i64 hl, .int .i64 hs, .int .u64 hr, .int .i64 ha, .slice ag ng cg], 27) (by simp))
          | 26, _, _ => exact (HL.out.all (w.heap.size + 1 + 1, #[.int .i64 ps, .int .u64 py, .int .i64 ph], 30) (by simp))
          | 27, _, _ => exact (HL.out.all (w.heap.size + 1 + 1 + 1, #[.int .i64 sc, .int .u64 x, .int .i64 h, .int .i64 n], 32) (by simp))
          | 0, hk, _ => exact absurd hk (by show ¬ (24 ≤ 0); omega)
          | 1, hk, _ => exact absurd hk (by show ¬ (24 ≤ 1); omega)
          | 2, hk, _ => exact absurd hk (by show ¬ (24 ≤ 2); omega)
          | 3, hk, _ => exact absurd hk (by show ¬ (24 ≤ 3); omega)
          | 4, hk, _ => exact absurd hk (by show ¬ (24 ≤ 4); omega)
          | 5, hk, _ => exact absurd hk (by show ¬ (24 ≤ 5); omega)
          | 6, hk, _ => exact absurd hk (by show ¬ (24 ≤ 6); omega)
          | 7, hk, _ => exact absurd hk (by show ¬ (24 ≤ 7); omega)
          | 8, hk, _ => exact absurd hk (by show ¬ (24 ≤ 8); omega)
          | 9, hk, _ => exact absurd hk (by show ¬ (24 ≤ 9); omega)
          | 10, hk, _ => exact absurd hk (by show ¬ (24 ≤ 10); omega)
          | 11, hk, _ => exact absurd hk (by show ¬ (24 ≤ 11); omega)
          | 12, hk, _ => exact absurd hk (by show ¬ (24 ≤ 12); omega)
          | 13, hk, _ => exact absurd hk (by show ¬ (24 ≤ 13); omega)
          | 14, hk, _ => exact absurd hk (by show ¬ (24 ≤ 14); omega)
          | 15, hk, _ => exact absurd hk (by show ¬ (24 ≤ 15); omega)
          | 16, hk, _ => exact absurd hk (by show ¬ (24 ≤ 16); omega)
          | 17, hk, _ => exact absurd hk (by show ¬ (24 ≤ 17); omega)
          | 18, hk, _ => exact absurd hk (by show ¬ (24 ≤ 18); omega)
          | 19, hk, _ => exact absurd hk (by show ¬ (24 ≤ 19); omega)
          | 20, hk, _ => exact absurd hk (by show ¬ (24 ≤ 20); omega)
          | 21, hk, _ => exact absurd hk (by show ¬ (24 ≤ 21); omega)
          | 22, hk, _ => exact absurd hk (by show ¬ (24 ≤ 22); omega)
          | 23, hk, _ => exact absurd hk (by show ¬ (24 ≤ 23); omega)
          | k + 28, _, hk2 => exact absurd hk2 (by show ¬ (k + 28 < 28); omega)
        · rintro a0 ⟨hz, g2, g4, g6, g7, g9, g11⟩
          refine StepsRI.cons ?_ (StepsRI.cons ?_ (StepsRI.cons ?_ (StepsRI.cons ?_ (StepsRI.cons ?_ (StepsRI.cons ?_ (StepsRI.cons ?_ (StepsRI.cons ?_ (StepsRI.cons ?_ (StepsRI.cons ?_ (StepsRI.cons ?_ (StepsRI.cons ?_ (StepsRI.cons ?_ (StepsRI.cons ?_ (StepsRI.cons ?_ (StepsRI.cons ?_ (StepsRI.cons ?_ (StepsRI.cons ?_ (StepsRI.cons ?_ (StepsRI.cons ?_ (StepsRI.cons ?_ (StepsRI.cons ?_ (StepsRI.cons ?_ (StepsRI.cons ?_ (StepsRI.nil))))))))))))))))))))))))
          · intro lQ b W hI hUN hED KQ hKQ
            have hg := (hI.vot 24 (of_decide_eq_true rfl) (of_decide_eq_true rfl) rfl)
            refine wp_load_row 24 _ rfl (w.heap.size) ((hI.fr.same 6 (by decide)).trans g6) 24 #[.int .i64 wl, .int .i64 ws, .int .u64 wr] (0, 0) _ hg Tryz.underlying24 rfl (by kernel_rfl) ?_
            exact hKQ.out _ _ (hI.put 0 149 rfl rfl (by rw [hz]; decide) rfl hUN rfl HBB (wa30_stb wl ws wr hl hs hr ha ag ng cg ss ps py ph ap np cp zs at2 sc x h n V w.heap.size (wM.heap.size)) (Below.refl _ _) rfl)
          · intro lQ b W hI hUN hED KQ hKQ
            have f0 := hI.got 0 (of_decide_eq_true rfl) (edge hED 0 (by kernel_rfl)) rfl
            replace f0 : aT b 149 = .agg #[.int .i64 wl, .int .i64 ws, .int .u64 wr] := f0
            refine opw_call 6 #[.tmp 149] _ _ _ rfl Tryz.func6 (by kernel_rfl) rfl #[.agg #[.int .i64 wl, .int .i64 ws, .int .u64 wr]] (by simp [ev, f0]) ?_
            refine (toWatcher_any wl ws wr W).mono ?_
            rintro e W2 ⟨rfl, hb⟩
            exact ⟨_, rfl, hKQ.out _ _ (hI.put 1 150 rfl rfl (by rw [hz]; decide) rfl hUN rfl HBB (wa30_stb wl ws wr hl hs hr ha ag ng cg ss ps py ph ap np cp zs at2 sc x h n V w.heap.size (wM.heap.size)) hb rfl)⟩
          · intro lQ b W hI hUN hED KQ hKQ
            have hg := (hI.vot 25 (of_decide_eq_true rfl) (of_decide_eq_true rfl) rfl)
            refine wp_load_row 27 _ rfl ((w.heap.size + 1)) ((hI.fr.same 7 (by decide)).trans g7) 27 #[.int .i64 hl, .int .i64 hs, .int .u64 hr, .int .i64 ha, .slice ag ng cg] (0, 0) _ hg Tryz.underlying27 rfl (by kernel_rfl) ?_
            exact hKQ.out _ _ (hI.put 2 151 rfl rfl (by rw [hz]; decide) rfl hUN rfl HBB (wa30_stb wl ws wr hl hs hr ha ag ng cg ss ps py ph ap np cp zs at2 sc x h n V w.heap.size (wM.heap.size)) (Below.refl _ _) rfl)
          · intro lQ b W hI hUN hED KQ hKQ
            have f0 := hI.got 2 (of_decide_eq_true rfl) (edge hED 2 (by kernel_rfl)) rfl
            replace f0 : aT b 151 = .agg #[.int .i64 hl, .int .i64 hs, .int .u64 hr, .int .i64 ha, .slice ag ng cg] := f0
            refine opw_call 7 #[.tmp 151] _ _ _ rfl Tryz.func7 (by kernel_rfl) rfl #[.agg #[.int .i64 hl, .int .i64 hs, .int .u64 hr, .int .i64 ha, .slice ag ng cg]] (by simp [ev, f0]) ?_
            refine (toHead_any hl hs hr ha ag ng cg ss W (HRR.out W hI.bel).1 hng).mono ?_
            rintro e W2 ⟨a1, rfl, ho, hb⟩
            exact ⟨_, rfl, hKQ.out _ _ (hI.put 3 152 rfl rfl (by rw [hz]; decide) rfl hUN rfl HBB (wa30_stb wl ws wr hl hs hr ha ag ng cg ss ps py ph ap np cp zs at2 sc x h n V w.heap.size (wM.heap.size)) hb ⟨a1, rfl, ho.mono (Nat.le_trans HBB hI.bel.size)⟩)⟩
          · intro lQ b W hI hUN hED KQ hKQ
            exact opw_move 2 rfl (hKQ.out _ _ (hI.put 4 153 rfl rfl (by rw [hz]; decide) rfl hUN rfl HBB (wa30_stb wl ws wr hl hs hr ha ag ng cg ss ps py ph ap np cp zs at2 sc x h n V w.heap.size (wM.heap.size)) (Below.refl _ _) ((hI.fr.same 2 (by decide)).trans g2)))
          · intro lQ b W hI hUN hED KQ hKQ
            have f0 := hI.got 4 (of_decide_eq_true rfl) (edge hED 4 (by kernel_rfl)) rfl
            replace f0 : aT b 153 = .slice ap np cp := f0
            refine opw_call 8 #[.tmp 153] _ _ _ rfl Tryz.func8 (by kernel_rfl) rfl #[.slice ap np cp] (by simp [ev, f0]) ?_
            refine (toUint64S_any ap np cp zs W (HRR.out W hI.bel).2 hnp).mono ?_
            rintro e W2 ⟨a2, rfl, ho, hb⟩
            exact ⟨_, rfl, hKQ.out _ _ (hI.put 5 154 rfl rfl (by rw [hz]; decide) rfl hUN rfl HBB (wa30_stb wl ws wr hl hs hr ha ag ng cg ss ps py ph ap np cp zs at2 sc x h n V w.heap.size (wM.heap.size)) hb ⟨a2, rfl, ho.mono (Nat.le_trans HBB hI.bel.size)⟩)⟩
          · intro lQ b W hI hUN hED KQ hKQ
            have hg := (hI.vot 26 (of_decide_eq_true rfl) (of_decide_eq_true rfl) rfl)
            refine wp_load_row 30 _ rfl ((w.heap.size + 1 + 1)) ((hI.fr.same 9 (by decide)).trans g9) 30 #[.int .i64 ps, .int .u64 py, .int .i64 ph] (0, 0) _ hg Tryz.underlying30 rfl (by kernel_rfl) ?_
            exact hKQ.out _ _ (hI.put 6 155 rfl rfl (by rw [hz]; decide) rfl hUN rfl HBB (wa30_stb wl ws wr hl hs hr ha ag ng cg ss ps py ph ap np cp zs at2 sc x h n V w.heap.size (wM.heap.size)) (Below.refl _ _) rfl)
          · intro lQ b W hI hUN hED KQ hKQ
            have f0 := hI.got 6 (of_decide_eq_true rfl) (edge hED 6 (by kernel_rfl)) rfl
            replace f0 : aT b 155 = .agg #[.int .i64 ps, .int .u64 py, .int .i64 ph] := f0
            refine opw_call 9 #[.tmp 155] _ _ _ rfl Tryz.func9 (by kernel_rfl) rfl #[.agg #[.int .i64 ps, .int .u64 py, .int .i64 ph]] (by simp [ev, f0]) ?_
            refine (toPub_agg ps py ph W).mono ?_
            rintro e W2 ⟨rfl, hb⟩
            exact ⟨_, rfl, hKQ.out _ _ (hI.put 7 156 rfl rfl (by rw [hz]; decide) rfl hUN rfl HBB (wa30_stb wl ws wr hl hs hr ha ag ng cg ss ps py ph ap np cp zs at2 sc x h n V w.heap.size (wM.heap.size)) hb rfl)⟩
          · intro lQ b W hI hUN hED KQ hKQ
            exact opw_move 4 rfl (hKQ.out _ _ (hI.put 8 157 rfl rfl (by rw [hz]; decide) rfl hUN rfl HBB (wa30_stb wl ws wr hl hs hr ha ag ng cg ss ps py ph ap np cp zs at2 sc x h n V w.heap.size (wM.heap.size)) (Below.refl _ _) ((hI.fr.same 4 (by decide)).trans g4)))
          · intro lQ b W hI hUN hED KQ hKQ
            have hg := (hI.vot 27 (of_decide_eq_true rfl) (of_decide_eq_true rfl) rfl)
            refine wp_load_row 32 _ rfl ((w.heap.size + 1 + 1 + 1)) ((hI.fr.same 11 (by decide)).trans g11) 32 #[.int .i64 sc, .int .u64 x, .int .i64 h, .int .i64 n] (0, 0) _ hg Tryz.underlying32 rfl (by kernel_rfl) ?_
            exact hKQ.out _ _ (hI.put 9 158 rfl rfl (by rw [hz]; decide) rfl hUN rfl HBB (wa30_stb wl ws wr hl hs hr ha ag ng cg ss ps py ph ap np cp zs at2 sc x h n V w.heap.size (wM.heap.size)) (Below.refl _ _) rfl)
          · intro lQ b W hI hUN hED KQ hKQ
            have f0 := hI.got 9 (of_decide_eq_true rfl) (edge hED 9 (by kernel_rfl)) rfl
            replace f0 : aT b 158 = .agg #[.int .i64 sc, .int .u64 x, .int .i64 h, .int .i64 n] := f0
            refine opw_call 10 #[.tmp 158] _ _ _ rfl Tryz.func10 (by kernel_rfl) rfl #[.agg #[.int .i64 sc, .int .u64 x, .int .i64 h, .int .i64 n]] (by simp [ev, f0]) ?_
            refine (toSecret_agg sc x h n W).mono ?_
            rintro e W2 ⟨rfl, hb⟩
            exact ⟨_, rfl, hKQ.out _ _ (hI.put 10 159 rfl rfl (by rw [hz]; decide) rfl hUN rfl HBB (wa30_stb wl ws wr hl hs hr ha ag ng cg ss ps py ph ap np cp zs at2 sc x h n V w.heap.size (wM.heap.size)) hb rfl)⟩
          · intro lQ b W hI hUN hED KQ hKQ
            have f0 := hI.got 1 (of_decide_eq_true rfl) (edge hED 1 (by kernel_rfl)) rfl
            replace f0 : aT b 150 = .agg #[.int .i64 wl, .int .i64 ws, .int .u64 wr] := f0
            have f1 := hI.got 3 (of_decide_eq_true rfl) (edge hED 3 (by kernel_rfl)) rfl
            obtain ⟨a1, f1, o1_0⟩ := f1
            replace f1 : aT b 152 = .agg #[.int .i64 hl, .int .i64 hs, .int .u64 hr, .int .i64 ha, .slice a1 ng ng] := f1
            have f2 := hI.got 5 (of_decide_eq_true rfl) (edge hED 5 (by kernel_rfl)) rfl
            obtain ⟨a2, f2, o2_0⟩ := f2
            replace f2 : aT b 154 = .slice a2 np np := f2
            have f3 := hI.got 7 (of_decide_eq_true rfl) (edge hED 7 (by kernel_rfl)) rfl
            replace f3 : aT b 156 = .agg #[.int .i64 ps, .int .u64 py, .int .i64 ph] := f3
            have f4 := hI.got 8 (of_decide_eq_true rfl) (edge hED 8 (by kernel_rfl)) rfl
            replace f4 : aT b 157 = .int .i64 at2 := f4
            have f5 := hI.got 10 (of_decide_eq_true rfl) (edge hED 10 (by kernel_rfl)) rfl
            replace f5 : aT b 159 = .agg #[.int .i64 sc, .int .u64 x, .int .i64 h, .int .i64 n] := f5
            refine opw_call 11 #[.tmp 150, .tmp 152, .tmp 154, .tmp 156, .tmp 157, .tmp 159] _ _ _ rfl Tryz.func11 (by kernel_rfl) rfl #[.agg #[.int .i64 wl, .int .i64 ws, .int .u64 wr], .agg #[.int .i64 hl, .int .i64 hs, .int .u64 hr, .int .i64 ha, .slice a1 ng ng], .slice a2 np np, .agg #[.int .i64 ps, .int .u64 py, .int .i64 ph], .int .i64 at2, .agg #[.int .i64 sc, .int .u64 x, .int .i64 h, .int .i64 n]] (by simp [ev, f0, f1, f2, f3, f4, f5]) ?_
            refine (HIM.out W a1 a2 o1_0.toRow o2_0.toRow).mono ?_
            rintro e W2 ⟨a3, c3, rfl, ho, hb⟩
            exact ⟨_, rfl, hKQ.out _ _ (hI.put 11 160 rfl rfl (by rw [hz]; decide) rfl hUN rfl HBB (wa30_stb wl ws wr hl hs hr ha ag ng cg ss ps py ph ap np cp zs at2 sc x h n V w.heap.size (wM.heap.size)) hb ⟨a3, c3, rfl, ho.mono (Nat.le_trans HBB hI.bel.size)⟩)⟩
          · intro lQ b W hI hUN hED KQ hKQ
            have f := hI.got 11 (of_decide_eq_true rfl) (edge hED 11 (by kernel_rfl)) rfl
            exact opw_move 160 rfl (hKQ.out _ _ (hI.put 12 148 rfl rfl (by rw [hz]; decide) rfl hUN rfl HBB (wa30_stb wl ws wr hl hs hr ha ag ng cg ss ps py ph ap np cp zs at2 sc x h n V w.heap.size (wM.heap.size)) (Below.refl _ _) f))
          · intro lQ b W hI hUN hED KQ hKQ
            have f := hI.got 12 (of_decide_eq_true rfl) (edge hED 12 (by kernel_rfl)) rfl
            obtain ⟨a3, c3, f, o_0⟩ := f
            exact opw_extract 148 0 rfl _ _ f rfl (hKQ.out _ _ (hI.put 13 161 rfl rfl (by rw [hz]; decide) rfl hUN rfl HBB (wa30_stb wl ws wr hl hs hr ha ag ng cg ss ps py ph ap np cp zs at2 sc x h n V w.heap.size (wM.heap.size)) (Below.refl _ _) rfl))
          · intro lQ b W hI hUN hED KQ hKQ
            have f := hI.got 12 (of_decide_eq_true rfl) (edge hED 12 (by kernel_rfl)) rfl
            obtain ⟨a3, c3, f, o_0⟩ := f
            exact opw_extract 148 1 rfl _ _ f rfl (hKQ.out _ _ (hI.put 14 162 rfl rfl (by rw [hz]; decide) rfl hUN rfl HBB (wa30_stb wl ws wr hl hs hr ha ag ng cg ss ps py ph ap np cp zs at2 sc x h n V w.heap.size (wM.heap.size)) (Below.refl _ _) ⟨a3, c3, rfl, o_0⟩))
          · intro lQ b W hI hUN hED KQ hKQ
            have f := hI.got 12 (of_decide_eq_true rfl) (edge hED 12 (by kernel_rfl)) rfl
            obtain ⟨a3, c3, f, o_0⟩ := f
            exact opw_extract 148 2 rfl _ _ f rfl (hKQ.out _ _ (hI.put 15 163 rfl rfl (by rw [hz]; decide) rfl hUN rfl HBB (wa30_stb wl ws wr hl hs hr ha ag ng cg ss ps py ph ap np cp zs at2 sc x h n V w.heap.size (wM.heap.size)) (Below.refl _ _) rfl))
          · intro lQ b W hI hUN hED KQ hKQ
            have f := hI.got 12 (of_decide_eq_true rfl) (edge hED 12 (by kernel_rfl)) rfl
            obtain ⟨a3, c3, f, o_0⟩ := f
            exact opw_extract 148 3 rfl _ _ f rfl (hKQ.out _ _ (hI.put 16 164 rfl rfl (by rw [hz]; decide) rfl hUN rfl HBB (wa30_stb wl ws wr hl hs hr ha ag ng cg ss ps py ph ap np cp zs at2 sc x h n V w.heap.size (wM.heap.size)) (Below.refl _ _) rfl))
          · intro lQ b W hI hUN hED KQ hKQ
            refine opw_value (w' := W.alloc (.cells #[.int .i64 0, .int .i64 0, .int .u64 0] 34)) (.pointer (some ⟨W.heap.size, 0, none⟩)) (by kernel_rfl) ?_
            exact hKQ.out _ _ (hI.put 17 27 rfl rfl (by rw [hz]; decide) rfl hUN rfl HBB (wa30_stb wl ws wr hl hs hr ha ag ng cg ss ps py ph ap np cp zs at2 sc x h n V w.heap.size (wM.heap.size)) ((Below.refl _ _).alloc (Nat.le_refl _) _) ⟨W.heap.size, rfl, heap_alloc_new W _, Nat.le_trans HBB hI.bel.size⟩)
          · intro lQ b W hI hUN hED KQ hKQ
            refine opw_value (w' := W.alloc (.cells #[.int .u64 0, .int .i64 0, .slice none 0 0] 36)) (.pointer (some ⟨W.heap.size, 0, none⟩)) (by kernel_rfl) ?_
            exact hKQ.out _ _ (hI.put 18 28 rfl rfl (by rw [hz]; decide) rfl hUN rfl HBB (wa30_stb wl ws wr hl hs hr ha ag ng cg ss ps py ph ap np cp zs at2 sc x h n V w.heap.size (wM.heap.size)) ((Below.refl _ _).alloc (Nat.le_refl _) _) ⟨W.heap.size, rfl, heap_alloc_new W _, Nat.le_trans HBB hI.bel.size⟩)
          · intro lQ b W hI hUN hED KQ hKQ
            refine opw_value (w' := W.alloc (.cells #[.int .i64 0, .int .u64 0, .int .i64 0, .int .i64 0] 37)) (.pointer (some ⟨W.heap.size, 0, none⟩)) (by kernel_rfl) ?_
            exact hKQ.out _ _ (hI.put 19 29 rfl rfl (by rw [hz]; decide) rfl hUN rfl HBB (wa30_stb wl ws wr hl hs hr ha ag ng cg ss ps py ph ap np cp zs at2 sc x h n V w.heap.size (wM.heap.size)) ((Below.refl _ _).alloc (Nat.le_refl _) _) ⟨W.heap.size, rfl, heap_alloc_new W _, Nat.le_trans HBB hI.bel.size⟩)
          · intro lQ b W hI hUN hED KQ hKQ
            obtain ⟨g, fb, hgb, hge⟩ := hI.got1 17 20 (of_decide_eq_true rfl) (edge hED 17 (by kernel_rfl)) hUN rfl
            have f := hI.got 13 (of_decide_eq_true rfl) (edge hED 13 (by kernel_rfl)) rfl
            refine wp_store_row 34 _ _ rfl g #[.int .i64 V.wl, .int .i64 V.ws, .int .u64 V.wr] fb f 34 _ hgb (by kernel_rfl) rfl (by simp [Value.oneCell']) ?_
            have ht := setRow_touch W g #[.int .i64 V.wl, .int .i64 V.ws, .int .u64 V.wr]
            exact hKQ.out _ _ (hI.store 20 (fun j hj => by
                rcases List.mem_singleton.1 hj with rfl
                exact edge hED 17 (by kernel_rfl)) (hI.bel.trans (ht.below hge (Nat.le_trans HBB hI.bel.size))) (wa30_st20 wl ws wr hl hs hr ha ag ng cg ss ps py ph ap np cp zs at2 sc x h n V w.heap.size (wM.heap.size) hgb ht hge) ⟨g, fb, (setRow_heap W g _ _ _ _ hgb), hge⟩)
          · intro lQ b W hI hUN hED KQ hKQ
            obtain ⟨g, fb, hgb, hge⟩ := hI.got1 18 21 (of_decide_eq_true rfl) (edge hED 18 (by kernel_rfl)) hUN rfl
            have f := hI.got 14 (of_decide_eq_true rfl) (edge hED 14 (by kernel_rfl)) rfl
            obtain ⟨a3, c3, f, o_0⟩ := f
            refine wp_store_row 36 _ _ rfl g #[.int .u64 V.ck, .int .i64 V.ca, .slice a3 V.sg.length c3] fb f 36 _ hgb (by kernel_rfl) rfl (by simp [Value.oneCell']) ?_
            have ht := setRow_touch W g #[.int .u64 V.ck, .int .i64 V.ca, .slice a3 V.sg.length c3]
            exact hKQ.out _ _ (hI.store 21 (fun j hj => by
                rcases List.mem_singleton.1 hj with rfl
                exact edge hED 18 (by kernel_rfl)) (hI.bel.trans (ht.below hge (Nat.le_trans HBB hI.bel.size))) (wa30_st21 wl ws wr hl hs hr ha ag ng cg ss ps py ph ap np cp zs at2 sc x h n V w.heap.size (wM.heap.size) hgb ht hge) ⟨g, a3, c3, fb, (setRow_heap W g _ _ _ _ hgb), hge, ⟨ownsRow_box o_0.row hgb (by decide) ht, o_0.byte⟩⟩)
          · intro lQ b W hI hUN hED KQ hKQ
            obtain ⟨g, fb, hgb, hge⟩ := hI.got1 19 22 (of_decide_eq_true rfl) (edge hED 19 (by kernel_rfl)) hUN rfl
            have f := hI.got 15 (of_decide_eq_true rfl) (edge hED 15 (by kernel_rfl)) rfl
            refine wp_store_row 37 _ _ rfl g #[.int .i64 V.t.1, .int .u64 V.t.2.1, .int .i64 V.t.2.2.1, .int .i64 V.t.2.2.2] fb f 37 _ hgb (by kernel_rfl) rfl (by simp [Value.oneCell']) ?_
            have ht := setRow_touch W g #[.int .i64 V.t.1, .int .u64 V.t.2.1, .int .i64 V.t.2.2.1, .int .i64 V.t.2.2.2]
            exact hKQ.out _ _ (hI.store 22 (fun j hj => by
                rcases List.mem_singleton.1 hj with rfl
                exact edge hED 19 (by kernel_rfl)) (hI.bel.trans (ht.below hge (Nat.le_trans HBB hI.bel.size))) (wa30_st22 wl ws wr hl hs hr ha ag ng cg ss ps py ph ap np cp zs at2 sc x h n V w.heap.size (wM.heap.size) hgb ht hge) ⟨g, fb, (setRow_heap W g _ _ _ _ hgb), hge⟩)
          · intro lQ b W hI hUN hED KQ hKQ
            have f := hI.got 16 (of_decide_eq_true rfl) (edge hED 16 (by kernel_rfl)) rfl
            exact opw_assign 164 rfl (hKQ.out _ _ (hI.put 23 30 rfl rfl (by rw [hz]; decide) rfl hUN rfl HBB (wa30_stb wl ws wr hl hs hr ha ag ng cg ss ps py ph ap np cp zs at2 sc x h n V w.heap.size (wM.heap.size)) (Below.refl _ _) f))
        · intro b W hf hb F
          obtain ⟨qw, eW, hW0, hWge⟩ := F 20 (of_decide_eq_true rfl) rfl
          obtain ⟨qc, aq, cq, eC, hC0, hCge, hO⟩ := F 21 (of_decide_eq_true rfl) rfl
          obtain ⟨qs, eS, hS0, hSge⟩ := F 22 (of_decide_eq_true rfl) rfl
          have eK := F 23 (of_decide_eq_true rfl) rfl
          replace eW : aT b 27 = _ := eW
          replace eC : aT b 28 = _ := eC
          replace eS : aT b 29 = _ := eS
          replace eK : aT b 30 = _ := eK
          rw [hf.eq]
          simp only [puts, Act.put, List.setIfInBounds_toArray, List.set_cons_zero, List.set_cons_succ, eW, eC, eS, eK]
          clear hf F
          clear eW eC eS eK
          generalize aT b = AT
          clear b
          obtain ⟨wQ, hWn⟩ : ∃ wQ, wQ = W := ⟨_, rfl⟩
          subst hWn
          have HL : Hid (Bxs [(w.heap.size, #[.int .i64 wl, .int .i64 ws, .int .u64 wr], 24), (w.heap.size + 1, #[.int .i64 hl, .int .i64 hs, .int .u64 hr, .int .i64 ha, .slice ag ng cg], 27), (w.heap.size + 1 + 1, #[.int .i64 ps, .int .u64 py, .int .i64 ph], 30), (w.heap.size + 1 + 1 + 1, #[.int .i64 sc, .int .u64 x, .int .i64 h, .int .i64 n], 32), (gw, #[.int .i64 V.wl, .int .i64 V.ws, .int .u64 V.wr], 34), (gc, #[.int .u64 V.ck, .int .i64 V.ca, .slice aw V.sg.length cw], 36), (gs, #[.int .i64 V.t.1, .int .u64 V.t.2.1, .int .i64 V.t.2.2.1, .int .i64 V.t.2.2.2], 37), (w4.heap.size, #[.int .i64 hl, .int .i64 hs, .int .u64 hr, .int .i64 ha, .slice ax ng ng], 41), (hw, #[.int .i64 V.wl, .int .i64 V.ws, .int .u64 V.wr], 34), (hc, #[.int .u64 V.ck, .int .i64 V.ca, .slice ai V.sg.length ci], 36), (hs2, #[.int .i64 V.t.1, .int .u64 V.t.2.1, .int .i64 V.t.2.2.1, .int .i64 V.t.2.2.2], 37), (qw, #[.int .i64 V.wl, .int .i64 V.ws, .int .u64 V.wr], 34), (qc, #[.int .u64 V.ck, .int .i64 V.ca, .slice aq V.sg.length cq], 36), (qs, #[.int .i64 V.t.1, .int .u64 V.t.2.1, .int .i64 V.t.2.2.1, .int .i64 V.t.2.2.2], 37)] wQ) := by
            refine ⟨fun p hp => ?_⟩
            have h1 := HL.out.kept hb
            simp only [List.mem_cons, List.not_mem_nil, or_false] at hp
            rcases hp with rfl | rfl | rfl | rfl | rfl | rfl | rfl | rfl | rfl | rfl | rfl | rfl | rfl | rfl
            all_goals first | exact hW0 | exact hC0 | exact hS0 | exact h1.all _ (by simp)
          have hOq := hO.toRow
          have HRI : Hid (_) := HRS.out.kept hb
          have HMM : Hid (_) := HM.out.kept hb
          clear hW0 hC0 hS0 hO hWge hCge hSge
          obtain ⟨x0, x1, x2⟩ := cells3w (HL.out.all (qw, #[.int .i64 V.wl, .int .i64 V.ws, .int .u64 V.wr], 34) (by simp))
          obtain ⟨y0, y1, y2⟩ := cells3w (HL.out.all (gw, #[.int .i64 V.wl, .int .i64 V.ws, .int .u64 V.wr], 34) (by simp))
          go_wp2_with fail
          refine (eqWatcher_same V.wl V.ws V.wr _).mono ?_
          rintro e wRa ⟨rfl, hwRa⟩
          clear x0 x1 x2 y0 y1 y2
          have HZ : Hid (_) := HL.out.kept hwRa
          obtain ⟨x0, x1, x2⟩ := cells3w (HZ.out.all (qc, #[.int .u64 V.ck, .int .i64 V.ca, .slice aq V.sg.length cq], 36) (by simp))
          obtain ⟨y0, y1, y2⟩ := cells3w (HZ.out.all (gc, #[.int .u64 V.ck, .int .i64 V.ca, .slice aw V.sg.length cw], 36) (by simp))
          go_wp2_with fail
          refine (eqCosig_same V.ck V.ca V.sg aq aw V.sg.length cq cw _ (hOq.kept hwRa) (HRI.out.kept hwRa) (by unfold maxLen; omega)).mono ?_
          rintro e wRb ⟨rfl, hwRb⟩
          clear x0 x1 x2 y0 y1 y2 HZ
          have hwRab := keepT hwRa hwRb
          have HZ : Hid (_) := HL.out.kept hwRab
          obtain ⟨x0, x1, x2, x3⟩ := cells4 (HZ.out.all (qs, #[.int .i64 V.t.1, .int .u64 V.t.2.1, .int .i64 V.t.2.2.1, .int .i64 V.t.2.2.2], 37) (by simp))
          obtain ⟨y0, y1, y2, y3⟩ := cells4 (HZ.out.all (gs, #[.int .i64 V.t.1, .int .u64 V.t.2.1, .int .i64 V.t.2.2.1, .int .i64 V.t.2.2.2], 37) (by simp))
          go_wp2_with fail
          refine (eqSecret_same V.t _).mono ?_
          rintro e wR ⟨rfl, hwRc⟩
          clear x0 x1 x2 x3 y0 y1 y2 y3 HZ
          have hwR := keepT hwRab hwRc
          clear hwRa hwRb hwRab hwRc
          obtain ⟨x0, x1, x2⟩ := cells3w ((HL.out.kept hwR).all (hc, #[.int .u64 V.ck, .int .i64 V.ca, .slice ai V.sg.length ci], 36) (by simp))
          go_wp2_with fail
          refine (heldCosig_any V.ck V.ca ai V.sg.length ci 1 _ (HMM.out.kept hwR) (by omega) (by decide) (by decide)).mono ?_
          rintro e wS ⟨rfl, hwS⟩
          clear x0 x1 x2
          go_wp2
          go_ret
          exact ⟨rfl, keepT hc0 (keepT hb (keepT hwR hwS))⟩
end Go.Proofs.YtmoekmonkpihhaaGreat

namespace Go.Proofs.YtmoekmonkpihhaaGreat
open Go.RowKit

theorem lawWatch_all (wl ws wr hl hs hr ha : Int) (ag : Option Addr) (ng cg : Nat) (ss : List Int) (ap : Option Addr) (np cp : Nat) (zs : List Int) (ps py ph at2 sc x h n : Int) (w : World)
    (hwr : U64 wr) (hhr : U64 hr) (hpy : U64 py) (hx : U64 x) (hhl : -9223372036854775808 ≤ hl ∧ hl ≤ 9223372036854775807) (hhs : -9223372036854775808 ≤ hs ∧ hs ≤ 9223372036854775807) (hat : -9223372036854775808 ≤ at2 ∧ at2 ≤ 9223372036854775807) (hg : Row w ag ng ss) (hgm : ng ≤ 9223372036854775807) (hp : RowU w ap np zs) (hpm : np ≤ 9223372036854775807) :
    Calls Tryz.prog 3 #[.agg #[.int .i64 wl, .int .i64 ws, .int .u64 wr], .agg #[.int .i64 hl, .int .i64 hs, .int .u64 hr, .int .i64 ha, .slice ag ng cg], .slice ap np cp, .agg #[.int .i64 ps, .int .u64 py, .int .i64 ph], .int .i64 at2, .agg #[.int .i64 sc, .int .u64 x, .int .i64 h, .int .i64 n]] w fun e w' => e = .returned (.bool true) ∧ Below w.heap.size w w' :=
  lawWatch_walk (fun seed h next am n c bs w hx hr hn => specTreeSign_any seed h next am n c bs w hx hr hn) wl ws wr hl hs hr ha ag ng cg ss ap np cp zs ps py ph at2 sc x h n w hwr hhr hpy hx hhl hhs hat hg hgm hp hpm

end Go.Proofs.YtmoekmonkpihhaaGreat

