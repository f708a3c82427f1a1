import Derived.Test.YtgbjleapaioemaaGreatMMb
set_option linter.unusedVariables false
namespace Go.Proofs.YtgbjleapaioemaaGreat
open Go.RowKit Go.Sort

theorem smR_none (B : Nat) (w : World) : SmR B w [] [] [] none 0 0 none 0 0 none 0 0 [] := ⟨own_none _ _, ownG_none _ _, rfl, ownSe_none _ _, fun _ _ hj => absurd hj (Nat.not_lt_zero _)⟩
/-- What the loop keeps. -/
structure SmI (B gm : Nat) (w wr : World) (ac : Option Addr) (nn cc : Nat) (ws : List Int) (Ag : Option Addr) (k cg : Nat) (ps : List Gq) (Ad : Option Addr) (cd2 : Nat) (ts : List Sc4) : Prop where
  box : wr.heap[gm]? = some (.cells #[.slice ac nn cc, .slice Ag k cg] 27 (0, 0))
  res : wr.heap[B]? = some (.cells #[.slice none 0 0, .slice none 0 0] 27 (0, 0))
  own : SmR B wr ws (gsOf ps) ts ac nn cc Ag k cg Ad k cd2 ps
  bel : Below B w wr
theorem Tryz.infoSx : (Tryz.prog.info? 45).map (fun i => (i.zero, i.size, i.bytes)) = some (some (.agg #[.int .i64 0, .int .u64 0, .int .i64 0, .int .i64 0]), 4, 32) := by kernel_rfl

/-- What is known of a region (RJ). -/
def y2 (cd : Int) (G B : Nat) : RSpec where
  m := 4
  n := 5
  slots := [29, 100001, 7, 8, 100004]
  kills := [[], [], [], [], [1]]
  pres := [[], [], [], [], []]
  fact := fun k v w => match k with
    | 0 => v = .agg #[.slice none 0 0, .slice none 0 0]
    | 1 => w.heap[G]? = some (.cells #[.slice none 0 0, .slice none 0 0] 27 (0, 0))
    | 2 => v = .slice none 0 0
    | 3 => v = .int .i64 1
    | _ => w.heap[G]? = some (.cells #[.slice none 0 0, .slice none 0 0] 27 (0, 0))
set_option linter.unusedVariables false in
theorem y2_stb (cd : Int) (G B : Nat) (k : Nat) (hk : k < 5) : StB ((y2 cd G (B)).fact k) := by
  match k, hk with
  | 0, _ => exact fun _ _ _ h _ => h
  | 1, _ => exact fun _ _ _ q_0 hb => below_kept q_0 hb
  | 2, _ => exact fun _ _ _ h _ => h
  | 3, _ => exact fun _ _ _ h _ => h
  | 4, _ => exact fun _ _ _ q_0 hb => below_kept q_0 hb
  | k + 5, hk => omega
set_option linter.unusedVariables false in
theorem y2_st1 (cd : Int) (G B : Nat) {W W2 : World} {cs : Array Value} {fr : Nat × Nat} (hg : W.heap[G]? = some (.cells cs 27 fr)) (ht : Touch (G) (G + 1) W W2) (k : Nat) (hk : k < 5) (hne : k ≠ 1) (hkill : 1 ∉ (y2 cd G (B)).kill k) (v : Value) (hfact : (y2 cd G (B)).fact k v W) : (y2 cd G (B)).fact k v W2 := by
  match k, hk, hne, hkill, hfact with
  | 0, _, _, _, hq => exact hq
  | 1, _, hne, _, _ => exact absurd rfl hne
  | 2, _, _, _, hq => exact hq
  | 3, _, _, _, hq => exact hq
  | 4, _, _, hkill, _ => exact absurd (List.Mem.head _) hkill
  | k + 5, hk, _, _, _ => omega
/-- What is known of a region (RJ). -/
def y10 (cd : Int) (G B : Nat) : RSpec where
  m := 5
  n := 6
  slots := [49, 50, 100002, 7, 8, 100005]
  kills := [[], [], [], [], [], [2]]
  pres := [[], [], [], [], [], []]
  fact := fun k v w => match k with
    | 0 => v = .agg #[.slice none 0 0, .slice none 0 0]
    | 1 => v = .int .i64 cd
    | 2 => w.heap[G]? = some (.cells #[.slice none 0 0, .slice none 0 0] 27 (0, 0))
    | 3 => v = .slice none 0 0
    | 4 => v = .int .i64 cd
    | _ => w.heap[G]? = some (.cells #[.slice none 0 0, .slice none 0 0] 27 (0, 0))
set_option linter.unusedVariables false in
theorem y10_stb (cd : Int) (G B : Nat) (k : Nat) (hk : k < 6) : StB ((y10 cd G (B)).fact k) := by
  match k, hk with
  | 0, _ => exact fun _ _ _ h _ => h
  | 1, _ => exact fun _ _ _ h _ => h
  | 2, _ => exact fun _ _ _ q_0 hb => below_kept q_0 hb
  | 3, _ => exact fun _ _ _ h _ => h
  | 4, _ => exact fun _ _ _ h _ => h
  | 5, _ => exact fun _ _ _ q_0 hb => below_kept q_0 hb
  | k + 6, hk => omega
set_option linter.unusedVariables false in
theorem y10_st2 (cd : Int) (G B : Nat) {W W2 : World} {cs : Array Value} {fr : Nat × Nat} (hg : W.heap[G]? = some (.cells cs 27 fr)) (ht : Touch (G) (G + 1) W W2) (k : Nat) (hk : k < 6) (hne : k ≠ 2) (hkill : 2 ∉ (y10 cd G (B)).kill k) (v : Value) (hfact : (y10 cd G (B)).fact k v W) : (y10 cd G (B)).fact k v W2 := by
  match k, hk, hne, hkill, hfact with
  | 0, _, _, _, hq => exact hq
  | 1, _, _, _, hq => exact hq
  | 2, _, hne, _, _ => exact absurd rfl hne
  | 3, _, _, _, hq => exact hq
  | 4, _, _, _, hq => exact hq
  | 5, _, _, hkill, _ => exact absurd (List.Mem.head _) hkill
  | k + 6, hk, _, _, _ => omega
/-- What is known of a region (RJ). -/
def m8 (am : Option Addr) (nn c : Nat) (at2 : Int) (s : Sc4) (V1 : NsV) (gy B : Nat) : RSpec where
  m := 13
  n := 14
  slots := [40, 41, 42, 43, 39, 44, 45, 46, 13, 14, 13, 14, 15, 100013]
  kills := [[], [], [], [], [], [], [], [], [10], [11], [], [], [], []]
  pres := [[], [], [], [], [], [], [], [], [], [], [8], [9], [], []]
  fact := fun k v w => match k with
    | 0 => v = .slice am nn c
    | 1 => v = .int .i64 at2
    | 2 => v = .agg #[.int .i64 s.1, .int .u64 s.2.1, .int .i64 s.2.2.1, .int .i64 s.2.2.2]
    | 3 => ∃ a2 c2, v = .tuple #[.agg #[.int .u64 V1.k, .int .i64 V1.at2, .slice a2 V1.sg.length c2, .slice none 0 0], .agg #[.int .i64 V1.t.1, .int .u64 V1.t.2.1, .int .i64 V1.t.2.2.1, .int .i64 V1.t.2.2.2], .int .i64 V1.cd] ∧ Own B w a2 V1.sg.length c2 V1.sg
    | 4 => ∃ a2 c2, v = .tuple #[.agg #[.int .u64 V1.k, .int .i64 V1.at2, .slice a2 V1.sg.length c2, .slice none 0 0], .agg #[.int .i64 V1.t.1, .int .u64 V1.t.2.1, .int .i64 V1.t.2.2.1, .int .i64 V1.t.2.2.2], .int .i64 V1.cd] ∧ Own B w a2 V1.sg.length c2 V1.sg
    | 5 => ∃ a2 c2, v = .agg #[.int .u64 V1.k, .int .i64 V1.at2, .slice a2 V1.sg.length c2, .slice none 0 0] ∧ Own B w a2 V1.sg.length c2 V1.sg
    | 6 => v = .agg #[.int .i64 V1.t.1, .int .u64 V1.t.2.1, .int .i64 V1.t.2.2.1, .int .i64 V1.t.2.2.2]
    | 7 => v = .int .i64 V1.cd
    | 8 => ∃ gb8, v = .pointer (some ⟨gb8, 0, none⟩) ∧ w.heap[gb8]? = some (.cells #[.int .u64 0, .int .i64 0, .slice none 0 0, .slice none 0 0] 43 (0, 0)) ∧ B ≤ gb8
    | 9 => ∃ gb9, v = .pointer (some ⟨gb9, 0, none⟩) ∧ w.heap[gb9]? = some (.cells #[.int .i64 0, .int .u64 0, .int .i64 0, .int .i64 0] 45 (0, 0)) ∧ B ≤ gb9
    | 10 => ∃ gs10 a2 c2, v = .pointer (some ⟨gs10, 0, none⟩) ∧ w.heap[gs10]? = some (.cells #[.int .u64 V1.k, .int .i64 V1.at2, .slice a2 V1.sg.length c2, .slice none 0 0] 43 (0, 0)) ∧ B ≤ gs10 ∧ Own B w a2 V1.sg.length c2 V1.sg
    | 11 => ∃ gs11, v = .pointer (some ⟨gs11, 0, none⟩) ∧ w.heap[gs11]? = some (.cells #[.int .i64 V1.t.1, .int .u64 V1.t.2.1, .int .i64 V1.t.2.2.1, .int .i64 V1.t.2.2.2] 45 (0, 0)) ∧ B ≤ gs11
    | 12 => v = .int .i64 V1.cd
    | _ => w.heap[gy]? = some (.cells #[.int .i64 s.1, .int .u64 s.2.1, .int .i64 s.2.2.1, .int .i64 s.2.2.2] 45 (0, 0)) ∧ gy < B
set_option linter.unusedVariables false in
theorem m8_stb (am : Option Addr) (nn c : Nat) (at2 : Int) (s : Sc4) (V1 : NsV) (gy B : Nat) (k : Nat) (hk : k < 14) : StB ((m8 am nn c at2 s V1 gy (B)).fact k) := by
  match k, hk with
  | 0, _ => exact fun _ _ _ h _ => h
  | 1, _ => exact fun _ _ _ h _ => h
  | 2, _ => exact fun _ _ _ h _ => h
  | 3, _ => exact fun _ _ _ ⟨a2, c2, hv, q_0⟩ hb => ⟨a2, c2, hv, q_0.kept hb⟩
  | 4, _ => exact fun _ _ _ ⟨a2, c2, hv, q_0⟩ hb => ⟨a2, c2, hv, q_0.kept hb⟩
  | 5, _ => exact fun _ _ _ ⟨a2, c2, hv, q_0⟩ hb => ⟨a2, c2, hv, q_0.kept hb⟩
  | 6, _ => exact fun _ _ _ h _ => h
  | 7, _ => exact fun _ _ _ h _ => h
  | 8, _ => exact fun _ _ _ ⟨gb8, hv, q_0, q_1⟩ hb => ⟨gb8, hv, below_kept q_0 hb, q_1⟩
  | 9, _ => exact fun _ _ _ ⟨gb9, hv, q_0, q_1⟩ hb => ⟨gb9, hv, below_kept q_0 hb, q_1⟩
  | 10, _ => exact fun _ _ _ ⟨gs10, a2, c2, hv, q_0, q_1, q_2⟩ hb => ⟨gs10, a2, c2, hv, below_kept q_0 hb, q_1, q_2.kept hb⟩
  | 11, _ => exact fun _ _ _ ⟨gs11, hv, q_0, q_1⟩ hb => ⟨gs11, hv, below_kept q_0 hb, q_1⟩
  | 12, _ => exact fun _ _ _ h _ => h
  | 13, _ => exact fun _ _ _ ⟨q_0, q_1⟩ hb => ⟨below_kept q_0 hb, q_1⟩
  | k + 14, hk => omega
set_option linter.unusedVariables false in
theorem m8_st10 (am : Option Addr) (nn c : Nat) (at2 : Int) (s : Sc4) (V1 : NsV) (gy B : Nat) {W W2 : World} {g : Nat} {cs : Array Value} {fr : Nat × Nat} (hg : W.heap[g]? = some (.cells cs 43 fr)) (ht : Touch (g) (g + 1) W W2) (hge : B ≤ g) (k : Nat) (hk : k < 14) (hne : k ≠ 10) (hkill : 10 ∉ (m8 am nn c at2 s V1 gy (B)).kill k) (v : Value) (hfact : (m8 am nn c at2 s V1 gy (B)).fact k v W) : (m8 am nn c at2 s V1 gy (B)).fact k v W2 := by
  match k, hk, hne, hkill, hfact with
  | 0, _, _, _, hq => exact hq
  | 1, _, _, _, hq => exact hq
  | 2, _, _, _, hq => exact hq
  | 3, _, _, _, ⟨a2, c2, hv, q_0⟩ => exact ⟨a2, c2, hv, ⟨ownsRow_box q_0.row hg (by decide) ht, q_0.byte⟩⟩
  | 4, _, _, _, ⟨a2, c2, hv, q_0⟩ => exact ⟨a2, c2, hv, ⟨ownsRow_box q_0.row hg (by decide) ht, q_0.byte⟩⟩
  | 5, _, _, _, ⟨a2, c2, hv, q_0⟩ => exact ⟨a2, c2, hv, ⟨ownsRow_box q_0.row hg (by decide) ht, q_0.byte⟩⟩
  | 6, _, _, _, hq => exact hq
  | 7, _, _, _, hq => exact hq
  | 8, _, _, hkill, _ => exact absurd (List.Mem.head _) hkill
  | 9, _, _, _, ⟨gb9, hv, q_0, q_1⟩ => exact ⟨gb9, hv, box_box q_0 hg (by decide) ht, q_1⟩
  | 10, _, hne, _, _ => exact absurd rfl hne
  | 11, _, _, _, ⟨gs11, hv, q_0, q_1⟩ => exact ⟨gs11, hv, box_box q_0 hg (by decide) ht, q_1⟩
  | 12, _, _, _, hq => exact hq
  | 13, _, _, _, ⟨q_0, q_1⟩ => exact ⟨box_box q_0 hg (by decide) ht, q_1⟩
  | k + 14, hk, _, _, _ => omega
set_option linter.unusedVariables false in
theorem m8_st11 (am : Option Addr) (nn c : Nat) (at2 : Int) (s : Sc4) (V1 : NsV) (gy B : Nat) {W W2 : World} {g : Nat} {cs : Array Value} {fr : Nat × Nat} (hg : W.heap[g]? = some (.cells cs 45 fr)) (ht : Touch (g) (g + 1) W W2) (hge : B ≤ g) (k : Nat) (hk : k < 14) (hne : k ≠ 11) (hkill : 11 ∉ (m8 am nn c at2 s V1 gy (B)).kill k) (v : Value) (hfact : (m8 am nn c at2 s V1 gy (B)).fact k v W) : (m8 am nn c at2 s V1 gy (B)).fact k v W2 := by
  match k, hk, hne, hkill, hfact with
  | 0, _, _, _, hq => exact hq
  | 1, _, _, _, hq => exact hq
  | 2, _, _, _, hq => exact hq
  | 3, _, _, _, ⟨a2, c2, hv, q_0⟩ => exact ⟨a2, c2, hv, ⟨ownsRow_box q_0.row hg (by decide) ht, q_0.byte⟩⟩
  | 4, _, _, _, ⟨a2, c2, hv, q_0⟩ => exact ⟨a2, c2, hv, ⟨ownsRow_box q_0.row hg (by decide) ht, q_0.byte⟩⟩
  | 5, _, _, _, ⟨a2, c2, hv, q_0⟩ => exact ⟨a2, c2, hv, ⟨ownsRow_box q_0.row hg (by decide) ht, q_0.byte⟩⟩
  | 6, _, _, _, hq => exact hq
  | 7, _, _, _, hq => exact hq
  | 8, _, _, _, ⟨gb8, hv, q_0, q_1⟩ => exact ⟨gb8, hv, box_box q_0 hg (by decide) ht, q_1⟩
  | 9, _, _, hkill, _ => exact absurd (List.Mem.head _) hkill
  | 10, _, _, _, ⟨gs10, a2, c2, hv, q_0, q_1, q_2⟩ => exact ⟨gs10, a2, c2, hv, box_box q_0 hg (by decide) ht, q_1, ⟨ownsRow_box q_2.row hg (by decide) ht, q_2.byte⟩⟩
  | 11, _, hne, _, _ => exact absurd rfl hne
  | 12, _, _, _, hq => exact hq
  | 13, _, _, _, ⟨q_0, q_1⟩ => exact ⟨(ht.block _ (Array.getElem?_eq_some_iff.1 q_0).1 (by omega)).trans q_0, q_1⟩
  | k + 14, hk, _, _, _ => omega
/-- What is known of a region (RJ). -/
def m11 (ac : Option Addr) (nn cc : Nat) (ws : List Int) (Ag : Option Addr) (k0 cg : Nat) (ps : List Gq) (Ad : Option Addr) (cd2 : Nat) (ts : List Sc4) (V1 : NsV) (a2 : Option Addr) (c2 gm gq gt G0 B : Nat) : RSpec where
  m := 12
  n := 21
  slots := [51, 52, 53, 54, 55, 56, 57, 58, 59, 60, 100010, 10, 100012, 100013, 100014, 100015, 100016, 100017, 100018, 10, 100020]
  kills := [[], [], [], [4], [], [], [], [8], [], [], [], [], [10], [4], [8], [4], [8], [], [], [11], []]
  pres := [[], [], [], [2], [1, 3], [], [], [6], [5, 7], [], [4], [8], [], [], [], [], [], [], [], [], []]
  fact := fun k v w => match k with
    | 0 => v = .pointer (some ⟨gm, 1, none⟩)
    | 1 => v = .slice Ag k0 cg
    | 2 => v = .agg #[.int .u64 V1.k, .int .i64 V1.at2, .slice a2 V1.sg.length c2, .slice none 0 0]
    | 3 => ∃ gk, v = .slice (some ⟨gk, 0, none⟩) 1 1 ∧ w.heap[gk]? = some (.cells #[.int .u64 V1.k, .int .i64 V1.at2, .slice a2 V1.sg.length c2, .slice none 0 0] 43 (0, 0))
    | 4 => ∃ a' c', v = .slice a' (k0 + 1) c' ∧ OwnG B w a' (k0 + 1) c' (ps ++ [((a2, V1.sg.length, c2), sgOf V1)])
    | 5 => v = .slice Ad k0 cd2
    | 6 => v = .agg #[.int .i64 V1.t.1, .int .u64 V1.t.2.1, .int .i64 V1.t.2.2.1, .int .i64 V1.t.2.2.2]
    | 7 => ∃ gk, v = .slice (some ⟨gk, 0, none⟩) 1 1 ∧ w.heap[gk]? = some (.cells #[.int .i64 V1.t.1, .int .u64 V1.t.2.1, .int .i64 V1.t.2.2.1, .int .i64 V1.t.2.2.2] 45 (0, 0))
    | 8 => ∃ a' c', v = .slice a' (k0 + 1) c' ∧ OwnSe B w a' (k0 + 1) c' (ts ++ [V1.t])
    | 9 => v = .pointer (some ⟨gm, 1, none⟩)
    | 10 => ∃ a' c', w.heap[gm]? = some (.cells #[.slice ac nn cc, .slice a' (k0 + 1) c'] 27 (0, 0)) ∧ OwnG B w a' (k0 + 1) c' (ps ++ [((a2, V1.sg.length, c2), sgOf V1)])
    | 11 => ∃ a' c', v = .slice a' (k0 + 1) c' ∧ OwnSe B w a' (k0 + 1) c' (ts ++ [V1.t])
    | 12 => w.heap[gm]? = some (.cells #[.slice ac nn cc, .slice Ag k0 cg] 27 (0, 0))
    | 13 => w.heap[gq]? = some (.cells #[.int .u64 V1.k, .int .i64 V1.at2, .slice a2 V1.sg.length c2, .slice none 0 0] 43 (0, 0))
    | 14 => w.heap[gt]? = some (.cells #[.int .i64 V1.t.1, .int .u64 V1.t.2.1, .int .i64 V1.t.2.2.1, .int .i64 V1.t.2.2.2] 45 (0, 0))
    | 15 => OwnG B w Ag k0 cg ps
    | 16 => OwnSe B w Ad k0 cd2 ts
    | 17 => Own B w a2 V1.sg.length c2 V1.sg
    | 18 => Own B w ac nn cc ws
    | 19 => v = .slice Ad k0 cd2
    | _ => w.heap[G0]? = some (.cells #[.slice none 0 0, .slice none 0 0] 27 (0, 0)) ∧ G0 ≠ gm
set_option linter.unusedVariables false in
theorem m11_stb (ac : Option Addr) (nn cc : Nat) (ws : List Int) (Ag : Option Addr) (k0 cg : Nat) (ps : List Gq) (Ad : Option Addr) (cd2 : Nat) (ts : List Sc4) (V1 : NsV) (a2 : Option Addr) (c2 gm gq gt G0 B : Nat) (k : Nat) (hk : k < 21) : StB ((m11 ac nn cc ws Ag k0 cg ps Ad cd2 ts V1 a2 c2 gm gq gt G0 (B)).fact k) := by
  match k, hk with
  | 0, _ => exact fun _ _ _ h _ => h
  | 1, _ => exact fun _ _ _ h _ => h
  | 2, _ => exact fun _ _ _ h _ => h
  | 3, _ => exact fun _ _ _ ⟨gk, hv, q_0⟩ hb => ⟨gk, hv, below_kept q_0 hb⟩
  | 4, _ => exact fun _ _ _ ⟨a', c', hv, q_0⟩ hb => ⟨a', c', hv, q_0.kept hb⟩
  | 5, _ => exact fun _ _ _ h _ => h
  | 6, _ => exact fun _ _ _ h _ => h
  | 7, _ => exact fun _ _ _ ⟨gk, hv, q_0⟩ hb => ⟨gk, hv, below_kept q_0 hb⟩
  | 8, _ => exact fun _ _ _ ⟨a', c', hv, q_0⟩ hb => ⟨a', c', hv, q_0.kept hb⟩
  | 9, _ => exact fun _ _ _ h _ => h
  | 10, _ => exact fun _ _ _ ⟨a', c', q_0, q_1⟩ hb => ⟨a', c', below_kept q_0 hb, q_1.kept hb⟩
  | 11, _ => exact fun _ _ _ ⟨a', c', hv, q_0⟩ hb => ⟨a', c', hv, q_0.kept hb⟩
  | 12, _ => exact fun _ _ _ q_0 hb => below_kept q_0 hb
  | 13, _ => exact fun _ _ _ q_0 hb => below_kept q_0 hb
  | 14, _ => exact fun _ _ _ q_0 hb => below_kept q_0 hb
  | 15, _ => exact fun _ _ _ q_0 hb => q_0.kept hb
  | 16, _ => exact fun _ _ _ q_0 hb => q_0.kept hb
  | 17, _ => exact fun _ _ _ q_0 hb => q_0.kept hb
  | 18, _ => exact fun _ _ _ q_0 hb => q_0.kept hb
  | 19, _ => exact fun _ _ _ h _ => h
  | 20, _ => exact fun _ _ _ ⟨q_0, q_1⟩ hb => ⟨below_kept q_0 hb, q_1⟩
  | k + 21, hk => omega
set_option linter.unusedVariables false in
theorem m11_st10 (ac : Option Addr) (nn cc : Nat) (ws : List Int) (Ag : Option Addr) (k0 cg : Nat) (ps : List Gq) (Ad : Option Addr) (cd2 : Nat) (ts : List Sc4) (V1 : NsV) (a2 : Option Addr) (c2 gm gq gt G0 B : Nat) {W W2 : World} {cs : Array Value} {fr : Nat × Nat} (hg : W.heap[gm]? = some (.cells cs 27 fr)) (ht : Touch (gm) (gm + 1) W W2) (k : Nat) (hk : k < 21) (hne : k ≠ 10) (hkill : 10 ∉ (m11 ac nn cc ws Ag k0 cg ps Ad cd2 ts V1 a2 c2 gm gq gt G0 (B)).kill k) (v : Value) (hfact : (m11 ac nn cc ws Ag k0 cg ps Ad cd2 ts V1 a2 c2 gm gq gt G0 (B)).fact k v W) : (m11 ac nn cc ws Ag k0 cg ps Ad cd2 ts V1 a2 c2 gm gq gt G0 (B)).fact k v W2 := by
  match k, hk, hne, hkill, hfact with
  | 0, _, _, _, hq => exact hq
  | 1, _, _, _, hq => exact hq
  | 2, _, _, _, hq => exact hq
  | 3, _, _, _, ⟨gk, hv, q_0⟩ => exact ⟨gk, hv, box_box q_0 hg (by decide) ht⟩
  | 4, _, _, _, ⟨a', c', hv, q_0⟩ => exact ⟨a', c', hv, q_0.touched hg (by decide) (by decide) ht⟩
  | 5, _, _, _, hq => exact hq
  | 6, _, _, _, hq => exact hq
  | 7, _, _, _, ⟨gk, hv, q_0⟩ => exact ⟨gk, hv, box_box q_0 hg (by decide) ht⟩
  | 8, _, _, _, ⟨a', c', hv, q_0⟩ => exact ⟨a', c', hv, q_0.touched hg (by decide) (by decide) ht⟩
  | 9, _, _, _, hq => exact hq
  | 10, _, hne, _, _ => exact absurd rfl hne
  | 11, _, _, _, ⟨a', c', hv, q_0⟩ => exact ⟨a', c', hv, q_0.touched hg (by decide) (by decide) ht⟩
  | 12, _, _, hkill, _ => exact absurd (List.Mem.head _) hkill
  | 13, _, _, _, q_0 => exact box_box q_0 hg (by decide) ht
  | 14, _, _, _, q_0 => exact box_box q_0 hg (by decide) ht
  | 15, _, _, _, q_0 => exact q_0.touched hg (by decide) (by decide) ht
  | 16, _, _, _, q_0 => exact q_0.touched hg (by decide) (by decide) ht
  | 17, _, _, _, q_0 => exact ⟨ownsRow_box q_0.row hg (by decide) ht, q_0.byte⟩
  | 18, _, _, _, q_0 => exact ⟨ownsRow_box q_0.row hg (by decide) ht, q_0.byte⟩
  | 19, _, _, _, hq => exact hq
  | 20, _, _, _, ⟨q_0, q_1⟩ => exact ⟨(ht.block _ (Array.getElem?_eq_some_iff.1 q_0).1 (by omega)).trans q_0, q_1⟩
  | k + 21, hk, _, _, _ => omega
set_option linter.unusedVariables false in
theorem m11_t4 (ac : Option Addr) (nn cc : Nat) (ws : List Int) (Ag : Option Addr) (k0 cg : Nat) (ps : List Gq) (Ad : Option Addr) (cd2 : Nat) (ts : List Sc4) (V1 : NsV) (a2 : Option Addr) (c2 gm gq gt G0 B : Nat) {W W2 : World} {v0 : Value} {m0 : Nat} {vs0 : List Value} (hg : W.grownBy W2 v0.ownBlock) (ho : W.ownsRow B 43 4 v0 m0 vs0) {lq : Nat → Bool} (ll : lq 10 = false) (k : Nat) (hk : k < 21) (hne : k ≠ 4) (hl : lq k = true) (hkill : ∀ j ∈ (m11 ac nn cc ws Ag k0 cg ps Ad cd2 ts V1 a2 c2 gm gq gt G0 (B)).kill k, upd lq 4 j = false) (v : Value) (hfact : (m11 ac nn cc ws Ag k0 cg ps Ad cd2 ts V1 a2 c2 gm gq gt G0 (B)).fact k v W) : (m11 ac nn cc ws Ag k0 cg ps Ad cd2 ts V1 a2 c2 gm gq gt G0 (B)).fact k v W2 := by
  match k, hk, hne, hl, hkill, hfact with
  | 0, _, _, _, _, hq => exact hq
  | 1, _, _, _, _, hq => exact hq
  | 2, _, _, _, _, hq => exact hq
  | 3, _, _, _, hkill, _ => exact absurd (hkill 4 (List.Mem.head _)) (by rw [upd_same]; decide)
  | 4, _, hne, _, _, _ => exact absurd rfl hne
  | 5, _, _, _, _, hq => exact hq
  | 6, _, _, _, _, hq => exact hq
  | 7, _, _, _, _, ⟨gk, hv, q_0⟩ => exact ⟨gk, hv, box_grown q_0 hg ho (by decide)⟩
  | 8, _, _, _, _, ⟨a', c', hv, q_0⟩ => exact ⟨a', c', hv, q_0.grown hg ho (by decide) (by decide)⟩
  | 9, _, _, _, _, hq => exact hq
  | 10, _, _, hl, _, _ => exact absurd hl (by rw [ll]; decide)
  | 11, _, _, _, _, ⟨a', c', hv, q_0⟩ => exact ⟨a', c', hv, q_0.grown hg ho (by decide) (by decide)⟩
  | 12, _, _, _, _, q_0 => exact box_grown q_0 hg ho (by decide)
  | 13, _, _, _, hkill, _ => exact absurd (hkill 4 (List.Mem.head _)) (by rw [upd_same]; decide)
  | 14, _, _, _, _, q_0 => exact box_grown q_0 hg ho (by decide)
  | 15, _, _, _, hkill, _ => exact absurd (hkill 4 (List.Mem.head _)) (by rw [upd_same]; decide)
  | 16, _, _, _, _, q_0 => exact q_0.grown hg ho (by decide) (by decide)
  | 17, _, _, _, _, q_0 => exact ⟨q_0.row.kept hg (blocks_apartR q_0.row ho (by decide)), q_0.byte⟩
  | 18, _, _, _, _, q_0 => exact ⟨q_0.row.kept hg (blocks_apartR q_0.row ho (by decide)), q_0.byte⟩
  | 19, _, _, _, _, hq => exact hq
  | 20, _, _, _, _, ⟨q_0, q_1⟩ => exact ⟨box_grown q_0 hg ho (by decide), q_1⟩
  | k + 21, hk, _, _, _, _ => omega
set_option linter.unusedVariables false in
theorem m11_t8 (ac : Option Addr) (nn cc : Nat) (ws : List Int) (Ag : Option Addr) (k0 cg : Nat) (ps : List Gq) (Ad : Option Addr) (cd2 : Nat) (ts : List Sc4) (V1 : NsV) (a2 : Option Addr) (c2 gm gq gt G0 B : Nat) {W W2 : World} {v0 : Value} {m0 : Nat} {vs0 : List Value} (hg : W.grownBy W2 v0.ownBlock) (ho : W.ownsRow B 45 4 v0 m0 vs0) {lq : Nat → Bool} (ll : lq 11 = false) (k : Nat) (hk : k < 21) (hne : k ≠ 8) (hl : lq k = true) (hkill : ∀ j ∈ (m11 ac nn cc ws Ag k0 cg ps Ad cd2 ts V1 a2 c2 gm gq gt G0 (B)).kill k, upd lq 8 j = false) (v : Value) (hfact : (m11 ac nn cc ws Ag k0 cg ps Ad cd2 ts V1 a2 c2 gm gq gt G0 (B)).fact k v W) : (m11 ac nn cc ws Ag k0 cg ps Ad cd2 ts V1 a2 c2 gm gq gt G0 (B)).fact k v W2 := by
  match k, hk, hne, hl, hkill, hfact with
  | 0, _, _, _, _, hq => exact hq
  | 1, _, _, _, _, hq => exact hq
  | 2, _, _, _, _, hq => exact hq
  | 3, _, _, _, _, ⟨gk, hv, q_0⟩ => exact ⟨gk, hv, box_grown q_0 hg ho (by decide)⟩
  | 4, _, _, _, _, ⟨a', c', hv, q_0⟩ => exact ⟨a', c', hv, q_0.grown hg ho (by decide) (by decide)⟩
  | 5, _, _, _, _, hq => exact hq
  | 6, _, _, _, _, hq => exact hq
  | 7, _, _, _, hkill, _ => exact absurd (hkill 8 (List.Mem.head _)) (by rw [upd_same]; decide)
  | 8, _, hne, _, _, _ => exact absurd rfl hne
  | 9, _, _, _, _, hq => exact hq
  | 10, _, _, _, _, ⟨a', c', q_0, q_1⟩ => exact ⟨a', c', box_grown q_0 hg ho (by decide), q_1.grown hg ho (by decide) (by decide)⟩
  | 11, _, _, hl, _, _ => exact absurd hl (by rw [ll]; decide)
  | 12, _, _, _, _, q_0 => exact box_grown q_0 hg ho (by decide)
  | 13, _, _, _, _, q_0 => exact box_grown q_0 hg ho (by decide)
  | 14, _, _, _, hkill, _ => exact absurd (hkill 8 (List.Mem.head _)) (by rw [upd_same]; decide)
  | 15, _, _, _, _, q_0 => exact q_0.grown hg ho (by decide) (by decide)
  | 16, _, _, _, hkill, _ => exact absurd (hkill 8 (List.Mem.head _)) (by rw [upd_same]; decide)
  | 17, _, _, _, _, q_0 => exact ⟨q_0.row.kept hg (blocks_apartR q_0.row ho (by decide)), q_0.byte⟩
  | 18, _, _, _, _, q_0 => exact ⟨q_0.row.kept hg (blocks_apartR q_0.row ho (by decide)), q_0.byte⟩
  | 19, _, _, _, _, hq => exact hq
  | 20, _, _, _, _, ⟨q_0, q_1⟩ => exact ⟨box_grown q_0 hg ho (by decide), q_1⟩
  | k + 21, hk, _, _, _, _ => omega
/-- What is known of a region (RJ). -/
def m13 (ac : Option Addr) (nn cc : Nat) (ws : List Int) (Ag : Option Addr) (k0 cg : Nat) (ps : List Gq) (Ad : Option Addr) (cd2 : Nat) (ts : List Sc4) (gm G B : Nat) : RSpec where
  m := 5
  n := 10
  slots := [62, 63, 100002, 7, 8, 100005, 100006, 100007, 100008, 100009]
  kills := [[], [], [], [], [], [], [2], [], [], []]
  pres := [[], [], [], [], [], [], [], [], [], []]
  fact := fun k v w => match k with
    | 0 => v = .agg #[.slice ac nn cc, .slice Ag k0 cg]
    | 1 => v = .slice Ad k0 cd2
    | 2 => w.heap[G]? = some (.cells #[.slice ac nn cc, .slice Ag k0 cg] 27 (0, 0))
    | 3 => v = .slice Ad k0 cd2
    | 4 => v = .int .i64 0
    | 5 => w.heap[gm]? = some (.cells #[.slice ac nn cc, .slice Ag k0 cg] 27 (0, 0)) ∧ gm ≠ G
    | 6 => w.heap[G]? = some (.cells #[.slice none 0 0, .slice none 0 0] 27 (0, 0))
    | 7 => Own B w ac nn cc ws
    | 8 => OwnG B w Ag k0 cg ps
    | _ => OwnSe B w Ad k0 cd2 ts
set_option linter.unusedVariables false in
theorem m13_stb (ac : Option Addr) (nn cc : Nat) (ws : List Int) (Ag : Option Addr) (k0 cg : Nat) (ps : List Gq) (Ad : Option Addr) (cd2 : Nat) (ts : List Sc4) (gm G B : Nat) (k : Nat) (hk : k < 10) : StB ((m13 ac nn cc ws Ag k0 cg ps Ad cd2 ts gm G (B)).fact k) := by
  match k, hk with
  | 0, _ => exact fun _ _ _ h _ => h
  | 1, _ => exact fun _ _ _ h _ => h
  | 2, _ => exact fun _ _ _ q_0 hb => below_kept q_0 hb
  | 3, _ => exact fun _ _ _ h _ => h
  | 4, _ => exact fun _ _ _ h _ => h
  | 5, _ => exact fun _ _ _ ⟨q_0, q_1⟩ hb => ⟨below_kept q_0 hb, q_1⟩
  | 6, _ => exact fun _ _ _ q_0 hb => below_kept q_0 hb
  | 7, _ => exact fun _ _ _ q_0 hb => q_0.kept hb
  | 8, _ => exact fun _ _ _ q_0 hb => q_0.kept hb
  | 9, _ => exact fun _ _ _ q_0 hb => q_0.kept hb
  | k + 10, hk => omega
set_option linter.unusedVariables false in
theorem m13_st2 (ac : Option Addr) (nn cc : Nat) (ws : List Int) (Ag : Option Addr) (k0 cg : Nat) (ps : List Gq) (Ad : Option Addr) (cd2 : Nat) (ts : List Sc4) (gm G B : Nat) {W W2 : World} {cs : Array Value} {fr : Nat × Nat} (hg : W.heap[G]? = some (.cells cs 27 fr)) (ht : Touch (G) (G + 1) W W2) (k : Nat) (hk : k < 10) (hne : k ≠ 2) (hkill : 2 ∉ (m13 ac nn cc ws Ag k0 cg ps Ad cd2 ts gm G (B)).kill k) (v : Value) (hfact : (m13 ac nn cc ws Ag k0 cg ps Ad cd2 ts gm G (B)).fact k v W) : (m13 ac nn cc ws Ag k0 cg ps Ad cd2 ts gm G (B)).fact k v W2 := by
  match k, hk, hne, hkill, hfact with
  | 0, _, _, _, hq => exact hq
  | 1, _, _, _, hq => exact hq
  | 2, _, hne, _, _ => exact absurd rfl hne
  | 3, _, _, _, hq => exact hq
  | 4, _, _, _, hq => exact hq
  | 5, _, _, _, ⟨q_0, q_1⟩ => exact ⟨(ht.block _ (Array.getElem?_eq_some_iff.1 q_0).1 (by omega)).trans q_0, q_1⟩
  | 6, _, _, hkill, _ => exact absurd (List.Mem.head _) hkill
  | 7, _, _, _, q_0 => exact ⟨ownsRow_box q_0.row hg (by decide) ht, q_0.byte⟩
  | 8, _, _, _, q_0 => exact q_0.touched hg (by decide) (by decide) ht
  | 9, _, _, _, q_0 => exact q_0.touched hg (by decide) (by decide) ht
  | k + 10, hk, _, _, _ => omega

set_option maxRecDepth 10000 in
set_option maxHeartbeats 8000000 in
theorem implSignMsg_any (am : Option Addr) (nn c : Nat) (ws : List Int) (at2 : Int) (A0 : Option Addr) (n0 d0 : Nat) (ss : List Sc4) (w : World) (hr : Row w am nn ws) (hc : am = none → c = 0) (hn : nn ≤ 1048576) (hs : RowSe w A0 n0 ss) (hn0 : n0 ≤ 1048576) (hat : -9223372036854775808 ≤ at2 ∧ at2 ≤ 9223372036854775807) :
    Calls Tryz.prog 8 #[.slice am nn c, .int .i64 at2, .slice A0 n0 d0] w fun e w' => ∃ a1 c1 a2 c2 a3 c3, e = .returned (smOut (smV ws at2 ss n0) a1 c1 a2 c2 a3 c3) ∧ (∃ ps, SmR w.heap.size w' (smV ws at2 ss n0).ct (smV ws at2 ss n0).gs (smV ws at2 ss n0).ts a1 (smV ws at2 ss n0).ct.length c1 a2 (smV ws at2 ss n0).gs.length c2 a3 (smV ws at2 ss n0).ts.length c3 ps) ∧ Below w.heap.size w w' := by
  obtain ⟨i0, hi, hz0, hz1, hz2⟩ := info_parts Tryz.infoG
  obtain ⟨j0, ji, jz0, jz1, jz2⟩ := info_parts Tryz.infoSx
  obtain ⟨V, hV⟩ : ∃ V, V = (smV ws at2 ss n0) := ⟨_, rfl⟩
  have HV : Hid (V = if nn ≤ 4000 ∧ timP at2 ∧ n0 ≤ 6 then smGo ws at2 ss [] [] else smBad 1) := by
    show _ = _
    rw [hV]
    unfold smV
    rw [hr.len]
  rw [← hV]
  obtain ⟨w1, hw1⟩ : ∃ w1, w1 = w.alloc (.cells #[.slice none 0 0, .slice none 0 0] 27) := ⟨_, rfl⟩
  have hb1 : Below w.heap.size w w1 := by rw [hw1]; exact (Below.refl _ _).alloc (Nat.le_refl _) _
  have HB1 : Hid (w1.heap[w.heap.size]? = some (.cells #[.slice none 0 0, .slice none 0 0] 27 (0, 0))) := by show _ = _; rw [hw1]; exact heap_alloc_new w _
  have hl1 : w.heap.size < w1.heap.size := by rw [hw1]; simp
  have HR : Hid (∀ W, Below w1.heap.size w1 W → Row W am nn ws ∧ RowSe W A0 n0 ss) := fun W hW => ⟨hr.kept (keepT hb1 hW), hs.kept (keepT hb1 hW)⟩
  have HR3 : Hid (∀ W, Below w.heap.size w W → Row W am nn ws ∧ RowSe W A0 n0 ss) := fun W hW => ⟨hr.kept hW, hs.kept hW⟩
  have HLS : Hid (ss.length = n0) := hs.len
  have HUS : Hid (USe ss) := hs.rng
  have HW : Hid (_ = _) := hw1
  clear hw1 hr hs hV
  go_enter Tryz.func8, Tryz.ntmps8
  go_upto_region 1 with fail
  rw [← HW.out]
  clear HW
  by_cases h1 : nn ≤ 4000
  case neg =>
    have HF := (show Hid (V = smBad 1) by show _ = _; rw [HV.out, if_neg (fun h => h1 h.1)])
    have q1 : (4000 : Int) < (nn : Int) := by omega
    go_upto_region 2 with fail
    have HBB : w.heap.size ≤ w1.heap.size := by omega
    refine wp_region_rp (y2 1 w.heap.size (w.heap.size)) [7, 8, 29] (w.heap.size) (fun a0 => a0.tmps.size = 64 ∧ aT a0 6 = .pointer (some ⟨w.heap.size, 0, none⟩)) rfl (by kernel_rfl) rfl ⟨rfl, rfl⟩ (y2_stb 1 w.heap.size (w.heap.size)) ?_ ?_ ?_
    · intro k hk hk2
      match k, hk, hk2 with
      | 4, _, _ => exact HB1.out
      | 0, hk, _ => exact absurd hk (by show ¬ (4 ≤ 0); omega)
      | 1, hk, _ => exact absurd hk (by show ¬ (4 ≤ 1); omega)
      | 2, hk, _ => exact absurd hk (by show ¬ (4 ≤ 2); omega)
      | 3, hk, _ => exact absurd hk (by show ¬ (4 ≤ 3); omega)
      | k + 5, _, hk2 => exact absurd hk2 (by show ¬ (k + 5 < 5); omega)
    · rintro a0 ⟨hz, g6⟩
      refine StepsRI.cons ?_ (StepsRI.cons ?_ (StepsRI.cons ?_ (StepsRI.cons ?_ (StepsRI.nil))))
      · intro lQ b W hI hUN hED KQ hKQ
        refine opw_build 27 _ rfl #[] (by simp []) (.agg #[.slice none 0 0, .slice none 0 0]) (by kernel_rfl) ?_
        exact hKQ.out _ _ (hI.put 0 29 rfl rfl (by rw [hz]; decide) rfl hUN rfl HBB (y2_stb 1 w.heap.size (w.heap.size)) (Below.refl _ _) rfl)
      · intro lQ b W hI hUN hED KQ hKQ
        have hgb := (hI.vot1 4 1 (of_decide_eq_true rfl) (of_decide_eq_true rfl) hUN rfl)
        have fb := ((hI.fr.same 6 (by decide)).trans g6)
        have f := hI.got 0 (of_decide_eq_true rfl) (edge hED 0 (by kernel_rfl)) rfl
        refine wp_store_row 27 _ _ rfl (w.heap.size) #[.slice none 0 0, .slice none 0 0] fb f 27 _ hgb (by kernel_rfl) rfl (by simp [Value.oneCell']) ?_
        have ht := setRow_touch W (w.heap.size) #[.slice none 0 0, .slice none 0 0]
        exact hKQ.out _ _ (hI.store 1 (fun j hj => by cases hj) (hI.bel.trans (ht.below (by first | exact HGE6 | omega) (Nat.le_trans HBB hI.bel.size))) (y2_st1 1 w.heap.size (w.heap.size) hgb ht) (setRow_heap W (w.heap.size) _ _ _ _ hgb))
      · intro lQ b W hI hUN hED KQ hKQ
        exact opw_const (.slice none 0 0) rfl (hKQ.out _ _ (hI.put 2 7 rfl rfl (by rw [hz]; decide) rfl hUN rfl HBB (y2_stb 1 w.heap.size (w.heap.size)) (Below.refl _ _) rfl))
      · intro lQ b W hI hUN hED KQ hKQ
        exact opw_const (.int .i64 1) rfl (hKQ.out _ _ (hI.put 3 8 rfl rfl (by rw [hz]; decide) rfl hUN rfl HBB (y2_stb 1 w.heap.size (w.heap.size)) (Below.refl _ _) rfl))
    · intro b W hf hb F
      have e0 := F 1 (of_decide_eq_true rfl) rfl
      have e7 := F 2 (of_decide_eq_true rfl) rfl
      have e8 := F 3 (of_decide_eq_true rfl) rfl
      replace e7 : aT b 7 = _ := e7
      replace e8 : aT b 8 = _ := e8
      rw [hf.eq]
      simp only [puts, Act.put, List.setIfInBounds_toArray, List.set_cons_zero, List.set_cons_succ, e7, e8]
      clear hf F
      go_wp2
      try simp only [Exit.inBlock, Exit.then]
      exact bodyPost_ret (results_sm rfl _ w.heap.size rfl _ rfl _ rfl _ _ e0 rfl) rfl ⟨none, 0, none, 0, none, 0, by rw [HF.out]; rfl, ⟨[], by rw [HF.out]; exact smR_none _ _⟩, hb1.trans hb⟩
  have q1 : ¬ (4000 : Int) < (nn : Int) := by omega
  go_wp2_with fail
  refine (isTim_any at2 _).mono ?_
  rintro e w2 ⟨rfl, hw2⟩
  have hw2 := hw2.symm
  subst hw2
  by_cases h2 : timP at2
  case neg =>
    have HF := (show Hid (V = smBad 1) by show _ = _; rw [HV.out, if_neg (fun h => h2 h.2.1)])
    rw [decide_eq_false h2]
    go_upto_region 2 with fail
    have HBB : w.heap.size ≤ w1.heap.size := by omega
    refine wp_region_rp (y2 1 w.heap.size (w.heap.size)) [7, 8, 29] (w.heap.size) (fun a0 => a0.tmps.size = 64 ∧ aT a0 6 = .pointer (some ⟨w.heap.size, 0, none⟩)) rfl (by kernel_rfl) rfl ⟨rfl, rfl⟩ (y2_stb 1 w.heap.size (w.heap.size)) ?_ ?_ ?_
    · intro k hk hk2
      match k, hk, hk2 with
      | 4, _, _ => exact HB1.out
      | 0, hk, _ => exact absurd hk (by show ¬ (4 ≤ 0); omega)
      | 1, hk, _ => exact absurd hk (by show ¬ (4 ≤ 1); omega)
      | 2, hk, _ => exact absurd hk (by show ¬ (4 ≤ 2); omega)
      | 3, hk, _ => exact absurd hk (by show ¬ (4 ≤ 3); omega)
      | k + 5, _, hk2 => exact absurd hk2 (by show ¬ (k + 5 < 5); omega)
    · rintro a0 ⟨hz, g6⟩
      refine StepsRI.cons ?_ (StepsRI.cons ?_ (StepsRI.cons ?_ (StepsRI.cons ?_ (StepsRI.nil))))
      · intro lQ b W hI hUN hED KQ hKQ
        refine opw_build 27 _ rfl #[] (by simp []) (.agg #[.slice none 0 0, .slice none 0 0]) (by kernel_rfl) ?_
        exact hKQ.out _ _ (hI.put 0 29 rfl rfl (by rw [hz]; decide) rfl hUN rfl HBB (y2_stb 1 w.heap.size (w.heap.size)) (Below.refl _ _) rfl)
      · intro lQ b W hI hUN hED KQ hKQ
        have hgb := (hI.vot1 4 1 (of_decide_eq_true rfl) (of_decide_eq_true rfl) hUN rfl)
        have fb := ((hI.fr.same 6 (by decide)).trans g6)
        have f := hI.got 0 (of_decide_eq_true rfl) (edge hED 0 (by kernel_rfl)) rfl
        refine wp_store_row 27 _ _ rfl (w.heap.size) #[.slice none 0 0, .slice none 0 0] fb f 27 _ hgb (by kernel_rfl) rfl (by simp [Value.oneCell']) ?_
        have ht := setRow_touch W (w.heap.size) #[.slice none 0 0, .slice none 0 0]
        exact hKQ.out _ _ (hI.store 1 (fun j hj => by cases hj) (hI.bel.trans (ht.below (by first | exact HGE6 | omega) (Nat.le_trans HBB hI.bel.size))) (y2_st1 1 w.heap.size (w.heap.size) hgb ht) (setRow_heap W (w.heap.size) _ _ _ _ hgb))
      · intro lQ b W hI hUN hED KQ hKQ
        exact opw_const (.slice none 0 0) rfl (hKQ.out _ _ (hI.put 2 7 rfl rfl (by rw [hz]; decide) rfl hUN rfl HBB (y2_stb 1 w.heap.size (w.heap.size)) (Below.refl _ _) rfl))
      · intro lQ b W hI hUN hED KQ hKQ
        exact opw_const (.int .i64 1) rfl (hKQ.out _ _ (hI.put 3 8 rfl rfl (by rw [hz]; decide) rfl hUN rfl HBB (y2_stb 1 w.heap.size (w.heap.size)) (Below.refl _ _) rfl))
    · intro b W hf hb F
      have e0 := F 1 (of_decide_eq_true rfl) rfl
      have e7 := F 2 (of_decide_eq_true rfl) rfl
      have e8 := F 3 (of_decide_eq_true rfl) rfl
      replace e7 : aT b 7 = _ := e7
      replace e8 : aT b 8 = _ := e8
      rw [hf.eq]
      simp only [puts, Act.put, List.setIfInBounds_toArray, List.set_cons_zero, List.set_cons_succ, e7, e8]
      clear hf F
      go_wp2
      try simp only [Exit.inBlock, Exit.then]
      exact bodyPost_ret (results_sm rfl _ w.heap.size rfl _ rfl _ rfl _ _ e0 rfl) rfl ⟨none, 0, none, 0, none, 0, by rw [HF.out]; rfl, ⟨[], by rw [HF.out]; exact smR_none _ _⟩, hb1.trans hb⟩
  rw [decide_eq_true h2]
  by_cases h3 : n0 ≤ 6
  case neg =>
    have HF := (show Hid (V = smBad 1) by show _ = _; rw [HV.out, if_neg (fun h => h3 h.2.2)])
    have q3 : (6 : Int) < (n0 : Int) := by omega
    go_upto_region 2 with fail
    have HBB : w.heap.size ≤ w1.heap.size := by omega
    refine wp_region_rp (y2 1 w.heap.size (w.heap.size)) [7, 8, 29] (w.heap.size) (fun a0 => a0.tmps.size = 64 ∧ aT a0 6 = .pointer (some ⟨w.heap.size, 0, none⟩)) rfl (by kernel_rfl) rfl ⟨rfl, rfl⟩ (y2_stb 1 w.heap.size (w.heap.size)) ?_ ?_ ?_
    · intro k hk hk2
      match k, hk, hk2 with
      | 4, _, _ => exact HB1.out
      | 0, hk, _ => exact absurd hk (by show ¬ (4 ≤ 0); omega)
      | 1, hk, _ => exact absurd hk (by show ¬ (4 ≤ 1); omega)
      | 2, hk, _ => exact absurd hk (by show ¬ (4 ≤ 2); omega)
      | 3, hk, _ => exact absurd hk (by show ¬ (4 ≤ 3); omega)
      | k + 5, _, hk2 => exact absurd hk2 (by show ¬ (k + 5 < 5); omega)
    · rintro a0 ⟨hz, g6⟩
      refine StepsRI.cons ?_ (StepsRI.cons ?_ (StepsRI.cons ?_ (StepsRI.cons ?_ (StepsRI.nil))))
      · intro lQ b W hI hUN hED KQ hKQ
        refine opw_build 27 _ rfl #[] (by simp []) (.agg #[.slice none 0 0, .slice none 0 0]) (by kernel_rfl) ?_
        exact hKQ.out _ _ (hI.put 0 29 rfl rfl (by rw [hz]; decide) rfl hUN rfl HBB (y2_stb 1 w.heap.size (w.heap.size)) (Below.refl _ _) rfl)
      · intro lQ b W hI hUN hED KQ hKQ
        have hgb := (hI.vot1 4 1 (of_decide_eq_true rfl) (of_decide_eq_true rfl) hUN rfl)
        have fb := ((hI.fr.same 6 (by decide)).trans g6)
        have f := hI.got 0 (of_decide_eq_true rfl) (edge hED 0 (by kernel_rfl)) rfl
        refine wp_store_row 27 _ _ rfl (w.heap.size) #[.slice none 0 0, .slice none 0 0] fb f 27 _ hgb (by kernel_rfl) rfl (by simp [Value.oneCell']) ?_
        have ht := setRow_touch W (w.heap.size) #[.slice none 0 0, .slice none 0 0]
        exact hKQ.out _ _ (hI.store 1 (fun j hj => by cases hj) (hI.bel.trans (ht.below (by first | exact HGE6 | omega) (Nat.le_trans HBB hI.bel.size))) (y2_st1 1 w.heap.size (w.heap.size) hgb ht) (setRow_heap W (w.heap.size) _ _ _ _ hgb))
      · intro lQ b W hI hUN hED KQ hKQ
        exact opw_const (.slice none 0 0) rfl (hKQ.out _ _ (hI.put 2 7 rfl rfl (by rw [hz]; decide) rfl hUN rfl HBB (y2_stb 1 w.heap.size (w.heap.size)) (Below.refl _ _) rfl))
      · intro lQ b W hI hUN hED KQ hKQ
        exact opw_const (.int .i64 1) rfl (hKQ.out _ _ (hI.put 3 8 rfl rfl (by rw [hz]; decide) rfl hUN rfl HBB (y2_stb 1 w.heap.size (w.heap.size)) (Below.refl _ _) rfl))
    · intro b W hf hb F
      have e0 := F 1 (of_decide_eq_true rfl) rfl
      have e7 := F 2 (of_decide_eq_true rfl) rfl
      have e8 := F 3 (of_decide_eq_true rfl) rfl
      replace e7 : aT b 7 = _ := e7
      replace e8 : aT b 8 = _ := e8
      rw [hf.eq]
      simp only [puts, Act.put, List.setIfInBounds_toArray, List.set_cons_zero, List.set_cons_succ, e7, e8]
      clear hf F
      go_wp2
      try simp only [Exit.inBlock, Exit.then]
      exact bodyPost_ret (results_sm rfl _ w.heap.size rfl _ rfl _ rfl _ _ e0 rfl) rfl ⟨none, 0, none, 0, none, 0, by rw [HF.out]; rfl, ⟨[], by rw [HF.out]; exact smR_none _ _⟩, hb1.trans hb⟩
  have q3 : ¬ (6 : Int) < (n0 : Int) := by omega
  have HVS : Hid (V = smGo ws at2 ss [] []) := by show _ = _; rw [HV.out, if_pos ⟨h1, h2, h3⟩]
  clear HV h2
  go_wp2_with fail
  refine (clone_any am nn c ws _ (HR.out _ (Below.refl _ _)).1 hc hn).mono ?_
  rintro e w2 ⟨ac, cc, rfl, hoc, hb2⟩
  clear q1 q3
  obtain ⟨w3, hw3⟩ : ∃ w3, w3 = w2.alloc (.cells #[.slice ac nn cc, .slice none 0 0] 27) := ⟨_, rfl⟩
  have hb3 : Below w2.heap.size w2 w3 := by rw [hw3]; exact (Below.refl _ _).alloc (Nat.le_refl _) _
  have HM3 : w3.heap[w2.heap.size]? = some (.cells #[.slice ac nn cc, .slice none 0 0] 27 (0, 0)) := by rw [hw3]; exact heap_alloc_new w2 _
  have hb13 := keepT hb2 hb3
  have hs2 := hb2.size
  have HI0 : Hid (SmI w.heap.size w2.heap.size w w3 ac nn cc ws none 0 0 [] none 0 []) := ⟨HM3, below_kept HB1.out hb13, ⟨(hoc.kept hb3).mono (by omega), ownG_none _ _, rfl, ownSe_none _ _, fun _ _ hj => absurd hj (Nat.not_lt_zero _)⟩, keepT hb1 hb13⟩
  have HW : Hid (_ = _) := hw3
  clear hw3 hoc HM3 hb3 hb2 HB1 HR
  go_upto_region 5 with fail
  rw [← HW.out]
  clear HW
  go_wp2
  go_loopw [10, 35] (fun l i wr => ∃ (k : Nat) (Ag : Option Addr) (cg : Nat) (ps : List Gq) (Ad : Option Addr) (cd2 : Nat) (ts : List Sc4), k ≤ n0 ∧ l = .slice Ad k cd2 ∧ i = .int .i64 k ∧ Hid (SmI w.heap.size w2.heap.size w wr ac nn cc ws Ag k cg ps Ad cd2 ts) ∧ Hid (V = smGo ws at2 (ss.drop k) (gsOf ps) ts)) (fun _ i _ => n0 - (intOf i).toNat)
  case atStart => exact ⟨0, none, 0, [], none, 0, [], Nat.zero_le _, rfl, rfl, HI0, HVS⟩
  case round =>
    obtain ⟨k0, Ag, cg, ps, Ad, cd2, ts, hk, rfl, rfl, HI, HVK⟩ := hrel
    have HIB : Hid (_ ∧ _) := ⟨HI.out.box, HI.out.res⟩
    have HSR : Hid (_) := HI.out.own
    have hbr := HI.out.bel
    have hsr := hbr.size
    have hgl : w2.heap.size < wr.heap.size := (Array.getElem?_eq_some_iff.1 HIB.out.1).1
    clear HI
    by_cases hlt : k0 < n0
    · obtain ⟨s, hs⟩ : ∃ s, s = ss.getD k0 (0, 0, 0, 0) := ⟨_, rfl⟩
      obtain ⟨V1, hV1⟩ : ∃ V1, V1 = nsV 8 ws at2 s.1 s.2.1 s.2.2.1 s.2.2.2 := ⟨_, rfl⟩
      have HST : Hid (smGo ws at2 (ss.drop k0) (gsOf ps) ts = _) := smGo_step ws at2 ss k0 (by rw [HLS.out]; exact hlt) (gsOf ps) ts s hs V1 hV1
      have hus : U64 s.2.1 := by rw [hs]; exact HUS.out k0
      have hng := nsV_rng ws at2 s hus
      rw [← hV1] at hng
      have HRG : Hid (U64 V1.k) := hng.1
      have HRT : Hid (U64 V1.t.2.1) := hng.2
      obtain ⟨b, off, hA, hlb, c0, c1, c2, c3⟩ := (HR3.out wr hbr).2.get k0 hlt
      rw [← hs] at c0 c1 c2 c3
      subst hA
      obtain ⟨wy, hwy⟩ : ∃ wy, wy = wr.alloc (.cells #[.int .i64 s.1, .int .u64 s.2.1, .int .i64 s.2.2.1, .int .i64 s.2.2.2] 45) := ⟨_, rfl⟩
      have HBY : Hid (Below wr.heap.size wr wy) := by show Below _ _ _; rw [hwy]; exact (Below.refl _ _).alloc (Nat.le_refl _) _
      have HYB : Hid (wy.heap[wr.heap.size]? = some (.cells #[.int .i64 s.1, .int .u64 s.2.1, .int .i64 s.2.2.1, .int .i64 s.2.2.2] 45 (0, 0))) := by show _ = _; rw [hwy]; exact heap_alloc_new _ _
      have hys := HBY.out.size
      have hyl : wr.heap.size < wy.heap.size := (Array.getElem?_eq_some_iff.1 HYB.out).1
      have HNS : Hid (∀ W, Below wy.heap.size wy W → Calls Tryz.prog 22 #[.int .i64 8, .slice am nn c, .int .i64 at2, .agg #[.int .i64 s.1, .int .u64 s.2.1, .int .i64 s.2.2.1, .int .i64 s.2.2.2]] W fun e w' => ∃ a2 c2, e = .returned (.tuple #[.agg #[.int .u64 V1.k, .int .i64 V1.at2, .slice a2 V1.sg.length c2, .slice none 0 0], .agg #[.int .i64 V1.t.1, .int .u64 V1.t.2.1, .int .i64 V1.t.2.2.1, .int .i64 V1.t.2.2.2], .int .i64 V1.cd]) ∧ Own W.heap.size w' a2 V1.sg.length c2 V1.sg ∧ Below W.heap.size W w') := fun W hW => by
        have := newSigner_any 8 am nn c ws at2 s.1 s.2.1 s.2.2.1 s.2.2.2 W (HR3.out W (hbr.trans ((keepT HBY.out hW).mono hbr.size))).1 hc h1 (by decide) (by decide) hat hus
        rw [← hV1] at this
        exact this
      have HWY : Hid (_ = _) := hwy
      have hkn : (k0 : Int) < (n0 : Int) := by omega
      clear hs hV1 hng hwy
      go_upto_region 8 with fail
      rw [← HWY.out]
      clear HWY c0 c1 c2 c3
      have HBB : wy.heap.size ≤ wy.heap.size := Nat.le_refl _
      refine wp_region_rp (m8 am nn c at2 s V1 wr.heap.size (wy.heap.size)) [13, 14, 15, 39, 40, 41, 42, 43, 44, 45, 46] (wy.heap.size) (fun a0 => a0.tmps.size = 64 ∧ aT a0 0 = .slice am nn c ∧ aT a0 1 = .int .i64 at2 ∧ aT a0 12 = .pointer (some ⟨wr.heap.size, 0, none⟩)) rfl (by kernel_rfl) rfl ⟨rfl, rfl, rfl, rfl⟩ (m8_stb am nn c at2 s V1 wr.heap.size (wy.heap.size)) ?_ ?_ ?_
      · intro k hk hk2
        match k, hk, hk2 with
        | 13, _, _ => exact ⟨HYB.out, hyl⟩
        | 0, hk, _ => exact absurd hk (by show ¬ (13 ≤ 0); omega)
        | 1, hk, _ => exact absurd hk (by show ¬ (13 ≤ 1); omega)
        | 2, hk, _ => exact absurd hk (by show ¬ (13 ≤ 2); omega)
        | 3, hk, _ => exact absurd hk (by show ¬ (13 ≤ 3); omega)
        | 4, hk, _ => exact absurd hk (by show ¬ (13 ≤ 4); omega)
        | 5, hk, _ => exact absurd hk (by show ¬ (13 ≤ 5); omega)
        | 6, hk, _ => exact absurd hk (by show ¬ (13 ≤ 6); omega)
        | 7, hk, _ => exact absurd hk (by show ¬ (13 ≤ 7); omega)
        | 8, hk, _ => exact absurd hk (by show ¬ (13 ≤ 8); omega)
        | 9, hk, _ => exact absurd hk (by show ¬ (13 ≤ 9); omega)
        | 10, hk, _ => exact absurd hk (by show ¬ (13 ≤ 10); omega)
        | 11, hk, _ => exact absurd hk (by show ¬ (13 ≤ 11); omega)
        | 12, hk, _ => exact absurd hk (by show ¬ (13 ≤ 12); omega)
        | k + 14, _, hk2 => exact absurd hk2 (by show ¬ (k + 14 < 14); omega)
      · rintro a0 ⟨hz, g0, g1, g12⟩
        refine StepsRI.cons ?_ (StepsRI.cons ?_ (StepsRI.cons ?_ (StepsRI.cons ?_ (StepsRI.cons ?_ (StepsRI.cons ?_ (StepsRI.cons ?_ (StepsRI.cons ?_ (StepsRI.cons ?_ (StepsRI.cons ?_ (StepsRI.cons ?_ (StepsRI.cons ?_ (StepsRI.cons ?_ (StepsRI.nil)))))))))))))
        · intro lQ b W hI hUN hED KQ hKQ
          exact opw_move 0 rfl (hKQ.out _ _ (hI.put 0 40 rfl rfl (by rw [hz]; decide) rfl hUN rfl HBB (m8_stb am nn c at2 s V1 wr.heap.size (wy.heap.size)) (Below.refl _ _) ((hI.fr.same 0 (by decide)).trans g0)))
        · intro lQ b W hI hUN hED KQ hKQ
          exact opw_move 1 rfl (hKQ.out _ _ (hI.put 1 41 rfl rfl (by rw [hz]; decide) rfl hUN rfl HBB (m8_stb am nn c at2 s V1 wr.heap.size (wy.heap.size)) (Below.refl _ _) ((hI.fr.same 1 (by decide)).trans g1)))
        · intro lQ b W hI hUN hED KQ hKQ
          have hg := (hI.vot 13 (of_decide_eq_true rfl) (of_decide_eq_true rfl) rfl).1
          refine wp_load_row 45 _ rfl (wr.heap.size) ((hI.fr.same 12 (by decide)).trans g12) 45 #[.int .i64 s.1, .int .u64 s.2.1, .int .i64 s.2.2.1, .int .i64 s.2.2.2] (0, 0) _ hg Tryz.underlying45 rfl (by kernel_rfl) ?_
          exact hKQ.out _ _ (hI.put 2 42 rfl rfl (by rw [hz]; decide) rfl hUN rfl HBB (m8_stb am nn c at2 s V1 wr.heap.size (wy.heap.size)) (Below.refl _ _) rfl)
        · intro lQ b W hI hUN hED KQ hKQ
          have f1 := hI.got 0 (of_decide_eq_true rfl) (edge hED 0 (by kernel_rfl)) rfl
          replace f1 : aT b 40 = .slice am nn c := f1
          have f2 := hI.got 1 (of_decide_eq_true rfl) (edge hED 1 (by kernel_rfl)) rfl
          replace f2 : aT b 41 = .int .i64 at2 := f2
          have f3 := hI.got 2 (of_decide_eq_true rfl) (edge hED 2 (by kernel_rfl)) rfl
          replace f3 : aT b 42 = .agg #[.int .i64 s.1, .int .u64 s.2.1, .int .i64 s.2.2.1, .int .i64 s.2.2.2] := f3
          refine opw_call 22 #[.const (.int .i64 8), .tmp 40, .tmp 41, .tmp 42] _ _ _ rfl Tryz.func22 (by kernel_rfl) rfl #[.int .i64 8, .slice am nn c, .int .i64 at2, .agg #[.int .i64 s.1, .int .u64 s.2.1, .int .i64 s.2.2.1, .int .i64 s.2.2.2]] (by simp [ev, evc, f1, f2, f3]) ?_
          refine (HNS.out W hI.bel).mono ?_
          rintro e W2 ⟨a2, c2, rfl, ho, hb⟩
          exact ⟨_, rfl, hKQ.out _ _ (hI.put 3 43 rfl rfl (by rw [hz]; decide) rfl hUN rfl HBB (m8_stb am nn c at2 s V1 wr.heap.size (wy.heap.size)) hb ⟨a2, c2, rfl, ho.mono (Nat.le_trans HBB hI.bel.size)⟩)⟩
        · intro lQ b W hI hUN hED KQ hKQ
          have f := hI.got 3 (of_decide_eq_true rfl) (edge hED 3 (by kernel_rfl)) rfl
          exact opw_move 43 rfl (hKQ.out _ _ (hI.put 4 39 rfl rfl (by rw [hz]; decide) rfl hUN rfl HBB (m8_stb am nn c at2 s V1 wr.heap.size (wy.heap.size)) (Below.refl _ _) f))
        · intro lQ b W hI hUN hED KQ hKQ
          have f := hI.got 4 (of_decide_eq_true rfl) (edge hED 4 (by kernel_rfl)) rfl
          obtain ⟨a2, c2, f, o_0⟩ := f
          exact opw_extract 39 0 rfl _ _ f rfl (hKQ.out _ _ (hI.put 5 44 rfl rfl (by rw [hz]; decide) rfl hUN rfl HBB (m8_stb am nn c at2 s V1 wr.heap.size (wy.heap.size)) (Below.refl _ _) ⟨a2, c2, rfl, o_0⟩))
        · intro lQ b W hI hUN hED KQ hKQ
          have f := hI.got 4 (of_decide_eq_true rfl) (edge hED 4 (by kernel_rfl)) rfl
          obtain ⟨a2, c2, f, o_0⟩ := f
          exact opw_extract 39 1 rfl _ _ f rfl (hKQ.out _ _ (hI.put 6 45 rfl rfl (by rw [hz]; decide) rfl hUN rfl HBB (m8_stb am nn c at2 s V1 wr.heap.size (wy.heap.size)) (Below.refl _ _) rfl))
        · intro lQ b W hI hUN hED KQ hKQ
          have f := hI.got 4 (of_decide_eq_true rfl) (edge hED 4 (by kernel_rfl)) rfl
          obtain ⟨a2, c2, f, o_0⟩ := f
          exact opw_extract 39 2 rfl _ _ f rfl (hKQ.out _ _ (hI.put 7 46 rfl rfl (by rw [hz]; decide) rfl hUN rfl HBB (m8_stb am nn c at2 s V1 wr.heap.size (wy.heap.size)) (Below.refl _ _) rfl))
        · intro lQ b W hI hUN hED KQ hKQ
          refine opw_value (w' := W.alloc (.cells #[.int .u64 0, .int .i64 0, .slice none 0 0, .slice none 0 0] 43)) (.pointer (some ⟨W.heap.size, 0, none⟩)) (by kernel_rfl) ?_
          exact hKQ.out _ _ (hI.put 8 13 rfl rfl (by rw [hz]; decide) rfl hUN rfl HBB (m8_stb am nn c at2 s V1 wr.heap.size (wy.heap.size)) ((Below.refl _ _).alloc (Nat.le_refl _) _) ⟨W.heap.size, rfl, heap_alloc_new W _, Nat.le_trans HBB hI.bel.size⟩)
        · intro lQ b W hI hUN hED KQ hKQ
          refine opw_value (w' := W.alloc (.cells #[.int .i64 0, .int .u64 0, .int .i64 0, .int .i64 0] 45)) (.pointer (some ⟨W.heap.size, 0, none⟩)) (by kernel_rfl) ?_
          exact hKQ.out _ _ (hI.put 9 14 rfl rfl (by rw [hz]; decide) rfl hUN rfl HBB (m8_stb am nn c at2 s V1 wr.heap.size (wy.heap.size)) ((Below.refl _ _).alloc (Nat.le_refl _) _) ⟨W.heap.size, rfl, heap_alloc_new W _, Nat.le_trans HBB hI.bel.size⟩)
        · intro lQ b W hI hUN hED KQ hKQ
          obtain ⟨g, fb, hgb, hge⟩ := hI.got1 8 10 (of_decide_eq_true rfl) (edge hED 8 (by kernel_rfl)) hUN rfl
          have f := hI.got 5 (of_decide_eq_true rfl) (edge hED 5 (by kernel_rfl)) rfl
          obtain ⟨a2, c2, f, o_0⟩ := f
          refine wp_store_row 43 _ _ rfl g #[.int .u64 V1.k, .int .i64 V1.at2, .slice a2 V1.sg.length c2, .slice none 0 0] fb f 43 _ hgb (by kernel_rfl) rfl (by simp [Value.oneCell']) ?_
          have ht := setRow_touch W g #[.int .u64 V1.k, .int .i64 V1.at2, .slice a2 V1.sg.length c2, .slice none 0 0]
          exact hKQ.out _ _ (hI.store 10 (fun j hj => by
              rcases List.mem_singleton.1 hj with rfl
              exact edge hED 8 (by kernel_rfl)) (hI.bel.trans (ht.below hge (Nat.le_trans HBB hI.bel.size))) (m8_st10 am nn c at2 s V1 wr.heap.size (wy.heap.size) hgb ht hge) ⟨g, a2, c2, fb, (setRow_heap W g _ _ _ _ hgb), hge, ⟨ownsRow_box o_0.row hgb (by decide) ht, o_0.byte⟩⟩)
        · intro lQ b W hI hUN hED KQ hKQ
          obtain ⟨g, fb, hgb, hge⟩ := hI.got1 9 11 (of_decide_eq_true rfl) (edge hED 9 (by kernel_rfl)) hUN rfl
          have f := hI.got 6 (of_decide_eq_true rfl) (edge hED 6 (by kernel_rfl)) rfl
          refine wp_store_row 45 _ _ rfl g #[.int .i64 V1.t.1, .int .u64 V1.t.2.1, .int .i64 V1.t.2.2.1, .int .i64 V1.t.2.2.2] fb f 45 _ hgb (by kernel_rfl) rfl (by simp [Value.oneCell']) ?_
          have ht := setRow_touch W g #[.int .i64 V1.t.1, .int .u64 V1.t.2.1, .int .i64 V1.t.2.2.1, .int .i64 V1.t.2.2.2]
          exact hKQ.out _ _ (hI.store 11 (fun j hj => by
              rcases List.mem_singleton.1 hj with rfl
              exact edge hED 9 (by kernel_rfl)) (hI.bel.trans (ht.below hge (Nat.le_trans HBB hI.bel.size))) (m8_st11 am nn c at2 s V1 wr.heap.size (wy.heap.size) hgb ht hge) ⟨g, fb, (setRow_heap W g _ _ _ _ hgb), hge⟩)
        · intro lQ b W hI hUN hED KQ hKQ
          have f := hI.got 7 (of_decide_eq_true rfl) (edge hED 7 (by kernel_rfl)) rfl
          exact opw_assign 46 rfl (hKQ.out _ _ (hI.put 12 15 rfl rfl (by rw [hz]; decide) rfl hUN rfl HBB (m8_stb am nn c at2 s V1 wr.heap.size (wy.heap.size)) (Below.refl _ _) f))
      · intro b W hf hb F
        obtain ⟨gq, a2, c2, e13, hgq, hgqe, ho⟩ := F 10 (of_decide_eq_true rfl) rfl
        obtain ⟨gt, e14, hgt, hgte⟩ := F 11 (of_decide_eq_true rfl) rfl
        have e15 := F 12 (of_decide_eq_true rfl) rfl
        replace e13 : aT b 13 = _ := e13
        replace e14 : aT b 14 = _ := e14
        replace e15 : aT b 15 = _ := e15
        rw [hf.eq]
        simp only [puts, Act.put, List.setIfInBounds_toArray, List.set_cons_zero, List.set_cons_succ, e13, e14, e15]
        clear hf F e13 e14 e15
        generalize aT b = AT
        clear b
        obtain ⟨wz, hWz⟩ : ∃ wz, wz = W := ⟨_, rfl⟩
        subst hWz
        have hb8 := keepT HBY.out hb
        have hs8 := hb.size
        have HRZ : Hid (_) := below_kept HIB.out.2 hb8
        have HSZ : Hid (_) := HSR.out.kept hb8
        have HOZ : Hid (Own w.heap.size wz a2 V1.sg.length c2 V1.sg) := ho.mono (by omega)
        have HZB : Hid (wz.heap[w2.heap.size]? = some (.cells #[.slice ac nn cc, .slice Ag k0 cg] 27 (0, 0)) ∧ wz.heap[gq]? = some (.cells #[.int .u64 V1.k, .int .i64 V1.at2, .slice a2 V1.sg.length c2, .slice none 0 0] 43 (0, 0)) ∧ wz.heap[gt]? = some (.cells #[.int .i64 V1.t.1, .int .u64 V1.t.2.1, .int .i64 V1.t.2.2.1, .int .i64 V1.t.2.2.2] 45 (0, 0))) := ⟨below_kept HIB.out.1 hb8, hgq, hgt⟩
        have hcz : Below w.heap.size w wz := hbr.trans (hb8.mono hbr.size)
        have HAP : Hid (∀ j l, j < k0 → (rqv (ps.getD j gq0).1).ownBlock = some l → (rqv ((a2, V1.sg.length, c2) : Rq)).ownBlock = some l → False) := by
          intro j l hj h1 h2
          have e1 := ((HSR.out.gO.each j hj).row.lt l h1).2
          have e2 := (ho.row.lt l h2).1
          omega
        have HSEP2 : Hid (∀ j l, j < k0 + 1 → (rqv ((ps ++ [((a2, V1.sg.length, c2), sgOf V1)]).getD j gq0).1).ownBlock = some l → (Value.slice ac nn cc).ownBlock = some l → False) := by
          intro j l hj h1 h2
          by_cases e : j < k0
          · rw [getG_more ps _ j (by have := HSR.out.gO.len; omega)] at h1
            exact HSR.out.sep j l e h1 h2
          · obtain rfl : j = ps.length := by have := HSR.out.gO.len; omega
            rw [getG_last] at h1
            have e1 := (HSR.out.cO.row.lt l h2).2
            have e2 := (ho.row.lt l h1).1
            omega
        clear hgq hgt ho hb hgqe hgte
        go_upto_region 9 with fail
        by_cases hcd : V1.cd = 0
        case neg =>
          have HF := (show Hid (V = smBad V1.cd) by show _ = _; rw [HVK.out, HST.out, if_neg hcd])
          have z5 : (V1.cd != 0) = true := by simp [hcd]
          go_upto_region 10 with fail
          have HBB : w.heap.size ≤ wz.heap.size := by have := hcz.size; omega
          refine wp_region_rp (y10 V1.cd w.heap.size (w.heap.size)) [7, 8, 49, 50] (w.heap.size) (fun a0 => a0.tmps.size = 64 ∧ aT a0 6 = .pointer (some ⟨w.heap.size, 0, none⟩) ∧ aT a0 15 = .int .i64 V1.cd) rfl (by kernel_rfl) rfl ⟨rfl, rfl, rfl⟩ (y10_stb V1.cd w.heap.size (w.heap.size)) ?_ ?_ ?_
          · intro k hk hk2
            match k, hk, hk2 with
            | 5, _, _ => exact HRZ.out
            | 0, hk, _ => exact absurd hk (by show ¬ (5 ≤ 0); omega)
            | 1, hk, _ => exact absurd hk (by show ¬ (5 ≤ 1); omega)
            | 2, hk, _ => exact absurd hk (by show ¬ (5 ≤ 2); omega)
            | 3, hk, _ => exact absurd hk (by show ¬ (5 ≤ 3); omega)
            | 4, hk, _ => exact absurd hk (by show ¬ (5 ≤ 4); omega)
            | k + 6, _, hk2 => exact absurd hk2 (by show ¬ (k + 6 < 6); omega)
          · rintro a0 ⟨hz, g6, g15⟩
            refine StepsRI.cons ?_ (StepsRI.cons ?_ (StepsRI.cons ?_ (StepsRI.cons ?_ (StepsRI.cons ?_ (StepsRI.nil)))))
            · intro lQ b W hI hUN hED KQ hKQ
              refine opw_build 27 _ rfl #[] (by simp []) (.agg #[.slice none 0 0, .slice none 0 0]) (by kernel_rfl) ?_
              exact hKQ.out _ _ (hI.put 0 49 rfl rfl (by rw [hz]; decide) rfl hUN rfl HBB (y10_stb V1.cd w.heap.size (w.heap.size)) (Below.refl _ _) rfl)
            · intro lQ b W hI hUN hED KQ hKQ
              exact opw_move 15 rfl (hKQ.out _ _ (hI.put 1 50 rfl rfl (by rw [hz]; decide) rfl hUN rfl HBB (y10_stb V1.cd w.heap.size (w.heap.size)) (Below.refl _ _) ((hI.fr.same 15 (by decide)).trans g15)))
            · intro lQ b W hI hUN hED KQ hKQ
              have hgb := (hI.vot1 5 2 (of_decide_eq_true rfl) (of_decide_eq_true rfl) hUN rfl)
              have fb := ((hI.fr.same 6 (by decide)).trans g6)
              have f := hI.got 0 (of_decide_eq_true rfl) (edge hED 0 (by kernel_rfl)) rfl
              refine wp_store_row 27 _ _ rfl (w.heap.size) #[.slice none 0 0, .slice none 0 0] fb f 27 _ hgb (by kernel_rfl) rfl (by simp [Value.oneCell']) ?_
              have ht := setRow_touch W (w.heap.size) #[.slice none 0 0, .slice none 0 0]
              exact hKQ.out _ _ (hI.store 2 (fun j hj => by cases hj) (hI.bel.trans (ht.below (by first | exact HGE6 | omega) (Nat.le_trans HBB hI.bel.size))) (y10_st2 V1.cd w.heap.size (w.heap.size) hgb ht) (setRow_heap W (w.heap.size) _ _ _ _ hgb))
            · intro lQ b W hI hUN hED KQ hKQ
              exact opw_const (.slice none 0 0) rfl (hKQ.out _ _ (hI.put 3 7 rfl rfl (by rw [hz]; decide) rfl hUN rfl HBB (y10_stb V1.cd w.heap.size (w.heap.size)) (Below.refl _ _) rfl))
            · intro lQ b W hI hUN hED KQ hKQ
              have f := hI.got 1 (of_decide_eq_true rfl) (edge hED 1 (by kernel_rfl)) rfl
              exact opw_assign 50 rfl (hKQ.out _ _ (hI.put 4 8 rfl rfl (by rw [hz]; decide) rfl hUN rfl HBB (y10_stb V1.cd w.heap.size (w.heap.size)) (Below.refl _ _) f))
          · intro b W hf hb F
            have e0 := F 2 (of_decide_eq_true rfl) rfl
            have e7 := F 3 (of_decide_eq_true rfl) rfl
            have e8 := F 4 (of_decide_eq_true rfl) rfl
            replace e7 : aT b 7 = _ := e7
            replace e8 : aT b 8 = _ := e8
            rw [hf.eq]
            simp only [puts, Act.put, List.setIfInBounds_toArray, List.set_cons_zero, List.set_cons_succ, e7, e8]
            clear hf F
            go_wp2
            try simp only [Exit.inBlock, Exit.then]
            exact bodyPost_ret (results_sm rfl _ w.heap.size rfl _ rfl _ rfl _ _ e0 rfl) rfl ⟨none, 0, none, 0, none, 0, by rw [HF.out]; rfl, ⟨[], by rw [HF.out]; exact smR_none _ _⟩, hcz.trans hb⟩
        case pos =>
          have HF := (show Hid (V = smGo ws at2 (ss.drop (k0 + 1)) (gsOf ps ++ [sgOf V1]) (ts ++ [V1.t])) by show _ = _; rw [HVK.out, HST.out, if_pos hcd])
          have z5 : (V1.cd != 0) = false := by simp [hcd]
          clear hcd
          go_upto_region 11 with fail
          have HBB : w.heap.size ≤ wz.heap.size := by have := hcz.size; omega
          refine wp_region_ri (m11 ac nn cc ws Ag k0 cg ps Ad cd2 ts V1 a2 c2 w2.heap.size gq gt w.heap.size (w.heap.size)) [10, 51, 52, 53, 54, 55, 56, 57, 58, 59, 60] (w.heap.size) (fun a0 => a0.tmps.size = 64 ∧ aT a0 9 = .pointer (some ⟨w2.heap.size, 0, none⟩) ∧ aT a0 13 = .pointer (some ⟨gq, 0, none⟩) ∧ aT a0 14 = .pointer (some ⟨gt, 0, none⟩)) (by kernel_rfl) rfl (by kernel_rfl) rfl ⟨rfl, rfl, rfl, rfl⟩ (m11_stb ac nn cc ws Ag k0 cg ps Ad cd2 ts V1 a2 c2 w2.heap.size gq gt w.heap.size (w.heap.size)) ?_ ?_ ?_
          · intro k hk hk2
            match k, hk, hk2 with
            | 12, _, _ => exact HZB.out.1
            | 13, _, _ => exact HZB.out.2.1
            | 14, _, _ => exact HZB.out.2.2
            | 15, _, _ => exact (show OwnG w.heap.size wz Ag k0 cg ps from HSZ.out.gO)
            | 16, _, _ => exact (show OwnSe w.heap.size wz Ad k0 cd2 ts from HSZ.out.tO)
            | 17, _, _ => exact (show Own w.heap.size wz a2 V1.sg.length c2 V1.sg from HOZ.out)
            | 18, _, _ => exact (show Own w.heap.size wz ac nn cc ws from HSZ.out.cO)
            | 19, _, _ => exact rfl
            | 20, _, _ => exact ⟨HRZ.out, by omega⟩
            | 0, hk, _ => exact absurd hk (by show ¬ (12 ≤ 0); omega)
            | 1, hk, _ => exact absurd hk (by show ¬ (12 ≤ 1); omega)
            | 2, hk, _ => exact absurd hk (by show ¬ (12 ≤ 2); omega)
            | 3, hk, _ => exact absurd hk (by show ¬ (12 ≤ 3); omega)
            | 4, hk, _ => exact absurd hk (by show ¬ (12 ≤ 4); omega)
            | 5, hk, _ => exact absurd hk (by show ¬ (12 ≤ 5); omega)
            | 6, hk, _ => exact absurd hk (by show ¬ (12 ≤ 6); omega)
            | 7, hk, _ => exact absurd hk (by show ¬ (12 ≤ 7); omega)
            | 8, hk, _ => exact absurd hk (by show ¬ (12 ≤ 8); omega)
            | 9, hk, _ => exact absurd hk (by show ¬ (12 ≤ 9); omega)
            | 10, hk, _ => exact absurd hk (by show ¬ (12 ≤ 10); omega)
            | 11, hk, _ => exact absurd hk (by show ¬ (12 ≤ 11); omega)
            | k + 21, _, hk2 => exact absurd hk2 (by show ¬ (k + 21 < 21); omega)
          · rintro a0 ⟨hz, g9, g13, g14⟩
            refine StepsRI.cons ?_ (StepsRI.cons ?_ (StepsRI.cons ?_ (StepsRI.cons ?_ (StepsRI.cons ?_ (StepsRI.cons ?_ (StepsRI.cons ?_ (StepsRI.cons ?_ (StepsRI.cons ?_ (StepsRI.cons ?_ (StepsRI.cons ?_ (StepsRI.cons ?_ (StepsRI.nil))))))))))))
            · intro lQ b W hI hUN hED KQ hKQ
              exact opw_field 27 9 1 rfl _ ((hI.fr.same 9 (by decide)).trans g9) _ (by kernel_rfl) (hKQ.out _ _ (hI.put 0 51 rfl rfl (by rw [hz]; decide) rfl hUN rfl HBB (m11_stb ac nn cc ws Ag k0 cg ps Ad cd2 ts V1 a2 c2 w2.heap.size gq gt w.heap.size (w.heap.size)) (Below.refl _ _) rfl))
            · intro lQ b W hI hUN hED KQ hKQ
              have f := hI.got 0 (of_decide_eq_true rfl) (edge hED 0 (by kernel_rfl)) rfl
              have hg := (hI.vot1 12 10 (of_decide_eq_true rfl) (of_decide_eq_true rfl) (unl fun h => by have h2 := (hI.cl 4 (of_decide_eq_true rfl) (hI.cl 10 (of_decide_eq_true rfl) h _ (List.Mem.head _)) _ (List.Mem.head _)); rw [show lQ 1 = false from hUN] at h2; cases h2) rfl)
              have hc : W.cell? ⟨w2.heap.size, 1, none⟩ = some (.slice Ag k0 cg) := (cell_of_row _ _ 1 _ _ (0, 0) hg).trans rfl
              exact opw_load1 25 51 rfl _ f _ (by simp [Instr.loadAt, go_sem, hc]) (hKQ.out _ _ (hI.put 1 52 rfl rfl (by rw [hz]; decide) rfl hUN rfl HBB (m11_stb ac nn cc ws Ag k0 cg ps Ad cd2 ts V1 a2 c2 w2.heap.size gq gt w.heap.size (w.heap.size)) (Below.refl _ _) rfl))
            · intro lQ b W hI hUN hED KQ hKQ
              have hg := (hI.vot1 13 4 (of_decide_eq_true rfl) (of_decide_eq_true rfl) (unl fun h => by have h2 := (hI.cl 3 (of_decide_eq_true rfl) (hI.cl 4 (of_decide_eq_true rfl) h _ (List.Mem.tail _ (List.Mem.head _))) _ (List.Mem.head _)); rw [show lQ 2 = false from hUN] at h2; cases h2) rfl)
              refine wp_load_row 43 _ rfl (gq) ((hI.fr.same 13 (by decide)).trans g13) 43 #[.int .u64 V1.k, .int .i64 V1.at2, .slice a2 V1.sg.length c2, .slice none 0 0] (0, 0) _ hg Tryz.underlying43 rfl (by kernel_rfl) ?_
              exact hKQ.out _ _ (hI.put 2 53 rfl rfl (by rw [hz]; decide) rfl hUN rfl HBB (m11_stb ac nn cc ws Ag k0 cg ps Ad cd2 ts V1 a2 c2 w2.heap.size gq gt w.heap.size (w.heap.size)) (Below.refl _ _) rfl)
            · intro lQ b W hI hUN hED KQ hKQ
              have f := hI.got 2 (of_decide_eq_true rfl) (edge hED 2 (by kernel_rfl)) rfl
              replace f : aT b 53 = .agg #[.int .u64 V1.k, .int .i64 V1.at2, .slice a2 V1.sg.length c2, .slice none 0 0] := f
              refine opw_buildSlice _ 1 _ rfl #[(0, .agg #[.int .u64 V1.k, .int .i64 V1.at2, .slice a2 V1.sg.length c2, .slice none 0 0])] (by simp [ev, f]) (.slice (some ⟨W.heap.size, 0, none⟩) 1 1) (W.alloc (.cells #[.int .u64 V1.k, .int .i64 V1.at2, .slice a2 V1.sg.length c2, .slice none 0 0] 43)) (by kernel_rfl) ?_
              exact hKQ.out _ _ (hI.putp 3 54 (fun j hj => by rcases List.mem_singleton.1 hj with rfl; exact (edge hED 2 (by kernel_rfl))) rfl (by rw [hz]; decide) rfl hUN rfl HBB (m11_stb ac nn cc ws Ag k0 cg ps Ad cd2 ts V1 a2 c2 w2.heap.size gq gt w.heap.size (w.heap.size)) ((Below.refl _ _).alloc (Nat.le_refl _) _) ⟨W.heap.size, rfl, heap_alloc_new W _⟩)
            · intro lQ b W hI hUN hED KQ hKQ
              have f0 : aT b 52 = .slice Ag k0 cg := hI.got 1 (of_decide_eq_true rfl) (edge hED 1 (by kernel_rfl)) rfl
              obtain ⟨gk, f1, hgk⟩ := hI.got1 3 4 (of_decide_eq_true rfl) (edge hED 3 (by kernel_rfl)) hUN rfl
              replace f1 : aT b 54 = .slice (some ⟨gk, 0, none⟩) 1 1 := f1
              have ho := hI.vot1 15 4 (of_decide_eq_true rfl) (of_decide_eq_true rfl) hUN rfl
              have hsg := hI.vot 17 (of_decide_eq_true rfl) (of_decide_eq_true rfl) rfl
              have hRW : w.heap.size ≤ W.heap.size := Nat.le_trans HBB hI.bel.size
              refine opw_append_st 52 54 25 rfl w.heap.size 43 i0 _ 4 64 Tryz.underlying25 hi hz0 hz1 hz2 rfl (by decide) (.slice Ag k0 cg) k0 _ f0 ho.row ⟨gk, 0, none⟩ 1 1 [.int .u64 V1.k, .int .i64 V1.at2, .slice a2 V1.sg.length c2, .slice none 0 0] f1 rfl (cells_of4g hgk) (by intro u hu; simp only [List.mem_cons, List.not_mem_nil, or_false] at hu; rcases hu with rfl | rfl | rfl | rfl <;> rfl) (by unfold maxLen; omega) (by omega) hRW ?_
              intro v' w' hv' hg'
              have hbR : Below w.heap.size W w' := (Below.refl _ _).grown hg' hRW (fun k hk => (ho.row.lt k hk).1)
              obtain ⟨a', c', rfl⟩ := owns_shapeR hv'
              have hN : OwnG w.heap.size w' a' (k0 + 1) c' (ps ++ [((a2, V1.sg.length, c2), sgOf V1)]) := ho.appended (p := ((a2, V1.sg.length, c2), sgOf V1)) hsg HRG.out HAP.out (by rw [List.flatMap_append]; exact hv') hg'
              exact hKQ.out _ _ (hI.turn 4 55 (fun j hj => by rcases List.mem_cons.1 (show j ∈ [1, 3] from hj) with rfl | hj2; exact (edge hED 1 (by kernel_rfl)); rcases List.mem_singleton.1 hj2 with rfl; exact (edge hED 3 (by kernel_rfl))) rfl (by rw [hz]; decide) rfl hUN rfl (hI.bel.trans hbR) (m11_t4 ac nn cc ws Ag k0 cg ps Ad cd2 ts V1 a2 c2 w2.heap.size gq gt w.heap.size (w.heap.size) hg' ho.row (unl fun h => by have h2 := (hI.cl 10 (of_decide_eq_true rfl) h _ (List.Mem.head _)); rw [show lQ 4 = false from hUN] at h2; cases h2)) ⟨a', c', rfl, hN⟩)
            · intro lQ b W hI hUN hED KQ hKQ
              have f : aT b 10 = .slice Ad k0 cd2 := hI.vot1 19 11 (of_decide_eq_true rfl) (of_decide_eq_true rfl) (unl fun h => by have h2 := (hI.cl 8 (of_decide_eq_true rfl) (hI.cl 11 (of_decide_eq_true rfl) h _ (List.Mem.head _)) _ (List.Mem.head _)); rw [show lQ 5 = false from hUN] at h2; cases h2) rfl
              exact opw_move 10 rfl (hKQ.out _ _ (hI.put 5 56 rfl rfl (by rw [hz]; decide) rfl hUN rfl HBB (m11_stb ac nn cc ws Ag k0 cg ps Ad cd2 ts V1 a2 c2 w2.heap.size gq gt w.heap.size (w.heap.size)) (Below.refl _ _) f))
            · intro lQ b W hI hUN hED KQ hKQ
              have hg := (hI.vot1 14 8 (of_decide_eq_true rfl) (of_decide_eq_true rfl) (unl fun h => by have h2 := (hI.cl 7 (of_decide_eq_true rfl) (hI.cl 8 (of_decide_eq_true rfl) h _ (List.Mem.tail _ (List.Mem.head _))) _ (List.Mem.head _)); rw [show lQ 6 = false from hUN] at h2; cases h2) rfl)
              refine wp_load_row 45 _ rfl (gt) ((hI.fr.same 14 (by decide)).trans g14) 45 #[.int .i64 V1.t.1, .int .u64 V1.t.2.1, .int .i64 V1.t.2.2.1, .int .i64 V1.t.2.2.2] (0, 0) _ hg Tryz.underlying45 rfl (by kernel_rfl) ?_
              exact hKQ.out _ _ (hI.put 6 57 rfl rfl (by rw [hz]; decide) rfl hUN rfl HBB (m11_stb ac nn cc ws Ag k0 cg ps Ad cd2 ts V1 a2 c2 w2.heap.size gq gt w.heap.size (w.heap.size)) (Below.refl _ _) rfl)
            · intro lQ b W hI hUN hED KQ hKQ
              have f := hI.got 6 (of_decide_eq_true rfl) (edge hED 6 (by kernel_rfl)) rfl
              replace f : aT b 57 = .agg #[.int .i64 V1.t.1, .int .u64 V1.t.2.1, .int .i64 V1.t.2.2.1, .int .i64 V1.t.2.2.2] := f
              refine opw_buildSlice _ 1 _ rfl #[(0, .agg #[.int .i64 V1.t.1, .int .u64 V1.t.2.1, .int .i64 V1.t.2.2.1, .int .i64 V1.t.2.2.2])] (by simp [ev, f]) (.slice (some ⟨W.heap.size, 0, none⟩) 1 1) (W.alloc (.cells #[.int .i64 V1.t.1, .int .u64 V1.t.2.1, .int .i64 V1.t.2.2.1, .int .i64 V1.t.2.2.2] 45)) (by kernel_rfl) ?_
              exact hKQ.out _ _ (hI.putp 7 58 (fun j hj => by rcases List.mem_singleton.1 hj with rfl; exact (edge hED 6 (by kernel_rfl))) rfl (by rw [hz]; decide) rfl hUN rfl HBB (m11_stb ac nn cc ws Ag k0 cg ps Ad cd2 ts V1 a2 c2 w2.heap.size gq gt w.heap.size (w.heap.size)) ((Below.refl _ _).alloc (Nat.le_refl _) _) ⟨W.heap.size, rfl, heap_alloc_new W _⟩)
            · intro lQ b W hI hUN hED KQ hKQ
              have f0 : aT b 56 = .slice Ad k0 cd2 := hI.got 5 (of_decide_eq_true rfl) (edge hED 5 (by kernel_rfl)) rfl
              obtain ⟨gk, f1, hgk⟩ := hI.got1 7 8 (of_decide_eq_true rfl) (edge hED 7 (by kernel_rfl)) hUN rfl
              replace f1 : aT b 58 = .slice (some ⟨gk, 0, none⟩) 1 1 := f1
              have ho := hI.vot1 16 8 (of_decide_eq_true rfl) (of_decide_eq_true rfl) hUN rfl
              have hRW : w.heap.size ≤ W.heap.size := Nat.le_trans HBB hI.bel.size
              refine opw_append_st 56 58 28 rfl w.heap.size 45 j0 _ 4 32 Tryz.underlying28 ji jz0 jz1 jz2 rfl (by decide) (.slice Ad k0 cd2) k0 _ f0 ho.row ⟨gk, 0, none⟩ 1 1 (flSe [V1.t]) f1 rfl (cells_of4g hgk) (flSe_one _) (by unfold maxLen; omega) (by omega) hRW ?_
              intro v' w' hv' hg'
              have hbR : Below w.heap.size W w' := (Below.refl _ _).grown hg' hRW (fun k hk => (ho.row.lt k hk).1)
              obtain ⟨a', c', rfl, hN⟩ := ownSe_appended (xs := ts) (ys := [V1.t]) ho.rng (USe.one HRT.out) hv'
              exact hKQ.out _ _ (hI.turn 8 59 (fun j hj => by rcases List.mem_cons.1 (show j ∈ [5, 7] from hj) with rfl | hj2; exact (edge hED 5 (by kernel_rfl)); rcases List.mem_singleton.1 hj2 with rfl; exact (edge hED 7 (by kernel_rfl))) rfl (by rw [hz]; decide) rfl hUN rfl (hI.bel.trans hbR) (m11_t8 ac nn cc ws Ag k0 cg ps Ad cd2 ts V1 a2 c2 w2.heap.size gq gt w.heap.size (w.heap.size) hg' ho.row (unl fun h => by have h2 := (hI.cl 11 (of_decide_eq_true rfl) h _ (List.Mem.head _)); rw [show lQ 8 = false from hUN] at h2; cases h2)) ⟨a', c', rfl, hN⟩)
            · intro lQ b W hI hUN hED KQ hKQ
              exact opw_field 27 9 1 rfl _ ((hI.fr.same 9 (by decide)).trans g9) _ (by kernel_rfl) (hKQ.out _ _ (hI.put 9 60 rfl rfl (by rw [hz]; decide) rfl hUN rfl HBB (m11_stb ac nn cc ws Ag k0 cg ps Ad cd2 ts V1 a2 c2 w2.heap.size gq gt w.heap.size (w.heap.size)) (Below.refl _ _) rfl))
            · intro lQ b W hI hUN hED KQ hKQ
              have fp : aT b 60 = .pointer (some ⟨w2.heap.size, 1, none⟩) := hI.got 9 (of_decide_eq_true rfl) (edge hED 9 (by kernel_rfl)) rfl
              have hgb := hI.vot1 12 10 (of_decide_eq_true rfl) (of_decide_eq_true rfl) hUN rfl
              have f := hI.got 4 (of_decide_eq_true rfl) (edge hED 4 (by kernel_rfl)) rfl
              obtain ⟨a', c', f, o_0⟩ := f
              replace f : aT b 55 = .slice a' (k0 + 1) c' := f
              have hcc := (cell_of_row _ _ 1 _ _ (0, 0) hgb).trans rfl
              have hfz := frozen_of_row W _ 1 _ _ hgb
              refine opw_store1 25 60 55 rfl ⟨w2.heap.size, 1, none⟩ _ fp f (W.setCell ⟨w2.heap.size, 1, none⟩ (.slice a' (k0 + 1) c')) (by simp [Instr.storeAt, go_sem, hcc, hfz]) ?_
              have ht : Touch (w2.heap.size) (w2.heap.size + 1) W (W.setCell ⟨w2.heap.size, 1, none⟩ (.slice a' (k0 + 1) c')) := touch_set1 _ _ _ _
              exact hKQ.out _ _ (hI.store 10 (fun j hj => by
                  rcases List.mem_singleton.1 hj with rfl
                  exact edge hED 4 (by kernel_rfl)) (hI.bel.trans (ht.below (by first | exact HGE9 | omega) (Nat.le_trans HBB hI.bel.size))) (m11_st10 ac nn cc ws Ag k0 cg ps Ad cd2 ts V1 a2 c2 w2.heap.size gq gt w.heap.size (w.heap.size) hgb ht) ⟨a', c', (heap_setCell_same W _ 1 _ _ _ hgb), o_0.touched hgb (by decide) (by decide) ht⟩)
            · intro lQ b W hI hUN hED KQ hKQ
              have f := hI.got 8 (of_decide_eq_true rfl) (edge hED 8 (by kernel_rfl)) rfl
              exact opw_assign 59 rfl (hKQ.out _ _ (hI.putp 11 10 (fun j hj => by rcases List.mem_singleton.1 hj with rfl; exact (edge hED 8 (by kernel_rfl))) rfl (by rw [hz]; decide) rfl hUN rfl HBB (m11_stb ac nn cc ws Ag k0 cg ps Ad cd2 ts V1 a2 c2 w2.heap.size gq gt w.heap.size (w.heap.size)) (Below.refl _ _) f))
          · intro b W hf hb F
            obtain ⟨a', c', hbx, hxg⟩ := F 10 (of_decide_eq_true rfl) rfl
            obtain ⟨a3, c3, e10, hxt⟩ := F 11 (of_decide_eq_true rfl) rfl
            have hxc : Own w.heap.size W ac nn cc ws := F 18 (of_decide_eq_true rfl) rfl
            have hres : W.heap[w.heap.size]? = some (.cells #[.slice none 0 0, .slice none 0 0] 27 (0, 0)) ∧ _ := F 20 (of_decide_eq_true rfl) rfl
            replace e10 : aT b 10 = _ := e10
            rw [hf.eq]
            simp only [puts, Act.put, List.setIfInBounds_toArray, List.set_cons_zero, List.set_cons_succ, e10]
            clear hf F e10
            generalize aT b = AT
            clear b
            obtain ⟨wv, hWv⟩ : ∃ wv, wv = W := ⟨_, rfl⟩
            subst hWv
            have HNX : Hid (SmI w.heap.size w2.heap.size w wv ac nn cc ws a' (k0 + 1) c' (ps ++ [((a2, V1.sg.length, c2), sgOf V1)]) a3 c3 (ts ++ [V1.t])) := ⟨hbx, hres.1, ⟨hxc, hxg, rfl, hxt, HSEP2.out⟩, (hbr.trans (hb8.mono hbr.size)).trans hb⟩
            have HVX : Hid (V = smGo ws at2 (ss.drop (k0 + 1)) (gsOf (ps ++ [((a2, V1.sg.length, c2), sgOf V1)])) (ts ++ [V1.t])) := by show _ = _; rw [HF.out]; simp [gsOf]
            clear hbx hxg hxt hxc hres hb
            go_wp2
            go_roundw
            case rel => exact ⟨k0 + 1, a', c', ps ++ [((a2, V1.sg.length, c2), sgOf V1)], a3, c3, ts ++ [V1.t], by omega, rfl, by go_num, HNX, HVX⟩
            case measure => simp [intOf]; omega
    · obtain rfl : k0 = n0 := by omega
      have HF := (show Hid (V = ⟨ws, gsOf ps, ts, 0⟩) by show _ = _; rw [HVK.out, List.drop_of_length_le (by rw [HLS.out]; exact Nat.le_refl _)]; rfl)
      have HL1 : Hid (ws.length = nn) := HSR.out.cO.length
      have HL2 : Hid ((gsOf ps).length = k0) := by show _ = _; rw [gsOf, List.length_map]; exact HSR.out.gO.len
      have HL3 : Hid (ts.length = k0) := HSR.out.tO.len
      have HSEP : Hid (_) := HSR.out.sep
      go_upto_region 13 with fail
      have HBB : w.heap.size ≤ wr.heap.size := by omega
      refine wp_region_rp (m13 ac nn cc ws Ag k0 cg ps Ad cd2 ts w2.heap.size w.heap.size (w.heap.size)) [7, 8, 62, 63] (w.heap.size) (fun a0 => a0.tmps.size = 64 ∧ aT a0 6 = .pointer (some ⟨w.heap.size, 0, none⟩) ∧ aT a0 9 = .pointer (some ⟨w2.heap.size, 0, none⟩) ∧ aT a0 10 = .slice Ad k0 cd2) rfl (by kernel_rfl) rfl ⟨rfl, rfl, rfl, rfl⟩ (m13_stb ac nn cc ws Ag k0 cg ps Ad cd2 ts w2.heap.size w.heap.size (w.heap.size)) ?_ ?_ ?_
      · intro k hk hk2
        match k, hk, hk2 with
        | 5, _, _ => exact ⟨HIB.out.1, by omega⟩
        | 6, _, _ => exact HIB.out.2
        | 7, _, _ => exact (show Own w.heap.size wr ac nn cc ws from HSR.out.cO)
        | 8, _, _ => exact (show OwnG w.heap.size wr Ag k0 cg ps from HSR.out.gO)
        | 9, _, _ => exact (show OwnSe w.heap.size wr Ad k0 cd2 ts from HSR.out.tO)
        | 0, hk, _ => exact absurd hk (by show ¬ (5 ≤ 0); omega)
        | 1, hk, _ => exact absurd hk (by show ¬ (5 ≤ 1); omega)
        | 2, hk, _ => exact absurd hk (by show ¬ (5 ≤ 2); omega)
        | 3, hk, _ => exact absurd hk (by show ¬ (5 ≤ 3); omega)
        | 4, hk, _ => exact absurd hk (by show ¬ (5 ≤ 4); omega)
        | k + 10, _, hk2 => exact absurd hk2 (by show ¬ (k + 10 < 10); omega)
      · rintro a0 ⟨hz, g6, g9, g10⟩
        refine StepsRI.cons ?_ (StepsRI.cons ?_ (StepsRI.cons ?_ (StepsRI.cons ?_ (StepsRI.cons ?_ (StepsRI.nil)))))
        · intro lQ b W hI hUN hED KQ hKQ
          have hg := (hI.vot 5 (of_decide_eq_true rfl) (of_decide_eq_true rfl) rfl).1
          refine wp_load_row 27 _ rfl (w2.heap.size) ((hI.fr.same 9 (by decide)).trans g9) 27 #[.slice ac nn cc, .slice Ag k0 cg] (0, 0) _ hg Tryz.underlying27 rfl (by kernel_rfl) ?_
          exact hKQ.out _ _ (hI.put 0 62 rfl rfl (by rw [hz]; decide) rfl hUN rfl HBB (m13_stb ac nn cc ws Ag k0 cg ps Ad cd2 ts w2.heap.size w.heap.size (w.heap.size)) (Below.refl _ _) rfl)
        · intro lQ b W hI hUN hED KQ hKQ
          exact opw_move 10 rfl (hKQ.out _ _ (hI.put 1 63 rfl rfl (by rw [hz]; decide) rfl hUN rfl HBB (m13_stb ac nn cc ws Ag k0 cg ps Ad cd2 ts w2.heap.size w.heap.size (w.heap.size)) (Below.refl _ _) ((hI.fr.same 10 (by decide)).trans g10)))
        · intro lQ b W hI hUN hED KQ hKQ
          have hgb := (hI.vot1 6 2 (of_decide_eq_true rfl) (of_decide_eq_true rfl) hUN rfl)
          have fb := ((hI.fr.same 6 (by decide)).trans g6)
          have f := hI.got 0 (of_decide_eq_true rfl) (edge hED 0 (by kernel_rfl)) rfl
          refine wp_store_row 27 _ _ rfl (w.heap.size) #[.slice ac nn cc, .slice Ag k0 cg] fb f 27 _ hgb (by kernel_rfl) rfl (by simp [Value.oneCell']) ?_
          have ht := setRow_touch W (w.heap.size) #[.slice ac nn cc, .slice Ag k0 cg]
          exact hKQ.out _ _ (hI.store 2 (fun j hj => by cases hj) (hI.bel.trans (ht.below (by first | exact HGE6 | omega) (Nat.le_trans HBB hI.bel.size))) (m13_st2 ac nn cc ws Ag k0 cg ps Ad cd2 ts w2.heap.size w.heap.size (w.heap.size) hgb ht) (setRow_heap W (w.heap.size) _ _ _ _ hgb))
        · intro lQ b W hI hUN hED KQ hKQ
          have f := hI.got 1 (of_decide_eq_true rfl) (edge hED 1 (by kernel_rfl)) rfl
          exact opw_assign 63 rfl (hKQ.out _ _ (hI.put 3 7 rfl rfl (by rw [hz]; decide) rfl hUN rfl HBB (m13_stb ac nn cc ws Ag k0 cg ps Ad cd2 ts w2.heap.size w.heap.size (w.heap.size)) (Below.refl _ _) f))
        · intro lQ b W hI hUN hED KQ hKQ
          exact opw_const (.int .i64 0) rfl (hKQ.out _ _ (hI.put 4 8 rfl rfl (by rw [hz]; decide) rfl hUN rfl HBB (m13_stb ac nn cc ws Ag k0 cg ps Ad cd2 ts w2.heap.size w.heap.size (w.heap.size)) (Below.refl _ _) rfl))
      · intro b W hf hb F
        have e0 := F 2 (of_decide_eq_true rfl) rfl
        have e7 := F 3 (of_decide_eq_true rfl) rfl
        have e8 := F 4 (of_decide_eq_true rfl) rfl
        have hxc := F 7 (of_decide_eq_true rfl) rfl
        have hxg := F 8 (of_decide_eq_true rfl) rfl
        have hxt := F 9 (of_decide_eq_true rfl) rfl
        replace e7 : aT b 7 = _ := e7
        replace e8 : aT b 8 = _ := e8
        rw [hf.eq]
        simp only [puts, Act.put, List.setIfInBounds_toArray, List.set_cons_zero, List.set_cons_succ, e7, e8]
        clear hf F
        go_wp2
        try simp only [Exit.inBlock, Exit.then]
        exact bodyPost_ret (results_sm rfl _ w.heap.size rfl _ rfl _ rfl _ _ e0 rfl) rfl ⟨ac, cc, Ag, cg, Ad, cd2, by rw [HF.out]; simp [smOut, HL1.out, HL2.out, HL3.out], ⟨ps, by rw [HF.out]; simpa [HL1.out, HL2.out, HL3.out] using (⟨hxc, hxg, rfl, hxt, HSEP.out⟩ : SmR w.heap.size W ws (gsOf ps) ts ac nn cc Ag k0 cg Ad k0 cd2 ps)⟩, hbr.trans hb⟩

end Go.Proofs.YtgbjleapaioemaaGreat

set_option linter.unusedVariables false
namespace Go.Proofs.YtgbjleapaioemaaGreat
open Go.RowKit Go.Sort

theorem ownSe_empty {B : Nat} (w : World) (h : B ≤ w.heap.size) : OwnSe B (w.alloc (.cells #[] 45)) (some ⟨w.heap.size, 0, none⟩) 0 0 [] :=
  ⟨World.ownsRow_lit w #[] 0 h (Nat.zero_le _) rfl, USe.nil⟩

/-- What is known of a region (RJ). -/
def v2 (cd : Int) (G B : Nat) : RSpec where
  m := 5
  n := 6
  slots := [28, 29, 100002, 7, 8, 100005]
  kills := [[], [], [], [], [], [2]]
  pres := [[], [], [], [], [], []]
  fact := fun k v w => match k with
    | 0 => v = .agg #[.slice none 0 0, .slice none 0 0]
    | 1 => ∃ gz, v = .slice (some ⟨gz, 0, none⟩) 0 0 ∧ OwnSe B w (some ⟨gz, 0, none⟩) 0 0 []
    | 2 => w.heap[G]? = some (.cells #[.slice none 0 0, .slice none 0 0] 27 (0, 0))
    | 3 => ∃ gz, v = .slice (some ⟨gz, 0, none⟩) 0 0 ∧ OwnSe B w (some ⟨gz, 0, none⟩) 0 0 []
    | 4 => v = .int .i64 1
    | _ => w.heap[G]? = some (.cells #[.slice none 0 0, .slice none 0 0] 27 (0, 0))
set_option linter.unusedVariables false in
theorem v2_stb (cd : Int) (G B : Nat) (k : Nat) (hk : k < 6) : StB ((v2 cd G (B)).fact k) := by
  match k, hk with
  | 0, _ => exact fun _ _ _ h _ => h
  | 1, _ => exact fun _ _ _ ⟨gz, hv, q_0⟩ hb => ⟨gz, hv, q_0.kept hb⟩
  | 2, _ => exact fun _ _ _ q_0 hb => below_kept q_0 hb
  | 3, _ => exact fun _ _ _ ⟨gz, hv, q_0⟩ hb => ⟨gz, hv, q_0.kept hb⟩
  | 4, _ => exact fun _ _ _ h _ => h
  | 5, _ => exact fun _ _ _ q_0 hb => below_kept q_0 hb
  | k + 6, hk => omega
set_option linter.unusedVariables false in
theorem v2_st2 (cd : Int) (G B : Nat) {W W2 : World} {cs : Array Value} {fr : Nat × Nat} (hg : W.heap[G]? = some (.cells cs 27 fr)) (ht : Touch (G) (G + 1) W W2) (k : Nat) (hk : k < 6) (hne : k ≠ 2) (hkill : 2 ∉ (v2 cd G (B)).kill k) (v : Value) (hfact : (v2 cd G (B)).fact k v W) : (v2 cd G (B)).fact k v W2 := by
  match k, hk, hne, hkill, hfact with
  | 0, _, _, _, hq => exact hq
  | 1, _, _, _, ⟨gz, hv, q_0⟩ => exact ⟨gz, hv, q_0.touched hg (by decide) (by decide) ht⟩
  | 2, _, hne, _, _ => exact absurd rfl hne
  | 3, _, _, _, ⟨gz, hv, q_0⟩ => exact ⟨gz, hv, q_0.touched hg (by decide) (by decide) ht⟩
  | 4, _, _, _, hq => exact hq
  | 5, _, _, hkill, _ => exact absurd (List.Mem.head _) hkill
  | k + 6, hk, _, _, _ => omega
/-- What is known of a region (RJ). -/
def v10 (cd : Int) (G B : Nat) : RSpec where
  m := 6
  n := 7
  slots := [54, 55, 56, 100003, 7, 8, 100006]
  kills := [[], [], [], [], [], [], [3]]
  pres := [[], [], [], [], [], [], []]
  fact := fun k v w => match k with
    | 0 => v = .agg #[.slice none 0 0, .slice none 0 0]
    | 1 => ∃ gz, v = .slice (some ⟨gz, 0, none⟩) 0 0 ∧ OwnSe B w (some ⟨gz, 0, none⟩) 0 0 []
    | 2 => v = .int .i64 cd
    | 3 => w.heap[G]? = some (.cells #[.slice none 0 0, .slice none 0 0] 27 (0, 0))
    | 4 => ∃ gz, v = .slice (some ⟨gz, 0, none⟩) 0 0 ∧ OwnSe B w (some ⟨gz, 0, none⟩) 0 0 []
    | 5 => v = .int .i64 cd
    | _ => w.heap[G]? = some (.cells #[.slice none 0 0, .slice none 0 0] 27 (0, 0))
set_option linter.unusedVariables false in
theorem v10_stb (cd : Int) (G B : Nat) (k : Nat) (hk : k < 7) : StB ((v10 cd G (B)).fact k) := by
  match k, hk with
  | 0, _ => exact fun _ _ _ h _ => h
  | 1, _ => exact fun _ _ _ ⟨gz, hv, q_0⟩ hb => ⟨gz, hv, q_0.kept hb⟩
  | 2, _ => exact fun _ _ _ h _ => h
  | 3, _ => exact fun _ _ _ q_0 hb => below_kept q_0 hb
  | 4, _ => exact fun _ _ _ ⟨gz, hv, q_0⟩ hb => ⟨gz, hv, q_0.kept hb⟩
  | 5, _ => exact fun _ _ _ h _ => h
  | 6, _ => exact fun _ _ _ q_0 hb => below_kept q_0 hb
  | k + 7, hk => omega
set_option linter.unusedVariables false in
theorem v10_st3 (cd : Int) (G B : Nat) {W W2 : World} {cs : Array Value} {fr : Nat × Nat} (hg : W.heap[G]? = some (.cells cs 27 fr)) (ht : Touch (G) (G + 1) W W2) (k : Nat) (hk : k < 7) (hne : k ≠ 3) (hkill : 3 ∉ (v10 cd G (B)).kill k) (v : Value) (hfact : (v10 cd G (B)).fact k v W) : (v10 cd G (B)).fact k v W2 := by
  match k, hk, hne, hkill, hfact with
  | 0, _, _, _, hq => exact hq
  | 1, _, _, _, ⟨gz, hv, q_0⟩ => exact ⟨gz, hv, q_0.touched hg (by decide) (by decide) ht⟩
  | 2, _, _, _, hq => exact hq
  | 3, _, hne, _, _ => exact absurd rfl hne
  | 4, _, _, _, ⟨gz, hv, q_0⟩ => exact ⟨gz, hv, q_0.touched hg (by decide) (by decide) ht⟩
  | 5, _, _, _, hq => exact hq
  | 6, _, _, hkill, _ => exact absurd (List.Mem.head _) hkill
  | k + 7, hk, _, _, _ => omega
/-- What is known of a region (RJ). -/
def n11 (ac : Option Addr) (nn cc : Nat) (ws : List Int) (Ag : Option Addr) (k0 cg : Nat) (ps : List Gq) (Ad : Option Addr) (cd2 : Nat) (ts : List Sc4) (V1 : NsV) (a2 : Option Addr) (c2 gm gq gt G0 B : Nat) : RSpec where
  m := 7
  n := 15
  slots := [57, 58, 59, 60, 61, 62, 100006, 100007, 100008, 100009, 100010, 100011, 100012, 100013, 100014]
  kills := [[], [], [], [4], [], [], [], [6], [4], [], [4], [], [], [], []]
  pres := [[], [], [], [2], [1, 3], [], [4], [], [], [], [], [], [], [], []]
  fact := fun k v w => match k with
    | 0 => v = .pointer (some ⟨gm, 1, none⟩)
    | 1 => v = .slice Ag k0 cg
    | 2 => v = .agg #[.int .u64 V1.k, .int .i64 V1.at2, .slice a2 V1.sg.length c2, .slice none 0 0]
    | 3 => ∃ gk, v = .slice (some ⟨gk, 0, none⟩) 1 1 ∧ w.heap[gk]? = some (.cells #[.int .u64 V1.k, .int .i64 V1.at2, .slice a2 V1.sg.length c2, .slice none 0 0] 43 (0, 0))
    | 4 => ∃ a' c', v = .slice a' (k0 + 1) c' ∧ OwnG B w a' (k0 + 1) c' (ps ++ [((a2, V1.sg.length, c2), sgOf V1)])
    | 5 => v = .pointer (some ⟨gm, 1, none⟩)
    | 6 => ∃ a' c', w.heap[gm]? = some (.cells #[.slice ac nn cc, .slice a' (k0 + 1) c'] 27 (0, 0)) ∧ OwnG B w a' (k0 + 1) c' (ps ++ [((a2, V1.sg.length, c2), sgOf V1)])
    | 7 => w.heap[gm]? = some (.cells #[.slice ac nn cc, .slice Ag k0 cg] 27 (0, 0))
    | 8 => w.heap[gq]? = some (.cells #[.int .u64 V1.k, .int .i64 V1.at2, .slice a2 V1.sg.length c2, .slice none 0 0] 43 (0, 0))
    | 9 => w.heap[gt]? = some (.cells #[.int .i64 V1.t.1, .int .u64 V1.t.2.1, .int .i64 V1.t.2.2.1, .int .i64 V1.t.2.2.2] 45 (0, 0))
    | 10 => OwnG B w Ag k0 cg ps
    | 11 => OwnSe B w Ad k0 cd2 ts
    | 12 => Own B w a2 V1.sg.length c2 V1.sg
    | 13 => Own B w ac nn cc ws
    | _ => w.heap[G0]? = some (.cells #[.slice none 0 0, .slice none 0 0] 27 (0, 0)) ∧ G0 ≠ gm
set_option linter.unusedVariables false in
theorem n11_stb (ac : Option Addr) (nn cc : Nat) (ws : List Int) (Ag : Option Addr) (k0 cg : Nat) (ps : List Gq) (Ad : Option Addr) (cd2 : Nat) (ts : List Sc4) (V1 : NsV) (a2 : Option Addr) (c2 gm gq gt G0 B : Nat) (k : Nat) (hk : k < 15) : StB ((n11 ac nn cc ws Ag k0 cg ps Ad cd2 ts V1 a2 c2 gm gq gt G0 (B)).fact k) := by
  match k, hk with
  | 0, _ => exact fun _ _ _ h _ => h
  | 1, _ => exact fun _ _ _ h _ => h
  | 2, _ => exact fun _ _ _ h _ => h
  | 3, _ => exact fun _ _ _ ⟨gk, hv, q_0⟩ hb => ⟨gk, hv, below_kept q_0 hb⟩
  | 4, _ => exact fun _ _ _ ⟨a', c', hv, q_0⟩ hb => ⟨a', c', hv, q_0.kept hb⟩
  | 5, _ => exact fun _ _ _ h _ => h
  | 6, _ => exact fun _ _ _ ⟨a', c', q_0, q_1⟩ hb => ⟨a', c', below_kept q_0 hb, q_1.kept hb⟩
  | 7, _ => exact fun _ _ _ q_0 hb => below_kept q_0 hb
  | 8, _ => exact fun _ _ _ q_0 hb => below_kept q_0 hb
  | 9, _ => exact fun _ _ _ q_0 hb => below_kept q_0 hb
  | 10, _ => exact fun _ _ _ q_0 hb => q_0.kept hb
  | 11, _ => exact fun _ _ _ q_0 hb => q_0.kept hb
  | 12, _ => exact fun _ _ _ q_0 hb => q_0.kept hb
  | 13, _ => exact fun _ _ _ q_0 hb => q_0.kept hb
  | 14, _ => exact fun _ _ _ ⟨q_0, q_1⟩ hb => ⟨below_kept q_0 hb, q_1⟩
  | k + 15, hk => omega
set_option linter.unusedVariables false in
theorem n11_st6 (ac : Option Addr) (nn cc : Nat) (ws : List Int) (Ag : Option Addr) (k0 cg : Nat) (ps : List Gq) (Ad : Option Addr) (cd2 : Nat) (ts : List Sc4) (V1 : NsV) (a2 : Option Addr) (c2 gm gq gt G0 B : Nat) {W W2 : World} {cs : Array Value} {fr : Nat × Nat} (hg : W.heap[gm]? = some (.cells cs 27 fr)) (ht : Touch (gm) (gm + 1) W W2) (k : Nat) (hk : k < 15) (hne : k ≠ 6) (hkill : 6 ∉ (n11 ac nn cc ws Ag k0 cg ps Ad cd2 ts V1 a2 c2 gm gq gt G0 (B)).kill k) (v : Value) (hfact : (n11 ac nn cc ws Ag k0 cg ps Ad cd2 ts V1 a2 c2 gm gq gt G0 (B)).fact k v W) : (n11 ac nn cc ws Ag k0 cg ps Ad cd2 ts V1 a2 c2 gm gq gt G0 (B)).fact k v W2 := by
  match k, hk, hne, hkill, hfact with
  | 0, _, _, _, hq => exact hq
  | 1, _, _, _, hq => exact hq
  | 2, _, _, _, hq => exact hq
  | 3, _, _, _, ⟨gk, hv, q_0⟩ => exact ⟨gk, hv, box_box q_0 hg (by decide) ht⟩
  | 4, _, _, _, ⟨a', c', hv, q_0⟩ => exact ⟨a', c', hv, q_0.touched hg (by decide) (by decide) ht⟩
  | 5, _, _, _, hq => exact hq
  | 6, _, hne, _, _ => exact absurd rfl hne
  | 7, _, _, hkill, _ => exact absurd (List.Mem.head _) hkill
  | 8, _, _, _, q_0 => exact box_box q_0 hg (by decide) ht
  | 9, _, _, _, q_0 => exact box_box q_0 hg (by decide) ht
  | 10, _, _, _, q_0 => exact q_0.touched hg (by decide) (by decide) ht
  | 11, _, _, _, q_0 => exact q_0.touched hg (by decide) (by decide) ht
  | 12, _, _, _, q_0 => exact ⟨ownsRow_box q_0.row hg (by decide) ht, q_0.byte⟩
  | 13, _, _, _, q_0 => exact ⟨ownsRow_box q_0.row hg (by decide) ht, q_0.byte⟩
  | 14, _, _, _, ⟨q_0, q_1⟩ => exact ⟨(ht.block _ (Array.getElem?_eq_some_iff.1 q_0).1 (by omega)).trans q_0, q_1⟩
  | k + 15, hk, _, _, _ => omega
set_option linter.unusedVariables false in
theorem n11_t4 (ac : Option Addr) (nn cc : Nat) (ws : List Int) (Ag : Option Addr) (k0 cg : Nat) (ps : List Gq) (Ad : Option Addr) (cd2 : Nat) (ts : List Sc4) (V1 : NsV) (a2 : Option Addr) (c2 gm gq gt G0 B : Nat) {W W2 : World} {v0 : Value} {m0 : Nat} {vs0 : List Value} (hg : W.grownBy W2 v0.ownBlock) (ho : W.ownsRow B 43 4 v0 m0 vs0) {lq : Nat → Bool} (ll : lq 6 = false) (k : Nat) (hk : k < 15) (hne : k ≠ 4) (hl : lq k = true) (hkill : ∀ j ∈ (n11 ac nn cc ws Ag k0 cg ps Ad cd2 ts V1 a2 c2 gm gq gt G0 (B)).kill k, upd lq 4 j = false) (v : Value) (hfact : (n11 ac nn cc ws Ag k0 cg ps Ad cd2 ts V1 a2 c2 gm gq gt G0 (B)).fact k v W) : (n11 ac nn cc ws Ag k0 cg ps Ad cd2 ts V1 a2 c2 gm gq gt G0 (B)).fact k v W2 := by
  match k, hk, hne, hl, hkill, hfact with
  | 0, _, _, _, _, hq => exact hq
  | 1, _, _, _, _, hq => exact hq
  | 2, _, _, _, _, hq => exact hq
  | 3, _, _, _, hkill, _ => exact absurd (hkill 4 (List.Mem.head _)) (by rw [upd_same]; decide)
  | 4, _, hne, _, _, _ => exact absurd rfl hne
  | 5, _, _, _, _, hq => exact hq
  | 6, _, _, hl, _, _ => exact absurd hl (by rw [ll]; decide)
  | 7, _, _, _, _, q_0 => exact box_grown q_0 hg ho (by decide)
  | 8, _, _, _, hkill, _ => exact absurd (hkill 4 (List.Mem.head _)) (by rw [upd_same]; decide)
  | 9, _, _, _, _, q_0 => exact box_grown q_0 hg ho (by decide)
  | 10, _, _, _, hkill, _ => exact absurd (hkill 4 (List.Mem.head _)) (by rw [upd_same]; decide)
  | 11, _, _, _, _, q_0 => exact q_0.grown hg ho (by decide) (by decide)
  | 12, _, _, _, _, q_0 => exact ⟨q_0.row.kept hg (blocks_apartR q_0.row ho (by decide)), q_0.byte⟩
  | 13, _, _, _, _, q_0 => exact ⟨q_0.row.kept hg (blocks_apartR q_0.row ho (by decide)), q_0.byte⟩
  | 14, _, _, _, _, ⟨q_0, q_1⟩ => exact ⟨box_grown q_0 hg ho (by decide), q_1⟩
  | k + 15, hk, _, _, _, _ => omega
/-- What is known of a region (RJ). -/
def n12 (ac : Option Addr) (nn cc : Nat) (ws : List Int) (Ag : Option Addr) (k0 cg : Nat) (ps : List Gq) (Ad : Option Addr) (cd2 : Nat) (ts : List Sc4) (V1 : NsV) (a2 : Option Addr) (c2 gm gq gt G0 B : Nat) : RSpec where
  m := 5
  n := 12
  slots := [63, 64, 65, 66, 10, 100005, 100006, 10, 100008, 100009, 100010, 100011]
  kills := [[], [], [3], [], [], [3], [3], [4], [], [], [], []]
  pres := [[], [], [1], [0, 2], [3], [], [], [], [], [], [], []]
  fact := fun k v w => match k with
    | 0 => v = .slice Ad k0 cd2
    | 1 => v = .agg #[.int .i64 V1.t.1, .int .u64 V1.t.2.1, .int .i64 V1.t.2.2.1, .int .i64 V1.t.2.2.2]
    | 2 => ∃ gk, v = .slice (some ⟨gk, 0, none⟩) 1 1 ∧ w.heap[gk]? = some (.cells #[.int .i64 V1.t.1, .int .u64 V1.t.2.1, .int .i64 V1.t.2.2.1, .int .i64 V1.t.2.2.2] 45 (0, 0))
    | 3 => ∃ a' c', v = .slice a' (k0 + 1) c' ∧ OwnSe B w a' (k0 + 1) c' (ts ++ [V1.t])
    | 4 => ∃ a' c', v = .slice a' (k0 + 1) c' ∧ OwnSe B w a' (k0 + 1) c' (ts ++ [V1.t])
    | 5 => w.heap[gt]? = some (.cells #[.int .i64 V1.t.1, .int .u64 V1.t.2.1, .int .i64 V1.t.2.2.1, .int .i64 V1.t.2.2.2] 45 (0, 0))
    | 6 => OwnSe B w Ad k0 cd2 ts
    | 7 => v = .slice Ad k0 cd2
    | 8 => OwnG B w Ag (k0 + 1) cg ps
    | 9 => w.heap[gm]? = some (.cells #[.slice ac nn cc, .slice Ag (k0 + 1) cg] 27 (0, 0))
    | 10 => Own B w ac nn cc ws
    | _ => w.heap[G0]? = some (.cells #[.slice none 0 0, .slice none 0 0] 27 (0, 0))
set_option linter.unusedVariables false in
theorem n12_stb (ac : Option Addr) (nn cc : Nat) (ws : List Int) (Ag : Option Addr) (k0 cg : Nat) (ps : List Gq) (Ad : Option Addr) (cd2 : Nat) (ts : List Sc4) (V1 : NsV) (a2 : Option Addr) (c2 gm gq gt G0 B : Nat) (k : Nat) (hk : k < 12) : StB ((n12 ac nn cc ws Ag k0 cg ps Ad cd2 ts V1 a2 c2 gm gq gt G0 (B)).fact k) := by
  match k, hk with
  | 0, _ => exact fun _ _ _ h _ => h
  | 1, _ => exact fun _ _ _ h _ => h
  | 2, _ => exact fun _ _ _ ⟨gk, hv, q_0⟩ hb => ⟨gk, hv, below_kept q_0 hb⟩
  | 3, _ => exact fun _ _ _ ⟨a', c', hv, q_0⟩ hb => ⟨a', c', hv, q_0.kept hb⟩
  | 4, _ => exact fun _ _ _ ⟨a', c', hv, q_0⟩ hb => ⟨a', c', hv, q_0.kept hb⟩
  | 5, _ => exact fun _ _ _ q_0 hb => below_kept q_0 hb
  | 6, _ => exact fun _ _ _ q_0 hb => q_0.kept hb
  | 7, _ => exact fun _ _ _ h _ => h
  | 8, _ => exact fun _ _ _ q_0 hb => q_0.kept hb
  | 9, _ => exact fun _ _ _ q_0 hb => below_kept q_0 hb
  | 10, _ => exact fun _ _ _ q_0 hb => q_0.kept hb
  | 11, _ => exact fun _ _ _ q_0 hb => below_kept q_0 hb
  | k + 12, hk => omega
set_option linter.unusedVariables false in
theorem n12_t3 (ac : Option Addr) (nn cc : Nat) (ws : List Int) (Ag : Option Addr) (k0 cg : Nat) (ps : List Gq) (Ad : Option Addr) (cd2 : Nat) (ts : List Sc4) (V1 : NsV) (a2 : Option Addr) (c2 gm gq gt G0 B : Nat) {W W2 : World} {v0 : Value} {m0 : Nat} {vs0 : List Value} (hg : W.grownBy W2 v0.ownBlock) (ho : W.ownsRow B 45 4 v0 m0 vs0) {lq : Nat → Bool} (ll : lq 4 = false) (k : Nat) (hk : k < 12) (hne : k ≠ 3) (hl : lq k = true) (hkill : ∀ j ∈ (n12 ac nn cc ws Ag k0 cg ps Ad cd2 ts V1 a2 c2 gm gq gt G0 (B)).kill k, upd lq 3 j = false) (v : Value) (hfact : (n12 ac nn cc ws Ag k0 cg ps Ad cd2 ts V1 a2 c2 gm gq gt G0 (B)).fact k v W) : (n12 ac nn cc ws Ag k0 cg ps Ad cd2 ts V1 a2 c2 gm gq gt G0 (B)).fact k v W2 := by
  match k, hk, hne, hl, hkill, hfact with
  | 0, _, _, _, _, hq => exact hq
  | 1, _, _, _, _, hq => exact hq
  | 2, _, _, _, hkill, _ => exact absurd (hkill 3 (List.Mem.head _)) (by rw [upd_same]; decide)
  | 3, _, hne, _, _, _ => exact absurd rfl hne
  | 4, _, _, hl, _, _ => exact absurd hl (by rw [ll]; decide)
  | 5, _, _, _, hkill, _ => exact absurd (hkill 3 (List.Mem.head _)) (by rw [upd_same]; decide)
  | 6, _, _, _, hkill, _ => exact absurd (hkill 3 (List.Mem.head _)) (by rw [upd_same]; decide)
  | 7, _, _, _, _, hq => exact hq
  | 8, _, _, _, _, q_0 => exact q_0.grown hg ho (by decide) (by decide)
  | 9, _, _, _, _, q_0 => exact box_grown q_0 hg ho (by decide)
  | 10, _, _, _, _, q_0 => exact ⟨q_0.row.kept hg (blocks_apartR q_0.row ho (by decide)), q_0.byte⟩
  | 11, _, _, _, _, q_0 => exact box_grown q_0 hg ho (by decide)
  | k + 12, hk, _, _, _, _ => omega
/-- What is known of a region (RJ). -/
def n13 (ac : Option Addr) (nn cc : Nat) (ws : List Int) (Ag : Option Addr) (k0 cg : Nat) (ps : List Gq) (Ad : Option Addr) (cd2 : Nat) (ts : List Sc4) (gm G B : Nat) : RSpec where
  m := 5
  n := 10
  slots := [67, 68, 100002, 7, 8, 100005, 100006, 100007, 100008, 100009]
  kills := [[], [], [], [], [], [], [2], [], [], []]
  pres := [[], [], [], [], [], [], [], [], [], []]
  fact := fun k v w => match k with
    | 0 => v = .agg #[.slice ac nn cc, .slice Ag k0 cg]
    | 1 => v = .slice Ad k0 cd2
    | 2 => w.heap[G]? = some (.cells #[.slice ac nn cc, .slice Ag k0 cg] 27 (0, 0))
    | 3 => v = .slice Ad k0 cd2
    | 4 => v = .int .i64 0
    | 5 => w.heap[gm]? = some (.cells #[.slice ac nn cc, .slice Ag k0 cg] 27 (0, 0)) ∧ gm ≠ G
    | 6 => w.heap[G]? = some (.cells #[.slice none 0 0, .slice none 0 0] 27 (0, 0))
    | 7 => Own B w ac nn cc ws
    | 8 => OwnG B w Ag k0 cg ps
    | _ => OwnSe B w Ad k0 cd2 ts
set_option linter.unusedVariables false in
theorem n13_stb (ac : Option Addr) (nn cc : Nat) (ws : List Int) (Ag : Option Addr) (k0 cg : Nat) (ps : List Gq) (Ad : Option Addr) (cd2 : Nat) (ts : List Sc4) (gm G B : Nat) (k : Nat) (hk : k < 10) : StB ((n13 ac nn cc ws Ag k0 cg ps Ad cd2 ts gm G (B)).fact k) := by
  match k, hk with
  | 0, _ => exact fun _ _ _ h _ => h
  | 1, _ => exact fun _ _ _ h _ => h
  | 2, _ => exact fun _ _ _ q_0 hb => below_kept q_0 hb
  | 3, _ => exact fun _ _ _ h _ => h
  | 4, _ => exact fun _ _ _ h _ => h
  | 5, _ => exact fun _ _ _ ⟨q_0, q_1⟩ hb => ⟨below_kept q_0 hb, q_1⟩
  | 6, _ => exact fun _ _ _ q_0 hb => below_kept q_0 hb
  | 7, _ => exact fun _ _ _ q_0 hb => q_0.kept hb
  | 8, _ => exact fun _ _ _ q_0 hb => q_0.kept hb
  | 9, _ => exact fun _ _ _ q_0 hb => q_0.kept hb
  | k + 10, hk => omega
set_option linter.unusedVariables false in
theorem n13_st2 (ac : Option Addr) (nn cc : Nat) (ws : List Int) (Ag : Option Addr) (k0 cg : Nat) (ps : List Gq) (Ad : Option Addr) (cd2 : Nat) (ts : List Sc4) (gm G B : Nat) {W W2 : World} {cs : Array Value} {fr : Nat × Nat} (hg : W.heap[G]? = some (.cells cs 27 fr)) (ht : Touch (G) (G + 1) W W2) (k : Nat) (hk : k < 10) (hne : k ≠ 2) (hkill : 2 ∉ (n13 ac nn cc ws Ag k0 cg ps Ad cd2 ts gm G (B)).kill k) (v : Value) (hfact : (n13 ac nn cc ws Ag k0 cg ps Ad cd2 ts gm G (B)).fact k v W) : (n13 ac nn cc ws Ag k0 cg ps Ad cd2 ts gm G (B)).fact k v W2 := by
  match k, hk, hne, hkill, hfact with
  | 0, _, _, _, hq => exact hq
  | 1, _, _, _, hq => exact hq
  | 2, _, hne, _, _ => exact absurd rfl hne
  | 3, _, _, _, hq => exact hq
  | 4, _, _, _, hq => exact hq
  | 5, _, _, _, ⟨q_0, q_1⟩ => exact ⟨(ht.block _ (Array.getElem?_eq_some_iff.1 q_0).1 (by omega)).trans q_0, q_1⟩
  | 6, _, _, hkill, _ => exact absurd (List.Mem.head _) hkill
  | 7, _, _, _, q_0 => exact ⟨ownsRow_box q_0.row hg (by decide) ht, q_0.byte⟩
  | 8, _, _, _, q_0 => exact q_0.touched hg (by decide) (by decide) ht
  | 9, _, _, _, q_0 => exact q_0.touched hg (by decide) (by decide) ht
  | k + 10, hk, _, _, _ => omega

set_option maxRecDepth 10000 in
set_option maxHeartbeats 8000000 in
theorem specSignMsg_any (HSPEC : ∀ (seed h next : Int) (am : Option Addr) (n c : Nat) (bs : List Int) (w : World), U64 seed → Row w am n bs → n ≤ 1000000000000 → Calls Tryz.prog 40 #[tkv seed h next, .slice am n c] w fun e w' => ∃ v, e = .returned v ∧ SgR seed h next bs w.heap.size w' v ∧ Below w.heap.size w w') (am : Option Addr) (nn c : Nat) (ws : List Int) (at2 : Int) (A0 : Option Addr) (n0 d0 : Nat) (ss : List Sc4) (w : World) (hr : Row w am nn ws) (hc : am = none → c = 0) (hn : nn ≤ 1048576) (hs : RowSe w A0 n0 ss) (hn0 : n0 ≤ 1048576) (hat : -9223372036854775808 ≤ at2 ∧ at2 ≤ 9223372036854775807) :
    Calls Tryz.prog 5 #[.slice am nn c, .int .i64 at2, .slice A0 n0 d0] w fun e w' => ∃ a1 c1 a2 c2 a3 c3, e = .returned (smOut (smV ws at2 ss n0) a1 c1 a2 c2 a3 c3) ∧ (∃ ps, SmR w.heap.size w' (smV ws at2 ss n0).ct (smV ws at2 ss n0).gs (smV ws at2 ss n0).ts a1 (smV ws at2 ss n0).ct.length c1 a2 (smV ws at2 ss n0).gs.length c2 a3 (smV ws at2 ss n0).ts.length c3 ps) ∧ Below w.heap.size w w' := by
  obtain ⟨i0, hi, hz0, hz1, hz2⟩ := info_parts Tryz.infoG
  obtain ⟨j0, ji, jz0, jz1, jz2⟩ := info_parts Tryz.infoSx
  obtain ⟨V, hV⟩ : ∃ V, V = (smV ws at2 ss n0) := ⟨_, rfl⟩
  have HV : Hid (V = if nn ≤ 4000 ∧ timP at2 ∧ n0 ≤ 6 then smGo ws at2 ss [] [] else smBad 1) := by
    show _ = _
    rw [hV]
    unfold smV
    rw [hr.len]
  rw [← hV]
  obtain ⟨w1, hw1⟩ : ∃ w1, w1 = w.alloc (.cells #[.slice none 0 0, .slice none 0 0] 27) := ⟨_, rfl⟩
  have hb1 : Below w.heap.size w w1 := by rw [hw1]; exact (Below.refl _ _).alloc (Nat.le_refl _) _
  have HB1 : Hid (w1.heap[w.heap.size]? = some (.cells #[.slice none 0 0, .slice none 0 0] 27 (0, 0))) := by show _ = _; rw [hw1]; exact heap_alloc_new w _
  have hl1 : w.heap.size < w1.heap.size := by rw [hw1]; simp
  have HR : Hid (∀ W, Below w1.heap.size w1 W → Row W am nn ws ∧ RowSe W A0 n0 ss) := fun W hW => ⟨hr.kept (keepT hb1 hW), hs.kept (keepT hb1 hW)⟩
  have HR3 : Hid (∀ W, Below w.heap.size w W → Row W am nn ws ∧ RowSe W A0 n0 ss) := fun W hW => ⟨hr.kept hW, hs.kept hW⟩
  have HLS : Hid (ss.length = n0) := hs.len
  have HUS : Hid (USe ss) := hs.rng
  have HW : Hid (_ = _) := hw1
  clear hw1 hr hs hV
  go_enter Tryz.func5, Tryz.ntmps5
  go_upto_region 1 with fail
  rw [← HW.out]
  clear HW
  by_cases h1 : nn ≤ 4000
  case neg =>
    have HF := (show Hid (V = smBad 1) by show _ = _; rw [HV.out, if_neg (fun h => h1 h.1)])
    have q1 : (4000 : Int) < (nn : Int) := by omega
    go_upto_region 2 with fail
    have HBB : w.heap.size ≤ w1.heap.size := by omega
    refine wp_region_rp (v2 1 w.heap.size (w.heap.size)) [7, 8, 28, 29] (w.heap.size) (fun a0 => a0.tmps.size = 69 ∧ aT a0 6 = .pointer (some ⟨w.heap.size, 0, none⟩)) rfl (by kernel_rfl) rfl ⟨rfl, rfl⟩ (v2_stb 1 w.heap.size (w.heap.size)) ?_ ?_ ?_
    · intro k hk hk2
      match k, hk, hk2 with
      | 5, _, _ => exact HB1.out
      | 0, hk, _ => exact absurd hk (by show ¬ (5 ≤ 0); omega)
      | 1, hk, _ => exact absurd hk (by show ¬ (5 ≤ 1); omega)
      | 2, hk, _ => exact absurd hk (by show ¬ (5 ≤ 2); omega)
      | 3, hk, _ => exact absurd hk (by show ¬ (5 ≤ 3); omega)
      | 4, hk, _ => exact absurd hk (by show ¬ (5 ≤ 4); omega)
      | k + 6, _, hk2 => exact absurd hk2 (by show ¬ (k + 6 < 6); omega)
    · rintro a0 ⟨hz, g6⟩
      refine StepsRI.cons ?_ (StepsRI.cons ?_ (StepsRI.cons ?_ (StepsRI.cons ?_ (StepsRI.cons ?_ (StepsRI.nil)))))
      · intro lQ b W hI hUN hED KQ hKQ
        refine opw_build 27 _ rfl #[] (by simp []) (.agg #[.slice none 0 0, .slice none 0 0]) (by kernel_rfl) ?_
        exact hKQ.out _ _ (hI.put 0 28 rfl rfl (by rw [hz]; decide) rfl hUN rfl HBB (v2_stb 1 w.heap.size (w.heap.size)) (Below.refl _ _) rfl)
      · intro lQ b W hI hUN hED KQ hKQ
        refine opw_buildSlice _ 0 _ rfl #[] (by simp) (.slice (some ⟨W.heap.size, 0, none⟩) 0 0) (W.alloc (.cells #[] 45)) (by kernel_rfl) ?_
        exact hKQ.out _ _ (hI.put 1 29 rfl rfl (by rw [hz]; decide) rfl hUN rfl HBB (v2_stb 1 w.heap.size (w.heap.size)) ((Below.refl _ _).alloc (Nat.le_refl _) _) ⟨W.heap.size, rfl, ownSe_empty W (Nat.le_trans HBB hI.bel.size)⟩)
      · intro lQ b W hI hUN hED KQ hKQ
        have hgb := (hI.vot1 5 2 (of_decide_eq_true rfl) (of_decide_eq_true rfl) hUN rfl)
        have fb := ((hI.fr.same 6 (by decide)).trans g6)
        have f := hI.got 0 (of_decide_eq_true rfl) (edge hED 0 (by kernel_rfl)) rfl
        refine wp_store_row 27 _ _ rfl (w.heap.size) #[.slice none 0 0, .slice none 0 0] fb f 27 _ hgb (by kernel_rfl) rfl (by simp [Value.oneCell']) ?_
        have ht := setRow_touch W (w.heap.size) #[.slice none 0 0, .slice none 0 0]
        exact hKQ.out _ _ (hI.store 2 (fun j hj => by cases hj) (hI.bel.trans (ht.below (by first | exact HGE6 | omega) (Nat.le_trans HBB hI.bel.size))) (v2_st2 1 w.heap.size (w.heap.size) hgb ht) (setRow_heap W (w.heap.size) _ _ _ _ hgb))
      · intro lQ b W hI hUN hED KQ hKQ
        have f := hI.got 1 (of_decide_eq_true rfl) (edge hED 1 (by kernel_rfl)) rfl
        exact opw_assign 29 rfl (hKQ.out _ _ (hI.put 3 7 rfl rfl (by rw [hz]; decide) rfl hUN rfl HBB (v2_stb 1 w.heap.size (w.heap.size)) (Below.refl _ _) f))
      · intro lQ b W hI hUN hED KQ hKQ
        exact opw_const (.int .i64 1) rfl (hKQ.out _ _ (hI.put 4 8 rfl rfl (by rw [hz]; decide) rfl hUN rfl HBB (v2_stb 1 w.heap.size (w.heap.size)) (Below.refl _ _) rfl))
    · intro b W hf hb F
      have e0 := F 2 (of_decide_eq_true rfl) rfl
      obtain ⟨gz, e7, hoz⟩ := F 3 (of_decide_eq_true rfl) rfl
      have e8 := F 4 (of_decide_eq_true rfl) rfl
      replace e7 : aT b 7 = _ := e7
      replace e8 : aT b 8 = _ := e8
      rw [hf.eq]
      simp only [puts, Act.put, List.setIfInBounds_toArray, List.set_cons_zero, List.set_cons_succ, e7, e8]
      clear hf F
      go_wp2
      try simp only [Exit.inBlock, Exit.then]
      exact bodyPost_ret (results_sm rfl _ w.heap.size rfl _ rfl _ rfl _ _ e0 rfl) rfl ⟨none, 0, none, 0, some ⟨gz, 0, none⟩, 0, by rw [HF.out]; rfl, ⟨[], by rw [HF.out]; exact ⟨own_none _ _, ownG_none _ _, rfl, hoz, fun _ _ hj => absurd hj (Nat.not_lt_zero _)⟩⟩, hb1.trans hb⟩
  have q1 : ¬ (4000 : Int) < (nn : Int) := by omega
  go_wp2_with fail
  refine (l10Tim_any at2 _).mono ?_
  rintro e w2 ⟨rfl, hw2⟩
  have hw2 := hw2.symm
  subst hw2
  by_cases h2 : timP at2
  case neg =>
    have HF := (show Hid (V = smBad 1) by show _ = _; rw [HV.out, if_neg (fun h => h2 h.2.1)])
    rw [decide_eq_false h2]
    go_upto_region 2 with fail
    have HBB : w.heap.size ≤ w1.heap.size := by omega
    refine wp_region_rp (v2 1 w.heap.size (w.heap.size)) [7, 8, 28, 29] (w.heap.size) (fun a0 => a0.tmps.size = 69 ∧ aT a0 6 = .pointer (some ⟨w.heap.size, 0, none⟩)) rfl (by kernel_rfl) rfl ⟨rfl, rfl⟩ (v2_stb 1 w.heap.size (w.heap.size)) ?_ ?_ ?_
    · intro k hk hk2
      match k, hk, hk2 with
      | 5, _, _ => exact HB1.out
      | 0, hk, _ => exact absurd hk (by show ¬ (5 ≤ 0); omega)
      | 1, hk, _ => exact absurd hk (by show ¬ (5 ≤ 1); omega)
      | 2, hk, _ => exact absurd hk (by show ¬ (5 ≤ 2); omega)
      | 3, hk, _ => exact absurd hk (by show ¬ (5 ≤ 3); omega)
      | 4, hk, _ => exact absurd hk (by show ¬ (5 ≤ 4); omega)
      | k + 6, _, hk2 => exact absurd hk2 (by show ¬ (k + 6 < 6); omega)
    · rintro a0 ⟨hz, g6⟩
      refine StepsRI.cons ?_ (StepsRI.cons ?_ (StepsRI.cons ?_ (StepsRI.cons ?_ (StepsRI.cons ?_ (StepsRI.nil)))))
      · intro lQ b W hI hUN hED KQ hKQ
        refine opw_build 27 _ rfl #[] (by simp []) (.agg #[.slice none 0 0, .slice none 0 0]) (by kernel_rfl) ?_
        exact hKQ.out _ _ (hI.put 0 28 rfl rfl (by rw [hz]; decide) rfl hUN rfl HBB (v2_stb 1 w.heap.size (w.heap.size)) (Below.refl _ _) rfl)
      · intro lQ b W hI hUN hED KQ hKQ
        refine opw_buildSlice _ 0 _ rfl #[] (by simp) (.slice (some ⟨W.heap.size, 0, none⟩) 0 0) (W.alloc (.cells #[] 45)) (by kernel_rfl) ?_
        exact hKQ.out _ _ (hI.put 1 29 rfl rfl (by rw [hz]; decide) rfl hUN rfl HBB (v2_stb 1 w.heap.size (w.heap.size)) ((Below.refl _ _).alloc (Nat.le_refl _) _) ⟨W.heap.size, rfl, ownSe_empty W (Nat.le_trans HBB hI.bel.size)⟩)
      · intro lQ b W hI hUN hED KQ hKQ
        have hgb := (hI.vot1 5 2 (of_decide_eq_true rfl) (of_decide_eq_true rfl) hUN rfl)
        have fb := ((hI.fr.same 6 (by decide)).trans g6)
        have f := hI.got 0 (of_decide_eq_true rfl) (edge hED 0 (by kernel_rfl)) rfl
        refine wp_store_row 27 _ _ rfl (w.heap.size) #[.slice none 0 0, .slice none 0 0] fb f 27 _ hgb (by kernel_rfl) rfl (by simp [Value.oneCell']) ?_
        have ht := setRow_touch W (w.heap.size) #[.slice none 0 0, .slice none 0 0]
        exact hKQ.out _ _ (hI.store 2 (fun j hj => by cases hj) (hI.bel.trans (ht.below (by first | exact HGE6 | omega) (Nat.le_trans HBB hI.bel.size))) (v2_st2 1 w.heap.size (w.heap.size) hgb ht) (setRow_heap W (w.heap.size) _ _ _ _ hgb))
      · intro lQ b W hI hUN hED KQ hKQ
        have f := hI.got 1 (of_decide_eq_true rfl) (edge hED 1 (by kernel_rfl)) rfl
        exact opw_assign 29 rfl (hKQ.out _ _ (hI.put 3 7 rfl rfl (by rw [hz]; decide) rfl hUN rfl HBB (v2_stb 1 w.heap.size (w.heap.size)) (Below.refl _ _) f))
      · intro lQ b W hI hUN hED KQ hKQ
        exact opw_const (.int .i64 1) rfl (hKQ.out _ _ (hI.put 4 8 rfl rfl (by rw [hz]; decide) rfl hUN rfl HBB (v2_stb 1 w.heap.size (w.heap.size)) (Below.refl _ _) rfl))
    · intro b W hf hb F
      have e0 := F 2 (of_decide_eq_true rfl) rfl
      obtain ⟨gz, e7, hoz⟩ := F 3 (of_decide_eq_true rfl) rfl
      have e8 := F 4 (of_decide_eq_true rfl) rfl
      replace e7 : aT b 7 = _ := e7
      replace e8 : aT b 8 = _ := e8
      rw [hf.eq]
      simp only [puts, Act.put, List.setIfInBounds_toArray, List.set_cons_zero, List.set_cons_succ, e7, e8]
      clear hf F
      go_wp2
      try simp only [Exit.inBlock, Exit.then]
      exact bodyPost_ret (results_sm rfl _ w.heap.size rfl _ rfl _ rfl _ _ e0 rfl) rfl ⟨none, 0, none, 0, some ⟨gz, 0, none⟩, 0, by rw [HF.out]; rfl, ⟨[], by rw [HF.out]; exact ⟨own_none _ _, ownG_none _ _, rfl, hoz, fun _ _ hj => absurd hj (Nat.not_lt_zero _)⟩⟩, hb1.trans hb⟩
  rw [decide_eq_true h2]
  by_cases h3 : n0 ≤ 6
  case neg =>
    have HF := (show Hid (V = smBad 1) by show _ = _; rw [HV.out, if_neg (fun h => h3 h.2.2)])
    have q3 : (6 : Int) < (n0 : Int) := by omega
    go_upto_region 2 with fail
    have HBB : w.heap.size ≤ w1.heap.size := by omega
    refine wp_region_rp (v2 1 w.heap.size (w.heap.size)) [7, 8, 28, 29] (w.heap.size) (fun a0 => a0.tmps.size = 69 ∧ aT a0 6 = .pointer (some ⟨w.heap.size, 0, none⟩)) rfl (by kernel_rfl) rfl ⟨rfl, rfl⟩ (v2_stb 1 w.heap.size (w.heap.size)) ?_ ?_ ?_
    · intro k hk hk2
      match k, hk, hk2 with
      | 5, _, _ => exact HB1.out
      | 0, hk, _ => exact absurd hk (by show ¬ (5 ≤ 0); omega)
      | 1, hk, _ => exact absurd hk (by show ¬ (5 ≤ 1); omega)
      | 2, hk, _ => exact absurd hk (by show ¬ (5 ≤ 2); omega)
      | 3, hk, _ => exact absurd hk (by show ¬ (5 ≤ 3); omega)
      | 4, hk, _ => exact absurd hk (by show ¬ (5 ≤ 4); omega)
      | k + 6, _, hk2 => exact absurd hk2 (by show ¬ (k + 6 < 6); omega)
    · rintro a0 ⟨hz, g6⟩
      refine StepsRI.cons ?_ (StepsRI.cons ?_ (StepsRI.cons ?_ (StepsRI.cons ?_ (StepsRI.cons ?_ (StepsRI.nil)))))
      · intro lQ b W hI hUN hED KQ hKQ
        refine opw_build 27 _ rfl #[] (by simp []) (.agg #[.slice none 0 0, .slice none 0 0]) (by kernel_rfl) ?_
        exact hKQ.out _ _ (hI.put 0 28 rfl rfl (by rw [hz]; decide) rfl hUN rfl HBB (v2_stb 1 w.heap.size (w.heap.size)) (Below.refl _ _) rfl)
      · intro lQ b W hI hUN hED KQ hKQ
        refine opw_buildSlice _ 0 _ rfl #[] (by simp) (.slice (some ⟨W.heap.size, 0, none⟩) 0 0) (W.alloc (.cells #[] 45)) (by kernel_rfl) ?_
        exact hKQ.out _ _ (hI.put 1 29 rfl rfl (by rw [hz]; decide) rfl hUN rfl HBB (v2_stb 1 w.heap.size (w.heap.size)) ((Below.refl _ _).alloc (Nat.le_refl _) _) ⟨W.heap.size, rfl, ownSe_empty W (Nat.le_trans HBB hI.bel.size)⟩)
      · intro lQ b W hI hUN hED KQ hKQ
        have hgb := (hI.vot1 5 2 (of_decide_eq_true rfl) (of_decide_eq_true rfl) hUN rfl)
        have fb := ((hI.fr.same 6 (by decide)).trans g6)
        have f := hI.got 0 (of_decide_eq_true rfl) (edge hED 0 (by kernel_rfl)) rfl
        refine wp_store_row 27 _ _ rfl (w.heap.size) #[.slice none 0 0, .slice none 0 0] fb f 27 _ hgb (by kernel_rfl) rfl (by simp [Value.oneCell']) ?_
        have ht := setRow_touch W (w.heap.size) #[.slice none 0 0, .slice none 0 0]
        exact hKQ.out _ _ (hI.store 2 (fun j hj => by cases hj) (hI.bel.trans (ht.below (by first | exact HGE6 | omega) (Nat.le_trans HBB hI.bel.size))) (v2_st2 1 w.heap.size (w.heap.size) hgb ht) (setRow_heap W (w.heap.size) _ _ _ _ hgb))
      · intro lQ b W hI hUN hED KQ hKQ
        have f := hI.got 1 (of_decide_eq_true rfl) (edge hED 1 (by kernel_rfl)) rfl
        exact opw_assign 29 rfl (hKQ.out _ _ (hI.put 3 7 rfl rfl (by rw [hz]; decide) rfl hUN rfl HBB (v2_stb 1 w.heap.size (w.heap.size)) (Below.refl _ _) f))
      · intro lQ b W hI hUN hED KQ hKQ
        exact opw_const (.int .i64 1) rfl (hKQ.out _ _ (hI.put 4 8 rfl rfl (by rw [hz]; decide) rfl hUN rfl HBB (v2_stb 1 w.heap.size (w.heap.size)) (Below.refl _ _) rfl))
    · intro b W hf hb F
      have e0 := F 2 (of_decide_eq_true rfl) rfl
      obtain ⟨gz, e7, hoz⟩ := F 3 (of_decide_eq_true rfl) rfl
      have e8 := F 4 (of_decide_eq_true rfl) rfl
      replace e7 : aT b 7 = _ := e7
      replace e8 : aT b 8 = _ := e8
      rw [hf.eq]
      simp only [puts, Act.put, List.setIfInBounds_toArray, List.set_cons_zero, List.set_cons_succ, e7, e8]
      clear hf F
      go_wp2
      try simp only [Exit.inBlock, Exit.then]
      exact bodyPost_ret (results_sm rfl _ w.heap.size rfl _ rfl _ rfl _ _ e0 rfl) rfl ⟨none, 0, none, 0, some ⟨gz, 0, none⟩, 0, by rw [HF.out]; rfl, ⟨[], by rw [HF.out]; exact ⟨own_none _ _, ownG_none _ _, rfl, hoz, fun _ _ hj => absurd hj (Nat.not_lt_zero _)⟩⟩, hb1.trans hb⟩
  have q3 : ¬ (6 : Int) < (n0 : Int) := by omega
  have HVS : Hid (V = smGo ws at2 ss [] []) := by show _ = _; rw [HV.out, if_pos ⟨h1, h2, h3⟩]
  clear HV h2
  obtain ⟨b0, bi, bz0, bz1, bz2⟩ := info_parts Tryz.info5
  have hbE : Below w1.heap.size w1 (w1.alloc (.cells #[] 5)) := (Below.refl _ _).alloc (Nat.le_refl _) _
  have HE : Hid (Own w1.heap.size (w1.alloc (.cells #[] 5)) (some ⟨w1.heap.size, 0, none⟩) 0 0 []) := own_zeroE _ _ _ rfl (Nat.le_refl _)
  have HRY : Hid (Row (w1.alloc (.cells #[] 5)) am nn ws) := (HR.out _ hbE).1
  go_upto_region 4 with (at_builtin; go_loud ((refine wpList_append_row _ rfl _ _ 22 rfl w1.heap.size b0 Tryz.underlying22 bi bz0 bz1 bz2 _ _ _ rfl HE.out.row am nn c ws rfl HRY.out hc (by omega) hbE.size ?_); intro v4 w2 hv4 hg4; obtain ⟨ac, cc, rfl, ho4⟩ := own_appended (xs := []) (ys := ws) hv4 HE.out.byte HRY.out.byte; have hb2 : Below w1.heap.size w1 w2 := below_appended hbE hbE.size HE.out.row hg4; have hoc : Own w1.heap.size w2 ac nn cc ws := (by simpa using ho4); clear hv4 hg4 ho4))
  clear q1 q3 HE HRY
  obtain ⟨w3, hw3⟩ : ∃ w3, w3 = w2.alloc (.cells #[.slice ac nn cc, .slice none 0 0] 27) := ⟨_, rfl⟩
  have hb3 : Below w2.heap.size w2 w3 := by rw [hw3]; exact (Below.refl _ _).alloc (Nat.le_refl _) _
  have HM3 : w3.heap[w2.heap.size]? = some (.cells #[.slice ac nn cc, .slice none 0 0] 27 (0, 0)) := by rw [hw3]; exact heap_alloc_new w2 _
  have HW : Hid (_ = _) := hw3
  clear hw3
  rw [← HW.out]
  clear HW
  obtain ⟨w4, hw4⟩ : ∃ w4, w4 = w3.alloc (.cells #[] 45) := ⟨_, rfl⟩
  have hb4 : Below w3.heap.size w3 w4 := by rw [hw4]; exact (Below.refl _ _).alloc (Nat.le_refl _) _
  have hb34 := keepT hb3 hb4
  have hb14 := keepT hb2 hb34
  have hs2 := hb2.size
  have hs3 := hb3.size
  have HOE : OwnSe w.heap.size w4 (some ⟨w3.heap.size, 0, none⟩) 0 0 [] := by rw [hw4]; exact ownSe_empty w3 (by omega)
  have HI0 : Hid (SmI w.heap.size w2.heap.size w w4 ac nn cc ws none 0 0 [] (some ⟨w3.heap.size, 0, none⟩) 0 []) := ⟨below_kept HM3 hb4, below_kept HB1.out hb14, ⟨(hoc.kept hb34).mono (by omega), ownG_none _ _, rfl, HOE, fun _ _ hj => absurd hj (Nat.not_lt_zero _)⟩, keepT hb1 hb14⟩
  have HW : Hid (_ = _) := hw4
  clear hw4 hoc HM3 hb3 hb2 HB1 HR hb4 hb34 hb14 HOE
  go_upto_region 5 with fail
  rw [← HW.out]
  clear HW
  go_wp2
  go_loopw [10, 11] (fun l i wr => ∃ (k : Nat) (Ag : Option Addr) (cg : Nat) (ps : List Gq) (Ad : Option Addr) (cd2 : Nat) (ts : List Sc4), k ≤ n0 ∧ l = .slice Ad k cd2 ∧ i = .int .i64 k ∧ Hid (SmI w.heap.size w2.heap.size w wr ac nn cc ws Ag k cg ps Ad cd2 ts) ∧ Hid (V = smGo ws at2 (ss.drop k) (gsOf ps) ts)) (fun _ i _ => n0 - (intOf i).toNat)
  case atStart => exact ⟨0, none, 0, [], _, 0, [], Nat.zero_le _, rfl, rfl, HI0, HVS⟩
  case round =>
    obtain ⟨k0, Ag, cg, ps, Ad, cd2, ts, hk, rfl, rfl, HI, HVK⟩ := hrel
    have HIB : Hid (_ ∧ _) := ⟨HI.out.box, HI.out.res⟩
    have HSR : Hid (_) := HI.out.own
    have hbr := HI.out.bel
    have hsr := hbr.size
    have hgl : w2.heap.size < wr.heap.size := (Array.getElem?_eq_some_iff.1 HIB.out.1).1
    clear HI
    by_cases hlt : k0 < n0
    · obtain ⟨s, hs⟩ : ∃ s, s = ss.getD k0 (0, 0, 0, 0) := ⟨_, rfl⟩
      obtain ⟨V1, hV1⟩ : ∃ V1, V1 = nsV 8 ws at2 s.1 s.2.1 s.2.2.1 s.2.2.2 := ⟨_, rfl⟩
      have HST : Hid (smGo ws at2 (ss.drop k0) (gsOf ps) ts = _) := smGo_step ws at2 ss k0 (by rw [HLS.out]; exact hlt) (gsOf ps) ts s hs V1 hV1
      have hus : U64 s.2.1 := by rw [hs]; exact HUS.out k0
      have hng := nsV_rng ws at2 s hus
      rw [← hV1] at hng
      have HRG : Hid (U64 V1.k) := hng.1
      have HRT : Hid (U64 V1.t.2.1) := hng.2
      obtain ⟨b, off, hA, hlb, c0, c1, c2_, c3⟩ := (HR3.out wr hbr).2.get k0 hlt
      rw [← hs] at c0 c1 c2_ c3
      subst hA
      have HNS : Hid (∀ W, Below wr.heap.size wr W → Calls Tryz.prog 18 #[.int .i64 8, .slice am nn c, .int .i64 at2, .agg #[.int .i64 s.1, .int .u64 s.2.1, .int .i64 s.2.2.1, .int .i64 s.2.2.2]] W fun e w' => ∃ a2 c2, e = .returned (.tuple #[.agg #[.int .u64 V1.k, .int .i64 V1.at2, .slice a2 V1.sg.length c2, .slice none 0 0], .agg #[.int .i64 V1.t.1, .int .u64 V1.t.2.1, .int .i64 V1.t.2.2.1, .int .i64 V1.t.2.2.2], .int .i64 V1.cd]) ∧ Own W.heap.size w' a2 V1.sg.length c2 V1.sg ∧ Below W.heap.size W w') := fun W hW => by
        have := l17Sign_any HSPEC 8 am nn c ws at2 s.1 s.2.1 s.2.2.1 s.2.2.2 W (HR3.out W (hbr.trans (hW.mono hbr.size))).1 hc h1 (by decide) (by decide) hat hus
        rw [← hV1] at this
        exact this
      have hkn : (k0 : Int) < (n0 : Int) := by omega
      clear hs hV1 hng
      go_wp2_with fail
      refine (HNS.out wr (Below.refl _ _)).mono ?_
      rintro e w5 ⟨a2, c2, rfl, ho, hb5⟩
      clear c0 c1 c2_ c3

      obtain ⟨wz, hwz⟩ : ∃ wz, wz = ((w5.alloc (.cells #[.int .u64 V1.k, .int .i64 V1.at2, .slice a2 V1.sg.length c2, .slice none 0 0] 43)).alloc (.cells #[.int .i64 V1.t.1, .int .u64 V1.t.2.1, .int .i64 V1.t.2.2.1, .int .i64 V1.t.2.2.2] 45)) := ⟨_, rfl⟩
      have hn2 := two_blocks w5 (.cells #[.int .u64 V1.k, .int .i64 V1.at2, .slice a2 V1.sg.length c2, .slice none 0 0] 43) (.cells #[.int .i64 V1.t.1, .int .u64 V1.t.2.1, .int .i64 V1.t.2.2.1, .int .i64 V1.t.2.2.2] 45)
      have hbz : Below w5.heap.size w5 wz := by rw [hwz]; exact two_below w5 _ _
      rw [← hwz] at hn2
      have hb8 := keepT hb5 hbz
      have hs8 := hb8.size
      have hs5 := hb5.size
      have HRZ : Hid (_) := below_kept HIB.out.2 hb8
      have HSZ : Hid (_) := HSR.out.kept hb8
      have HOZ : Hid (Own w.heap.size wz a2 V1.sg.length c2 V1.sg) := (ho.kept hbz).mono (by omega)
      have HZB : Hid (wz.heap[w2.heap.size]? = some (.cells #[.slice ac nn cc, .slice Ag k0 cg] 27 (0, 0)) ∧ wz.heap[w5.heap.size]? = some (.cells #[.int .u64 V1.k, .int .i64 V1.at2, .slice a2 V1.sg.length c2, .slice none 0 0] 43 (0, 0)) ∧ wz.heap[w5.heap.size + 1]? = some (.cells #[.int .i64 V1.t.1, .int .u64 V1.t.2.1, .int .i64 V1.t.2.2.1, .int .i64 V1.t.2.2.2] 45 (0, 0))) := ⟨below_kept HIB.out.1 hb8, hn2.1, hn2.2⟩
      have hcz : Below w.heap.size w wz := hbr.trans (hb8.mono hbr.size)
      have HAP : Hid (∀ j l, j < k0 → (rqv (ps.getD j gq0).1).ownBlock = some l → (rqv ((a2, V1.sg.length, c2) : Rq)).ownBlock = some l → False) := by
        intro j l hj h1 h2
        have e1 := ((HSR.out.gO.each j hj).row.lt l h1).2
        have e2 := (ho.row.lt l h2).1
        omega
      have HSEP2 : Hid (∀ j l, j < k0 + 1 → (rqv ((ps ++ [((a2, V1.sg.length, c2), sgOf V1)]).getD j gq0).1).ownBlock = some l → (Value.slice ac nn cc).ownBlock = some l → False) := by
        intro j l hj h1 h2
        by_cases e : j < k0
        · rw [getG_more ps _ j (by have := HSR.out.gO.len; omega)] at h1
          exact HSR.out.sep j l e h1 h2
        · obtain rfl : j = ps.length := by have := HSR.out.gO.len; omega
          rw [getG_last] at h1
          have e1 := (HSR.out.cO.row.lt l h2).2
          have e2 := (ho.row.lt l h1).1
          omega
      have HWZ : Hid (_ = _) := hwz
      clear hwz hn2 ho
      go_upto_region 9 with fail
      rw [← HWZ.out]
      clear HWZ
      by_cases hcd : V1.cd = 0
      case neg =>
        have HF := (show Hid (V = smBad V1.cd) by show _ = _; rw [HVK.out, HST.out, if_neg hcd])
        have z5 : (V1.cd != 0) = true := by simp [hcd]
        go_upto_region 10 with fail
        have HBB : w.heap.size ≤ wz.heap.size := by have := hcz.size; omega
        refine wp_region_rp (v10 V1.cd w.heap.size (w.heap.size)) [7, 8, 54, 55, 56] (w.heap.size) (fun a0 => a0.tmps.size = 69 ∧ aT a0 6 = .pointer (some ⟨w.heap.size, 0, none⟩) ∧ aT a0 14 = .int .i64 V1.cd) rfl (by kernel_rfl) rfl ⟨rfl, rfl, rfl⟩ (v10_stb V1.cd w.heap.size (w.heap.size)) ?_ ?_ ?_
        · intro k hk hk2
          match k, hk, hk2 with
          | 6, _, _ => exact HRZ.out
          | 0, hk, _ => exact absurd hk (by show ¬ (6 ≤ 0); omega)
          | 1, hk, _ => exact absurd hk (by show ¬ (6 ≤ 1); omega)
          | 2, hk, _ => exact absurd hk (by show ¬ (6 ≤ 2); omega)
          | 3, hk, _ => exact absurd hk (by show ¬ (6 ≤ 3); omega)
          | 4, hk, _ => exact absurd hk (by show ¬ (6 ≤ 4); omega)
          | 5, hk, _ => exact absurd hk (by show ¬ (6 ≤ 5); omega)
          | k + 7, _, hk2 => exact absurd hk2 (by show ¬ (k + 7 < 7); omega)
        · rintro a0 ⟨hz, g6, g14⟩
          refine StepsRI.cons ?_ (StepsRI.cons ?_ (StepsRI.cons ?_ (StepsRI.cons ?_ (StepsRI.cons ?_ (StepsRI.cons ?_ (StepsRI.nil))))))
          · intro lQ b W hI hUN hED KQ hKQ
            refine opw_build 27 _ rfl #[] (by simp []) (.agg #[.slice none 0 0, .slice none 0 0]) (by kernel_rfl) ?_
            exact hKQ.out _ _ (hI.put 0 54 rfl rfl (by rw [hz]; decide) rfl hUN rfl HBB (v10_stb V1.cd w.heap.size (w.heap.size)) (Below.refl _ _) rfl)
          · intro lQ b W hI hUN hED KQ hKQ
            refine opw_buildSlice _ 0 _ rfl #[] (by simp) (.slice (some ⟨W.heap.size, 0, none⟩) 0 0) (W.alloc (.cells #[] 45)) (by kernel_rfl) ?_
            exact hKQ.out _ _ (hI.put 1 55 rfl rfl (by rw [hz]; decide) rfl hUN rfl HBB (v10_stb V1.cd w.heap.size (w.heap.size)) ((Below.refl _ _).alloc (Nat.le_refl _) _) ⟨W.heap.size, rfl, ownSe_empty W (Nat.le_trans HBB hI.bel.size)⟩)
          · intro lQ b W hI hUN hED KQ hKQ
            exact opw_move 14 rfl (hKQ.out _ _ (hI.put 2 56 rfl rfl (by rw [hz]; decide) rfl hUN rfl HBB (v10_stb V1.cd w.heap.size (w.heap.size)) (Below.refl _ _) ((hI.fr.same 14 (by decide)).trans g14)))
          · intro lQ b W hI hUN hED KQ hKQ
            have hgb := (hI.vot1 6 3 (of_decide_eq_true rfl) (of_decide_eq_true rfl) hUN rfl)
            have fb := ((hI.fr.same 6 (by decide)).trans g6)
            have f := hI.got 0 (of_decide_eq_true rfl) (edge hED 0 (by kernel_rfl)) rfl
            refine wp_store_row 27 _ _ rfl (w.heap.size) #[.slice none 0 0, .slice none 0 0] fb f 27 _ hgb (by kernel_rfl) rfl (by simp [Value.oneCell']) ?_
            have ht := setRow_touch W (w.heap.size) #[.slice none 0 0, .slice none 0 0]
            exact hKQ.out _ _ (hI.store 3 (fun j hj => by cases hj) (hI.bel.trans (ht.below (by first | exact HGE6 | omega) (Nat.le_trans HBB hI.bel.size))) (v10_st3 V1.cd w.heap.size (w.heap.size) hgb ht) (setRow_heap W (w.heap.size) _ _ _ _ hgb))
          · intro lQ b W hI hUN hED KQ hKQ
            have f := hI.got 1 (of_decide_eq_true rfl) (edge hED 1 (by kernel_rfl)) rfl
            exact opw_assign 55 rfl (hKQ.out _ _ (hI.put 4 7 rfl rfl (by rw [hz]; decide) rfl hUN rfl HBB (v10_stb V1.cd w.heap.size (w.heap.size)) (Below.refl _ _) f))
          · intro lQ b W hI hUN hED KQ hKQ
            have f := hI.got 2 (of_decide_eq_true rfl) (edge hED 2 (by kernel_rfl)) rfl
            exact opw_assign 56 rfl (hKQ.out _ _ (hI.put 5 8 rfl rfl (by rw [hz]; decide) rfl hUN rfl HBB (v10_stb V1.cd w.heap.size (w.heap.size)) (Below.refl _ _) f))
        · intro b W hf hb F
          have e0 := F 3 (of_decide_eq_true rfl) rfl
          obtain ⟨gz, e7, hoz⟩ := F 4 (of_decide_eq_true rfl) rfl
          have e8 := F 5 (of_decide_eq_true rfl) rfl
          replace e7 : aT b 7 = _ := e7
          replace e8 : aT b 8 = _ := e8
          rw [hf.eq]
          simp only [puts, Act.put, List.setIfInBounds_toArray, List.set_cons_zero, List.set_cons_succ, e7, e8]
          clear hf F
          go_wp2
          try simp only [Exit.inBlock, Exit.then]
          exact bodyPost_ret (results_sm rfl _ w.heap.size rfl _ rfl _ rfl _ _ e0 rfl) rfl ⟨none, 0, none, 0, some ⟨gz, 0, none⟩, 0, by rw [HF.out]; rfl, ⟨[], by rw [HF.out]; exact ⟨own_none _ _, ownG_none _ _, rfl, hoz, fun _ _ hj => absurd hj (Nat.not_lt_zero _)⟩⟩, hcz.trans hb⟩
      case pos =>
        have HF := (show Hid (V = smGo ws at2 (ss.drop (k0 + 1)) (gsOf ps ++ [sgOf V1]) (ts ++ [V1.t])) by show _ = _; rw [HVK.out, HST.out, if_pos hcd])
        have z5 : (V1.cd != 0) = false := by simp [hcd]
        clear hcd
        go_upto_region 11 with fail
        have HBB : w.heap.size ≤ wz.heap.size := by have := hcz.size; omega
        refine wp_region_rp (n11 ac nn cc ws Ag k0 cg ps Ad cd2 ts V1 a2 c2 w2.heap.size w5.heap.size (w5.heap.size + 1) w.heap.size (w.heap.size)) [57, 58, 59, 60, 61, 62] (w.heap.size) (fun a0 => a0.tmps.size = 69 ∧ aT a0 9 = .pointer (some ⟨w2.heap.size, 0, none⟩) ∧ aT a0 12 = .pointer (some ⟨w5.heap.size, 0, none⟩)) rfl (by kernel_rfl) rfl ⟨rfl, rfl, rfl⟩ (n11_stb ac nn cc ws Ag k0 cg ps Ad cd2 ts V1 a2 c2 w2.heap.size w5.heap.size (w5.heap.size + 1) w.heap.size (w.heap.size)) ?_ ?_ ?_
        · intro k hk hk2
          match k, hk, hk2 with
          | 7, _, _ => exact HZB.out.1
          | 8, _, _ => exact HZB.out.2.1
          | 9, _, _ => exact HZB.out.2.2
          | 10, _, _ => exact (show OwnG w.heap.size wz Ag k0 cg ps from HSZ.out.gO)
          | 11, _, _ => exact (show OwnSe w.heap.size wz Ad k0 cd2 ts from HSZ.out.tO)
          | 12, _, _ => exact (show Own w.heap.size wz a2 V1.sg.length c2 V1.sg from HOZ.out)
          | 13, _, _ => exact (show Own w.heap.size wz ac nn cc ws from HSZ.out.cO)
          | 14, _, _ => exact ⟨HRZ.out, by omega⟩
          | 0, hk, _ => exact absurd hk (by show ¬ (7 ≤ 0); omega)
          | 1, hk, _ => exact absurd hk (by show ¬ (7 ≤ 1); omega)
          | 2, hk, _ => exact absurd hk (by show ¬ (7 ≤ 2); omega)
          | 3, hk, _ => exact absurd hk (by show ¬ (7 ≤ 3); omega)
          | 4, hk, _ => exact absurd hk (by show ¬ (7 ≤ 4); omega)
          | 5, hk, _ => exact absurd hk (by show ¬ (7 ≤ 5); omega)
          | 6, hk, _ => exact absurd hk (by show ¬ (7 ≤ 6); omega)
          | k + 15, _, hk2 => exact absurd hk2 (by show ¬ (k + 15 < 15); omega)
        · rintro a0 ⟨hz, g9, g12⟩
          refine StepsRI.cons ?_ (StepsRI.cons ?_ (StepsRI.cons ?_ (StepsRI.cons ?_ (StepsRI.cons ?_ (StepsRI.cons ?_ (StepsRI.cons ?_ (StepsRI.nil)))))))
          · intro lQ b W hI hUN hED KQ hKQ
            exact opw_field 27 9 1 rfl _ ((hI.fr.same 9 (by decide)).trans g9) _ (by kernel_rfl) (hKQ.out _ _ (hI.put 0 57 rfl rfl (by rw [hz]; decide) rfl hUN rfl HBB (n11_stb ac nn cc ws Ag k0 cg ps Ad cd2 ts V1 a2 c2 w2.heap.size w5.heap.size (w5.heap.size + 1) w.heap.size (w.heap.size)) (Below.refl _ _) rfl))
          · intro lQ b W hI hUN hED KQ hKQ
            have f := hI.got 0 (of_decide_eq_true rfl) (edge hED 0 (by kernel_rfl)) rfl
            have hg := (hI.vot1 7 6 (of_decide_eq_true rfl) (of_decide_eq_true rfl) (unl fun h => by have h2 := (hI.cl 4 (of_decide_eq_true rfl) (hI.cl 6 (of_decide_eq_true rfl) h _ (List.Mem.head _)) _ (List.Mem.head _)); rw [show lQ 1 = false from hUN] at h2; cases h2) rfl)
            have hc : W.cell? ⟨w2.heap.size, 1, none⟩ = some (.slice Ag k0 cg) := (cell_of_row _ _ 1 _ _ (0, 0) hg).trans rfl
            exact opw_load1 25 57 rfl _ f _ (by simp [Instr.loadAt, go_sem, hc]) (hKQ.out _ _ (hI.put 1 58 rfl rfl (by rw [hz]; decide) rfl hUN rfl HBB (n11_stb ac nn cc ws Ag k0 cg ps Ad cd2 ts V1 a2 c2 w2.heap.size w5.heap.size (w5.heap.size + 1) w.heap.size (w.heap.size)) (Below.refl _ _) rfl))
          · intro lQ b W hI hUN hED KQ hKQ
            have hg := (hI.vot1 8 4 (of_decide_eq_true rfl) (of_decide_eq_true rfl) (unl fun h => by have h2 := (hI.cl 3 (of_decide_eq_true rfl) (hI.cl 4 (of_decide_eq_true rfl) h _ (List.Mem.tail _ (List.Mem.head _))) _ (List.Mem.head _)); rw [show lQ 2 = false from hUN] at h2; cases h2) rfl)
            refine wp_load_row 43 _ rfl (w5.heap.size) ((hI.fr.same 12 (by decide)).trans g12) 43 #[.int .u64 V1.k, .int .i64 V1.at2, .slice a2 V1.sg.length c2, .slice none 0 0] (0, 0) _ hg Tryz.underlying43 rfl (by kernel_rfl) ?_
            exact hKQ.out _ _ (hI.put 2 59 rfl rfl (by rw [hz]; decide) rfl hUN rfl HBB (n11_stb ac nn cc ws Ag k0 cg ps Ad cd2 ts V1 a2 c2 w2.heap.size w5.heap.size (w5.heap.size + 1) w.heap.size (w.heap.size)) (Below.refl _ _) rfl)
          · intro lQ b W hI hUN hED KQ hKQ
            have f := hI.got 2 (of_decide_eq_true rfl) (edge hED 2 (by kernel_rfl)) rfl
            replace f : aT b 59 = .agg #[.int .u64 V1.k, .int .i64 V1.at2, .slice a2 V1.sg.length c2, .slice none 0 0] := f
            refine opw_buildSlice _ 1 _ rfl #[(0, .agg #[.int .u64 V1.k, .int .i64 V1.at2, .slice a2 V1.sg.length c2, .slice none 0 0])] (by simp [ev, f]) (.slice (some ⟨W.heap.size, 0, none⟩) 1 1) (W.alloc (.cells #[.int .u64 V1.k, .int .i64 V1.at2, .slice a2 V1.sg.length c2, .slice none 0 0] 43)) (by kernel_rfl) ?_
            exact hKQ.out _ _ (hI.putp 3 60 (fun j hj => by rcases List.mem_singleton.1 hj with rfl; exact (edge hED 2 (by kernel_rfl))) rfl (by rw [hz]; decide) rfl hUN rfl HBB (n11_stb ac nn cc ws Ag k0 cg ps Ad cd2 ts V1 a2 c2 w2.heap.size w5.heap.size (w5.heap.size + 1) w.heap.size (w.heap.size)) ((Below.refl _ _).alloc (Nat.le_refl _) _) ⟨W.heap.size, rfl, heap_alloc_new W _⟩)
          · intro lQ b W hI hUN hED KQ hKQ
            have f0 : aT b 58 = .slice Ag k0 cg := hI.got 1 (of_decide_eq_true rfl) (edge hED 1 (by kernel_rfl)) rfl
            obtain ⟨gk, f1, hgk⟩ := hI.got1 3 4 (of_decide_eq_true rfl) (edge hED 3 (by kernel_rfl)) hUN rfl
            replace f1 : aT b 60 = .slice (some ⟨gk, 0, none⟩) 1 1 := f1
            have ho := hI.vot1 10 4 (of_decide_eq_true rfl) (of_decide_eq_true rfl) hUN rfl
            have hsg := hI.vot 12 (of_decide_eq_true rfl) (of_decide_eq_true rfl) rfl
            have hRW : w.heap.size ≤ W.heap.size := Nat.le_trans HBB hI.bel.size
            refine opw_append_st 58 60 25 rfl w.heap.size 43 i0 _ 4 64 Tryz.underlying25 hi hz0 hz1 hz2 rfl (by decide) (.slice Ag k0 cg) k0 _ f0 ho.row ⟨gk, 0, none⟩ 1 1 [.int .u64 V1.k, .int .i64 V1.at2, .slice a2 V1.sg.length c2, .slice none 0 0] f1 rfl (cells_of4g hgk) (by intro u hu; simp only [List.mem_cons, List.not_mem_nil, or_false] at hu; rcases hu with rfl | rfl | rfl | rfl <;> rfl) (by unfold maxLen; omega) (by omega) hRW ?_
            intro v' w' hv' hg'
            have hbR : Below w.heap.size W w' := (Below.refl _ _).grown hg' hRW (fun k hk => (ho.row.lt k hk).1)
            obtain ⟨a', c', rfl⟩ := owns_shapeR hv'
            have hN : OwnG w.heap.size w' a' (k0 + 1) c' (ps ++ [((a2, V1.sg.length, c2), sgOf V1)]) := ho.appended (p := ((a2, V1.sg.length, c2), sgOf V1)) hsg HRG.out HAP.out (by rw [List.flatMap_append]; exact hv') hg'
            exact hKQ.out _ _ (hI.turn 4 61 (fun j hj => by rcases List.mem_cons.1 (show j ∈ [1, 3] from hj) with rfl | hj2; exact (edge hED 1 (by kernel_rfl)); rcases List.mem_singleton.1 hj2 with rfl; exact (edge hED 3 (by kernel_rfl))) rfl (by rw [hz]; decide) rfl hUN rfl (hI.bel.trans hbR) (n11_t4 ac nn cc ws Ag k0 cg ps Ad cd2 ts V1 a2 c2 w2.heap.size w5.heap.size (w5.heap.size + 1) w.heap.size (w.heap.size) hg' ho.row (unl fun h => by have h2 := (hI.cl 6 (of_decide_eq_true rfl) h _ (List.Mem.head _)); rw [show lQ 4 = false from hUN] at h2; cases h2)) ⟨a', c', rfl, hN⟩)
          · intro lQ b W hI hUN hED KQ hKQ
            exact opw_field 27 9 1 rfl _ ((hI.fr.same 9 (by decide)).trans g9) _ (by kernel_rfl) (hKQ.out _ _ (hI.put 5 62 rfl rfl (by rw [hz]; decide) rfl hUN rfl HBB (n11_stb ac nn cc ws Ag k0 cg ps Ad cd2 ts V1 a2 c2 w2.heap.size w5.heap.size (w5.heap.size + 1) w.heap.size (w.heap.size)) (Below.refl _ _) rfl))
          · intro lQ b W hI hUN hED KQ hKQ
            have fp : aT b 62 = .pointer (some ⟨w2.heap.size, 1, none⟩) := hI.got 5 (of_decide_eq_true rfl) (edge hED 5 (by kernel_rfl)) rfl
            have hgb := hI.vot1 7 6 (of_decide_eq_true rfl) (of_decide_eq_true rfl) hUN rfl
            have f := hI.got 4 (of_decide_eq_true rfl) (edge hED 4 (by kernel_rfl)) rfl
            obtain ⟨a', c', f, o_0⟩ := f
            replace f : aT b 61 = .slice a' (k0 + 1) c' := f
            have hcc := (cell_of_row _ _ 1 _ _ (0, 0) hgb).trans rfl
            have hfz := frozen_of_row W _ 1 _ _ hgb
            refine opw_store1 25 62 61 rfl ⟨w2.heap.size, 1, none⟩ _ fp f (W.setCell ⟨w2.heap.size, 1, none⟩ (.slice a' (k0 + 1) c')) (by simp [Instr.storeAt, go_sem, hcc, hfz]) ?_
            have ht : Touch (w2.heap.size) (w2.heap.size + 1) W (W.setCell ⟨w2.heap.size, 1, none⟩ (.slice a' (k0 + 1) c')) := touch_set1 _ _ _ _
            exact hKQ.out _ _ (hI.store 6 (fun j hj => by
                rcases List.mem_singleton.1 hj with rfl
                exact edge hED 4 (by kernel_rfl)) (hI.bel.trans (ht.below (by first | exact HGE9 | omega) (Nat.le_trans HBB hI.bel.size))) (n11_st6 ac nn cc ws Ag k0 cg ps Ad cd2 ts V1 a2 c2 w2.heap.size w5.heap.size (w5.heap.size + 1) w.heap.size (w.heap.size) hgb ht) ⟨a', c', (heap_setCell_same W _ 1 _ _ _ hgb), o_0.touched hgb (by decide) (by decide) ht⟩)
        · intro b W hf hb F
          obtain ⟨ag5, cg5, hbx, hxg⟩ := F 6 (of_decide_eq_true rfl) rfl
          have hxt : OwnSe w.heap.size W Ad k0 cd2 ts := F 11 (of_decide_eq_true rfl) rfl
          have hxc : Own w.heap.size W ac nn cc ws := F 13 (of_decide_eq_true rfl) rfl
          have hres : W.heap[w.heap.size]? = some (.cells #[.slice none 0 0, .slice none 0 0] 27 (0, 0)) ∧ _ := F 14 (of_decide_eq_true rfl) rfl
          have hgt : W.heap[w5.heap.size + 1]? = some (.cells #[.int .i64 V1.t.1, .int .u64 V1.t.2.1, .int .i64 V1.t.2.2.1, .int .i64 V1.t.2.2.2] 45 (0, 0)) := F 9 (of_decide_eq_true rfl) rfl
          rw [hf.eq]
          simp only [puts, Act.put, List.setIfInBounds_toArray, List.set_cons_zero, List.set_cons_succ]
          clear hf F
          generalize aT b = AT
          clear b
          obtain ⟨wx, hWx⟩ : ∃ wx, wx = W := ⟨_, rfl⟩
          subst hWx
          have HX : Hid (OwnG w.heap.size wx ag5 (k0 + 1) cg5 (ps ++ [((a2, V1.sg.length, c2), sgOf V1)]) ∧ OwnSe w.heap.size wx Ad k0 cd2 ts ∧ wx.heap[w2.heap.size]? = some (.cells #[.slice ac nn cc, .slice ag5 (k0 + 1) cg5] 27 (0, 0)) ∧ (Own w.heap.size wx ac nn cc ws ∧ wx.heap[w.heap.size]? = some (.cells #[.slice none 0 0, .slice none 0 0] 27 (0, 0))) ∧ wx.heap[w5.heap.size + 1]? = some (.cells #[.int .i64 V1.t.1, .int .u64 V1.t.2.1, .int .i64 V1.t.2.2.1, .int .i64 V1.t.2.2.2] 45 (0, 0))) := ⟨hxg, hxt, hbx, ⟨hxc, hres.1⟩, hgt⟩
          have hcx : Below w.heap.size w wx := hcz.trans hb
          have hsx := hb.size
          clear hbx hxg hxt hxc hres hgt hb
          go_upto_region 12 with fail
          have HBB : w.heap.size ≤ wx.heap.size := by have := hcx.size; omega
          refine wp_region_rp (n12 ac nn cc ws ag5 k0 cg5 (ps ++ [((a2, V1.sg.length, c2), sgOf V1)]) Ad cd2 ts V1 a2 c2 w2.heap.size w5.heap.size (w5.heap.size + 1) w.heap.size (w.heap.size)) [10, 63, 64, 65, 66] (w.heap.size) (fun a0 => a0.tmps.size = 69 ∧ aT a0 13 = .pointer (some ⟨(w5.heap.size + 1), 0, none⟩)) rfl (by kernel_rfl) rfl ⟨rfl, rfl⟩ (n12_stb ac nn cc ws ag5 k0 cg5 (ps ++ [((a2, V1.sg.length, c2), sgOf V1)]) Ad cd2 ts V1 a2 c2 w2.heap.size w5.heap.size (w5.heap.size + 1) w.heap.size (w.heap.size)) ?_ ?_ ?_
          · intro k hk hk2
            match k, hk, hk2 with
            | 5, _, _ => exact HX.out.2.2.2.2
            | 6, _, _ => exact (show OwnSe w.heap.size wx Ad k0 cd2 ts from HX.out.2.1)
            | 7, _, _ => exact rfl
            | 8, _, _ => exact (show OwnG w.heap.size wx ag5 (k0 + 1) cg5 (ps ++ [((a2, V1.sg.length, c2), sgOf V1)]) from HX.out.1)
            | 9, _, _ => exact HX.out.2.2.1
            | 10, _, _ => exact (show Own w.heap.size wx ac nn cc ws from HX.out.2.2.2.1.1)
            | 11, _, _ => exact HX.out.2.2.2.1.2
            | 0, hk, _ => exact absurd hk (by show ¬ (5 ≤ 0); omega)
            | 1, hk, _ => exact absurd hk (by show ¬ (5 ≤ 1); omega)
            | 2, hk, _ => exact absurd hk (by show ¬ (5 ≤ 2); omega)
            | 3, hk, _ => exact absurd hk (by show ¬ (5 ≤ 3); omega)
            | 4, hk, _ => exact absurd hk (by show ¬ (5 ≤ 4); omega)
            | k + 12, _, hk2 => exact absurd hk2 (by show ¬ (k + 12 < 12); omega)
          · rintro a0 ⟨hz, g13⟩
            refine StepsRI.cons ?_ (StepsRI.cons ?_ (StepsRI.cons ?_ (StepsRI.cons ?_ (StepsRI.cons ?_ (StepsRI.nil)))))
            · intro lQ b W hI hUN hED KQ hKQ
              have f : aT b 10 = .slice Ad k0 cd2 := hI.vot1 7 4 (of_decide_eq_true rfl) (of_decide_eq_true rfl) (unl fun h => by have h2 := (hI.cl 3 (of_decide_eq_true rfl) (hI.cl 4 (of_decide_eq_true rfl) h _ (List.Mem.head _)) _ (List.Mem.head _)); rw [show lQ 0 = false from hUN] at h2; cases h2) rfl
              exact opw_move 10 rfl (hKQ.out _ _ (hI.put 0 63 rfl rfl (by rw [hz]; decide) rfl hUN rfl HBB (n12_stb ac nn cc ws ag5 k0 cg5 (ps ++ [((a2, V1.sg.length, c2), sgOf V1)]) Ad cd2 ts V1 a2 c2 w2.heap.size w5.heap.size (w5.heap.size + 1) w.heap.size (w.heap.size)) (Below.refl _ _) f))
            · intro lQ b W hI hUN hED KQ hKQ
              have hg := (hI.vot1 5 3 (of_decide_eq_true rfl) (of_decide_eq_true rfl) (unl fun h => by have h2 := (hI.cl 2 (of_decide_eq_true rfl) (hI.cl 3 (of_decide_eq_true rfl) h _ (List.Mem.tail _ (List.Mem.head _))) _ (List.Mem.head _)); rw [show lQ 1 = false from hUN] at h2; cases h2) rfl)
              refine wp_load_row 45 _ rfl ((w5.heap.size + 1)) ((hI.fr.same 13 (by decide)).trans g13) 45 #[.int .i64 V1.t.1, .int .u64 V1.t.2.1, .int .i64 V1.t.2.2.1, .int .i64 V1.t.2.2.2] (0, 0) _ hg Tryz.underlying45 rfl (by kernel_rfl) ?_
              exact hKQ.out _ _ (hI.put 1 64 rfl rfl (by rw [hz]; decide) rfl hUN rfl HBB (n12_stb ac nn cc ws ag5 k0 cg5 (ps ++ [((a2, V1.sg.length, c2), sgOf V1)]) Ad cd2 ts V1 a2 c2 w2.heap.size w5.heap.size (w5.heap.size + 1) w.heap.size (w.heap.size)) (Below.refl _ _) rfl)
            · intro lQ b W hI hUN hED KQ hKQ
              have f := hI.got 1 (of_decide_eq_true rfl) (edge hED 1 (by kernel_rfl)) rfl
              replace f : aT b 64 = .agg #[.int .i64 V1.t.1, .int .u64 V1.t.2.1, .int .i64 V1.t.2.2.1, .int .i64 V1.t.2.2.2] := f
              refine opw_buildSlice _ 1 _ rfl #[(0, .agg #[.int .i64 V1.t.1, .int .u64 V1.t.2.1, .int .i64 V1.t.2.2.1, .int .i64 V1.t.2.2.2])] (by simp [ev, f]) (.slice (some ⟨W.heap.size, 0, none⟩) 1 1) (W.alloc (.cells #[.int .i64 V1.t.1, .int .u64 V1.t.2.1, .int .i64 V1.t.2.2.1, .int .i64 V1.t.2.2.2] 45)) (by kernel_rfl) ?_
              exact hKQ.out _ _ (hI.putp 2 65 (fun j hj => by rcases List.mem_singleton.1 hj with rfl; exact (edge hED 1 (by kernel_rfl))) rfl (by rw [hz]; decide) rfl hUN rfl HBB (n12_stb ac nn cc ws ag5 k0 cg5 (ps ++ [((a2, V1.sg.length, c2), sgOf V1)]) Ad cd2 ts V1 a2 c2 w2.heap.size w5.heap.size (w5.heap.size + 1) w.heap.size (w.heap.size)) ((Below.refl _ _).alloc (Nat.le_refl _) _) ⟨W.heap.size, rfl, heap_alloc_new W _⟩)
            · intro lQ b W hI hUN hED KQ hKQ
              have f0 : aT b 63 = .slice Ad k0 cd2 := hI.got 0 (of_decide_eq_true rfl) (edge hED 0 (by kernel_rfl)) rfl
              obtain ⟨gk, f1, hgk⟩ := hI.got1 2 3 (of_decide_eq_true rfl) (edge hED 2 (by kernel_rfl)) hUN rfl
              replace f1 : aT b 65 = .slice (some ⟨gk, 0, none⟩) 1 1 := f1
              have ho := hI.vot1 6 3 (of_decide_eq_true rfl) (of_decide_eq_true rfl) hUN rfl
              have hRW : w.heap.size ≤ W.heap.size := Nat.le_trans HBB hI.bel.size
              refine opw_append_st 63 65 28 rfl w.heap.size 45 j0 _ 4 32 Tryz.underlying28 ji jz0 jz1 jz2 rfl (by decide) (.slice Ad k0 cd2) k0 _ f0 ho.row ⟨gk, 0, none⟩ 1 1 (flSe [V1.t]) f1 rfl (cells_of4g hgk) (flSe_one _) (by unfold maxLen; omega) (by omega) hRW ?_
              intro v' w' hv' hg'
              have hbR : Below w.heap.size W w' := (Below.refl _ _).grown hg' hRW (fun k hk => (ho.row.lt k hk).1)
              obtain ⟨a', c', rfl, hN⟩ := ownSe_appended (xs := ts) (ys := [V1.t]) ho.rng (USe.one HRT.out) hv'
              exact hKQ.out _ _ (hI.turn 3 66 (fun j hj => by rcases List.mem_cons.1 (show j ∈ [0, 2] from hj) with rfl | hj2; exact (edge hED 0 (by kernel_rfl)); rcases List.mem_singleton.1 hj2 with rfl; exact (edge hED 2 (by kernel_rfl))) rfl (by rw [hz]; decide) rfl hUN rfl (hI.bel.trans hbR) (n12_t3 ac nn cc ws ag5 k0 cg5 (ps ++ [((a2, V1.sg.length, c2), sgOf V1)]) Ad cd2 ts V1 a2 c2 w2.heap.size w5.heap.size (w5.heap.size + 1) w.heap.size (w.heap.size) hg' ho.row (unl fun h => by have h2 := (hI.cl 4 (of_decide_eq_true rfl) h _ (List.Mem.head _)); rw [show lQ 3 = false from hUN] at h2; cases h2)) ⟨a', c', rfl, hN⟩)
            · intro lQ b W hI hUN hED KQ hKQ
              have f := hI.got 3 (of_decide_eq_true rfl) (edge hED 3 (by kernel_rfl)) rfl
              exact opw_assign 66 rfl (hKQ.out _ _ (hI.putp 4 10 (fun j hj => by rcases List.mem_singleton.1 hj with rfl; exact (edge hED 3 (by kernel_rfl))) rfl (by rw [hz]; decide) rfl hUN rfl HBB (n12_stb ac nn cc ws ag5 k0 cg5 (ps ++ [((a2, V1.sg.length, c2), sgOf V1)]) Ad cd2 ts V1 a2 c2 w2.heap.size w5.heap.size (w5.heap.size + 1) w.heap.size (w.heap.size)) (Below.refl _ _) f))
          · intro b W hf hb F
            obtain ⟨a3, c3, e10, hxt⟩ := F 4 (of_decide_eq_true rfl) rfl
            have hxg : OwnG w.heap.size W ag5 (k0 + 1) cg5 (ps ++ [((a2, V1.sg.length, c2), sgOf V1)]) := F 8 (of_decide_eq_true rfl) rfl
            have hbx : W.heap[w2.heap.size]? = some (.cells #[.slice ac nn cc, .slice ag5 (k0 + 1) cg5] 27 (0, 0)) := F 9 (of_decide_eq_true rfl) rfl
            have hxc : Own w.heap.size W ac nn cc ws := F 10 (of_decide_eq_true rfl) rfl
            have hres : W.heap[w.heap.size]? = some (.cells #[.slice none 0 0, .slice none 0 0] 27 (0, 0)) := F 11 (of_decide_eq_true rfl) rfl
            replace e10 : aT b 10 = _ := e10
            rw [hf.eq]
            simp only [puts, Act.put, List.setIfInBounds_toArray, List.set_cons_zero, List.set_cons_succ, e10]
            clear hf F e10
            generalize aT b = AT
            clear b
            obtain ⟨wv, hWv⟩ : ∃ wv, wv = W := ⟨_, rfl⟩
            subst hWv
            have HNX : Hid (SmI w.heap.size w2.heap.size w wv ac nn cc ws ag5 (k0 + 1) cg5 (ps ++ [((a2, V1.sg.length, c2), sgOf V1)]) a3 c3 (ts ++ [V1.t])) := ⟨hbx, hres, ⟨hxc, hxg, rfl, hxt, HSEP2.out⟩, hcx.trans hb⟩
            have HVX : Hid (V = smGo ws at2 (ss.drop (k0 + 1)) (gsOf (ps ++ [((a2, V1.sg.length, c2), sgOf V1)])) (ts ++ [V1.t])) := by show _ = _; rw [HF.out]; simp [gsOf]
            clear hbx hxg hxt hxc hres hb
            go_wp2
            go_roundw
            case rel => exact ⟨k0 + 1, ag5, cg5, ps ++ [((a2, V1.sg.length, c2), sgOf V1)], a3, c3, ts ++ [V1.t], by omega, rfl, by go_num, HNX, HVX⟩
            case measure => simp [intOf]; omega
    · obtain rfl : k0 = n0 := by omega
      have HF := (show Hid (V = ⟨ws, gsOf ps, ts, 0⟩) by show _ = _; rw [HVK.out, List.drop_of_length_le (by rw [HLS.out]; exact Nat.le_refl _)]; rfl)
      have HL1 : Hid (ws.length = nn) := HSR.out.cO.length
      have HL2 : Hid ((gsOf ps).length = k0) := by show _ = _; rw [gsOf, List.length_map]; exact HSR.out.gO.len
      have HL3 : Hid (ts.length = k0) := HSR.out.tO.len
      have HSEP : Hid (_) := HSR.out.sep
      go_upto_region 13 with fail
      have HBB : w.heap.size ≤ wr.heap.size := by omega
      refine wp_region_rp (n13 ac nn cc ws Ag k0 cg ps Ad cd2 ts w2.heap.size w.heap.size (w.heap.size)) [7, 8, 67, 68] (w.heap.size) (fun a0 => a0.tmps.size = 69 ∧ aT a0 6 = .pointer (some ⟨w.heap.size, 0, none⟩) ∧ aT a0 9 = .pointer (some ⟨w2.heap.size, 0, none⟩) ∧ aT a0 10 = .slice Ad k0 cd2) rfl (by kernel_rfl) rfl ⟨rfl, rfl, rfl, rfl⟩ (n13_stb ac nn cc ws Ag k0 cg ps Ad cd2 ts w2.heap.size w.heap.size (w.heap.size)) ?_ ?_ ?_
      · intro k hk hk2
        match k, hk, hk2 with
        | 5, _, _ => exact ⟨HIB.out.1, by omega⟩
        | 6, _, _ => exact HIB.out.2
        | 7, _, _ => exact (show Own w.heap.size wr ac nn cc ws from HSR.out.cO)
        | 8, _, _ => exact (show OwnG w.heap.size wr Ag k0 cg ps from HSR.out.gO)
        | 9, _, _ => exact (show OwnSe w.heap.size wr Ad k0 cd2 ts from HSR.out.tO)
        | 0, hk, _ => exact absurd hk (by show ¬ (5 ≤ 0); omega)
        | 1, hk, _ => exact absurd hk (by show ¬ (5 ≤ 1); omega)
        | 2, hk, _ => exact absurd hk (by show ¬ (5 ≤ 2); omega)
        | 3, hk, _ => exact absurd hk (by show ¬ (5 ≤ 3); omega)
        | 4, hk, _ => exact absurd hk (by show ¬ (5 ≤ 4); omega)
        | k + 10, _, hk2 => exact absurd hk2 (by show ¬ (k + 10 < 10); omega)
      · rintro a0 ⟨hz, g6, g9, g10⟩
        refine StepsRI.cons ?_ (StepsRI.cons ?_ (StepsRI.cons ?_ (StepsRI.cons ?_ (StepsRI.cons ?_ (StepsRI.nil)))))
        · intro lQ b W hI hUN hED KQ hKQ
          have hg := (hI.vot 5 (of_decide_eq_true rfl) (of_decide_eq_true rfl) rfl).1
          refine wp_load_row 27 _ rfl (w2.heap.size) ((hI.fr.same 9 (by decide)).trans g9) 27 #[.slice ac nn cc, .slice Ag k0 cg] (0, 0) _ hg Tryz.underlying27 rfl (by kernel_rfl) ?_
          exact hKQ.out _ _ (hI.put 0 67 rfl rfl (by rw [hz]; decide) rfl hUN rfl HBB (n13_stb ac nn cc ws Ag k0 cg ps Ad cd2 ts w2.heap.size w.heap.size (w.heap.size)) (Below.refl _ _) rfl)
        · intro lQ b W hI hUN hED KQ hKQ
          exact opw_move 10 rfl (hKQ.out _ _ (hI.put 1 68 rfl rfl (by rw [hz]; decide) rfl hUN rfl HBB (n13_stb ac nn cc ws Ag k0 cg ps Ad cd2 ts w2.heap.size w.heap.size (w.heap.size)) (Below.refl _ _) ((hI.fr.same 10 (by decide)).trans g10)))
        · intro lQ b W hI hUN hED KQ hKQ
          have hgb := (hI.vot1 6 2 (of_decide_eq_true rfl) (of_decide_eq_true rfl) hUN rfl)
          have fb := ((hI.fr.same 6 (by decide)).trans g6)
          have f := hI.got 0 (of_decide_eq_true rfl) (edge hED 0 (by kernel_rfl)) rfl
          refine wp_store_row 27 _ _ rfl (w.heap.size) #[.slice ac nn cc, .slice Ag k0 cg] fb f 27 _ hgb (by kernel_rfl) rfl (by simp [Value.oneCell']) ?_
          have ht := setRow_touch W (w.heap.size) #[.slice ac nn cc, .slice Ag k0 cg]
          exact hKQ.out _ _ (hI.store 2 (fun j hj => by cases hj) (hI.bel.trans (ht.below (by first | exact HGE6 | omega) (Nat.le_trans HBB hI.bel.size))) (n13_st2 ac nn cc ws Ag k0 cg ps Ad cd2 ts w2.heap.size w.heap.size (w.heap.size) hgb ht) (setRow_heap W (w.heap.size) _ _ _ _ hgb))
        · intro lQ b W hI hUN hED KQ hKQ
          have f := hI.got 1 (of_decide_eq_true rfl) (edge hED 1 (by kernel_rfl)) rfl
          exact opw_assign 68 rfl (hKQ.out _ _ (hI.put 3 7 rfl rfl (by rw [hz]; decide) rfl hUN rfl HBB (n13_stb ac nn cc ws Ag k0 cg ps Ad cd2 ts w2.heap.size w.heap.size (w.heap.size)) (Below.refl _ _) f))
        · intro lQ b W hI hUN hED KQ hKQ
          exact opw_const (.int .i64 0) rfl (hKQ.out _ _ (hI.put 4 8 rfl rfl (by rw [hz]; decide) rfl hUN rfl HBB (n13_stb ac nn cc ws Ag k0 cg ps Ad cd2 ts w2.heap.size w.heap.size (w.heap.size)) (Below.refl _ _) rfl))
      · intro b W hf hb F
        have e0 := F 2 (of_decide_eq_true rfl) rfl
        have e7 := F 3 (of_decide_eq_true rfl) rfl
        have e8 := F 4 (of_decide_eq_true rfl) rfl
        have hxc := F 7 (of_decide_eq_true rfl) rfl
        have hxg := F 8 (of_decide_eq_true rfl) rfl
        have hxt := F 9 (of_decide_eq_true rfl) rfl
        replace e7 : aT b 7 = _ := e7
        replace e8 : aT b 8 = _ := e8
        rw [hf.eq]
        simp only [puts, Act.put, List.setIfInBounds_toArray, List.set_cons_zero, List.set_cons_succ, e7, e8]
        clear hf F
        go_wp2
        try simp only [Exit.inBlock, Exit.then]
        exact bodyPost_ret (results_sm rfl _ w.heap.size rfl _ rfl _ rfl _ _ e0 rfl) rfl ⟨ac, cc, Ag, cg, Ad, cd2, by rw [HF.out]; simp [smOut, HL1.out, HL2.out, HL3.out], ⟨ps, by rw [HF.out]; simpa [HL1.out, HL2.out, HL3.out] using (⟨hxc, hxg, rfl, hxt, HSEP.out⟩ : SmR w.heap.size W ws (gsOf ps) ts ac nn cc Ag k0 cg Ad k0 cd2 ps)⟩, hbr.trans hb⟩

end Go.Proofs.YtgbjleapaioemaaGreat

