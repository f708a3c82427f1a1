import Derived.Test.YtglpbgebcpijaaaGreatTT3
import Derived.Deep.DeepCutAuto
namespace Go.Proofs.YtglpbgebcpijaaaGreat
open Go.RowKit

def leW : List Int := [108, 101, 97, 102]
def ndW : List Int := [110, 111, 100, 101]
def stW : List Int := [115, 116, 97, 114, 116]
theorem leW_byte : ∀ k, 0 ≤ leW.getD k 0 ∧ leW.getD k 0 ≤ 255 := bytes_of_all (by decide)
theorem ndW_byte : ∀ k, 0 ≤ ndW.getD k 0 ∧ ndW.getD k 0 ≤ 255 := bytes_of_all (by decide)
theorem stW_byte : ∀ k, 0 ≤ stW.getD k 0 ∧ stW.getD k 0 ≤ 255 := bytes_of_all (by decide)
theorem good_word (w : World) (bs : List Int) (fr : Nat × Nat) (h : ∀ k, 0 ≤ bs.getD k 0 ∧ bs.getD k 0 ≤ 255) : Good (w.alloc (.cells (wordC bs) 5 fr)) (some ⟨w.heap.size, 0, none⟩, bs.length, bs.length, bs) :=
  ⟨row_word w bs fr h, (fun h => by cases h), fun b off s e => by simp at e; obtain ⟨rfl, _⟩ := e; exact ⟨_, 5, _, heap_alloc_new w _, by decide⟩⟩
theorem OwnP.mono {B B' : Nat} {w : World} {a : Option Addr} {n cap : Nat} {ps : List Part} (h : OwnP B w a n cap ps) (hB : B' ≤ B) : OwnP B' w a n cap ps :=
  ⟨⟨h.row.1, by rcases h.row.2 with h | ⟨g, cap, cur, hv, hb, r⟩; exact .inl h; exact .inr ⟨g, cap, cur, hv, by omega, r⟩⟩, h.get⟩

def startN (seed leaf digit : Int) : Int := hashL (partsL [stW, eightI seed, putI leaf, putI digit])
theorem startN_bd (seed leaf digit : Int) : U64 (startN seed leaf digit) := hashL_bd _
theorem start_total (seed leaf digit : Int) (hl : leaf ≤ 9223372036854775807) (hd : digit ≤ 9223372036854775807) : total [stW, eightI seed, putI leaf, putI digit] ≤ 2097152 := by
  have h1 := putI_len leaf hl
  have h2 := putI_len digit hd
  simp [total, stW, eightI_len]
  omega

/-- A tree's key. -/
def tkv (seed height next : Int) : Value := .agg #[.int .u64 seed, .int .i64 height, .int .i64 next]

def stepN (v : Int) : Int := hashL (eightI v)
def stepsN (v : Int) : Nat → Int
  | 0 => v
  | k + 1 => stepN (stepsN v k)
theorem stepsN_bd (v : Int) (hv : U64 v) (k : Nat) : U64 (stepsN v k) := by
  cases k with
  | zero => exact hv
  | succ k => exact (hashL_bd (eightI (stepsN v k)) : U64 (hashL (eightI (stepsN v k))))

end Go.Proofs.YtglpbgebcpijaaaGreat
