/-
  Texts of the proof, joined: KeyDefs.
-/
import Derived.Test.YtkmakpbphdjbcaaGreatDoorQ35
import Derived.Test.YtkmakpbphdjbcaaGreatDoorQ36
import Derived.Test.YtkmakpbphdjbcaaGreatDoorQ13
namespace Go.Proofs.YtkmakpbphdjbcaaGreatDoor
open Go.ChangeShapes Go.WideShapes Go.ChangeAt Go.RowKit
def sealF (i : Nat) : Nat := if i = 0 then 115 else if i = 1 then 101 else if i = 2 then 97 else 108
theorem sealF_lt (i : Nat) : sealF i < 256 := by unfold sealF; split; omega; split; omega; split <;> omega
def keysF (i : Nat) : Nat := if i = 0 then 107 else if i = 1 then 101 else if i = 2 then 121 else 115
theorem keysF_lt (i : Nat) : keysF i < 256 := by unfold keysF; split; omega; split; omega; split <;> omega
theorem conv_rowS (w : World) (C : Array Value) (n c : Nat) : (convert 22 22 (.slice (some ⟨w.heap.size, 0, none⟩) n c)).run Tryz.prog (w.alloc (.cells C 5)) = .ok (.slice (some ⟨w.heap.size, 0, none⟩) n c) (w.alloc (.cells C 5 (C.size, C.size + 1))) := by
  have hsh : (w.alloc (.cells C 5)).shape? w.heap.size = some (5, C.size) := by
    have : (w.alloc (.cells C 5)).heap[w.heap.size]? = some (.cells C 5) := by
      show (w.heap.push (.cells C 5))[w.heap.size]? = _
      simp
    unfold World.shape?
    rw [this]
  have hfr : (w.alloc (.cells C 5)).freeze ⟨w.heap.size, C.size, none⟩ 1 = w.alloc (.cells C 5 (C.size, C.size + 1)) := by
    have hm : ∀ (a : Array Obj) (x : Obj) (f : Obj → Obj), (a.push x).modify a.size f = a.push (f x) := by
      intro a x f
      apply Array.ext
      · simp
      · intro i h1 h2
        simp only [Array.getElem_modify, Array.getElem_push]
        by_cases h : a.size = i
        · subst h
          simp
        · have hi : i < a.size := by simp at h1; omega
          simp [h, hi]
    unfold World.freeze
    rw [if_neg (by decide)]
    show ({ w.alloc (.cells C 5) with heap := (w.heap.push (.cells C 5)).modify w.heap.size _ } : World) = _
    rw [hm]
    rfl
  simp [convert, run_underlying Tryz.underlying22, run_underlying Tryz.underlying5, markStringish, hsh]
  exact hfr
theorem seal_code (w : World) : Code8 (w.alloc (.cells #[.int .u8 115, .int .u8 101, .int .u8 97, .int .u8 108] 5 (4, 5))) (some ⟨w.heap.size, 0, none⟩) 4 sealF := code8_of (fun i hi => by
  rw [Nat.zero_add, World.cell?_alloc_mark]
  rcases (show i = 0 ∨ i = 1 ∨ i = 2 ∨ i = 3 by omega) with rfl | rfl | rfl | rfl <;> (simp [sealF]))
theorem keys_code (w : World) : Code8 (w.alloc (.cells #[.int .u8 107, .int .u8 101, .int .u8 121, .int .u8 115] 5 (4, 5))) (some ⟨w.heap.size, 0, none⟩) 4 keysF := code8_of (fun i hi => by
  rw [Nat.zero_add, World.cell?_alloc_mark]
  rcases (show i = 0 ∨ i = 1 ∨ i = 2 ∨ i = 3 by omega) with rfl | rfl | rfl | rfl <;> (simp [keysF]))
def secS (k : ByteArray) : ByteArray := macS 4 sealF 32 (strB k)
def pairF (k : ByteArray) : Nat → Nat := Sha.drawnF (Sha.keyF 32 (strB (secS k))) 4 keysF
theorem pairF_lt (k : ByteArray) (i : Nat) : pairF k i < 256 := Sha.drawnF_lt _ _ _ _
theorem secS_size (k : ByteArray) : (secS k).size = 32 := macS_size _ _ _ _
def encS (k : ByteArray) : ByteArray := kstr (pairF k) 0 32
def tagS (k : ByteArray) : ByteArray := kstr (pairF k) 32 32
theorem encS_size (k : ByteArray) : (encS k).size = 32 := kstr_size _ _ _
theorem tagS_size (k : ByteArray) : (tagS k).size = 32 := kstr_size _ _ _
end Go.Proofs.YtkmakpbphdjbcaaGreatDoor
