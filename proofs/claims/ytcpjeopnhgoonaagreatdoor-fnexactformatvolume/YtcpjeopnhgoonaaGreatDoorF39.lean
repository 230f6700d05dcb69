/-
  Texts of the proof, joined.
-/
import Derived.Test.YtcpjeopnhgoonaaGreatDoorF38
import Derived.Test.YtcpjeopnhgoonaaGreatDoorF32
namespace Go.Proofs.YtcpjeopnhgoonaaGreatDoor
open Go.ChangeShapes Go.WideShapes Go.ChangeAt Go.RowKit
set_option linter.unusedVariables false
def LitX (w:World) (b:Nat):Prop:=w.heap[b]? = some (.cells #[.int .u8 115,.int .u8 108,.int .u8 111,.int .u8 116] 5)
theorem LitX.lt {w:World} {b:Nat} (h:LitX w b):b < w.heap.size:=by
 have:=(Array.getElem?_eq_some_iff.1 h).1
 exact this
theorem LitX.below {w w':World} {b:Nat} (h:LitX w b) (hb:Below w.heap.size w w'):LitX w' b:=(hb.block b h.lt).trans h
theorem LitX.made (w:World):LitX (w.alloc (.cells #[.int .u8 115,.int .u8 108,.int .u8 111,.int .u8 116] 5)) w.heap.size:=by
 show (w.heap.push _)[w.heap.size]? = _
 simp
theorem conv_lit (w:World) (b:Nat) (h:LitX w b):∃ w',(convert 68 68 (.slice (some ⟨b,0,none⟩) 4 4)).run Tryz.prog w = .ok (.slice (some ⟨b,0,none⟩) 4 4) w'∧Code8 w' (some ⟨b,0,none⟩) 4 slotX∧OnlyB b w w'∧(∀ i,w'.cell? i = w.cell? i):=by
 have h':w.heap[b]? = some (.cells #[.int .u8 115,.int .u8 108,.int .u8 111,.int .u8 116] 5):=h
 have hsh:w.shape? b = some (5,4):=by
  unfold World.shape?
  rw [h]
  rfl
 have hr:(convert 68 68 (.slice (some ⟨b,0,none⟩) 4 4)).run Tryz.prog w = .ok (.slice (some ⟨b,0,none⟩) 4 4) (w.freeze ⟨b,4,none⟩ 1):=by
  simp [convert,run_underlying Tryz.underlying68,run_underlying Tryz.underlying5,markStringish,hsh]
 have hcell:∀ i,(w.freeze ⟨b,4,none⟩ 1).cell? i = w.cell? i:=fun i => by
  unfold World.freeze
  rw [if_neg (by decide)]
  unfold World.cell?
  simp only [Array.getElem?_modify]
  by_cases e:b = i.block
  ·rw [if_pos e,← e,h']
   rfl
  ·rw [if_neg e]
 refine ⟨_,hr,?_,?_,hcell⟩
 ·refine code8_of (fun i hi => ?_)
  rw [hcell,Nat.zero_add]
  unfold World.cell?
  rw [h']
  rcases (show i = 0∨i = 1∨i = 2∨i = 3 by omega) with rfl | rfl | rfl | rfl <;> rfl
 ·unfold World.freeze
  rw [if_neg (by decide)]
  refine ⟨rfl,rfl,rfl,by simp,fun k hk hne => ?_⟩
  show (w.heap.modify b _)[k]? = w.heap[k]?
  rw [Array.getElem?_modify,if_neg (fun e => hne e.symm)]
theorem code8_cells {w w':World} {a:Option Addr} {n:Nat} {f:Nat→Nat} (h:Code8 w a n f) (e:∀ i,w'.cell? i = w.cell? i):Code8 w' a n f:=fun i hi => by
 obtain ⟨b,o,ha,hc⟩:=h i hi
 exact ⟨b,o,ha,by rw [e]; exact hc⟩
theorem rowM_of_own8 {w:World} {b n:Nat} {f:Nat→Nat} (h:Own8 w b n f):RowM w b n n f:=⟨Nat.le_refl _,fun i hi => h.cell hi,fun i hi => ⟨by rw [h.cell hi]; rfl,h.frozen i⟩,h.lt⟩
theorem RowM.onlyB {w w':World} {g b n cap:Nat} {F:Nat→Nat} (h:RowM w g n cap F) (ho:OnlyB b w w') (hne:g≠b):RowM w' g n cap F:=by
 have hbk:=ho.block g h.2.2.2 hne
 have hc:∀ i,w'.cell? ⟨g,i,none⟩ = w.cell? ⟨g,i,none⟩:=fun i => by simp [World.cell?,hbk]
 have hf:∀ i,w'.frozen? ⟨g,i,none⟩ = w.frozen? ⟨g,i,none⟩:=fun i => by simp [World.frozen?,hbk]
 exact ⟨h.1,fun i hi => by rw [hc]; exact h.2.1 i hi,fun i hi => ⟨by rw [hc]; exact (h.2.2.1 i hi).1,by rw [hf]; exact (h.2.2.1 i hi).2⟩,Nat.lt_of_lt_of_le h.2.2.2 ho.size⟩
def CellAt (w:World) (b i:Nat) (v:Value):Prop:=w.cell? ⟨b,i,none⟩ = some v
theorem CellAt.below {w w':World} {b i:Nat} {v:Value} (h:CellAt w b i v) (hb:Below w.heap.size w w'):CellAt w' b i v:=(hb.cell (p:=⟨b,i,none⟩) (strBlock h)).trans h
structure Sl2 (b:Nat) (ep:Int) (d:ByteArray) (w:World):Prop where
 c0:w.cell? ⟨b,0,none⟩ = some (.int .i64 ep)
 c1:w.cell? ⟨b,1,none⟩ = some (.string d)
 fr:∀ i,w.frozen? ⟨b,i,none⟩ = false
 lt:b < w.heap.size
theorem Sl2.made (w:World) (ep:Int) (d:ByteArray) (t:TypeId):Sl2 w.heap.size ep d (w.alloc (.cells #[.int .i64 ep,.string d] t)):=⟨by simp,by simp,fun i => by simp,by simp⟩
end Go.Proofs.YtcpjeopnhgoonaaGreatDoor
