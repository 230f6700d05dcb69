/-
  Texts of the proof, joined: ExpandS, KeyDefs.
-/
import Derived.Test.YtiamaoihachhgaaGreatDoorE24
import Derived.Test.YtiamaoihachhgaaGreatDoorE20
import Derived.Test.YtiamaoihachhgaaGreatDoorE14
import Derived.ArgAppend
namespace Go.Proofs.YtiamaoihachhgaaGreatDoor
open Go.ChangeShapes Go.WideShapes Go.ChangeAt Go.RowKit
def lastS (K : Nat → Nat) (m : Nat) (g : Nat → Nat) (q : Nat) : ByteArray := kstr (Sha.drawnB K m g q) 0 (if q = 0 then 0 else 32)
theorem kstr_none (f : Nat → Nat) (o : Nat) : kstr f o 0 = ⟨#[]⟩ := rfl
theorem lastS_zero (K : Nat → Nat) (m : Nat) (g : Nat → Nat) : lastS K m g 0 = ⟨#[]⟩ := by unfold lastS; rw [if_pos rfl]; rfl
theorem lastS_succ (K : Nat → Nat) (m : Nat) (g : Nat → Nat) (q : Nat) : lastS K m g (q + 1) = kstr (Sha.drawnB K m g (q + 1)) 0 32 := by unfold lastS; rw [if_neg (by omega)]
theorem drawnB_succ (K : Nat → Nat) (m : Nat) (g : Nat → Nat) (q : Nat) : Sha.drawnB K m g (q + 1) = Sha.mac K ((if q = 0 then 0 else 32) + m + 1) (Sha.cat (if q = 0 then 0 else 32) (Sha.drawnB K m g q) (Sha.cat m g (fun _ => (q + 1) % 256))) := rfl
theorem out_grow (K : Nat → Nat) (m : Nat) (g : Nat → Nat) (q : Nat) : kstr (Sha.drawnF K m g) 0 (32 * q) ++ lastS K m g (q + 1) = kstr (Sha.drawnF K m g) 0 (32 * (q + 1)) := by
 have e : kstr (Sha.drawnB K m g (q + 1)) 0 32 = kstr (Sha.drawnF K m g) (0 + 32 * q) 32 := kstr_congr (fun i hi => by
  unfold Sha.drawnF
  rw [show (0 + 32 * q + i) / 32 + 1 = q + 1 from by omega, show (0 + 32 * q + i) % 32 = 0 + i from by omega])
 have := kstr_append (Sha.drawnF K m g) 0 (32 * q) 32
 rw [lastS_succ, e, this]
 rfl
set_option maxRecDepth 100000 in
set_option maxHeartbeats 4000000 in
theorem l03Expand_any (k : ByteArray) (hk : k.size ≤ 65536) (b o m c n : Nat) (g : Nat → Nat) (hg : ∀ i, g i < 256) (hm : m ≤ 65536) (hn : n ≤ 8160) (w : World) (h : Code8 w (some ⟨b, o, none⟩) m g) :
  Calls Tryz.prog 124 #[.string k, .slice (some ⟨b, o, none⟩) m c, .int .i64 (n : Int)] w fun e w' => e = .returned (.string (kstr (Sha.drawnF (Sha.keyF k.size (strB k)) m g) 0 n)) ∧ Below w.heap.size w w' := by
 obtain ⟨K, hK⟩ : ∃ K, K = Sha.keyF k.size (strB k) := ⟨_, rfl⟩
 rw [← hK]
 have HC : Hid (Code8 w (some ⟨b, o, none⟩) m g) := h
 have MC : Hid (∀ (q kb kc g' c' : Nat) (w' : World), Code8 w' (some ⟨kb, 0, none⟩) k.size (strB k) → Code8 w' (some ⟨g', 0, none⟩) ((if q = 0 then 0 else 32) + m + 1) (Sha.cat (if q = 0 then 0 else 32) (Sha.drawnB K m g q) (Sha.cat m g (fun _ => (q + 1) % 256))) → Calls Tryz.prog 125 #[.slice (some ⟨kb, 0, none⟩) k.size kc, .slice (some ⟨g', 0, none⟩) ((if q = 0 then 0 else 32) + m + 1) c'] w' fun e w'' => e = .returned (.string (lastS K m g (q + 1))) ∧ Below w'.heap.size w' w'') := fun q kb kc g' c' w' h0 h1 => by
  have lB : ∀ j, Sha.drawnB K m g q j < 256 := by
   cases q with
   | zero => intro j; show 0 < 256; omega
   | succ q => intro j; exact Sha.mac_lt _ _ _ _
  have := l03Hmac_any kb 0 k.size kc g' 0 _ c' (strB k) _ (strB_lt k) (Sha.cat_lt lB (Sha.cat_lt hg (fun _ => Nat.mod_lt _ (by omega)))) (by omega) (by split <;> omega) w' h0 h1
  unfold macS at this
  rw [← hK, ← drawnB_succ, ← lastS_succ] at this
  exact this
 clear h hg hK
 go_enter Tryz.func124, Tryz.ntmps124
 go_wp2
 go_loopw [7, 8, 9] (fun s t i wr => ∃ q : Nat, q ≤ 255 ∧ i = .int .i64 ((q + 1 : Nat) : Int) ∧ s = .string (kstr (Sha.drawnF K m g) 0 (32 * q)) ∧ t = .string (lastS K m g q) ∧ Below w.heap.size w wr) (fun _ _ i _ => 9000 - (intOf i).toNat)
 case atStart => exact ⟨0, by omega, rfl, by rw [Nat.mul_zero, kstr_none], by rw [lastS_zero], Below.refl _ _⟩
 case round =>
  obtain ⟨q, hq, rfl, rfl, rfl, hb⟩ := hrel
  have HB : Hid (Below w.heap.size w wr) := hb
  clear hb
  have hsO : (kstr (Sha.drawnF K m g) 0 (32 * q)).size = 32 * q := kstr_size _ _ _
  by_cases hlt : 32 * q < n
  ·have hlt' : ((32 * q : Nat) : Int) < (n : Int) := by omega
   obtain ⟨n0, hn0⟩ : ∃ n0, n0 = if q = 0 then 0 else 32 := ⟨_, rfl⟩
   have hn32 : n0 ≤ 32 := by rw [hn0]; split <;> omega
   have hsL : (lastS K m g q).size = n0 := by rw [hn0]; exact kstr_size _ _ _
   have HFL : Hid (∀ j, j < n0 → strB (lastS K m g q) j = Sha.drawnB K m g q j) := fun j hj => by
    have lB : ∀ j, Sha.drawnB K m g q j < 256 := by
     cases q with
     | zero => intro j; show 0 < 256; omega
     | succ q => intro j; exact Sha.mac_lt _ _ _ _
    unfold lastS
    rw [← hn0, strB_kstr _ 0 n0 j (by rw [Nat.zero_add]; exact lB j) hj, Nat.zero_add]
   obtain ⟨X, hX⟩ : ∃ X, X = (q + 1) % 256 := ⟨_, rfl⟩
   have wX : IntKind.u8.wrap ((q + 1 : Nat) : Int) = (X : Int) := by show ((q + 1 : Nat) : Int) % 256 = _; omega
   have wX2 : ((q : Int) + 1) % 256 = (X : Int) := by omega
   have MQ : Hid (∀ (kb kc g' c' : Nat) (w' : World), Code8 w' (some ⟨kb, 0, none⟩) k.size (strB k) → Code8 w' (some ⟨g', 0, none⟩) (n0 + m + 1) (Sha.cat n0 (Sha.drawnB K m g q) (Sha.cat m g (fun _ => X))) → Calls Tryz.prog 125 #[.slice (some ⟨kb, 0, none⟩) k.size kc, .slice (some ⟨g', 0, none⟩) (n0 + m + 1) c'] w' fun e w'' => e = .returned (.string (lastS K m g (q + 1))) ∧ Below w'.heap.size w' w'') := fun kb kc g' c' w' h0 h1 => by
    have := MC.out q kb kc g' c' w' h0 (by rw [← hn0, ← hX]; exact h1)
    rw [← hn0] at this
    exact this
   have HAP : Hid (kstr (Sha.drawnF K m g) 0 (32 * q) ++ lastS K m g (q + 1) = kstr (Sha.drawnF K m g) 0 (32 * (q + 1))) := out_grow K m g q
   have hsN : (lastS K m g (q + 1)).size = 32 := by rw [lastS_succ]; exact kstr_size _ _ _
   have hqb : q ≤ 254 := by omega
   have HXq : Hid ((q : Int) + 1 = (X : Int)) := by show _ = _; omega
   clear hn0 hX MC wX wX2
   generalize hOS : kstr (Sha.drawnF K m g) 0 (32 * q) = OS at *
   generalize hLN : lastS K m g (q + 1) = LN at *
   have HLN : Hid (lastS K m g (q + 1) = LN) := hLN
   clear hLN
   generalize lastS K m g q = LS at *
   clear hOS
   obtain ⟨wa, kc, hcv1, hk1, hb1, _⟩ := bytesOfM k wr
   obtain ⟨wb, lc, hcv2, hk2, hb2⟩ := bytesOfR LS wa
   rw [hsL] at hcv2 hk2
   have HBb : Hid (Below w.heap.size w wb) := (HB.out.trans (hb1.mono HB.out.size)).trans (hb2.mono (Nat.le_trans HB.out.size hb1.size))
   have hKb : Code8 wb (some ⟨wr.heap.size, 0, none⟩) k.size (strB k) := hk1.below hb2
   have hIb : Code8 wb (some ⟨b, o, none⟩) m g := HC.out.below HBb.out
   obtain ⟨g3, c3, w3, hap1, hr3, hb3, hB3⟩ := appendM wb wa.heap.size wa.heap.size n0 lc _ b o m c g (Nat.le_refl _) hb2.size (by omega) (hk2.congr HFL.out) hIb 41
   have hK3 : Code8 w3 (some ⟨wr.heap.size, 0, none⟩) k.size (strB k) := hKb.belowO hb3 hk1.lt
   have hA4 : Below w3.heap.size w3 (w3.alloc (.cells #[.int .u8 ((q : Int) + 1)] 5)) := (Below.refl _ _).alloc (Nat.le_refl _) _
   have hs3 : wa.heap.size ≤ w3.heap.size := Nat.le_trans hb2.size hb3.size
   have hX4 : Code8 (w3.alloc (.cells #[.int .u8 ((q : Int) + 1)] 5)) (some ⟨w3.heap.size, 0, none⟩) 1 (fun _ => X) := fun i hi => ⟨_, 0, rfl, by rw [show 0 + i = 0 from by omega, ← HXq.out]; simp⟩
   obtain ⟨g5, c5, w5, hap2, hr5, hb5, _⟩ := appendM (w3.alloc (.cells #[.int .u8 ((q : Int) + 1)] 5)) wa.heap.size g3 (n0 + m) c3 _ w3.heap.size 0 1 1 (fun _ => X) hB3 (Nat.le_trans hs3 hA4.size) (by omega) (hr3.below hA4) hX4 41
   have HM5 : Hid (Code8 w5 (some ⟨g5, 0, none⟩) (n0 + m + 1) (Sha.cat n0 (Sha.drawnB K m g q) (Sha.cat m g (fun _ => X)))) := hr5.code.congr (fun i hi => by
    unfold Sha.cat
    by_cases h0 : i < n0
    ·rw [if_pos (by omega), if_pos h0, if_pos h0]
    ·by_cases h1 : i < n0 + m
     ·rw [if_pos h1, if_neg h0, if_neg h0, if_pos (by omega)]
     ·rw [if_neg h1, if_neg h0, if_neg (show ¬ i - n0 < m by omega)])
   have HK5 : Hid (Code8 w5 (some ⟨wr.heap.size, 0, none⟩) k.size (strB k)) := (hK3.below hA4).belowO hb5 hk1.lt
   have hwa : w.heap.size ≤ wa.heap.size := Nat.le_trans HB.out.size hb1.size
   have HB5 : Hid (Below w.heap.size w w5) := ((HBb.out.trans (hb3.mono hwa)).trans (hA4.mono (Nat.le_trans hwa hs3))).trans (hb5.mono hwa)
   clear hK3 hA4 hs3 hX4 hr5 hb5 hr3 hb3 hB3 hKb hIb hk1 hk2 hb1 hb2 hwa HBb HFL
   have HAP1 : Hid _ := hap1
   have HAP2 : Hid _ := hap2
   clear hap1 hap2
   go_wp2_with (first
    | (at_builtin; refine Lib.wpList_append_run _ rfl (.tmp 19) (.tmp 20) _ _ rfl _ _ rfl rfl _ _ HAP1.out ?_)
    | (at_builtin; refine Lib.wpList_append_run _ rfl (.tmp 21) (.tmp 24) _ _ rfl _ _ rfl rfl _ _ HAP2.out ?_))
   refine (MQ.out _ _ _ _ _ HK5.out HM5.out).mono ?_
   rintro e w6 ⟨rfl, hb6⟩
   have HB6 : Hid (Below w.heap.size w w6) := HB5.out.trans (hb6.mono HB5.out.size)
   clear hb6 HB5 HK5 HM5 MQ HAP1 HAP2 hcv1 hcv2
   go_wp2
   go_roundw
   case rel => exact ⟨q + 1, by omega, by go_num, by rw [HAP.out], by rw [HLN.out], HB6.out⟩
   case measure => simp [intOf]; omega
  ·have hlt' : ¬ ((32 * q : Nat) : Int) < (n : Int) := by omega
   have hex : (kstr (Sha.drawnF K m g) 0 (32 * q)).extract 0 n = kstr (Sha.drawnF K m g) 0 n := by
    have := kstr_extract (kstr (Sha.drawnF K m g) 0 (32 * q)) 0 n (by rw [kstr_size]; omega)
    rw [Nat.zero_add] at this
    rw [this]
    exact kstr_congr (fun i hi => by rw [Nat.zero_add, strB_kstr _ 0 (32 * q) i (by rw [Nat.zero_add]; exact Sha.drawnF_lt _ _ _ _) (by omega), Nat.zero_add])
   have x1 : (n : Int) ≤ ((32 * q : Nat) : Int) := by omega
   generalize hOS : kstr (Sha.drawnF K m g) 0 (32 * q) = OS at *
   generalize hON : kstr (Sha.drawnF K m g) 0 n = ON at hex
   have HON : Hid (kstr (Sha.drawnF K m g) 0 n = ON) := hON
   clear hOS hON MC HC
   go_wp2
   go_ret
   exact ⟨by rw [HON.out]; rfl, HB.out⟩
end Go.Proofs.YtiamaoihachhgaaGreatDoor
namespace Go.Proofs.YtiamaoihachhgaaGreatDoor
open Go.ChangeShapes Go.WideShapes Go.ChangeAt Go.RowKit
def sealF (i : Nat) : Nat := if i = 0 then 115 else if i = 1 then 101 else if i = 2 then 97 else 108
theorem sealF_lt (i : Nat) : sealF i < 256 := by unfold sealF; split; omega; split; omega; split <;> omega
def keysF (i : Nat) : Nat := if i = 0 then 107 else if i = 1 then 101 else if i = 2 then 121 else 115
theorem keysF_lt (i : Nat) : keysF i < 256 := by unfold keysF; split; omega; split; omega; split <;> omega
theorem conv_rowS (w : World) (C : Array Value) (n c : Nat) : (convert 41 41 (.slice (some ⟨w.heap.size, 0, none⟩) n c)).run Tryz.prog (w.alloc (.cells C 5)) = .ok (.slice (some ⟨w.heap.size, 0, none⟩) n c) (w.alloc (.cells C 5 (C.size, C.size + 1))) := by
 have hsh : (w.alloc (.cells C 5)).shape? w.heap.size = some (5, C.size) := by
  have : (w.alloc (.cells C 5)).heap[w.heap.size]? = some (.cells C 5) := by
   show (w.heap.push (.cells C 5))[w.heap.size]? = _
   simp
  unfold World.shape?
  rw [this]
 have hfr : (w.alloc (.cells C 5)).freeze ⟨w.heap.size, C.size, none⟩ 1 = w.alloc (.cells C 5 (C.size, C.size + 1)) := by
  have hm : ∀ (a : Array Obj) (x : Obj) (f : Obj → Obj), (a.push x).modify a.size f = a.push (f x) := by
   intro a x f
   apply Array.ext
   ·simp
   ·intro i h1 h2
    simp only [Array.getElem_modify, Array.getElem_push]
    by_cases h : a.size = i
    ·subst h
     simp
    ·have hi : i < a.size := by simp at h1; omega
     simp [h, hi]
  unfold World.freeze
  rw [if_neg (by decide)]
  show ({ w.alloc (.cells C 5) with heap := (w.heap.push (.cells C 5)).modify w.heap.size _ } : World) = _
  rw [hm]
  rfl
 simp [convert, run_underlying Tryz.underlying41, run_underlying Tryz.underlying5, markStringish, hsh]
 exact hfr
theorem seal_code (w : World) : Code8 (w.alloc (.cells #[.int .u8 115, .int .u8 101, .int .u8 97, .int .u8 108] 5 (4, 5))) (some ⟨w.heap.size, 0, none⟩) 4 sealF := code8_of (fun i hi => by
 rw [Nat.zero_add, World.cell?_alloc_mark]
 rcases (show i = 0 ∨ i = 1 ∨ i = 2 ∨ i = 3 by omega) with rfl | rfl | rfl | rfl <;> (simp [sealF]))
theorem keys_code (w : World) : Code8 (w.alloc (.cells #[.int .u8 107, .int .u8 101, .int .u8 121, .int .u8 115] 5 (4, 5))) (some ⟨w.heap.size, 0, none⟩) 4 keysF := code8_of (fun i hi => by
 rw [Nat.zero_add, World.cell?_alloc_mark]
 rcases (show i = 0 ∨ i = 1 ∨ i = 2 ∨ i = 3 by omega) with rfl | rfl | rfl | rfl <;> (simp [keysF]))
def secS (k : ByteArray) : ByteArray := macS 4 sealF 32 (strB k)
def pairF (k : ByteArray) : Nat → Nat := Sha.drawnF (Sha.keyF 32 (strB (secS k))) 4 keysF
theorem pairF_lt (k : ByteArray) (i : Nat) : pairF k i < 256 := Sha.drawnF_lt _ _ _ _
theorem secS_size (k : ByteArray) : (secS k).size = 32 := macS_size _ _ _ _
def encS (k : ByteArray) : ByteArray := kstr (pairF k) 0 32
def tagS (k : ByteArray) : ByteArray := kstr (pairF k) 32 32
theorem encS_size (k : ByteArray) : (encS k).size = 32 := kstr_size _ _ _
theorem tagS_size (k : ByteArray) : (tagS k).size = 32 := kstr_size _ _ _
end Go.Proofs.YtiamaoihachhgaaGreatDoor
