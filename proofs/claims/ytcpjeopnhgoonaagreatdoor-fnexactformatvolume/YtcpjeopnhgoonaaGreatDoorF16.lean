/-
  Texts of the proof, joined.
-/
import Derived.Test.YtcpjeopnhgoonaaGreatDoorF12
import Derived.Deep.CutRange
import Derived.Deep.DeepCutAuto
import Derived.Test.YtcpjeopnhgoonaaGreatDoorF15
namespace Go.Proofs.YtcpjeopnhgoonaaGreatDoor
end Go.Proofs.YtcpjeopnhgoonaaGreatDoor
namespace Go.Proofs.YtcpjeopnhgoonaaGreatDoor
open Go.ChangeShapes Go.WideShapes Go.ChangeAt Go.RowKit
set_option linter.unusedVariables false
theorem one_new8 (w:World) (x:Nat) (t:TypeId):∀ j u,[Value.int .u8 (x:Nat)][j]? = some u→(w.alloc (.cells #[.int .u8 (x:Nat)] t)).cell? ((⟨w.heap.size,0,none⟩:Addr).add j) = some u:=fun j u hj => by
 have hj0:j = 0:=by have:=(List.getElem?_eq_some_iff.1 hj).1; simp at this; omega
 subst hj0
 cases hj
 rw [Addr.add_lit]
 simp
theorem one_one8 (x:Nat):∀ u ∈ [Value.int .u8 (x:Nat)],u.oneCell' = true:=fun u hu => by
 simp at hu
 subst hu
 rfl
theorem bv_extN (k r : Nat) (f : Nat → Nat) : bv k f ++ [.int .u8 (r : Nat)] = bv (k + 1) (fun j => if j = k then r else f j) := by
  have e := bv_snoc k (fun j => if j = k then r else f j)
  rw [if_pos rfl, bv_congr (g := f) (fun i hi => if_neg (by omega))] at e
  exact e
theorem ownsRow_mono {w : World} {base base' : Nat} {e : TypeId} {size : Nat} {v : Value} {n : Nat} {xs : List Value} (h : w.ownsRow base e size v n xs) (hb : base' ≤ base) : w.ownsRow base' e size v n xs := by
  obtain ⟨hl, h0 | ⟨g, cap, cur, hv, h1, h2⟩⟩ := h
  · exact ⟨hl, .inl h0⟩
  · exact ⟨hl, .inr ⟨g, cap, cur, hv, Nat.le_trans hb h1, h2⟩⟩
def numF (k sz x : Nat) (f : Nat → Nat) (j : Nat) : Nat := if j < k then f j else x / 2 ^ (8 * (sz - 1 - (j - k))) % 256
def RetO (B : Nat) (w' : World) (e : Ending) (n : Nat) (f : Nat → Nat) : Prop := ∃ g c, e = .returned (.slice (some ⟨g, 0, none⟩) n c) ∧ w'.ownsRow B 5 1 (.slice (some ⟨g, 0, none⟩) n c) n (bv n f)
theorem mkRoom (c : Nat) (hc : c ≤ 10000000) (w : World) : ∃ w', (Instr.makeSlice 68 (.int .i64 0) (.int .i64 (c : Int))).run Tryz.prog w = .ok (.slice (some ⟨w.heap.size, 0, none⟩) 0 c) w' ∧ w'.ownsRow w.heap.size 5 1 (.slice (some ⟨w.heap.size, 0, none⟩) 0 c) 0 [] ∧ Below w.heap.size w w' := by
  obtain ⟨i0, h1, h2, h3, h4⟩ := info_parts Tryz.info8
  obtain ⟨w', hr, ho, hg⟩ := run_make_own (P := Tryz.prog) w w.heap.size 68 5 i0 (.int .u8 0) 1 Tryz.underlying68 h1 h2 h3 .i64 .i64 c (by rw [h4]; omega) (by unfold maxLen; omega) (Nat.le_refl _)
  exact ⟨w', hr, ho, (Below.refl _ w).grown hg (Nat.le_refl _) (fun k hk => by cases hk)⟩
set_option maxRecDepth 100000 in
set_option maxHeartbeats 1000000 in
theorem appendNumber_any (B g k c x sz : Nat) (f : Nat → Nat) (hsz : sz ≤ 8) (hk : k ≤ 2000000) (w : World) (hB : B ≤ w.heap.size) (h : w.ownsRow B 5 1 (.slice (some ⟨g, 0, none⟩) k c) k (bv k f)) :
    Calls Tryz.prog 62 #[.slice (some ⟨g, 0, none⟩) k c, .int .i64 (x : Int), .int .i64 (sz : Int)] w fun e w' => RetO B w' e (k + sz) (numF k sz x f) ∧ Below B w w' := by
  obtain ⟨i0, hi⟩ := info_parts Tryz.info8
  have HI : Hid (Tryz.prog.info? 5 = some i0 ∧ i0.zero = some (.int .u8 0) ∧ i0.size = 1 ∧ i0.bytes = 1) := hi
  have HO0 : Hid (w.ownsRow B 5 1 (.slice (some ⟨g, 0, none⟩) k c) k (bv k f)) := h
  clear h hi
  go_enter Tryz.func62, Tryz.ntmps62
  go_wp2
  go_loopw [0, 7] (fun s i wr => ∃ r g c : Nat, r ≤ sz ∧ i = .int .i64 ((sz : Int) - 1 - (r : Int)) ∧ s = .slice (some ⟨g, 0, none⟩) (k + r) c ∧ wr.ownsRow B 5 1 (.slice (some ⟨g, 0, none⟩) (k + r) c) (k + r) (bv (k + r) (numF k sz x f)) ∧ Below B w wr) (fun _ i _ => (intOf i + 1).toNat)
  case atStart =>
    refine ⟨0, g, c, by omega, numEq8 (by omega), rfl, ?_, Below.refl _ _⟩
    have e : bv (k + 0) (numF k sz x f) = bv k f := bv_congr (fun i hi => by unfold numF; rw [if_pos (by omega)])
    rw [e]; exact HO0.out
  case round =>
    clear HO0
    obtain ⟨r, g, c, hr, rfl, rfl, hown, hb⟩ := hrel
    have HO : Hid (wr.ownsRow B 5 1 (.slice (some ⟨g, 0, none⟩) (k + r) c) (k + r) (bv (k + r) (numF k sz x f))) := hown
    have HB : Hid (Below B w wr) := hb
    clear hown hb
    by_cases hlt : r < sz
    · have x0 : (0 : Int) ≤ (sz : Int) - 1 - (r : Int) := by omega
      obtain ⟨s, hs⟩ : ∃ s, s = 8 * (sz - 1 - r) := ⟨_, rfl⟩
      have e8 : (8 : Int) * ((sz : Int) - 1 - (r : Int)) = (s : Int) := by omega
      have s0 : (0 : Int) ≤ (s : Int) := by omega
      have s1 : (s : Int) ≤ 64 := by omega
      have eX : (x : Int) / 2 ^ s = ((x / 2 ^ s : Nat) : Int) := by simp
      have HX : Hid (numF k sz x f (k + r) = x / 2 ^ s % 256) := by show numF _ _ _ _ _ = _; unfold numF; rw [if_neg (by omega), show k + r - k = r from by omega, hs]
      generalize x / 2 ^ s = y at *
      have eY : (y : Int) % 256 = ((y % 256 : Nat) : Int) := by omega
      generalize y % 256 = Y at *
      have hsz2 : B ≤ wr.heap.size := Nat.le_trans hB HB.out.size
      clear hs
      go_wp2_with (at_builtin; refine wpList_append_own _ rfl _ _ 68 rfl B 5 i0 (.int .u8 0) 1 1 Tryz.underlying68 HI.out.1 HI.out.2.1 HI.out.2.2.1 HI.out.2.2.2 rfl (by decide) (.slice (some ⟨g, 0, none⟩) (k + r) c) (k + r) _ rfl (HO.out.alloc _) ⟨wr.heap.size, 0, none⟩ 1 1 [.int .u8 (Y : Nat)] rfl rfl (one_new8 _ _ _) (one_one8 _) (by unfold maxLen; omega) (by omega) (by simp; omega) ?_)
      intro v' w2 hown' hgrow hnil
      have BG : Below B wr w2 := ((Below.refl B wr).alloc hsz2 _).grown hgrow (by simp; omega) (fun b hb => (HO.out.lt b hb).1)
      rw [bv_extN, bv_congr (g := numF k sz x f) (fun j hj => by by_cases e : j = k + r
                                                                 · rw [if_pos e, e]; exact HX.out.symm
                                                                 · rw [if_neg e])] at hown'
      obtain ⟨g2, c2, ⟨hg2, hc2⟩, rfl, -⟩ := own8_of_own hown' hnil
      have HO2 : Hid (w2.ownsRow B 5 1 (.slice (some ⟨g2, 0, none⟩) (k + r + 1) c2) (k + r + 1) (bv (k + r + 1) (numF k sz x f))) := hown'
      have HB2 : Hid (Below B w w2) := HB.out.trans BG
      have HK : Hid ((sz : Int) - 1 - (r : Int) - 1 = (sz : Int) - 1 - ((r + 1 : Nat) : Int)) := by show _ = _; omega
      clear hown' hgrow hnil HO HB BG
      go_wp2
      go_roundw
      case rel => exact ⟨r + 1, g2, c2, by omega, numEq8 HK.out, rfl, HO2.out, HB2.out⟩
      case measure => simp [intOf]; omega
    · have x0 : ¬ (0 : Int) ≤ (sz : Int) - 1 - (r : Int) := by omega
      obtain rfl : r = sz := by omega
      go_wp2
      go_ret
      exact ⟨⟨g, c, rfl, HO.out⟩, HB.out⟩
end Go.Proofs.YtcpjeopnhgoonaaGreatDoor
namespace Go.Proofs.YtcpjeopnhgoonaaGreatDoor
open Go.ChangeShapes Go.WideShapes Go.ChangeAt Go.RowKit
namespace Gf
theorem kt_congr {n:Nat} {L L':Nat→Nat} {i r:Nat} (hr:r < 4) (h:∀ r,r < 4→L r = L' r):kt n L i r = kt n L' i r:=by
 unfold kt
 rw [h 1 (by omega),h ((r + 1) % 4) (Nat.mod_lt _ (by omega)),h r hr]
theorem ws_stay {key:Nat→Nat} {n:Nat} (t:Nat):∀ d j,j < (n + t) * 4→ws key n (t + d) j = ws key n t j:=by
 intro d
 induction d with
 | zero => intro j _; rfl
 | succ d ih =>
  intro j hj
  rw [← Nat.add_assoc,ws_old _ _ (Or.inl (by omega)),ih j hj]
theorem ws_key {key:Nat→Nat} {n:Nat} (t j:Nat) (hj:j < n * 4):ws key n t j = key j:=by
 have:=ws_stay (key:=key) (n:=n) 0 t j (by omega)
 rw [Nat.zero_add] at this
 rw [this]
 show (if j < n * 4 then key j else 0) = key j
 rw [if_pos hj]
theorem ws_rec {key:Nat→Nat} {n M:Nat} (hn:1≤n) (I r:Nat) (hI:n≤I) (hM:I < n + M) (hr:r < 4) :
  ws key n M (I * 4 + r) = ws key n M ((I - n) * 4 + r) ^^^ kt n (fun r => ws key n M ((I - 1) * 4 + r)) I r:=by
 obtain ⟨t,rfl⟩:∃ t,I = n + t:=⟨I - n,by omega⟩
 obtain ⟨d,rfl⟩:∃ d,M = t + 1 + d:=⟨M - (t + 1),by omega⟩
 rw [ws_stay (t + 1) d _ (by omega),ws_new t r hr]
 have e1:ws key n (t + 1 + d) ((n + t - n) * 4 + r) = ws key n t (t * 4 + r):=by
  rw [show n + t - n = t from by omega,show t + 1 + d = t + (1 + d) from by omega,ws_stay t (1 + d) _ (by omega)]
 rw [e1]
 congr 1
 refine kt_congr hr (fun r hr => ?_)
 show _ = ws key n (t + 1 + d) ((n + t - 1) * 4 + r)
 rw [show t + 1 + d = t + (1 + d) from by omega,ws_stay t (1 + d) _ (by omega)]
theorem mul_two:∀ x,x < 256→mul x 2 = dbl x:=by decide +kernel
end Gf
end Go.Proofs.YtcpjeopnhgoonaaGreatDoor
namespace Go.Proofs.YtcpjeopnhgoonaaGreatDoor
open Go.ChangeShapes Go.WideShapes Go.ChangeAt Go.RowKit
set_option linter.unusedVariables false
theorem bv_text (s:ByteArray) (n:Nat) (h:s.size = n):bv n (strB s) = s.data.toList.map (fun b => .int .u8 b.toNat):=by
 apply List.ext_getElem
 ·rw [bv_length]; simp [h]
 ·intro i h1 h2
  have hi:i < n:=by rwa [bv_length] at h1
  have hi':i < s.size:=by omega
  have e:=bv_at (n:=n) (f:=strB s) hi
  rw [List.getElem?_eq_getElem h1] at e
  rw [Option.some.inj e,List.getElem_map,← ba_get s i hi']
  simp [strB,hi']
theorem run_copy_le {P:Program} (w:World) (dT sT ty elem:TypeId) (b o dLen dCap:Nat) (s:ByteArray) (cs:List Value)
  (hu:P.underlying dT = some (.slice elem)) (hs:(P.info? elem).map (·.size) = some 1) (hn:s.size≤dLen) (hcs:cs = s.data.toList.map (fun b => .int .u8 b.toNat))
  (hc:∀ j,j < cs.length→(w.cell? ⟨b,o + j,none⟩).isSome = true) (hf:∀ j,j < cs.length→w.frozen? ⟨b,o + j,none⟩ = false) :
  (Builtin.copy_ #[dT,sT] ty #[.slice (some ⟨b,o,none⟩) dLen dCap,.string s]).run P w = .ok (goInt cs.length) (w.setCells b o cs):=by
 have h1:∀ v ∈ cs,v.oneCell' = true:=fun v hv => by
  rw [hcs] at hv
  obtain ⟨x,_,rfl⟩:=List.mem_map.1 hv
  rfl
 have hst:=run_storeCells_cells (P:=P) b o cs 0 w (by simpa using hc) (by simpa using hf) h1
 cases hq:P.info? elem with
 | none => simp [hq] at hs
 | some i =>
  have hl:s.data.toList.length = s.size:=by simp
  have hcl:cs.length = s.size:=by rw [hcs,List.length_map,hl]
  have hm:min s.size dLen = s.size:=Nat.min_eq_left hn
  simp [Builtin.copy_,run_underlying hu,Builtin.lenOf,Builtin.firstCells,sizeOf,typeInfo,hq,hm]
  rw [← hcs,List.take_of_length_le (by omega),hst,hcl]
  rfl
set_option maxRecDepth 100000 in
set_option maxHeartbeats 1000000 in
theorem stateOf_le (s:ByteArray) (hs:s.size≤16) (w:World) :
  Calls Tryz.prog 224 #[.string s] w fun e w' => e = .returned (.agg (bA 16 (strB s)))∧Below w.heap.size w w':=by
 have Z2:Hid (Row8 ((w.alloc (.cells z16 257)).alloc (.cells z16 257)) (w.heap.size + 1) 257 16 (fun _ => 0)):=Row8.z16At (by simp) _
 have Z1:Hid (Row8 ((w.alloc (.cells z16 257)).alloc (.cells z16 257)) w.heap.size 257 16 (fun _ => 0)):=(Row8.z16At rfl _).alloc _
 have B3:Hid (Below w.heap.size w ((w.alloc (.cells z16 257)).alloc (.cells z16 257))):=((Below.refl _ _).alloc (Nat.le_refl _) _).alloc (by simp) _
 have sz:(Tryz.prog.info? 5).map (·.size) = some 1:=by kernel_rfl
 have SZ:Hid ((Tryz.prog.info? 5).map (·.size) = some 1):=sz
 clear sz
 unfold z16 at Z2 Z1 B3
 go_enter Tryz.func224,Tryz.ntmps224
 go_upto_region 2 with fail
 generalize (w.alloc (.cells #[.int .u8 0,.int .u8 0,.int .u8 0,.int .u8 0,.int .u8 0,.int .u8 0,.int .u8 0,.int .u8 0,.int .u8 0,.int .u8 0,.int .u8 0,.int .u8 0,.int .u8 0,.int .u8 0,.int .u8 0,.int .u8 0] 257)).alloc (.cells #[.int .u8 0,.int .u8 0,.int .u8 0,.int .u8 0,.int .u8 0,.int .u8 0,.int .u8 0,.int .u8 0,.int .u8 0,.int .u8 0,.int .u8 0,.int .u8 0,.int .u8 0,.int .u8 0,.int .u8 0,.int .u8 0] 257) = wz at *
 have CP:∀ ty c,(Builtin.copy_ #[68,9] ty #[.slice (some ⟨w.heap.size + 1,0,none⟩) 16 c,.string s]).run Tryz.prog wz = .ok (goInt s.size) (wz.setCells (w.heap.size + 1) 0 (bv s.size (strB s))):=fun ty c => by
  have h:=run_copy_le (P:=Tryz.prog) wz 68 9 ty 5 (w.heap.size + 1) 0 16 c s (bv s.size (strB s)) Tryz.underlying68 SZ.out hs (bv_text s s.size rfl) (fun j hj => by rw [bv_length] at hj; exact (Z2.out.there j (by omega)).1) (fun j hj => by rw [bv_length] at hj; exact (Z2.out.there j (by omega)).2)
  rw [bv_length] at h
  exact h
 have R2:Hid (Row8 (wz.setCells (w.heap.size + 1) 0 (bv s.size (strB s))) (w.heap.size + 1) 257 16 (strB s)):=(rowIs_setCells (bv s.size (strB s)) 0 wz _ Z2.out).congr (fun i hi => by
  rw [bv_length]
  by_cases h:i < s.size
  ·rw [if_pos (by omega),Nat.sub_zero,List.getD_eq_getElem?_getD,bv_at h]; rfl
  ·rw [if_neg (by omega)]
   simp [strB,h])
 have R1:Hid (Row8 (wz.setCells (w.heap.size + 1) 0 (bv s.size (strB s))) w.heap.size 257 16 (fun _ => 0)):=Z1.out.storedOther (by omega) _ _
 have B4:Hid (Below w.heap.size w (wz.setCells (w.heap.size + 1) 0 (bv s.size (strB s)))):=below_setCells (by omega) _ _ _ B3.out
 generalize wz.setCells (w.heap.size + 1) 0 (bv s.size (strB s)) = wy at *
 clear Z1 Z2 B3
 go_upto_region 3 with fail
 clear CP
 generalize hG:strB s = G at *
 have HG:Hid (strB s = G):=hG
 clear hG
 refine wp_region_lit ?_
 refine wpList_load_mid rfl 257 (.tmp 3) rfl (w.heap.size + 1) 0 rfl (bv 16 G) _ R2.out.range Tryz.underlying257 rfl (by rw [bv_length]; exact Tryz.sizeSt) ?_
 refine wpList_store_mid rfl 257 (.tmp 2) (.tmp 7) rfl w.heap.size 0 (bA 16 G) rfl rfl (by rw [bA_size]; exact R1.out.there) (by rw [bA_size]; exact Tryz.sizeSt) (bA_one _ _) ?_
 rw [bA_toList]
 have L:Hid ((loadVar 257 ⟨w.heap.size,0,none⟩).run Tryz.prog (wy.setCells (w.heap.size) 0 (bv 16 G)) = .ok (.agg (bA 16 G)) (wy.setCells (w.heap.size) 0 (bv 16 G))):=(R1.out.stored _).load Tryz.underlying257 rfl Tryz.sizeSt
 have B:Hid (Below w.heap.size w (wy.setCells (w.heap.size) 0 (bv 16 G))):=below_setCells (Nat.le_refl _) _ _ _ B4.out
 have eA:(bv 16 G).toArray = bA 16 G:=rfl
 rw [eA]
 generalize wy.setCells (w.heap.size) 0 (bv 16 G) = wf at *
 generalize hA:bA 16 G = AA at *
 have HA:Hid (bA 16 G = AA):=hA
 clear hA eA
 go_wp2
 rw [HG.out,HA.out]
 exact bodyPost_ret (v:=.agg AA) (results_cell_one (b:=w.heap.size) (o:=0) Tryz.results224 _ _ _ rfl L.out) rfl ⟨rfl,B.out⟩
theorem keyOK_yes (s:ByteArray) (h:s.size = 16∨s.size = 32) (w:World):Calls Tryz.prog 216 #[.string s] w fun e w' => e = .returned (.bool true)∧w' = w:=by
 rcases h with h | h
 ·go_enter Tryz.func216,Tryz.ntmps216
  go_wp2
  go_ret
  exact ⟨rfl,rfl⟩
 ·go_enter Tryz.func216,Tryz.ntmps216
  go_wp2
  go_ret
  exact ⟨rfl,rfl⟩
end Go.Proofs.YtcpjeopnhgoonaaGreatDoor
namespace Go.Proofs.YtcpjeopnhgoonaaGreatDoor.Gf
end Go.Proofs.YtcpjeopnhgoonaaGreatDoor.Gf
namespace Go.Proofs.YtcpjeopnhgoonaaGreatDoor.Gf
end Go.Proofs.YtcpjeopnhgoonaaGreatDoor.Gf
namespace Go.Proofs.YtcpjeopnhgoonaaGreatDoor
open Go.ChangeShapes Go.WideShapes Go.ChangeAt Go.RowKit
namespace Gf
end Gf
namespace Gf
end Gf
end Go.Proofs.YtcpjeopnhgoonaaGreatDoor
namespace Go.Proofs.YtcpjeopnhgoonaaGreatDoor
namespace Gf
end Gf
end Go.Proofs.YtcpjeopnhgoonaaGreatDoor
namespace Go.Proofs.YtcpjeopnhgoonaaGreatDoor
namespace Gf
def Same (f g:Nat→Nat):Prop:=∀ j,j < 16→f j = g j
theorem same_addK {f g:Nat→Nat} (h:Same f g) (k:Nat→Nat):Same (addK f k) (addK g k):=fun j hj => by unfold addK; rw [h j hj]
theorem same_mixS {f g:Nat→Nat} (h:Same f g):Same (mixS f) (mixS g):=fun j hj => by
 have m:=Nat.mod_lt (j % 4 + 1) (show 0 < 4 by omega)
 unfold mixS mixAt
 rw [h (j / 4 * 4) (by omega),h (j / 4 * 4 + 1) (by omega),h (j / 4 * 4 + 2) (by omega),h (j / 4 * 4 + 3) (by omega),h (j / 4 * 4 + j % 4) (by omega),h (j / 4 * 4 + (j % 4 + 1) % 4) (by omega)]
end Gf
theorem kstr_same {f g:Nat→Nat} (h:Gf.Same f g):kstr f 0 16 = kstr g 0 16:=kstr_congr (fun i hi => by rw [Nat.zero_add]; exact h i hi)
end Go.Proofs.YtcpjeopnhgoonaaGreatDoor
namespace Go.Proofs.YtcpjeopnhgoonaaGreatDoor
namespace Gf
theorem same_subTurn {f g:Nat→Nat} (h:Same f g):Same (subTurn f) (subTurn g):=fun j _ => by unfold subTurn; rw [h _ (ord_lt j)]
theorem same_encTo {K f g:Nat→Nat} (h:Same f g):∀ i,Same (encTo K f i) (encTo K g i)
 | 0 => same_addK h _
 | i + 1 => same_addK (same_mixS (same_subTurn (same_encTo h i))) _
theorem same_enc {K f g:Nat→Nat} {R:Nat} (h:Same f g):Same (enc K R f) (enc K R g):=same_addK (same_subTurn (same_encTo h _)) _
end Gf
def ctrBlk (N:Nat→Nat) (k j:Nat):Nat:=if j < 12 then N j else k / 256 ^ (15 - j) % 256
theorem ctrBlk_lt {N:Nat→Nat} (hN:∀ j,N j < 256) (k j:Nat):ctrBlk N k j < 256:=by
 unfold ctrBlk
 split
 ·exact hN j
 ·exact Nat.mod_lt _ (by omega)
def ctrK (K:Nat→Nat) (R:Nat) (N:Nat→Nat) (x:Nat):Nat:=Gf.enc K R (ctrBlk N (x / 16 + 1)) (x % 16)
def ctrF (K:Nat→Nat) (R:Nat) (N f:Nat→Nat) (x:Nat):Nat:=f x ^^^ ctrK K R N x
theorem ctrK_lt {K N:Nat→Nat} {R:Nat} (hK:∀ j,K j < 256) (hN:∀ j,N j < 256) (x:Nat):ctrK K R N x < 256:=Gf.enc_lt hK (fun j _ => ctrBlk_lt hN _ j) _
theorem ctrF_lt {K N f:Nat→Nat} {R:Nat} (hK:∀ j,K j < 256) (hN:∀ j,N j < 256) (hf:∀ j,f j < 256) (x:Nat):ctrF K R N f x < 256:=Gf.xor_lt (hf x) (ctrK_lt hK hN x)
end Go.Proofs.YtcpjeopnhgoonaaGreatDoor
namespace Go.Proofs.YtcpjeopnhgoonaaGreatDoor
open Go.ChangeShapes Go.WideShapes Go.ChangeAt Go.RowKit
set_option linter.unusedVariables false
theorem mf_ok (k s:ByteArray) (size count most:Int) (h3:count≤most) (hk:k.size = 16∨k.size = 32) (hs:(s.size:Int) = size) (hs':size≤65536) (w:World) :
  Calls Tryz.prog 204 #[.string k,.string s,.int .i64 size,.int .i64 count,.int .i64 most] w fun e w' => e = .returned (.int .i64 0)∧w = w':=by
 have e1:¬ (65536:Int) < k.size:=by omega
 have e2:¬ (65536:Int) < s.size:=by omega
 have e3:¬ most < count:=by omega
 have e4:((s.size:Int) != size) = false:=by rw [bne_eq_false_iff_eq]; omega
 have KO:Hid (∀ w:World,Calls Tryz.prog 216 #[.string k] w fun e w' => e = .returned (.bool true)∧w = w'):=fun w => (keyOK_yes k hk w).mono fun e w' h => ⟨h.1,h.2.symm⟩
 clear hk hs
 go_enter Tryz.func204,Tryz.ntmps204
 go_wp2_with (go_at_call 216; refine (KO.out _).mono ?_; rintro e w' ⟨rfl,rfl⟩)
 go_ret
 exact ⟨rfl,rfl⟩
theorem OnlyB.drew8 {b:Nat} {w w':World} (h:OnlyB b w w'):OnlyB b w w'.drew:=⟨h.os,h.tape,h.output,h.size,h.block⟩
set_option maxRecDepth 100000 in
set_option maxHeartbeats 2000000 in
theorem counterBlock_any (s:ByteArray) (hs:s.size = 12) (k:Nat) (hk:k < 4294967296) (w:World) :
  Calls Tryz.prog 209 #[.string s,.int .u32 (k:Int)] w fun e w' => e = .returned (.agg (bA 16 (ctrBlk (strB s) k)))∧Below w.heap.size w w':=by
 have SO:Hid (∀ w:World,Calls Tryz.prog 224 #[.string s] w fun e w' => e = .returned (.agg (bA 16 (strB s)))∧Below w.heap.size w w'):=stateOf_le s (by omega)
 have Z1:Hid (Row8 (w.alloc (.cells z16 257)) w.heap.size 257 16 (fun _ => 0)):=Row8.z16At rfl _
 have B1:Hid (Below w.heap.size w (w.alloc (.cells z16 257))):=(Below.refl _ _).alloc (Nat.le_refl _) _
 have hz1:(w.alloc (.cells z16 257)).heap.size = w.heap.size + 1:=by simp
 unfold z16 at Z1 B1 hz1
 clear hs
 obtain ⟨N,hN⟩:∃ N,N = strB s:=⟨_,rfl⟩
 rw [← hN] at SO ⊢
 clear hN
 have SA:Hid ((Tryz.prog.info? 257).map (·.size) = some (bA 16 N).size):=by rw [bA_size]; exact Tryz.sizeSt
 have OA:Hid ((bA 16 N).all (·.oneCell') = true):=bA_one _ _
 have TL:Hid ((bA 16 N).toList = bv 16 N):=bA_toList _ _
 have BS:Hid ((bA 16 N).size = 16):=bA_size _ _
 generalize bA 16 N = NA at *
 go_enter Tryz.func209,Tryz.ntmps209
 go_wp2_with fail
 generalize w.alloc (.cells #[.int .u8 0,.int .u8 0,.int .u8 0,.int .u8 0,.int .u8 0,.int .u8 0,.int .u8 0,.int .u8 0,.int .u8 0,.int .u8 0,.int .u8 0,.int .u8 0,.int .u8 0,.int .u8 0,.int .u8 0,.int .u8 0] 257) = wa at *
 refine (SO.out _).mono ?_
 rintro e w1 ⟨rfl,hb⟩
 have Z2:Hid (Row8 w1 w.heap.size 257 16 (fun _ => 0)):=Z1.out.below hb
 have B2:Hid (Below w.heap.size w w1):=B1.out.trans (hb.mono B1.out.size)
 have hsz:=hb.size
 rw [hz1] at hsz
 have Z3:Hid (Row8 (w1.alloc (.cells z16 257)) w1.heap.size 257 16 (fun _ => 0)):=Row8.z16At rfl _
 have Z4:Hid (Row8 (w1.alloc (.cells z16 257)) w.heap.size 257 16 (fun _ => 0)):=Z2.out.alloc _
 have B3:Hid (Below w.heap.size w (w1.alloc (.cells z16 257))):=B2.out.alloc (by omega) _
 clear hb Z1 B1 Z2 B2 hz1 SO
 unfold z16 at Z3 Z4 B3
 go_upto_region 2 with (refine wpList_store_mid rfl 257 (.tmp 5) (.tmp 8) rfl w1.heap.size 0 NA rfl rfl (by rw [BS.out]; exact Z3.out.there) SA.out OA.out ?_)
 rw [TL.out]
 generalize w1.alloc (.cells #[.int .u8 0,.int .u8 0,.int .u8 0,.int .u8 0,.int .u8 0,.int .u8 0,.int .u8 0,.int .u8 0,.int .u8 0,.int .u8 0,.int .u8 0,.int .u8 0,.int .u8 0,.int .u8 0,.int .u8 0,.int .u8 0] 257) = wb at *
 have R5:Hid (Row8 (wb.setCells w1.heap.size 0 (bv 16 N)) w1.heap.size 257 16 N):=Z3.out.stored _
 have R4:Hid (Row8 (wb.setCells w1.heap.size 0 (bv 16 N)) w.heap.size 257 16 (fun _ => 0)):=Z4.out.storedOther (by omega) _ _
 have B4:Hid (Below w.heap.size w (wb.setCells w1.heap.size 0 (bv 16 N))):=below_setCells (by omega) _ _ _ B3.out
 clear Z3 Z4 B3 SA OA TL BS
 generalize wb.setCells w1.heap.size 0 (bv 16 N) = wc at *
 generalize w1.heap.size = sb at *
 go_wp2_with fail
 go_loopw [1,6] (fun x i wr => ∃ j:Nat,j≤4∧i = .int .i64 (15 - (j:Int))∧x = .int .u32 ((k / 256 ^ j:Nat):Int)∧Row8 wr sb 257 16 (fun y => if 15 < y + j then ctrBlk N k y else N y)∧Row8 wr w.heap.size 257 16 (fun _ => 0)∧Below w.heap.size w wr) (fun _ i _ => (intOf i).toNat)
 case atStart => exact ⟨0,by omega,rfl,numEq8 (by simp),R5.out.congr (fun y hy => by rw [if_neg (by omega)]),R4.out,B4.out⟩
 case round =>
  clear R5 R4 B4
  obtain ⟨j,hj,rfl,rfl,hr,hz,hb⟩:=hrel
  have HZ:Hid (Row8 wr w.heap.size 257 16 (fun _ => 0)):=hz
  have HB:Hid (Below w.heap.size w wr):=hb
  by_cases hlt:j < 4
  ·have HR:Hid (Row8 wr sb 257 16 (fun y => if 15 < y + j then ctrBlk N k y else N y)):=hr
   obtain ⟨p,hp⟩:∃ p,p = 15 - j:=⟨_,rfl⟩
   have hp12:12≤p:=by omega
   have hp16:p < 16:=by omega
   have ep:(15 - (j:Int)) = (p:Int):=by omega
   have c1:=World.rowIs.cell hr (i:=p) hp16
   have f1:=World.rowIs.frozen hr p
   have hq:k / 256 ^ j < 4294967296:=Nat.lt_of_le_of_lt (Nat.div_le_self _ _) hk
   have eb:((k / 256 ^ j:Nat):Int) % 256 = ((ctrBlk N k p:Nat):Int):=by
    unfold ctrBlk
    rw [if_neg (by omega),show 15 - p = j from by omega]
    omega
   have es:((k / 256 ^ j:Nat):Int) / 256 = ((k / 256 ^ (j + 1):Nat):Int):=by
    rw [Nat.pow_succ,← Nat.div_div_eq_div_mul]
    omega
   have HV:Hid (∀ v,v = ctrBlk N k p→∀ y,y < 16→(if y = p then v else if 15 < y + j then ctrBlk N k y else N y) = if 15 < y + (j + 1) then ctrBlk N k y else N y):=fun v hv y hy => by
    by_cases e:y = p
    ·subst e
     rw [if_pos rfl,if_pos (by omega),hv]
    ·rw [if_neg e]
     by_cases e2:15 < y + j
     ·rw [if_pos e2,if_pos (by omega)]
     ·rw [if_neg e2,if_neg (by omega)]
   have HE:Hid ((p:Int) - 1 = 15 - ((j + 1:Nat):Int)):=by show (p:Int) - 1 = _; omega
   obtain ⟨V,hV⟩:∃ V,V = ctrBlk N k p:=⟨_,rfl⟩
   have HVe:Hid (V = ctrBlk N k p):=hV
   rw [← hV] at eb
   rw [ep]
   generalize hk2:k / 256 ^ (j + 1) = k2 at *
   have HK2:Hid (k / 256 ^ (j + 1) = k2):=hk2
   generalize k / 256 ^ j = k1 at *
   have x12:(12:Int)≤(p:Int):=by omega
   have x16:(p:Int) < 16:=by omega
   have hsbne:w.heap.size≠sb:=by omega
   clear hV hr hz hb ep hp hk2
   go_wp2
   go_roundw
   case rel =>
    refine ⟨j + 1,by omega,numEq8 HE.out,by rw [HK2.out],?_,?_,?_⟩
    ·exact (HR.out.set p V).congr (HV.out V HVe.out)
    ·exact HZ.out.other hsbne _
    ·exact HB.out.setCell (by show w.heap.size≤sb; omega) _
   case measure => simp [intOf]; omega
  ·have HR2:Hid (Row8 wr sb 257 16 (ctrBlk N k)):=hr.congr (fun y hy => by
    by_cases e:15 < y + j
    ·rw [if_pos e]
    ·rw [if_neg e]
     unfold ctrBlk
     rw [if_pos (by omega)])
   have ej:j = 4:=by omega
   clear hr hz hb
   subst ej
   generalize hG:ctrBlk N k = G at *
   have HG:Hid (ctrBlk N k = G):=hG
   clear hG
   go_upto_region 7 with fail
   refine wp_region_lit ?_
   refine wpList_load_mid rfl 257 (.tmp 5) rfl sb 0 rfl (bv 16 G) _ HR2.out.range Tryz.underlying257 rfl (by rw [bv_length]; exact Tryz.sizeSt) ?_
   refine wpList_store_mid rfl 257 (.tmp 4) (.tmp 19) rfl w.heap.size 0 (bA 16 G) rfl rfl (by rw [bA_size]; exact HZ.out.there) (by rw [bA_size]; exact Tryz.sizeSt) (bA_one _ _) ?_
   rw [bA_toList]
   have L:Hid ((loadVar 257 ⟨w.heap.size,0,none⟩).run Tryz.prog (wr.setCells (w.heap.size) 0 (bv 16 G)) = .ok (.agg (bA 16 G)) (wr.setCells (w.heap.size) 0 (bv 16 G))):=(HZ.out.stored _).load Tryz.underlying257 rfl Tryz.sizeSt
   have B:Hid (Below w.heap.size w (wr.setCells (w.heap.size) 0 (bv 16 G))):=below_setCells (Nat.le_refl _) _ _ _ HB.out
   have eA:(bv 16 G).toArray = bA 16 G:=rfl
   rw [eA]
   generalize wr.setCells (w.heap.size) 0 (bv 16 G) = wf at *
   generalize hA:bA 16 G = AA at *
   have HA:Hid (bA 16 G = AA):=hA
   clear hA eA
   go_wp2
   rw [HG.out,HA.out]
   exact bodyPost_ret (v:=.agg AA) (results_cell_one (b:=w.heap.size) (o:=0) Tryz.results209 _ _ _ rfl L.out) rfl ⟨rfl,B.out⟩
theorem CiphAt.onlyB8 {w w':World} {C m b:Nat} {K:Nat→Nat} (h:CiphAt w C m K) (ho:OnlyB b w w') (hne:C≠b):CiphAt w' C m K:=fun k hk => by
 rw [World.cell?_of_block (w:=w) (ho.block C h.lt hne)]; exact h k hk
def OwnC (m:Nat) (w:World) (b n:Nat) (f:Nat→Nat):Prop:=m≤maxLen∧n≤m∧∃ g:Nat→Value,w.rowIs b 5 m g∧∀ i,i < n→g i = .int .u8 (f i:Nat)
theorem OwnC.own {m:Nat} {w:World} {b n:Nat} {f:Nat→Nat} (h:OwnC m w b n f):Own8 w b n f:=by
 obtain ⟨_,hm,g,hr,hg⟩:=h
 exact ⟨m,g,hm,hr,hg⟩
theorem OwnC.cell {m:Nat} {w:World} {b n:Nat} {f:Nat→Nat} (h:OwnC m w b n f) {i:Nat} (hi:i < n):w.cell? ⟨b,i,none⟩ = some (.int .u8 (f i:Nat)):=h.own.cell hi
theorem OwnC.frozen {m:Nat} {w:World} {b n:Nat} {f:Nat→Nat} (h:OwnC m w b n f) (i:Nat):w.frozen? ⟨b,i,none⟩ = false:=h.own.frozen i
theorem OwnC.lt {m:Nat} {w:World} {b n:Nat} {f:Nat→Nat} (h:OwnC m w b n f):b < w.heap.size:=h.own.lt
theorem OwnC.code {m:Nat} {w:World} {b n:Nat} {f:Nat→Nat} (h:OwnC m w b n f):Code8 w (some ⟨b,0,none⟩) n f:=h.own.code
theorem OwnC.congr {m:Nat} {w:World} {b n:Nat} {f f':Nat→Nat} (h:OwnC m w b n f) (e:∀ i,i < n→f i = f' i):OwnC m w b n f':=by
 obtain ⟨h0,hm,g,hr,hg⟩:=h
 exact ⟨h0,hm,g,hr,fun i hi => by rw [hg i hi,e i hi]⟩
theorem OwnC.set {m:Nat} {w:World} {b n:Nat} {f:Nat→Nat} (h:OwnC m w b n f) (i v:Nat):OwnC m (w.setCell ⟨b,i,none⟩ (.int .u8 (v:Nat))) b n (fun j => if j = i then v else f j):=by
 obtain ⟨h0,hm,g,hr,hg⟩:=h
 refine ⟨h0,hm,_,hr.set i _,fun j hj => ?_⟩
 by_cases e:j = i
 ·simp [e]
 ·simp [e,hg j hj]
theorem OwnC.of_block {m:Nat} {w w':World} {b n:Nat} {f:Nat→Nat} (h:OwnC m w b n f) (e:w'.heap[b]? = w.heap[b]?):OwnC m w' b n f:=by
 obtain ⟨h0,hm,g,hr,hg⟩:=h
 exact ⟨h0,hm,g,hr.of_block e,hg⟩
theorem OwnC.alloc {m:Nat} {w:World} {b n:Nat} {f:Nat→Nat} (h:OwnC m w b n f) (o:Obj):OwnC m (w.alloc o) b n f:=by
 obtain ⟨h0,hm,g,hr,hg⟩:=h
 exact ⟨h0,hm,g,hr.alloc o,hg⟩
theorem OwnC.below {m:Nat} {w w':World} {b n:Nat} {f:Nat→Nat} (h:OwnC m w b n f) (hb:Below w.heap.size w w'):OwnC m w' b n f:=h.of_block (hb.block b h.lt)
theorem ownC_of_own {w:World} {base:Nat} {v:Value} {n:Nat} {f:Nat→Nat} (h:w.ownsRow base 5 1 v n (bv n f)) (hv:v≠.slice none 0 0) :
  ∃ b cap,(base≤b∧n≤cap)∧v = .slice (some ⟨b,0,none⟩) n cap∧OwnC cap w b n f:=by
 obtain ⟨hl,⟨rfl,rfl⟩ | ⟨g,cap,cur,rfl,hb,hh,hn',hm,hs,ht⟩⟩:=h
 ·exact absurd rfl hv
 ·refine ⟨g,cap,⟨hb,hn'⟩,rfl,hm,hn',fun i => cur.getD i undef,⟨cur,hh,by omega,fun i hi => ?_⟩,fun i hi => ?_⟩
  ·have:i < cur.size:=by omega
   simp [Array.getD,this]
  ·have h1:(cur.toList.take (n * 1))[i]? = some (.int .u8 (f i:Nat)):=by rw [ht]; exact bv_at hi
   rw [List.getElem?_take,if_pos (by omega),Array.getElem?_toList] at h1
   simp [Array.getD_eq_getD_getElem?,h1]
theorem own_of_ownC {w:World} {b n m base:Nat} {f:Nat→Nat} (h:OwnC m w b n f) (hb:base≤b):w.ownsRow base 5 1 (.slice (some ⟨b,0,none⟩) n m) n (bv n f):=by
 obtain ⟨h0,hm,g,⟨cur,hh,hs,hc⟩,hg⟩:=h
 refine ⟨by rw [bv_length,Nat.mul_one],.inr ⟨b,m,cur,rfl,hb,hh,hm,h0,by omega,?_⟩⟩
 apply List.ext_getElem?
 intro i
 rw [Nat.mul_one,List.getElem?_take]
 by_cases hi:i < n
 ·rw [if_pos hi,bv_at hi,Array.getElem?_toList,hc i (by omega),hg i hi]
 ·rw [if_neg hi,List.getElem?_eq_none (by rw [bv_length]; omega)]
def RetC (w w':World) (e:Ending) (n:Nat) (f:Nat→Nat):Prop:=∃ b c,(w.heap.size≤b∧n≤c)∧e = .returned (.slice (some ⟨b,0,none⟩) n c)∧OwnC c w' b n f
def RetC2 (w w':World) (e:Ending) (n:Nat) (f:Nat→Nat) (t:Value):Prop:=∃ b c,(w.heap.size≤b∧n≤c)∧e = .returned (.tuple #[.slice (some ⟨b,0,none⟩) n c,t])∧OwnC c w' b n f
set_option maxRecDepth 100000 in
set_option maxHeartbeats 1000000 in
theorem cloneC_any (b o n c:Nat) (f:Nat→Nat) (hn:n≤100000) (w:World) (h:Code8 w (some ⟨b,o,none⟩) n f) :
  Calls Tryz.prog 206 #[.slice (some ⟨b,o,none⟩) n c] w fun e w' => RetC w w' e n f∧Below w.heap.size w w':=by
 obtain ⟨i0,hi⟩:=info_parts Tryz.info8
 have HI:Hid (Tryz.prog.info? 5 = some i0∧i0.zero = some (.int .u8 0)∧i0.size = 1∧i0.bytes = 1):=hi
 have HC:Hid (Code8 w (some ⟨b,o,none⟩) n f):=h
 have q:∀ (w:World) (a:Option Addr) (n c n' c':Nat),(binOp .eql 68 (.slice a n c) (.slice none n' c')).run Tryz.prog w = .ok (.bool a.isNone) w:=fun w a n c n' c' => Lib.run_eql_slice_nil w _ _ a n c n' c' Tryz.underlying68
 clear h hi
 go_enter Tryz.func206,Tryz.ntmps206
 go_wp2_with (at_builtin; refine wpList_append_own _ rfl _ _ 68 rfl w.heap.size 5 i0 (.int .u8 0) 1 1 Tryz.underlying68 HI.out.1 HI.out.2.1 HI.out.2.2.1 HI.out.2.2.2 rfl (by decide) _ _ _ rfl (World.ownsRow_made w #[] 0 (Nat.le_refl _) (Nat.zero_le _) (by simp)) ⟨b,o,none⟩ n c (bv n f) rfl (by rw [bv_length,Nat.mul_one]) ?qc2 (bv_one n f) (by unfold maxLen; omega) (by omega) (by simp) ?_)
 case qc2 =>
  intro j u hj
  exact Lib.cell?_alloc_some _ (bv_news HC.out j u hj)
 intro v' w1 hown hgrow hnil
 have hown':w1.ownsRow w.heap.size 5 1 v' n (bv n f):=by simpa using hown
 obtain ⟨b',c',hb',rfl,ho⟩:=ownC_of_own hown' hnil
 have HB:Hid (Below w.heap.size w w1):=((Below.refl _ w).alloc (Nat.le_refl _) _).grown hgrow (by simp) (by intro k hk; simp [Value.ownBlock] at hk; omega)
 have HO:Hid (OwnC c' w1 b' n f):=ho
 clear hown hgrow hnil hown' ho
 go_wp2
 go_ret
 exact ⟨⟨b',c',hb',rfl,HO.out⟩,HB.out⟩
set_option maxRecDepth 100000 in
set_option maxHeartbeats 2000000 in
theorem addIntoC_any (mm b o n c M:Nat) (F g:Nat→Nat) (hF:∀ i,F i < 256) (hg:∀ i,i < 16→g i < 256) (hn:n≤16) (hM:o + n≤M) (w:World) (h:OwnC mm w b M F) :
  Calls Tryz.prog 207 #[.slice (some ⟨b,o,none⟩) n c,.agg (bA 16 g)] w fun e w' => e = .returned (.tuple #[])∧OwnC mm w' b M (fun i => if o≤i∧i < o + n then F i ^^^ g (i - o) else F i)∧OnlyB b w w':=by
 have hbl:=h.lt
 have HO:Hid (OwnC mm (w.alloc (.cells (bA 16 g) 257)) b M F):=h.alloc _
 have HS:Hid (Row8 (w.alloc (.cells (bA 16 g) 257)) w.heap.size 257 16 g):=Row8.boxedAt rfl _ _ _
 have HB:Hid (OnlyB b w (w.alloc (.cells (bA 16 g) 257))):=(OnlyB.refl _ _).below ((Below.refl _ _).alloc (Nat.le_refl _) _)
 have HF:Hid (∀ i,F i < 256):=hF
 have HG:Hid (∀ i,i < 16→g i < 256):=hg
 clear h hF hg
 go_enter Tryz.func207,Tryz.ntmps207
 go_wp2_with fail
 generalize w.alloc (.cells (bA 16 g) 257) = wz at *
 generalize bA 16 g = GA at *
 go_loopw [4,7] (fun _ i wr => ∃ k:Nat,k≤n∧i = .int .i64 k∧OwnC mm wr b M (fun x => if o≤x∧x < o + k then F x ^^^ g (x - o) else F x)∧Row8 wr w.heap.size 257 16 g∧OnlyB b w wr) (fun _ i _ => n - (intOf i).toNat)
 case atStart => exact ⟨0,by omega,rfl,HO.out.congr (fun j hj => by rw [if_neg (by omega)]),HS.out,HB.out⟩
 case round =>
  clear HO HS HB
  obtain ⟨k,hk,rfl,ho,hs,hb⟩:=hrel
  have HO:Hid (OwnC mm wr b M (fun x => if o≤x∧x < o + k then F x ^^^ g (x - o) else F x)):=ho
  have HS:Hid (Row8 wr w.heap.size 257 16 g):=hs
  have HB:Hid (OnlyB b w wr):=hb
  by_cases hlt:k < n
  ·have c1:=ho.cell (i:=o + k) (by omega)
   simp only [Nat.lt_irrefl,and_false,if_false] at c1
   have f1:=ho.frozen (o + k)
   have c2:=World.rowIs.cell hs (i:=k) (by omega)
   have l1:=HF.out (o + k)
   have l2:=HG.out k (by omega)
   have ex:bits .xor .u8 (F (o + k):Int) (g k:Int) = ((F (o + k) ^^^ g k:Nat):Int):=u8_xor_nat _ _ l1 l2
   have x0:(0:Int)≤(k:Int):=by omega
   have x1:(k:Int) < (n:Int):=by omega
   have x2:(k:Int) < 16:=by omega
   have HV:Hid (∀ v,v = F (o + k) ^^^ g k→∀ x,x < M→(if x = o + k then v else if o≤x∧x < o + k then F x ^^^ g (x - o) else F x) = if o≤x∧x < o + (k + 1) then F x ^^^ g (x - o) else F x):=fun v hv x hx => by
    by_cases e:x = o + k
    ·subst e
     rw [if_pos rfl,if_pos (by omega),hv,show o + k - o = k from by omega]
    ·rw [if_neg e]
     by_cases e2:o≤x∧x < o + k
     ·rw [if_pos e2,if_pos (by omega)]
     ·rw [if_neg e2,if_neg (by omega)]
   obtain ⟨V,hV⟩:∃ V,V = F (o + k) ^^^ g k:=⟨_,rfl⟩
   have HE:Hid (V = F (o + k) ^^^ g k):=hV
   rw [← hV] at ex
   clear hV ho hs hb
   generalize F (o + k) = A1 at *
   generalize g k = A2 at *
   go_wp2_with fail
   go_region
   go_wp2
   go_roundw
   case rel =>
    refine ⟨k + 1,by omega,by go_num,?_,?_,?_⟩
    ·exact (HO.out.set (o + k) V).congr (HV.out V HE.out)
    ·exact HS.out.other (by show w.heap.size≠b; omega) _
    ·exact (HB.out.setCell _ _).drew8
   case measure => simp [intOf]; omega
  ·have x1:¬ (k:Int) < (n:Int):=by omega
   have HO2:Hid (OwnC mm wr b M (fun x => if o≤x∧x < o + n then F x ^^^ g (x - o) else F x)):=ho.congr (fun x hx => by rw [show k = n from by omega])
   clear ho hs hb HO
   go_wp2
   exact bodyPost_end (results_none Tryz.results207 _ _ _) rfl ⟨rfl,HO2.out,HB.out⟩
def CtrJC (s:ByteArray) (w0:World) (Cb m ob n C:Nat) (K f:Nat→Nat) (a':Act) (w':World):Prop:=∃ (i:Nat) (ra:Option Addr) (L cr:Nat) (x12:Int) (u0 u2 u3 u4 u5 u6 u7 u8 u13 u14 u15 u16 u17 u18 u19 u20 u21 u22 u23 u24 u25 u26 u27 u28 u29 u30 u31 u32 u33 u34 u35 u36 u37 u38 u39 u40 u41 u42 u43 u44 u45 u46 u47:Value),a' = { tmps:=#[u0,.string s,u2,u3,u4,u5,u6,u7,u8,.pointer (some ⟨Cb,0,none⟩),.slice (some ⟨ob,0,none⟩) n C,.slice ra L cr,.int .u32 x12,u13,u14,u15,u16,u17,u18,u19,u20,u21,u22,u23,u24,u25,u26,u27,u28,u29,u30,u31,u32,u33,u34,u35,u36,u37,u38,u39,u40,u41,u42,u43,u44,u45,u46,u47],defers:=[] } ∧
 (L = n - 16 * i∧x12 = (i:Int) + 1)∧i≤4096∧(16 * i < n→ra = some ⟨ob,16 * i,none⟩)∧L≤cr∧OwnC C w' ob n (fun x => if x < 16 * i then ctrF K m (strB s) f x else f x)∧CiphAt w' Cb m K∧Below w0.heap.size w0 w'
set_option maxRecDepth 100000 in
set_option maxHeartbeats 4000000 in
theorem implCtrC_yes (k s:ByteArray) (kn b o n c:Nat) (f:Nat→Nat) (hkn:kn = 4∨kn = 8) (hk:k.size = kn * 4) (hs:s.size = 12) (hn:n≤65536) (hf:∀ i,f i < 256) (w:World) (h:Code8 w (some ⟨b,o,none⟩) n f) :
  Calls Tryz.prog 189 #[.string k,.string s,.slice (some ⟨b,o,none⟩) n c] w fun e w' => RetC2 w w' e n (ctrF (Gf.ws (strB k) kn (3 * kn + 28)) (kn + 6) (strB s) f) (.int .i64 0)∧Below w.heap.size w w':=by
 have MF:Hid (∀ w:World,Calls Tryz.prog 204 #[.string k,.string s,.int .i64 12,.int .i64 (n:Int),.int .i64 65536] w fun e w' => e = .returned (.int .i64 0)∧w = w'):=mf_ok k s 12 n 65536 (by omega) (by omega) (by omega) (by omega)
 have NC:Hid (∀ w:World,Calls Tryz.prog 205 #[.string k] w fun e w' => e = .returned (.agg (cA (kn + 6) (Gf.ws (strB k) kn (3 * kn + 28))))∧Below w.heap.size w w'):=newCipher_any k kn hkn hk
 have LW:Hid (∀ j,Gf.ws (strB k) kn (3 * kn + 28) j < 256):=Gf.ws_lt (strB_lt k) _
 generalize Gf.ws (strB k) kn (3 * kn + 28) = W at *
 obtain ⟨m,hm⟩:∃ m,m = kn + 6:=⟨_,rfl⟩
 have hm1:1≤m:=by omega
 have hm2:m≤14:=by omega
 rw [← hm] at NC ⊢
 have CB:Hid (∀ (i:Nat) (w:World),i < 4294967296→Calls Tryz.prog 209 #[.string s,.int .u32 (i:Int)] w fun e w' => e = .returned (.agg (bA 16 (ctrBlk (strB s) i)))∧Below w.heap.size w w'):=fun i w hi => counterBlock_any s hs i hi w
 have EN:Hid (∀ (C i:Nat) (w:World),CiphAt w C m W→Calls Tryz.prog 208 #[.pointer (some ⟨C,0,none⟩),.agg (bA 16 (ctrBlk (strB s) i))] w fun e w' => e = .returned (.agg (bA 16 (Gf.enc W m (ctrBlk (strB s) i))))∧Below w.heap.size w w'):=fun C i w h => encrypt_any C m W _ (fun j _ => ctrBlk_lt (strB_lt s) i j) LW.out hm1 hm2 w h
 have CL:Hid (∀ w:World,Code8 w (some ⟨b,o,none⟩) n f→Calls Tryz.prog 206 #[.slice (some ⟨b,o,none⟩) n c] w fun e w' => RetC w w' e n f∧Below w.heap.size w w'):=fun w h => cloneC_any b o n c f (by omega) w h
 obtain ⟨Z,z0,hZ,-⟩:=Tryz.zeroC
 have S2:Hid ((Tryz.prog.info? 262).map (·.size) = some (cA m W).size):=by rw [cA_size]; exact Tryz.sizeC
 have O2:Hid ((cA m W).all (·.oneCell') = true):=cA_one _ _
 have hLen:(cA m W).toList.length = 769:=cA_len _ _
 have hAt:Hid (∀ k,k < 769→(cA m W).toList[k]? = some (cf m W k)):=fun k hk => by
  have:=cA_at (n:=m) (K:=W) hk
  rwa [← Array.getElem?_toList] at this
 have HSZ:Hid ((cA m W).size = 769):=cA_size _ _
 generalize cA m W = CA at *
 have HC:Hid (Code8 w (some ⟨b,o,none⟩) n f):=h
 have HF:Hid (∀ i,f i < 256):=hf
 clear h hf hkn hk hs hm
 go_enter Tryz.func189,Tryz.ntmps189
 go_wp2
 refine wp_scope_label 0 (fun a' w' => ∃ Cb ob C,(w.heap.size≤ob∧Cb < ob)∧n≤C∧CtrJC s w Cb m ob n C W f a' w') (fun a' _ => lenOf (a'.tmps.getD 11 undef)) rfl ?_ ?_
 ·rintro a' wr ⟨Cb,ob,C,⟨hob,hCo⟩,hnC,i,ra,L,cr,x12,u0,u2,u3,u4,u5,u6,u7,u8,u13,u14,u15,u16,u17,u18,u19,u20,u21,u22,u23,u24,u25,u26,u27,u28,u29,u30,u31,u32,u33,u34,u35,u36,u37,u38,u39,u40,u41,u42,u43,u44,u45,u46,u47,rfl,⟨hL,rfl⟩,hi,hra,hcr,ho,hC,hB⟩
  have HO:Hid (OwnC C wr ob n (fun x => if x < 16 * i then ctrF W m (strB s) f x else f x)):=ho
  have CC:Hid (CiphAt wr Cb m W):=hC
  have HB:Hid (Below w.heap.size w wr):=hB
  clear ho hC hB
  by_cases hlt:16 * i < n
  ·have era:=hra hlt
   subst era
   obtain ⟨q,hq⟩:∃ q,q = min L 16:=⟨_,rfl⟩
   have hq1:1≤q:=by omega
   have hq2:q≤16:=by omega
   have hq3:q≤L:=by omega
   have eL:((L:Int) == 0) = false:=by rw [beq_eq_false_iff_ne]; omega
   have eq1:min (L:Int) 16 = (q:Int):=by omega
   have xq0:(0:Int)≤(q:Int):=by omega
   have xq1:(q:Int)≤(cr:Int):=by omega
   have xq2:(q:Int)≤(L:Int):=by omega
   have HLQ:Hid (n - 16 * (i + 1) = L - q):=by show n - 16 * (i + 1) = L - q; omega
   have hMq:16 * i + q≤n:=by omega
   have CBi:Hid (∀ w:World,Calls Tryz.prog 209 #[.string s,.int .u32 ((i:Int) + 1)] w fun e w' => e = .returned (.agg (bA 16 (ctrBlk (strB s) (i + 1))))∧Below w.heap.size w w'):=fun w => CB.out (i + 1) w (by omega)
   have ENi:Hid (∀ w:World,CiphAt w Cb m W→Calls Tryz.prog 208 #[.pointer (some ⟨Cb,0,none⟩),.agg (bA 16 (ctrBlk (strB s) (i + 1)))] w fun e w' => e = .returned (.agg (bA 16 (Gf.enc W m (ctrBlk (strB s) (i + 1)))))∧Below w.heap.size w w'):=fun w h => EN.out Cb (i + 1) w h
   have HF2:Hid (∀ x,(if x < 16 * i then ctrF W m (strB s) f x else f x) < 256):=fun x => by
    show (if x < 16 * i then ctrF W m (strB s) f x else f x) < 256
    split
    ·exact ctrF_lt LW.out (strB_lt s) HF.out x
    ·exact HF.out x
   have AI:Hid (∀ w:World,OwnC C w ob n (fun x => if x < 16 * i then ctrF W m (strB s) f x else f x)→Calls Tryz.prog 207 #[.slice (some ⟨ob,16 * i,none⟩) q q,.agg (bA 16 (Gf.enc W m (ctrBlk (strB s) (i + 1))))] w fun e w' => e = .returned (.tuple #[])∧OwnC C w' ob n (fun x => if x < 16 * (i + 1) then ctrF W m (strB s) f x else f x)∧OnlyB ob w w'):=fun w h =>
    (addIntoC_any C ob (16 * i) q q n _ _ HF2.out (fun j _ => Gf.enc_lt LW.out (fun j _ => ctrBlk_lt (strB_lt s) _ j) j) hq2 hMq w h).mono fun e w' hh => ⟨hh.1,hh.2.1.congr (fun x hx => by
     by_cases e:16 * i≤x∧x < 16 * i + q
     ·rw [if_pos e,if_neg (by omega),if_pos (by omega)]
      unfold ctrF ctrK
      rw [show x / 16 + 1 = i + 1 from by omega,show x % 16 = x - 16 * i from by omega]
     ·rw [if_neg e]
      by_cases e2:x < 16 * i
      ·rw [if_pos e2,if_pos (by omega)]
      ·rw [if_neg e2,if_neg (by omega)]),hh.2.2⟩
   have HOd:Hid (OwnC C wr.drew ob n (fun x => if x < 16 * i then ctrF W m (strB s) f x else f x)):=HO.out
   have CCd:Hid (CiphAt wr.drew Cb m W):=CC.out
   have HBd:Hid (Below w.heap.size w wr.drew):=HB.out.drew
   have hi2:i + 1≤4096:=by omega
   have xw:IntKind.u32.wrap ((i:Int) + 1 + 1) = (i:Int) + 1 + 1:=IntWalk.u32_in _ ⟨by omega,by omega⟩
   generalize bA 16 (Gf.enc W m (ctrBlk (strB s) (i + 1))) = EA at *
   generalize bA 16 (ctrBlk (strB s) (i + 1)) = BA at *
   have hqq:(L≤16∧q = L)∨(¬ L≤16∧q = 16):=by omega
   have HR:Hid (∀ (ra:Option Addr),(ra = some ⟨ob,16 * i + q,none⟩∨L - q = 0)→(16 * (i + 1) < n→ra = some ⟨ob,16 * (i + 1),none⟩)):=fun ra hra2 hlt2 => by
    have e1:q = 16:=by omega
    rcases hra2 with h | h
    ·rw [h,e1,Nat.mul_add]
    ·omega
   have hcrq:L - q≤cr - q:=by omega
   clear hra hq hL CL EN CB LW HF HF2 HO CC HB HC NC MF S2 O2 hLen hAt HSZ z0 hZ eq1
   go_upto_region 9 with fail
   go_cut [13] (fun v wx => v = .int .i64 (q:Int)∧wx = wr)
   case first =>
    rcases hqq with ⟨h16,rfl⟩ | ⟨h16,rfl⟩
    ·have x16:(q:Int)≤16:=by omega
     go_wp2_with fail
     go_meet
     exact ⟨rfl,rfl⟩
    ·have x16:¬ (L:Int)≤16:=by omega
     go_wp2_with fail
     go_meet
     exact ⟨rfl,rfl⟩
   case rest =>
   obtain ⟨rfl,rfl⟩:=hcut
   clear hqq
   go_wp2_with fail
   go_region_with (first
    | (go_at_call 209; refine (CBi.out _).mono ?_; rintro e w1 ⟨rfl,hb1⟩)
    | (go_at_call 208; refine (ENi.out _ ?_).mono ?_; exact CCd.out.below hb1; rintro e w2 ⟨rfl,hb2⟩)
    | (go_at_call 207; refine (AI.out _ ?_).mono ?_; exact (HOd.out.below hb1).below hb2; rintro e w3 ⟨rfl,ho3,hb3⟩))
   have CC3:Hid (CiphAt w3 Cb m W):=((CCd.out.below hb1).below hb2).onlyB8 hb3 (by omega)
   have B2':Below w.heap.size w w2:=(HBd.out.trans (hb1.mono HBd.out.size)).trans (hb2.mono (HBd.out.trans (hb1.mono HBd.out.size)).size)
   have HB3:Hid (Below w.heap.size w w3):=B2'.trans (hb3.toBelow hob B2'.size)
   have HO3:Hid (OwnC C w3 ob n (fun x => if x < 16 * (i + 1) then ctrF W m (strB s) f x else f x)):=ho3
   clear hb1 hb2 hb3 ho3 B2' CCd HBd HOd CBi ENi AI
   go_wp2
   all_goals
    go_step3
    refine ⟨rfl,⟨Cb,ob,C,⟨hob,hCo⟩,hnC,i + 1,_,_,_,_,_,_,_,_,_,_,_,_,_,_,_,_,_,_,_,_,_,_,_,_,_,_,_,_,_,_,_,_,_,_,_,_,_,_,_,_,_,_,_,_,_,_,_,rfl,⟨?_,?_⟩,hi2,HR.out _ ?_,?_,HO3.out,CC3.out,HB3.out⟩,?_⟩
    ·have:=HLQ.out; omega
    ·omega
    ·first | exact .inl rfl | (right; omega)
    ·omega
    ·show _ < L; simp [lenOf]; omega
  ·have HO2:Hid (OwnC C wr ob n (ctrF W m (strB s) f)):=HO.out.congr (fun x hx => by rw [if_pos (by omega)])
   obtain rfl:L = 0:=by omega
   clear HO CL EN CB HC NC MF S2 O2 hLen hAt HSZ z0 hZ hra hL
   go_wp2
   rw [jump_ret]
   exact bodyPost_ret (results_tmp2 Tryz.results189 _ _ _) rfl ⟨⟨ob,C,⟨hob,hnC⟩,rfl,HO2.out⟩,HB.out⟩
 ·intro hp
  go_upto_region 5 with (first
   | (go_at_call 204; refine (MF.out _).mono ?_; rintro e w' ⟨rfl,rfl⟩)
   | (go_at_call 205; refine (NC.out _).mono ?_; rintro e w1 ⟨rfl,hb⟩)
   | (refine wpList_store_mid rfl 262 (.tmp 9) (.tmp 23) rfl _ 0 CA rfl rfl ?_ S2.out O2.out ?_))
  ·rw [HSZ.out]; exact there_big w1 Z _ hZ
  ·have R1:((w1.alloc (.cells Z 262)).setCells w1.heap.size 0 CA.toList).rangeAt w1.heap.size 0 CA.toList:=World.rangeAt_setCells_same _ _ _ _ (by rw [hLen]; exact there_big w1 Z _ hZ)
   have CC:Hid (CiphAt ((w1.alloc (.cells Z 262)).setCells w1.heap.size 0 CA.toList) w1.heap.size m W):=fun k hk => by
    have:=R1 k _ (hAt.out k hk)
    rwa [Nat.zero_add] at this
   have hsz:=hb.size
   have B1:Hid (Below w.heap.size w ((w1.alloc (.cells Z 262)).setCells w1.heap.size 0 CA.toList)):=below_setCells hsz _ _ _ (hb.alloc hsz _)
   have HC1:Hid (Code8 ((w1.alloc (.cells Z 262)).setCells w1.heap.size 0 CA.toList) (some ⟨b,o,none⟩) n f):=HC.out.below B1.out
   clear R1 hb NC MF S2 O2 hLen hAt HSZ z0 hZ HC
   generalize (w1.alloc (.cells Z 262)).setCells w1.heap.size 0 CA.toList = wz at *
   generalize w1.heap.size = Cb at *
   go_wp2_with fail
   refine (CL.out _ HC1.out).mono ?_
   rintro e w2 ⟨⟨ob,C,⟨hob,hnC⟩,rfl,ho⟩,hb2⟩
   have CC2:Hid (CiphAt w2 Cb m W):=CC.out.below hb2
   have hCz:=CC.out.lt
   have B2:Hid (Below w.heap.size w w2):=B1.out.trans (hb2.mono B1.out.size)
   have HO2:Hid (OwnC C w2 ob n f):=ho
   have hob':w.heap.size≤ob:=Nat.le_trans B1.out.size hob
   clear hb2 CC B1 ho HC1
   go_wp2_with fail
   go_step3
   rename_i hKx
   refine hKx _ _ (hp _ _ ⟨Cb,ob,C,⟨hob',Nat.lt_of_lt_of_le hCz hob⟩,hnC,0,_,_,C,_,_,_,_,_,_,_,_,_,_,_,_,_,_,_,_,_,_,_,_,_,_,_,_,_,_,_,_,_,_,_,_,_,_,_,_,_,_,_,_,_,_,_,_,rfl,⟨by omega,by omega⟩,by omega,fun _ => rfl,by omega,HO2.out.congr (fun x hx => by rw [if_neg (by omega)]),CC2.out,B2.out⟩)
set_option maxRecDepth 100000 in
set_option maxHeartbeats 1000000 in
theorem appendNumber_nil (x sz:Nat) (hs0:0 < sz) (hsz:sz≤8) (w:World) :
  Calls Tryz.prog 62 #[.slice none 0 0,.int .i64 (x:Int),.int .i64 (sz:Int)] w fun e w' => RetO w.heap.size w' e sz (numF 0 sz x (fun _ => 0))∧Below w.heap.size w w':=by
 obtain ⟨B,hBe⟩:∃ B,B = w.heap.size:=⟨_,rfl⟩
 rw [← hBe]
 have hB:B≤w.heap.size:=by omega
 clear hBe
 obtain ⟨i0,hi⟩:=info_parts Tryz.info8
 have HI:Hid (Tryz.prog.info? 5 = some i0∧i0.zero = some (.int .u8 0)∧i0.size = 1∧i0.bytes = 1):=hi
 clear hi
 go_enter Tryz.func62,Tryz.ntmps62
 go_wp2
 go_loopw [0,7] (fun s i wr => ∃ (r:Nat) (v:Value),r≤sz∧i = .int .i64 ((sz:Int) - 1 - (r:Int))∧s = v∧wr.ownsRow B 5 1 v r (bv r (numF 0 sz x (fun _ => 0)))∧(0 < r→∃ g c,v = .slice (some ⟨g,0,none⟩) r c)∧Below B w wr) (fun _ i _ => (intOf i + 1).toNat)
 case atStart => exact ⟨0,.slice none 0 0,by omega,numEq8 (by omega),rfl,⟨rfl,.inl ⟨rfl,rfl⟩⟩,fun h => absurd h (by omega),Below.refl _ _⟩
 case round =>
  obtain ⟨r,v,hr,rfl,hsv,hown,hv,hb⟩:=hrel
  have hsv':=hsv.symm
  clear hsv
  subst hsv'
  have HO:Hid (wr.ownsRow B 5 1 v r (bv r (numF 0 sz x (fun _ => 0)))):=hown
  have HB:Hid (Below B w wr):=hb
  clear hown hb
  by_cases hlt:r < sz
  ·have x0:(0:Int)≤(sz:Int) - 1 - (r:Int):=by omega
   obtain ⟨s,hs⟩:∃ s,s = 8 * (sz - 1 - r):=⟨_,rfl⟩
   have e8:(8:Int) * ((sz:Int) - 1 - (r:Int)) = (s:Int):=by omega
   have s0:(0:Int)≤(s:Int):=by omega
   have s1:(s:Int)≤64:=by omega
   have eX:(x:Int) / 2 ^ s = ((x / 2 ^ s:Nat):Int):=by simp
   have HX:Hid (numF 0 sz x (fun _ => 0) (0 + r) = x / 2 ^ s % 256):=by show numF _ _ _ _ _ = _; unfold numF; rw [if_neg (by omega),show 0 + r - 0 = r from by omega,hs]
   have HX2:Hid (numF 0 sz x (fun _ => 0) r = x / 2 ^ s % 256):=by have h:=HX.out; rw [Nat.zero_add] at h; exact h
   generalize x / 2 ^ s = y at *
   have eY:(y:Int) % 256 = ((y % 256:Nat):Int):=by omega
   generalize y % 256 = Y at *
   have hsz2:B≤wr.heap.size:=Nat.le_trans hB HB.out.size
   clear hs
   go_wp2_with (at_builtin; refine wpList_append_own _ rfl _ _ 68 rfl B 5 i0 (.int .u8 0) 1 1 Tryz.underlying68 HI.out.1 HI.out.2.1 HI.out.2.2.1 HI.out.2.2.2 rfl (by decide) v r _ rfl (HO.out.alloc _) ⟨wr.heap.size,0,none⟩ 1 1 [.int .u8 (Y:Nat)] rfl rfl (one_new8 _ _ _) (one_one8 _) (by unfold maxLen; omega) (by omega) (by simp; omega) ?_)
   intro v' w2 hown' hgrow hnil
   have BG:Below B wr w2:=((Below.refl B wr).alloc hsz2 _).grown hgrow (by simp; omega) (fun b hb => (HO.out.lt b hb).1)
   have hcg:∀ j,j < r + 1→(if j = r then Y else numF 0 sz x (fun _ => 0) j) = numF 0 sz x (fun _ => 0) j:=fun j hj => by
    by_cases e:j = r
    ·rw [if_pos e,e]; exact HX2.out.symm
    ·rw [if_neg e]
   rw [bv_extN,bv_congr hcg] at hown'
   obtain ⟨g2,c2,⟨hg2,hc2⟩,rfl,-⟩:=own8_of_own hown' hnil
   have HO2:Hid (w2.ownsRow B 5 1 (.slice (some ⟨g2,0,none⟩) (r + 1) c2) (r + 1) (bv (r + 1) (numF 0 sz x (fun _ => 0)))):=hown'
   have HB2:Hid (Below B w w2):=HB.out.trans BG
   have HK:Hid ((sz:Int) - 1 - (r:Int) - 1 = (sz:Int) - 1 - ((r + 1:Nat):Int)):=by show _ = _; omega
   clear hown' hgrow hnil HO HB BG
   go_wp2
   go_roundw
   case rel => exact ⟨r + 1,_,by omega,numEq8 HK.out,rfl,HO2.out,fun _ => ⟨g2,c2,rfl⟩,HB2.out⟩
   case measure => simp [intOf]; omega
  ·obtain ⟨g,c,rfl⟩:=hv (by omega)
   have x0:¬ (0:Int)≤(sz:Int) - 1 - (r:Int):=by omega
   obtain rfl:r = sz:=by omega
   go_wp2
   go_ret
   exact ⟨⟨g,c,rfl,HO.out⟩,HB.out⟩
end Go.Proofs.YtcpjeopnhgoonaaGreatDoor
