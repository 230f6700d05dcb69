/-
  The model's run of acts.
-/
import Derived.Test.YtgdfhgepbamhmaaDoorJ04
import Derived.Laws.ResultCell
namespace Go.Proofs.YtgdfhgepbamhmaaDoor
open Go.ChangeShapes Go.WideShapes Go.ChangeAt Go.RowKit
set_option linter.unusedVariables false
theorem results_cell_tmp2 {fn : Func} {p u v : Tmp} {ty : TypeId} (h : fn.results = #[.cell p ty, .tmp u, .tmp v]) (tmps : Array Value) (P : Program) (w : World) :
    (results fn tmps).run P w = ((asAddr (tmps.getD p undef)).run P w).andThen fun a w₁ => ((loadVar ty a).run P w₁).andThen fun x w₂ => .ok (.tuple #[x, tmps.getD u undef, tmps.getD v undef]) w₂ := by
  simp only [results, h]
  simp [Sem.run_bind, Result.andThen]
theorem ret_cell3 {P : Program} {fn : Func} {p u v : Tmp} {ty : TypeId} {tmps : Array Value} {w : World} {b : Nat} {x y z : Value} {Post : Ending → World → Prop} (h : fn.results = #[.cell p ty, .tmp u, .tmp v]) (hp : tmps.getD p undef = .pointer (some ⟨b, 0, none⟩)) (hu : tmps.getD u undef = y) (hv : tmps.getD v undef = z) (hl : (loadVar ty ⟨b, 0, none⟩).run P w = .ok x w) (hq : Post (.returned (.tuple #[x, y, z])) w) : bodyPost P fn Post .ret { tmps := tmps, defers := [] } w := by
  refine bodyPost_ret (v := .tuple #[x, y, z]) ?_ rfl hq
  rw [results_cell_tmp2 h, hp, hu, hv]
  simp [asAddr, hl, Result.andThen]
/-- A disk of the call's own, its codes and a code are handed back. -/
def RetRun (B : Nat) (w' : World) (e : Ending) (d : Dk) (n : Nat) (C : Nat → Int) (code : Int) : Prop := ∃ (a0 a1 a2 : Option Addr) (c0 c1 c2 g0 g1 g2 : Nat) (iv : Value), e = .returned (.tuple #[.agg #[.slice a0 d.nb c0, .slice a1 d.nc c1, .slice a2 d.ns c2], iv, .int .i64 code]) ∧ RowD w' d a0 a1 a2 g0 g1 g2 ∧ GeD d g0 g1 g2 B ∧ IntR w' B iv n C ∧ (a0 = none → c0 = 0) ∧ (a1 = none → c1 = 0) ∧ (a2 = none → c2 = 0)
theorem own_zn {w : World} {B size m n c : Nat} {e : TypeId} {a : Option Addr} {xs : List Value} (h : w.ownsRow B e size (.slice a n c) m xs) : a = none → c = 0 := by
  obtain ⟨hl, ⟨h1, _⟩ | ⟨g, cap, cur, hv, _⟩⟩ := h
  · cases h1; exact fun _ => rfl
  · cases hv; intro h; cases h
theorem newD_ok (x : Nat) (h1 : 1 ≤ x) (h2 : x ≤ 64) : (newD x).Ok := ⟨h1, h2, by show 0 ≤ _; omega, .inl rfl, fun i _ => by show 0 ≤ 200; omega, fun i hi => absurd hi (Nat.not_lt_zero i), fun i hi => absurd hi (Nat.not_lt_zero i)⟩
set_option maxRecDepth 100000 in
set_option maxHeartbeats 1000000 in
theorem specNew_z (x : Int) (x0 : 1 ≤ x) (x1 : x ≤ 64) (w : World) :
    Calls Tryd.prog 17 #[.int .i64 x] w fun e w' => RetT w.heap.size none none none w' e (newD x.toNat) 0 ∧ Below w.heap.size w w' := by
  obtain ⟨n, rfl⟩ := Int.eq_ofNat_of_zero_le (a := x) (by omega)
  rw [Int.toNat_natCast]
  have IN : Hid (∀ w : World, Calls Tryd.prog 35 #[.int .i64 (n : Int), .int .i64 1, .int .i64 64] w fun e w' => e = .returned (.bool true) ∧ w = w') := fun w => in_any _ _ _ true (by simp; omega) w
  have hmk := mkStrsD n (by omega)
  have hn0 : 0 ≤ (n : Int) := by omega
  clear x0 x1
  go_enter Tryd.func17, Tryd.ntmps17
  go_wp2_with fail
  refine (IN.out _).mono ?_
  rintro e w1 ⟨rfl, rfl⟩
  clear IN
  go_wp2
  have RR : ((((w.alloc (.cells #[.slice (some ⟨w.heap.size + 1, 0, none⟩) n n, .slice (some ⟨w.heap.size + 1 + 1, 0, none⟩) 0 0, .slice (some ⟨w.heap.size + 1 + 1 + 1, 0, none⟩) 0 0] 27)).alloc (.cells (madeCells #[.string ⟨#[]⟩] n) 9)).alloc (.cells #[] 68)).alloc (.cells #[] 9)).rowIs (w.heap.size + 1) 9 n (fun _ => .string ⟨#[]⟩) := by
    have := ((World.rowIs_made (w.alloc (.cells #[.slice (some ⟨w.heap.size + 1, 0, none⟩) n n, .slice (some ⟨w.heap.size + 1 + 1, 0, none⟩) 0 0, .slice (some ⟨w.heap.size + 1 + 1 + 1, 0, none⟩) 0 0] 27)) (.string ⟨#[]⟩) n 9).alloc (.cells #[] 68)).alloc (.cells #[] 9)
    simpa using this
  exact ret_cell2 (b := w.heap.size) (v := .agg #[.slice (some ⟨w.heap.size + 1, 0, none⟩) n n, .slice (some ⟨w.heap.size + 1 + 1, 0, none⟩) 0 0, .slice (some ⟨w.heap.size + 1 + 1 + 1, 0, none⟩) 0 0]) Tryd.results17 rfl rfl (by go_simp) ⟨⟨_, _, _, _, _, _, rfl, (RowD.newD RR (Nat.le_refl _) (fun _ _ => rfl) _ _).diskV, fun h => (by cases h), fun h => (by cases h), fun h => (by cases h), .inr (.inr ⟨_, rfl, by omega, by simp⟩), .inr (.inr ⟨_, rfl, by omega, by simp⟩), .inr (.inr ⟨_, rfl, by omega, by simp⟩)⟩, ((((Below.refl w.heap.size w).alloc (Nat.le_refl _) _).alloc (by simp) _).alloc (by simp; omega) _).alloc (by simp; omega) _⟩
set_option maxRecDepth 100000 in
set_option maxHeartbeats 8000000 in
theorem specRun_ok (x : Int) (hx : 1 ≤ x ∧ x ≤ 64) (n : Nat) (hn : n ≤ 120) (A : Nat → Ac) (hA : ∀ i, i < n → (A i).s.size ≤ 65536 ∧ (A i).nk ≤ 4096) (ad : Option Addr) (c : Nat) (w : World) (h : Acts w ad n A) :
    Calls Tryd.prog 5 #[.int .i64 x, .slice ad n c] w fun e w' => RetRun w.heap.size w' e (runD (newD x.toNat) A n) n (runC (newD x.toNat) A) 0 ∧ Below w.heap.size w w' := by
  have hok : (newD x.toNat).Ok := newD_ok x.toNat (by omega) (by omega)
  have NW : Hid (∀ w : World, Calls Tryd.prog 17 #[.int .i64 x] w fun e w' => RetT w.heap.size none none none w' e (newD x.toNat) 0 ∧ Below w.heap.size w w') := fun w => specNew_z x hx.1 hx.2 w
  have ST : Hid (∀ (q : Nat) (a0 a1 a2 ak : Option Addr) (c0 c1 c2 ck : Nat) (w : World), q < n → (a0 = none → c0 = 0) → (a1 = none → c1 = 0) → (a2 = none → c2 = 0) → DiskV w (runD (newD x.toNat) A q) a0 a1 a2 → Bools w ak (A q).nk (A q).K → Calls Tryd.prog 18 #[.agg #[.slice a0 (runD (newD x.toNat) A q).nb c0, .slice a1 (runD (newD x.toNat) A q).nc c1, .slice a2 (runD (newD x.toNat) A q).ns c2], .agg #[.int .i64 (A q).kd, .int .i64 (A q).x, .string (A q).s, .slice ak (A q).nk ck, .int .i64 (A q).t]] w fun e w' => RetT w.heap.size a0 a1 a2 w' e (runD (newD x.toNat) A (q + 1)) (runC (newD x.toNat) A q) ∧ Below w.heap.size w w') := fun q a0 a1 a2 ak c0 c1 c2 ck w hq z0 z1 z2 h1 h2 => l05Step_any (runD (newD x.toNat) A q) (A q) a0 a1 a2 ak c0 c1 c2 ck (runD_ok hok A q) z0 z1 z2 (by have := (hA q hq).2; omega) w h1 h2.bls
  have sm := runD_ok hok A n
  have OW : Hid (∀ (a0 a1 a2 : Option Addr) (c0 c1 c2 : Nat) (w : World), (a0 = none → c0 = 0) → (a1 = none → c1 = 0) → (a2 = none → c2 = 0) → DiskV w (runD (newD x.toNat) A n) a0 a1 a2 → Calls Tryd.prog 19 #[.agg #[.slice a0 (runD (newD x.toNat) A n).nb c0, .slice a1 (runD (newD x.toNat) A n).nc c1, .slice a2 (runD (newD x.toNat) A n).ns c2]] w fun e w' => (∃ v0 v1 v2, e = .returned (.agg #[v0, v1, v2]) ∧ Rows3 w' w.heap.size (runD (newD x.toNat) A n) v0 v1 v2) ∧ Below w.heap.size w w') := fun a0 a1 a2 c0 c1 c2 w z0 z1 z2 h1 => l05Own_any (runD (newD x.toNat) A n) a0 a1 a2 c0 c1 c2 (by have := sm.nb2; omega) (by have := sm.nc; omega) (by have := sm.ns; have := sm.nb2; omega) z0 z1 z2 w h1
  have HA : Hid (∀ i, i < n → (A i).s.size ≤ 65536 ∧ (A i).nk ≤ 4096) := hA
  have HX : Hid (Acts w ad n A) := h
  have R0 : Hid (runD (newD x.toNat) A 0 = newD x.toNat) := rfl
  generalize newD x.toNat = d0 at *
  generalize hDD : runD d0 A = DD at *
  generalize runC d0 A = CC at *
  have x1 : ¬ (4096 : Int) < (n : Int) := by omega
  have x2 : ¬ (120 : Int) < (n : Int) := by omega
  have HN : Hid (n ≤ 120) := hn
  clear h hA hx hok sm hDD hn
  have A1 : Hid (Below w.heap.size w (w.alloc (.cells #[.slice none 0 0, .slice none 0 0, .slice none 0 0] 27))) := (Below.refl _ _).alloc (Nat.le_refl _) _
  have ZR : Hid (Box3 (w.alloc (.cells #[.slice none 0 0, .slice none 0 0, .slice none 0 0] 27)) w.heap.size 27 (.slice none 0 0) (.slice none 0 0) (.slice none 0 0)) := Box3.made _ _ _ _ _
  go_enter Tryd.func5, Tryd.ntmps5
  go_wp2_with fail
  generalize (w.alloc (.cells #[.slice none 0 0, .slice none 0 0, .slice none 0 0] 27)) = v0 at *
  refine (NW.out _).mono ?_
  rintro e v1 ⟨⟨a0, a1, a2, c0, c1, c2, rfl, rd, z0, z1, z2, k0, k1, k2⟩, hb⟩
  have LN : ∀ n, Lw n none := fun n b o s e => by cases e
  have LW0 : Hid (Lw v1.heap.size a0 ∧ Lw v1.heap.size a1 ∧ Lw v1.heap.size a2) := ⟨(LN v1.heap.size).fr (Nat.le_refl _) k0, (LN v1.heap.size).fr (Nat.le_refl _) k1, (LN v1.heap.size).fr (Nat.le_refl _) k2⟩
  clear k0 k1 k2 LN
  replace A1 : Hid (Below w.heap.size w v1) := A1.out.trans (hb.mono A1.out.size)
  have DBX : Hid (w.heap.size < v1.heap.size) := (ZR.out.below hb).lt
  replace ZR : Hid (Box3 v1 w.heap.size 27 (.slice none 0 0) (.slice none 0 0) (.slice none 0 0)) := ZR.out.below hb
  have VD : Hid (DiskV v1 d0 a0 a1 a2) := rd
  clear hb rd NW
  have hb : Below v1.heap.size v1 (v1.alloc (.cells #[.slice a0 d0.nb c0, .slice a1 d0.nc c1, .slice a2 d0.ns c2] 27)) := (Below.refl _ _).alloc (Nat.le_refl _) _
  have hb2 : Below (v1.alloc (.cells #[.slice a0 d0.nb c0, .slice a1 d0.nc c1, .slice a2 d0.ns c2] 27)).heap.size (v1.alloc (.cells #[.slice a0 d0.nb c0, .slice a1 d0.nc c1, .slice a2 d0.ns c2] 27)) ((v1.alloc (.cells #[.slice a0 d0.nb c0, .slice a1 d0.nc c1, .slice a2 d0.ns c2] 27)).alloc (.cells #[] 3)) := (Below.refl _ _).alloc (Nat.le_refl _) _
  have hsz : (v1.alloc (.cells #[.slice a0 d0.nb c0, .slice a1 d0.nc c1, .slice a2 d0.ns c2] 27)).heap.size = v1.heap.size + 1 := by simp
  have BX : Hid (Box3 ((v1.alloc (.cells #[.slice a0 d0.nb c0, .slice a1 d0.nc c1, .slice a2 d0.ns c2] 27)).alloc (.cells #[] 3)) v1.heap.size 27 (.slice a0 d0.nb c0) (.slice a1 d0.nc c1) (.slice a2 d0.ns c2)) := (Box3.made v1 _ _ _ _).below hb2
  replace ZR : Hid (Box3 ((v1.alloc (.cells #[.slice a0 d0.nb c0, .slice a1 d0.nc c1, .slice a2 d0.ns c2] 27)).alloc (.cells #[] 3)) w.heap.size 27 (.slice none 0 0) (.slice none 0 0) (.slice none 0 0)) := (ZR.out.below hb).below hb2
  replace VD : Hid (DiskV ((v1.alloc (.cells #[.slice a0 d0.nb c0, .slice a1 d0.nc c1, .slice a2 d0.ns c2] 27)).alloc (.cells #[] 3)) d0 a0 a1 a2) := (VD.out.below hb).below hb2
  replace A1 : Hid (Below w.heap.size w ((v1.alloc (.cells #[.slice a0 d0.nb c0, .slice a1 d0.nc c1, .slice a2 d0.ns c2] 27)).alloc (.cells #[] 3))) := (A1.out.trans (hb.mono A1.out.size)).trans (hb2.mono (Nat.le_trans A1.out.size hb.size))
  have IR : Hid (IntR ((v1.alloc (.cells #[.slice a0 d0.nb c0, .slice a1 d0.nc c1, .slice a2 d0.ns c2] 27)).alloc (.cells #[] 3)) (v1.heap.size + 1) (.slice (some ⟨v1.heap.size + 1, 0, none⟩) 0 0) 0 CC) := by
    have := World.ownsRow_made (e := 3) (v1.alloc (.cells #[.slice a0 d0.nb c0, .slice a1 d0.nc c1, .slice a2 d0.ns c2] 27)) #[] (base := v1.heap.size + 1) (size := 1) 0 (by rw [hsz]; exact Nat.le_refl _) (Nat.zero_le _) rfl
    rw [hsz] at this
    exact this
  have DB : Hid (w.heap.size < v1.heap.size) := DBX.out
  have S01 : Hid (v1.heap.size ≤ ((v1.alloc (.cells #[.slice a0 d0.nb c0, .slice a1 d0.nc c1, .slice a2 d0.ns c2] 27)).alloc (.cells #[] 3)).heap.size) := Nat.le_trans hb.size hb2.size
  clear hb hb2 hsz
  go_wp2
  generalize ((v1.alloc (.cells #[.slice a0 d0.nb c0, .slice a1 d0.nc c1, .slice a2 d0.ns c2] 27)).alloc (.cells #[] 3)) = v2 at *
  obtain ⟨db, hdb⟩ : ∃ x, x = v1.heap.size := ⟨_, rfl⟩
  rw [← hdb] at BX IR DB LW0 S01 ⊢
  clear hdb
  go_loopw [9, 10] (fun cs i wr => ∃ (q : Nat) (a0 a1 a2 : Option Addr) (c0 c1 c2 : Nat), q ≤ n ∧ i = .int .i64 (q : Int) ∧ Box3 wr db 27 (.slice a0 (DD q).nb c0) (.slice a1 (DD q).nc c1) (.slice a2 (DD q).ns c2) ∧ DiskV wr (DD q) a0 a1 a2 ∧ (a0 = none → c0 = 0) ∧ (a1 = none → c1 = 0) ∧ (a2 = none → c2 = 0) ∧ IntR wr (db + 1) cs q CC ∧ Box3 wr w.heap.size 27 (.slice none 0 0) (.slice none 0 0) (.slice none 0 0) ∧ Below w.heap.size w wr ∧ (Lw wr.heap.size a0 ∧ Lw wr.heap.size a1 ∧ Lw wr.heap.size a2) ∧ (∀ g, cs.ownBlock = some g → Ap g a0 ∧ Ap g a1 ∧ Ap g a2)) (fun _ i _ => n - (intOf i).toNat)
  case atStart =>
    refine ⟨0, a0, a1, a2, c0, c1, c2, by omega, rfl, ?_, ?_, z0, z1, z2, IR.out, ZR.out, A1.out, ⟨LW0.out.1.mono S01.out, LW0.out.2.1.mono S01.out, LW0.out.2.2.mono S01.out⟩, fun g e => ?_⟩
    · rw [R0.out]; exact BX.out
    · rw [R0.out]; exact VD.out
    · obtain rfl : db + 1 = g := Option.some.inj e
      exact ⟨LW0.out.1.ap (Nat.le_succ _), LW0.out.2.1.ap (Nat.le_succ _), LW0.out.2.2.ap (Nat.le_succ _)⟩
  case round =>
    obtain ⟨q, a0, a1, a2, c0, c1, c2, hq, rfl, bx, vd, z0, z1, z2, ir, zr, hb, lw, sep⟩ := hrel
    clear BX VD IR ZR A1 LW0 S01
    have LW : Hid (Lw wr.heap.size a0 ∧ Lw wr.heap.size a1 ∧ Lw wr.heap.size a2) := lw
    have SEP : Hid (∀ g, u9.ownBlock = some g → Ap g a0 ∧ Ap g a1 ∧ Ap g a2) := sep
    clear lw sep
    have BX : Hid (Box3 wr db 27 (.slice a0 (DD q).nb c0) (.slice a1 (DD q).nc c1) (.slice a2 (DD q).ns c2)) := bx
    have VD : Hid (DiskV wr (DD q) a0 a1 a2) := vd
    have IR : Hid (IntR wr (db + 1) u9 q CC) := ir
    have ZR : Hid (Box3 wr w.heap.size 27 (.slice none 0 0) (.slice none 0 0) (.slice none 0 0)) := zr
    have A1 : Hid (Below w.heap.size w wr) := hb
    have ZC : Hid ((a0 = none → c0 = 0) ∧ (a1 = none → c1 = 0) ∧ (a2 = none → c2 = 0)) := ⟨z0, z1, z2⟩
    clear bx vd z0 z1 z2 ir zr hb R0
    by_cases hlt : q < n
    · obtain ⟨b, off, had, hall⟩ := HX.out.opened (by omega)
      subst had
      obtain ⟨ak, ck, hac, hbl⟩ := hall q hlt
      have AC : Hid (ActC wr b (off + q * 5) (A q) ak ck) := hac.below A1.out
      have BL : Hid (Bools wr ak (A q).nk (A q).K) := hbl.below A1.out
      have AB : Hid (b < w.heap.size) := hac.lt
      have t2 := AC.out.c2
      have t3 := AC.out.c3
      have y0 : (0 : Int) ≤ (q : Int) := by omega
      have y1 : (q : Int) < (n : Int) := by omega
      have s1 : ¬ (65536 : Int) < ((A q).s.size : Int) := by have := (HA.out q hlt).1; omega
      have s2 : ¬ (4096 : Int) < ((A q).nk : Int) := by have := (HA.out q hlt).2; omega
      clear hac hbl hall
      go_wp2_with fail
      clear t2 t3 s1 s2
      go_cut [11, 12] (fun nv cv wx => ∃ (pb : Nat) (ra0 ra1 ra2 : Option Addr) (rc0 rc1 rc2 : Nat), nv = .pointer (some ⟨pb, 0, none⟩) ∧ cv = .int .i64 (CC q) ∧ db < pb ∧ Box3 wx pb 27 (.slice ra0 (DD (q + 1)).nb rc0) (.slice ra1 (DD (q + 1)).nc rc1) (.slice ra2 (DD (q + 1)).ns rc2) ∧ DiskV wx (DD (q + 1)) ra0 ra1 ra2 ∧ ((ra0 = none → rc0 = 0) ∧ (ra1 = none → rc1 = 0) ∧ (ra2 = none → rc2 = 0)) ∧ Box3 wx db 27 (.slice a0 (DD q).nb c0) (.slice a1 (DD q).nc c1) (.slice a2 (DD q).ns c2) ∧ IntR wx (db + 1) u9 q CC ∧ Box3 wx w.heap.size 27 (.slice none 0 0) (.slice none 0 0) (.slice none 0 0) ∧ Below w.heap.size w wx ∧ (Lw wx.heap.size ra0 ∧ Lw wx.heap.size ra1 ∧ Lw wx.heap.size ra2) ∧ (∀ g, u9.ownBlock = some g → Ap g ra0 ∧ Ap g ra1 ∧ Ap g ra2))
      case first =>
        have SZ : Hid (wr.heap.size ≤ wr.heap.size) := Nat.le_refl _
        have hb : Below wr.heap.size wr wr.drew := (Below.refl _ _).drew
        have H : (Box3 wr.drew db 27 (.slice a0 (DD q).nb c0) (.slice a1 (DD q).nc c1) (.slice a2 (DD q).ns c2)) ∧ (ActC wr.drew b (off + q * 5) (A q) ak ck) := ⟨BX.out.below hb, AC.out.below hb⟩
        replace A1 : Hid (Below w.heap.size w wr.drew) := A1.out.trans (hb.mono A1.out.size)
        replace VD : Hid (DiskV wr.drew (DD q) a0 a1 a2) := VD.out.below hb
        replace BL : Hid (Bools wr.drew ak (A q).nk (A q).K) := BL.out.below hb
        replace IR : Hid (IntR wr.drew (db + 1) u9 q CC) := IR.out.below hb
        replace ZR : Hid (Box3 wr.drew w.heap.size 27 (.slice none 0 0) (.slice none 0 0) (.slice none 0 0)) := ZR.out.below hb
        replace SZ : Hid (wr.heap.size ≤ (wr.drew).heap.size) := Nat.le_trans SZ.out hb.size
        clear hb BX AC
        refine wp_region_noPanic ?_
        refine wp_region_held_drew (S := fun w' => (Box3 w' db 27 (.slice a0 (DD q).nb c0) (.slice a1 (DD q).nc c1) (.slice a2 (DD q).ns c2)) ∧ (ActC w' b (off + q * 5) (A q) ak ck)) (by kernel_rfl) H (fun _ => ?_)
        generalize wr.drew = v11 at *
        refine wpAnyH_take (i := 0) (v := .agg #[.slice a0 (DD q).nb c0, .slice a1 (DD q).nc c1, .slice a2 (DD q).ns c2]) rfl (by kernel_rfl) (by kernel_rfl) (by kernel_rfl) (fun _ _ _ h => h) (Or.inl ⟨by rfl, ?_⟩) H ?_
        · intro w' hSw; have t0 := hSw.1.c0; have t1 := hSw.1.c1; have t2 := hSw.1.c2; clear hSw; go_simp
        change wpAnyH _ _ _ _ _ _ _ { tmps := #[_, _, _, _, _, _, _, _, _, _, _, _, _, _, _, _, _, _, _, _, _, _, _, _, _, _, _, _, _, _, _, _, _, _, _, _, _, _, _, _, _, _, _, _, _, _, _, _, _, _, _, _, _, _, _, _, _, _, _, _, _, _, _, _, _, _, _, _, _, _, _, _, _, _, _], defers := _ } _
        refine wpAnyH_take (i := 1) (v := .slice (some ⟨b, off, none⟩) n c) rfl (by kernel_rfl) (by kernel_rfl) (by kernel_rfl) (fun _ _ _ h => h) (Or.inl ⟨by rfl, ?_⟩) H ?_
        · intro w' hSw; go_simp
        change wpAnyH _ _ _ _ _ _ _ { tmps := #[_, _, _, _, _, _, _, _, _, _, _, _, _, _, _, _, _, _, _, _, _, _, _, _, _, _, _, _, _, _, _, _, _, _, _, _, _, _, _, _, _, _, _, _, _, _, _, _, _, _, _, _, _, _, _, _, _, _, _, _, _, _, _, _, _, _, _, _, _, _, _, _, _, _, _], defers := _ } _
        refine wpAnyH_take (i := 2) (v := .int .i64 (q : Int)) rfl (by kernel_rfl) (by kernel_rfl) (by kernel_rfl) (fun _ _ _ h => h) (Or.inl ⟨by rfl, ?_⟩) H ?_
        · intro w' hSw; go_simp
        change wpAnyH _ _ _ _ _ _ _ { tmps := #[_, _, _, _, _, _, _, _, _, _, _, _, _, _, _, _, _, _, _, _, _, _, _, _, _, _, _, _, _, _, _, _, _, _, _, _, _, _, _, _, _, _, _, _, _, _, _, _, _, _, _, _, _, _, _, _, _, _, _, _, _, _, _, _, _, _, _, _, _, _, _, _, _, _, _], defers := _ } _
        refine wpAnyH_take (i := 3) (v := .pointer (some ⟨b, off + q * 5, none⟩)) rfl (by kernel_rfl) (by kernel_rfl) (by kernel_rfl) (fun _ _ _ h => h) (Or.inl ⟨by rfl, ?_⟩) H ?_
        · intro w' hSw; go_simp
        change wpAnyH _ _ _ _ _ _ _ { tmps := #[_, _, _, _, _, _, _, _, _, _, _, _, _, _, _, _, _, _, _, _, _, _, _, _, _, _, _, _, _, _, _, _, _, _, _, _, _, _, _, _, _, _, _, _, _, _, _, _, _, _, _, _, _, _, _, _, _, _, _, _, _, _, _, _, _, _, _, _, _, _, _, _, _, _, _], defers := _ } _
        refine wpAnyH_take (i := 4) (v := .agg #[.int .i64 (A q).kd, .int .i64 (A q).x, .string (A q).s, .slice ak (A q).nk ck, .int .i64 (A q).t]) rfl (by kernel_rfl) (by kernel_rfl) (by kernel_rfl) (fun _ _ _ h => h) (Or.inl ⟨by rfl, ?_⟩) H ?_
        · intro w' hSw; have t0 := hSw.2.c0; have t1 := hSw.2.c1; have t2 := hSw.2.c2; have t3 := hSw.2.c3; have t4 := hSw.2.c4; clear hSw; go_simp
        change wpAnyH _ _ _ _ _ _ _ { tmps := #[_, _, _, _, _, _, _, _, _, _, _, _, _, _, _, _, _, _, _, _, _, _, _, _, _, _, _, _, _, _, _, _, _, _, _, _, _, _, _, _, _, _, _, _, _, _, _, _, _, _, _, _, _, _, _, _, _, _, _, _, _, _, _, _, _, _, _, _, _, _, _, _, _, _, _], defers := _ } _
        refine wpAnyH_ready (rs := [5, 9]) (by kernel_rfl) (by simp) ?_
        refine (AllReadyH.cons rfl (fun KK hK => ?_) (AllReadyH.cons rfl (fun KK hK => ?_) AllReadyH.nil))
        · skip
          go_simp
          refine (ST.out q _ _ _ _ _ _ _ _ _ hlt ZC.out.1 ZC.out.2.1 ZC.out.2.2 VD.out BL.out).mono ?_
          rintro e v12 ⟨⟨ra0, ra1, ra2, rc0, rc1, rc2, rfl, rd, z0, z1, z2, k0, k1, k2⟩, hb⟩
          have SR : Hid (∀ g, u9.ownBlock = some g → Ap g ra0 ∧ Ap g ra1 ∧ Ap g ra2) := fun g e => ⟨(SEP.out g e).1.fr k0 (IR.out.lt g e).2, (SEP.out g e).2.1.fr k1 (IR.out.lt g e).2, (SEP.out g e).2.2.fr k2 (IR.out.lt g e).2⟩
          replace A1 : Hid (Below w.heap.size w v12) := A1.out.trans (hb.mono A1.out.size)
          replace VD : Hid (DiskV v12 (DD q) a0 a1 a2) := VD.out.below hb
          replace BL : Hid (Bools v12 ak (A q).nk (A q).K) := BL.out.below hb
          replace IR : Hid (IntR v12 (db + 1) u9 q CC) := IR.out.below hb
          replace ZR : Hid (Box3 v12 w.heap.size 27 (.slice none 0 0) (.slice none 0 0) (.slice none 0 0)) := ZR.out.below hb
          replace SZ : Hid (wr.heap.size ≤ (v12).heap.size) := Nat.le_trans SZ.out hb.size
          replace H : (Box3 v12 db 27 (.slice a0 (DD q).nb c0) (.slice a1 (DD q).nc c1) (.slice a2 (DD q).ns c2)) ∧ (ActC v12 b (off + q * 5) (A q) ak ck) := ⟨H.1.below hb, H.2.below hb⟩
          have LR : Hid (Lw v12.heap.size ra0 ∧ Lw v12.heap.size ra1 ∧ Lw v12.heap.size ra2) := ⟨LW.out.1.fr SZ.out k0, LW.out.2.1.fr SZ.out k1, LW.out.2.2.fr SZ.out k2⟩
          clear k0 k1 k2
          have RV : Hid (DiskV v12 (DD (q + 1)) ra0 ra1 ra2) := rd
          have RZ : Hid ((ra0 = none → rc0 = 0) ∧ (ra1 = none → rc1 = 0) ∧ (ra2 = none → rc2 = 0)) := ⟨z0, z1, z2⟩
          clear hb rd z0 z1 z2
          refine hK.out _ _ H (fun _ => ?_)
          clear hK KK
          change wpAnyH _ _ _ _ _ _ _ { tmps := #[_, _, _, _, _, _, _, _, _, _, _, _, _, _, _, _, _, _, _, _, _, _, _, _, _, _, _, _, _, _, _, _, _, _, _, _, _, _, _, _, _, _, _, _, _, _, _, _, _, _, _, _, _, _, _, _, _, _, _, _, _, _, _, _, _, _, _, _, _, _, _, _, _, _, _], defers := _ } _
          refine wpAnyH_take (i := 6) (v := .tuple #[.agg #[.slice ra0 (DD (q + 1)).nb rc0, .slice ra1 (DD (q + 1)).nc rc1, .slice ra2 (DD (q + 1)).ns rc2], .int .i64 (CC q)]) rfl (by kernel_rfl) (by kernel_rfl) (by kernel_rfl) (fun _ _ _ h => h) (Or.inl ⟨by rfl, ?_⟩) H ?_
          · intro w' hSw; go_simp
          change wpAnyH _ _ _ _ _ _ _ { tmps := #[_, _, _, _, _, _, _, _, _, _, _, _, _, _, _, _, _, _, _, _, _, _, _, _, _, _, _, _, _, _, _, _, _, _, _, _, _, _, _, _, _, _, _, _, _, _, _, _, _, _, _, _, _, _, _, _, _, _, _, _, _, _, _, _, _, _, _, _, _, _, _, _, _, _, _], defers := _ } _
          refine wpAnyH_take (i := 7) (v := .agg #[.slice ra0 (DD (q + 1)).nb rc0, .slice ra1 (DD (q + 1)).nc rc1, .slice ra2 (DD (q + 1)).ns rc2]) rfl (by kernel_rfl) (by kernel_rfl) (by kernel_rfl) (fun _ _ _ h => h) (Or.inl ⟨by rfl, ?_⟩) H ?_
          · intro w' hSw; go_simp
          change wpAnyH _ _ _ _ _ _ _ { tmps := #[_, _, _, _, _, _, _, _, _, _, _, _, _, _, _, _, _, _, _, _, _, _, _, _, _, _, _, _, _, _, _, _, _, _, _, _, _, _, _, _, _, _, _, _, _, _, _, _, _, _, _, _, _, _, _, _, _, _, _, _, _, _, _, _, _, _, _, _, _, _, _, _, _, _, _], defers := _ } _
          refine wpAnyH_take (i := 8) (v := .int .i64 (CC q)) rfl (by kernel_rfl) (by kernel_rfl) (by kernel_rfl) (fun _ _ _ h => h) (Or.inl ⟨by rfl, ?_⟩) H ?_
          · intro w' hSw; go_simp
          change wpAnyH _ _ _ _ _ _ _ { tmps := #[_, _, _, _, _, _, _, _, _, _, _, _, _, _, _, _, _, _, _, _, _, _, _, _, _, _, _, _, _, _, _, _, _, _, _, _, _, _, _, _, _, _, _, _, _, _, _, _, _, _, _, _, _, _, _, _, _, _, _, _, _, _, _, _, _, _, _, _, _, _, _, _, _, _, _], defers := _ } _
          refine wpAnyH_ready (rs := [9]) (by kernel_rfl) (by simp) ?_
          refine (AllReadyH.cons rfl (fun KK hK => ?_) AllReadyH.nil)
          have hb : Below v12.heap.size v12 (v12.alloc (.cells #[.slice none 0 0, .slice none 0 0, .slice none 0 0] 27)) := (Below.refl _ _).alloc (Nat.le_refl _) _
          have PZ : Hid (Box3 (v12.alloc (.cells #[.slice none 0 0, .slice none 0 0, .slice none 0 0] 27)) v12.heap.size 27 (.slice none 0 0) (.slice none 0 0) (.slice none 0 0)) := Box3.made _ _ _ _ _
          have LP : Hid (db < v12.heap.size ∧ b < v12.heap.size ∧ w.heap.size < v12.heap.size ∧ ∀ g, u9.ownBlock = some g → g < v12.heap.size) := ⟨H.1.lt, H.2.lt, ZR.out.lt, fun g e => (IR.out.lt g e).2⟩
          go_simp
          replace H : (Box3 (v12.alloc (.cells #[.slice none 0 0, .slice none 0 0, .slice none 0 0] 27)) db 27 (.slice a0 (DD q).nb c0) (.slice a1 (DD q).nc c1) (.slice a2 (DD q).ns c2)) ∧ (ActC (v12.alloc (.cells #[.slice none 0 0, .slice none 0 0, .slice none 0 0] 27)) b (off + q * 5) (A q) ak ck) := ⟨H.1.below hb, H.2.below hb⟩
          generalize (v12.alloc (.cells #[.slice none 0 0, .slice none 0 0, .slice none 0 0] 27)) = v13 at *
          replace A1 : Hid (Below w.heap.size w v13) := A1.out.trans (hb.mono A1.out.size)
          replace VD : Hid (DiskV v13 (DD q) a0 a1 a2) := VD.out.below hb
          replace BL : Hid (Bools v13 ak (A q).nk (A q).K) := BL.out.below hb
          replace IR : Hid (IntR v13 (db + 1) u9 q CC) := IR.out.below hb
          replace ZR : Hid (Box3 v13 w.heap.size 27 (.slice none 0 0) (.slice none 0 0) (.slice none 0 0)) := ZR.out.below hb
          replace SZ : Hid (wr.heap.size ≤ (v13).heap.size) := Nat.le_trans SZ.out hb.size
          replace LR : Hid (Lw (v13).heap.size ra0 ∧ Lw (v13).heap.size ra1 ∧ Lw (v13).heap.size ra2) := ⟨LR.out.1.mono hb.size, LR.out.2.1.mono hb.size, LR.out.2.2.mono hb.size⟩
          replace RV : Hid (DiskV v13 (DD (q + 1)) ra0 ra1 ra2) := RV.out.below hb
          obtain ⟨pb, hpb⟩ : ∃ x, x = v12.heap.size := ⟨_, rfl⟩
          rw [← hpb] at PZ LP ⊢
          clear hb hpb
          refine hK.out _ _ H (fun _ => ?_)
          clear hK KK
          change wpAnyH _ _ _ _ _ _ _ { tmps := #[_, _, _, _, _, _, _, _, _, _, _, _, _, _, _, _, _, _, _, _, _, _, _, _, _, _, _, _, _, _, _, _, _, _, _, _, _, _, _, _, _, _, _, _, _, _, _, _, _, _, _, _, _, _, _, _, _, _, _, _, _, _, _, _, _, _, _, _, _, _, _, _, _, _, _], defers := _ } _
          refine wpAnyH_ready (rs := [10]) (by kernel_rfl) (by simp) ?_
          refine (AllReadyH.cons rfl (fun KK hK => ?_) AllReadyH.nil)
          rw [if_pos (by rfl)]
          refine wp_store_mid 27 (.tmp 11) (.tmp 65) rfl pb 0 #[.slice ra0 (DD (q + 1)).nb rc0, .slice ra1 (DD (q + 1)).nc rc1, .slice ra2 (DD (q + 1)).ns rc2] rfl rfl PZ.out.there Tryd.sizeDk (oneSl3 _ _ _ _ _ _ _ _ _) ?_
          have ho : OnlyB pb v13 (v13.setCells pb 0 [.slice ra0 (DD (q + 1)).nb rc0, .slice ra1 (DD (q + 1)).nc rc1, .slice ra2 (DD (q + 1)).ns rc2]) := OnlyB.stored3 _ _ _ _ _
          have hk := ho.keepR
          have XN : Hid (Box3 (v13.setCells pb 0 [.slice ra0 (DD (q + 1)).nb rc0, .slice ra1 (DD (q + 1)).nc rc1, .slice ra2 (DD (q + 1)).ns rc2]) pb 27 (.slice ra0 (DD (q + 1)).nb rc0) (.slice ra1 (DD (q + 1)).nc rc1) (.slice ra2 (DD (q + 1)).ns rc2)) := PZ.out.stored _ _ _
          replace A1 : Hid (Below w.heap.size w (v13.setCells pb 0 [.slice ra0 (DD (q + 1)).nb rc0, .slice ra1 (DD (q + 1)).nc rc1, .slice ra2 (DD (q + 1)).ns rc2])) := A1.out.trans (ho.toBelow (Nat.le_of_lt LP.out.2.2.1) A1.out.size)
          replace RV : Hid (DiskV (v13.setCells pb 0 [.slice ra0 (DD (q + 1)).nb rc0, .slice ra1 (DD (q + 1)).nc rc1, .slice ra2 (DD (q + 1)).ns rc2]) (DD (q + 1)) ra0 ra1 ra2) := RV.out.stored PZ.out _ _ _
          replace LR : Hid (Lw (v13.setCells pb 0 [.slice ra0 (DD (q + 1)).nb rc0, .slice ra1 (DD (q + 1)).nc rc1, .slice ra2 (DD (q + 1)).ns rc2]).heap.size ra0 ∧ Lw (v13.setCells pb 0 [.slice ra0 (DD (q + 1)).nb rc0, .slice ra1 (DD (q + 1)).nc rc1, .slice ra2 (DD (q + 1)).ns rc2]).heap.size ra1 ∧ Lw (v13.setCells pb 0 [.slice ra0 (DD (q + 1)).nb rc0, .slice ra1 (DD (q + 1)).nc rc1, .slice ra2 (DD (q + 1)).ns rc2]).heap.size ra2) := ⟨LR.out.1.mono ho.size, LR.out.2.1.mono ho.size, LR.out.2.2.mono ho.size⟩
          replace IR : Hid (IntR (v13.setCells pb 0 [.slice ra0 (DD (q + 1)).nb rc0, .slice ra1 (DD (q + 1)).nc rc1, .slice ra2 (DD (q + 1)).ns rc2]) (db + 1) u9 q CC) := IR.out.onlyB ho (fun e => Nat.lt_irrefl _ (LP.out.2.2.2 _ e))
          replace ZR : Hid (Box3 (v13.setCells pb 0 [.slice ra0 (DD (q + 1)).nb rc0, .slice ra1 (DD (q + 1)).nc rc1, .slice ra2 (DD (q + 1)).ns rc2]) w.heap.size 27 (.slice none 0 0) (.slice none 0 0) (.slice none 0 0)) := ZR.out.keepR hk (.inl LP.out.2.2.1)
          replace H : (Box3 (v13.setCells pb 0 [.slice ra0 (DD (q + 1)).nb rc0, .slice ra1 (DD (q + 1)).nc rc1, .slice ra2 (DD (q + 1)).ns rc2]) db 27 (.slice a0 (DD q).nb c0) (.slice a1 (DD q).nc c1) (.slice a2 (DD q).ns c2)) ∧ (ActC (v13.setCells pb 0 [.slice ra0 (DD (q + 1)).nb rc0, .slice ra1 (DD (q + 1)).nc rc1, .slice ra2 (DD (q + 1)).ns rc2]) b (off + q * 5) (A q) ak ck) := ⟨H.1.keepR hk (.inl LP.out.1), H.2.of_block (ho.block b H.2.lt (Nat.ne_of_lt LP.out.2.1))⟩
          generalize (v13.setCells pb 0 [.slice ra0 (DD (q + 1)).nb rc0, .slice ra1 (DD (q + 1)).nc rc1, .slice ra2 (DD (q + 1)).ns rc2]) = v14 at *
          clear ho hk PZ VD BL SZ
          refine hK.out _ _ H (fun _ => ?_)
          clear hK KK
          change wpAnyH _ _ _ _ _ _ _ { tmps := #[_, _, _, _, _, _, _, _, _, _, _, _, _, _, _, _, _, _, _, _, _, _, _, _, _, _, _, _, _, _, _, _, _, _, _, _, _, _, _, _, _, _, _, _, _, _, _, _, _, _, _, _, _, _, _, _, _, _, _, _, _, _, _, _, _, _, _, _, _, _, _, _, _, _, _], defers := _ } _
          refine wpAnyH_take (i := 11) (v := .int .i64 (CC q)) rfl (by kernel_rfl) (by kernel_rfl) (by kernel_rfl) (fun _ _ _ h => h) (Or.inl ⟨by rfl, ?_⟩) H ?_
          · intro w' hSw; go_simp
          change wpAnyH _ _ _ _ _ _ _ { tmps := #[_, _, _, _, _, _, _, _, _, _, _, _, _, _, _, _, _, _, _, _, _, _, _, _, _, _, _, _, _, _, _, _, _, _, _, _, _, _, _, _, _, _, _, _, _, _, _, _, _, _, _, _, _, _, _, _, _, _, _, _, _, _, _, _, _, _, _, _, _, _, _, _, _, _, _], defers := _ } _
          refine wpAnyH_done (by kernel_rfl) ?_ _
          refine NoPanic.normal ?_
          change Exit.then _ _ Exit.normal { tmps := #[_, _, _, _, _, _, _, _, _, _, _, _, _, _, _, _, _, _, _, _, _, _, _, _, _, _, _, _, _, _, _, _, _, _, _, _, _, _, _, _, _, _, _, _, _, _, _, _, _, _, _, _, _, _, _, _, _, _, _, _, _, _, _, _, _, _, _, _, _, _, _, _, _, _, _], defers := _ } _
          go_wp2_with fail
          go_meet
          exact ⟨pb, ra0, ra1, ra2, rc0, rc1, rc2, rfl, rfl, LP.out.1, XN.out, RV.out, RZ.out, H.1, IR.out, ZR.out, A1.out, LR.out, SR.out⟩
        · skip
          have hb : Below v11.heap.size v11 (v11.alloc (.cells #[.slice none 0 0, .slice none 0 0, .slice none 0 0] 27)) := (Below.refl _ _).alloc (Nat.le_refl _) _
          have PZ : Hid (Box3 (v11.alloc (.cells #[.slice none 0 0, .slice none 0 0, .slice none 0 0] 27)) v11.heap.size 27 (.slice none 0 0) (.slice none 0 0) (.slice none 0 0)) := Box3.made _ _ _ _ _
          have LP : Hid (db < v11.heap.size ∧ b < v11.heap.size ∧ w.heap.size < v11.heap.size ∧ ∀ g, u9.ownBlock = some g → g < v11.heap.size) := ⟨H.1.lt, H.2.lt, ZR.out.lt, fun g e => (IR.out.lt g e).2⟩
          go_simp
          replace H : (Box3 (v11.alloc (.cells #[.slice none 0 0, .slice none 0 0, .slice none 0 0] 27)) db 27 (.slice a0 (DD q).nb c0) (.slice a1 (DD q).nc c1) (.slice a2 (DD q).ns c2)) ∧ (ActC (v11.alloc (.cells #[.slice none 0 0, .slice none 0 0, .slice none 0 0] 27)) b (off + q * 5) (A q) ak ck) := ⟨H.1.below hb, H.2.below hb⟩
          generalize (v11.alloc (.cells #[.slice none 0 0, .slice none 0 0, .slice none 0 0] 27)) = v15 at *
          replace A1 : Hid (Below w.heap.size w v15) := A1.out.trans (hb.mono A1.out.size)
          replace VD : Hid (DiskV v15 (DD q) a0 a1 a2) := VD.out.below hb
          replace BL : Hid (Bools v15 ak (A q).nk (A q).K) := BL.out.below hb
          replace IR : Hid (IntR v15 (db + 1) u9 q CC) := IR.out.below hb
          replace ZR : Hid (Box3 v15 w.heap.size 27 (.slice none 0 0) (.slice none 0 0) (.slice none 0 0)) := ZR.out.below hb
          replace SZ : Hid (wr.heap.size ≤ (v15).heap.size) := Nat.le_trans SZ.out hb.size
          obtain ⟨pb, hpb⟩ : ∃ x, x = v11.heap.size := ⟨_, rfl⟩
          rw [← hpb] at PZ LP ⊢
          clear hb hpb
          refine hK.out _ _ H (fun _ => ?_)
          clear hK KK
          change wpAnyH _ _ _ _ _ _ _ { tmps := #[_, _, _, _, _, _, _, _, _, _, _, _, _, _, _, _, _, _, _, _, _, _, _, _, _, _, _, _, _, _, _, _, _, _, _, _, _, _, _, _, _, _, _, _, _, _, _, _, _, _, _, _, _, _, _, _, _, _, _, _, _, _, _, _, _, _, _, _, _, _, _, _, _, _, _], defers := _ } _
          refine wpAnyH_ready (rs := [5]) (by kernel_rfl) (by simp) ?_
          refine (AllReadyH.cons rfl (fun KK hK => ?_) AllReadyH.nil)
          go_simp
          refine (ST.out q _ _ _ _ _ _ _ _ _ hlt ZC.out.1 ZC.out.2.1 ZC.out.2.2 VD.out BL.out).mono ?_
          rintro e v16 ⟨⟨ra0, ra1, ra2, rc0, rc1, rc2, rfl, rd, z0, z1, z2, k0, k1, k2⟩, hb⟩
          have SR : Hid (∀ g, u9.ownBlock = some g → Ap g ra0 ∧ Ap g ra1 ∧ Ap g ra2) := fun g e => ⟨(SEP.out g e).1.fr k0 (IR.out.lt g e).2, (SEP.out g e).2.1.fr k1 (IR.out.lt g e).2, (SEP.out g e).2.2.fr k2 (IR.out.lt g e).2⟩
          replace A1 : Hid (Below w.heap.size w v16) := A1.out.trans (hb.mono A1.out.size)
          replace VD : Hid (DiskV v16 (DD q) a0 a1 a2) := VD.out.below hb
          replace BL : Hid (Bools v16 ak (A q).nk (A q).K) := BL.out.below hb
          replace IR : Hid (IntR v16 (db + 1) u9 q CC) := IR.out.below hb
          replace ZR : Hid (Box3 v16 w.heap.size 27 (.slice none 0 0) (.slice none 0 0) (.slice none 0 0)) := ZR.out.below hb
          replace SZ : Hid (wr.heap.size ≤ (v16).heap.size) := Nat.le_trans SZ.out hb.size
          replace PZ : Hid (Box3 v16 pb 27 (.slice none 0 0) (.slice none 0 0) (.slice none 0 0)) := PZ.out.below hb
          replace H : (Box3 v16 db 27 (.slice a0 (DD q).nb c0) (.slice a1 (DD q).nc c1) (.slice a2 (DD q).ns c2)) ∧ (ActC v16 b (off + q * 5) (A q) ak ck) := ⟨H.1.below hb, H.2.below hb⟩
          have LR : Hid (Lw v16.heap.size ra0 ∧ Lw v16.heap.size ra1 ∧ Lw v16.heap.size ra2) := ⟨LW.out.1.fr SZ.out k0, LW.out.2.1.fr SZ.out k1, LW.out.2.2.fr SZ.out k2⟩
          clear k0 k1 k2
          have RV : Hid (DiskV v16 (DD (q + 1)) ra0 ra1 ra2) := rd
          have RZ : Hid ((ra0 = none → rc0 = 0) ∧ (ra1 = none → rc1 = 0) ∧ (ra2 = none → rc2 = 0)) := ⟨z0, z1, z2⟩
          clear hb rd z0 z1 z2
          refine hK.out _ _ H (fun _ => ?_)
          clear hK KK
          change wpAnyH _ _ _ _ _ _ _ { tmps := #[_, _, _, _, _, _, _, _, _, _, _, _, _, _, _, _, _, _, _, _, _, _, _, _, _, _, _, _, _, _, _, _, _, _, _, _, _, _, _, _, _, _, _, _, _, _, _, _, _, _, _, _, _, _, _, _, _, _, _, _, _, _, _, _, _, _, _, _, _, _, _, _, _, _, _], defers := _ } _
          refine wpAnyH_take (i := 6) (v := .tuple #[.agg #[.slice ra0 (DD (q + 1)).nb rc0, .slice ra1 (DD (q + 1)).nc rc1, .slice ra2 (DD (q + 1)).ns rc2], .int .i64 (CC q)]) rfl (by kernel_rfl) (by kernel_rfl) (by kernel_rfl) (fun _ _ _ h => h) (Or.inl ⟨by rfl, ?_⟩) H ?_
          · intro w' hSw; go_simp
          change wpAnyH _ _ _ _ _ _ _ { tmps := #[_, _, _, _, _, _, _, _, _, _, _, _, _, _, _, _, _, _, _, _, _, _, _, _, _, _, _, _, _, _, _, _, _, _, _, _, _, _, _, _, _, _, _, _, _, _, _, _, _, _, _, _, _, _, _, _, _, _, _, _, _, _, _, _, _, _, _, _, _, _, _, _, _, _, _], defers := _ } _
          refine wpAnyH_take (i := 7) (v := .agg #[.slice ra0 (DD (q + 1)).nb rc0, .slice ra1 (DD (q + 1)).nc rc1, .slice ra2 (DD (q + 1)).ns rc2]) rfl (by kernel_rfl) (by kernel_rfl) (by kernel_rfl) (fun _ _ _ h => h) (Or.inl ⟨by rfl, ?_⟩) H ?_
          · intro w' hSw; go_simp
          change wpAnyH _ _ _ _ _ _ _ { tmps := #[_, _, _, _, _, _, _, _, _, _, _, _, _, _, _, _, _, _, _, _, _, _, _, _, _, _, _, _, _, _, _, _, _, _, _, _, _, _, _, _, _, _, _, _, _, _, _, _, _, _, _, _, _, _, _, _, _, _, _, _, _, _, _, _, _, _, _, _, _, _, _, _, _, _, _], defers := _ } _
          refine wpAnyH_take (i := 8) (v := .int .i64 (CC q)) rfl (by kernel_rfl) (by kernel_rfl) (by kernel_rfl) (fun _ _ _ h => h) (Or.inl ⟨by rfl, ?_⟩) H ?_
          · intro w' hSw; go_simp
          change wpAnyH _ _ _ _ _ _ _ { tmps := #[_, _, _, _, _, _, _, _, _, _, _, _, _, _, _, _, _, _, _, _, _, _, _, _, _, _, _, _, _, _, _, _, _, _, _, _, _, _, _, _, _, _, _, _, _, _, _, _, _, _, _, _, _, _, _, _, _, _, _, _, _, _, _, _, _, _, _, _, _, _, _, _, _, _, _], defers := _ } _
          refine wpAnyH_ready (rs := [10]) (by kernel_rfl) (by simp) ?_
          refine (AllReadyH.cons rfl (fun KK hK => ?_) AllReadyH.nil)
          rw [if_pos (by rfl)]
          refine wp_store_mid 27 (.tmp 11) (.tmp 65) rfl pb 0 #[.slice ra0 (DD (q + 1)).nb rc0, .slice ra1 (DD (q + 1)).nc rc1, .slice ra2 (DD (q + 1)).ns rc2] rfl rfl PZ.out.there Tryd.sizeDk (oneSl3 _ _ _ _ _ _ _ _ _) ?_
          have ho : OnlyB pb v16 (v16.setCells pb 0 [.slice ra0 (DD (q + 1)).nb rc0, .slice ra1 (DD (q + 1)).nc rc1, .slice ra2 (DD (q + 1)).ns rc2]) := OnlyB.stored3 _ _ _ _ _
          have hk := ho.keepR
          have XN : Hid (Box3 (v16.setCells pb 0 [.slice ra0 (DD (q + 1)).nb rc0, .slice ra1 (DD (q + 1)).nc rc1, .slice ra2 (DD (q + 1)).ns rc2]) pb 27 (.slice ra0 (DD (q + 1)).nb rc0) (.slice ra1 (DD (q + 1)).nc rc1) (.slice ra2 (DD (q + 1)).ns rc2)) := PZ.out.stored _ _ _
          replace A1 : Hid (Below w.heap.size w (v16.setCells pb 0 [.slice ra0 (DD (q + 1)).nb rc0, .slice ra1 (DD (q + 1)).nc rc1, .slice ra2 (DD (q + 1)).ns rc2])) := A1.out.trans (ho.toBelow (Nat.le_of_lt LP.out.2.2.1) A1.out.size)
          replace RV : Hid (DiskV (v16.setCells pb 0 [.slice ra0 (DD (q + 1)).nb rc0, .slice ra1 (DD (q + 1)).nc rc1, .slice ra2 (DD (q + 1)).ns rc2]) (DD (q + 1)) ra0 ra1 ra2) := RV.out.stored PZ.out _ _ _
          replace LR : Hid (Lw (v16.setCells pb 0 [.slice ra0 (DD (q + 1)).nb rc0, .slice ra1 (DD (q + 1)).nc rc1, .slice ra2 (DD (q + 1)).ns rc2]).heap.size ra0 ∧ Lw (v16.setCells pb 0 [.slice ra0 (DD (q + 1)).nb rc0, .slice ra1 (DD (q + 1)).nc rc1, .slice ra2 (DD (q + 1)).ns rc2]).heap.size ra1 ∧ Lw (v16.setCells pb 0 [.slice ra0 (DD (q + 1)).nb rc0, .slice ra1 (DD (q + 1)).nc rc1, .slice ra2 (DD (q + 1)).ns rc2]).heap.size ra2) := ⟨LR.out.1.mono ho.size, LR.out.2.1.mono ho.size, LR.out.2.2.mono ho.size⟩
          replace IR : Hid (IntR (v16.setCells pb 0 [.slice ra0 (DD (q + 1)).nb rc0, .slice ra1 (DD (q + 1)).nc rc1, .slice ra2 (DD (q + 1)).ns rc2]) (db + 1) u9 q CC) := IR.out.onlyB ho (fun e => Nat.lt_irrefl _ (LP.out.2.2.2 _ e))
          replace ZR : Hid (Box3 (v16.setCells pb 0 [.slice ra0 (DD (q + 1)).nb rc0, .slice ra1 (DD (q + 1)).nc rc1, .slice ra2 (DD (q + 1)).ns rc2]) w.heap.size 27 (.slice none 0 0) (.slice none 0 0) (.slice none 0 0)) := ZR.out.keepR hk (.inl LP.out.2.2.1)
          replace H : (Box3 (v16.setCells pb 0 [.slice ra0 (DD (q + 1)).nb rc0, .slice ra1 (DD (q + 1)).nc rc1, .slice ra2 (DD (q + 1)).ns rc2]) db 27 (.slice a0 (DD q).nb c0) (.slice a1 (DD q).nc c1) (.slice a2 (DD q).ns c2)) ∧ (ActC (v16.setCells pb 0 [.slice ra0 (DD (q + 1)).nb rc0, .slice ra1 (DD (q + 1)).nc rc1, .slice ra2 (DD (q + 1)).ns rc2]) b (off + q * 5) (A q) ak ck) := ⟨H.1.keepR hk (.inl LP.out.1), H.2.of_block (ho.block b H.2.lt (Nat.ne_of_lt LP.out.2.1))⟩
          generalize (v16.setCells pb 0 [.slice ra0 (DD (q + 1)).nb rc0, .slice ra1 (DD (q + 1)).nc rc1, .slice ra2 (DD (q + 1)).ns rc2]) = v17 at *
          clear ho hk PZ VD BL SZ
          refine hK.out _ _ H (fun _ => ?_)
          clear hK KK
          change wpAnyH _ _ _ _ _ _ _ { tmps := #[_, _, _, _, _, _, _, _, _, _, _, _, _, _, _, _, _, _, _, _, _, _, _, _, _, _, _, _, _, _, _, _, _, _, _, _, _, _, _, _, _, _, _, _, _, _, _, _, _, _, _, _, _, _, _, _, _, _, _, _, _, _, _, _, _, _, _, _, _, _, _, _, _, _, _], defers := _ } _
          refine wpAnyH_take (i := 11) (v := .int .i64 (CC q)) rfl (by kernel_rfl) (by kernel_rfl) (by kernel_rfl) (fun _ _ _ h => h) (Or.inl ⟨by rfl, ?_⟩) H ?_
          · intro w' hSw; go_simp
          change wpAnyH _ _ _ _ _ _ _ { tmps := #[_, _, _, _, _, _, _, _, _, _, _, _, _, _, _, _, _, _, _, _, _, _, _, _, _, _, _, _, _, _, _, _, _, _, _, _, _, _, _, _, _, _, _, _, _, _, _, _, _, _, _, _, _, _, _, _, _, _, _, _, _, _, _, _, _, _, _, _, _, _, _, _, _, _, _], defers := _ } _
          refine wpAnyH_done (by kernel_rfl) ?_ _
          refine NoPanic.normal ?_
          change Exit.then _ _ Exit.normal { tmps := #[_, _, _, _, _, _, _, _, _, _, _, _, _, _, _, _, _, _, _, _, _, _, _, _, _, _, _, _, _, _, _, _, _, _, _, _, _, _, _, _, _, _, _, _, _, _, _, _, _, _, _, _, _, _, _, _, _, _, _, _, _, _, _, _, _, _, _, _, _, _, _, _, _, _, _], defers := _ } _
          go_wp2_with fail
          go_meet
          exact ⟨pb, ra0, ra1, ra2, rc0, rc1, rc2, rfl, rfl, LP.out.1, XN.out, RV.out, RZ.out, H.1, IR.out, ZR.out, A1.out, LR.out, SR.out⟩
      case rest =>
      obtain ⟨pb, ra0, ra1, ra2, rc0, rc1, rc2, rfl, rfl, hpb, xn, rv, rz, bx, ir, zr, hb, lr, sr⟩ := hcut
      clear BX VD AC BL IR ZR A1 ZC ST LW SEP
      have t0 := xn.c0
      have t1 := xn.c1
      have t2 := xn.c2
      have t3 := bx.c0
      have t4 := bx.c1
      have t5 := bx.c2
      have t6 := bx.fr 0
      have t7 := bx.fr 1
      have t8 := bx.fr 2
      have ho : OnlyB db wc (((wc.setCell ⟨db, 0, none⟩ (.slice ra0 (DD (q + 1)).nb rc0)).setCell ⟨db, 1, none⟩ (.slice ra1 (DD (q + 1)).nc rc1)).setCell ⟨db, 2, none⟩ (.slice ra2 (DD (q + 1)).ns rc2)) := OnlyB.stored3 _ _ _ _ _
      have BX : Hid (Box3 (((wc.setCell ⟨db, 0, none⟩ (.slice ra0 (DD (q + 1)).nb rc0)).setCell ⟨db, 1, none⟩ (.slice ra1 (DD (q + 1)).nc rc1)).setCell ⟨db, 2, none⟩ (.slice ra2 (DD (q + 1)).ns rc2)) db 27 (.slice ra0 (DD (q + 1)).nb rc0) (.slice ra1 (DD (q + 1)).nc rc1) (.slice ra2 (DD (q + 1)).ns rc2)) := bx.stored _ _ _
      have VD : Hid (DiskV (((wc.setCell ⟨db, 0, none⟩ (.slice ra0 (DD (q + 1)).nb rc0)).setCell ⟨db, 1, none⟩ (.slice ra1 (DD (q + 1)).nc rc1)).setCell ⟨db, 2, none⟩ (.slice ra2 (DD (q + 1)).ns rc2)) (DD (q + 1)) ra0 ra1 ra2) := rv.stored bx _ _ _
      have IR : Hid (IntR (((wc.setCell ⟨db, 0, none⟩ (.slice ra0 (DD (q + 1)).nb rc0)).setCell ⟨db, 1, none⟩ (.slice ra1 (DD (q + 1)).nc rc1)).setCell ⟨db, 2, none⟩ (.slice ra2 (DD (q + 1)).ns rc2)) (db + 1) u9 q CC) := ir.onlyB ho (fun e => by have := (ir.lt _ e).1; omega)
      have ZR : Hid (Box3 (((wc.setCell ⟨db, 0, none⟩ (.slice ra0 (DD (q + 1)).nb rc0)).setCell ⟨db, 1, none⟩ (.slice ra1 (DD (q + 1)).nc rc1)).setCell ⟨db, 2, none⟩ (.slice ra2 (DD (q + 1)).ns rc2)) w.heap.size 27 (.slice none 0 0) (.slice none 0 0) (.slice none 0 0)) := zr.keepR ho.keepR (.inl DB.out)
      have A1 : Hid (Below w.heap.size w (((wc.setCell ⟨db, 0, none⟩ (.slice ra0 (DD (q + 1)).nb rc0)).setCell ⟨db, 1, none⟩ (.slice ra1 (DD (q + 1)).nc rc1)).setCell ⟨db, 2, none⟩ (.slice ra2 (DD (q + 1)).ns rc2))) := hb.trans (ho.toBelow (Nat.le_of_lt DB.out) hb.size)
      have RZ : Hid ((ra0 = none → rc0 = 0) ∧ (ra1 = none → rc1 = 0) ∧ (ra2 = none → rc2 = 0)) := rz
      have DL : Hid (db < (((wc.setCell ⟨db, 0, none⟩ (.slice ra0 (DD (q + 1)).nb rc0)).setCell ⟨db, 1, none⟩ (.slice ra1 (DD (q + 1)).nc rc1)).setCell ⟨db, 2, none⟩ (.slice ra2 (DD (q + 1)).ns rc2)).heap.size) := BX.out.lt
      have LR : Hid (Lw (((wc.setCell ⟨db, 0, none⟩ (.slice ra0 (DD (q + 1)).nb rc0)).setCell ⟨db, 1, none⟩ (.slice ra1 (DD (q + 1)).nc rc1)).setCell ⟨db, 2, none⟩ (.slice ra2 (DD (q + 1)).ns rc2)).heap.size ra0 ∧ Lw (((wc.setCell ⟨db, 0, none⟩ (.slice ra0 (DD (q + 1)).nb rc0)).setCell ⟨db, 1, none⟩ (.slice ra1 (DD (q + 1)).nc rc1)).setCell ⟨db, 2, none⟩ (.slice ra2 (DD (q + 1)).ns rc2)).heap.size ra1 ∧ Lw (((wc.setCell ⟨db, 0, none⟩ (.slice ra0 (DD (q + 1)).nb rc0)).setCell ⟨db, 1, none⟩ (.slice ra1 (DD (q + 1)).nc rc1)).setCell ⟨db, 2, none⟩ (.slice ra2 (DD (q + 1)).ns rc2)).heap.size ra2) := ⟨lr.1.mono ho.size, lr.2.1.mono ho.size, lr.2.2.mono ho.size⟩
      have SR : Hid (∀ g, u9.ownBlock = some g → Ap g ra0 ∧ Ap g ra1 ∧ Ap g ra2) := sr
      clear lr sr
      clear xn rv rz bx ir zr hb ho hpb
      go_upto_region 16 with fail
      clear t0 t1 t2 t3 t4 t5 t6 t7 t8
      generalize (((wc.setCell ⟨db, 0, none⟩ (.slice ra0 (DD (q + 1)).nb rc0)).setCell ⟨db, 1, none⟩ (.slice ra1 (DD (q + 1)).nc rc1)).setCell ⟨db, 2, none⟩ (.slice ra2 (DD (q + 1)).ns rc2)) = v5 at *
      have hb6 : Below v5.heap.size v5 (v5.alloc (.cells #[.int .i64 (CC q)] 3)) := (Below.refl _ _).alloc (Nat.le_refl _) _
      have hz6 : (v5.alloc (.cells #[.int .i64 (CC q)] 3)).heap.size = v5.heap.size + 1 := by simp
      have c6 : (v5.alloc (.cells #[.int .i64 (CC q)] 3)).cell? ⟨v5.heap.size, 0, none⟩ = some (.int .i64 (CC q)) := by simp
      have I6 : IntR (v5.alloc (.cells #[.int .i64 (CC q)] 3)) (db + 1) u9 q CC := IR.out.below hb6
      have A6 : Below w.heap.size w (v5.alloc (.cells #[.int .i64 (CC q)] 3)) := A1.out.trans (hb6.mono A1.out.size)
      obtain ⟨nv, v7, hr, ho, hg, hloc⟩ := appIn (v5.alloc (.cells #[.int .i64 (CC q)] 3)) (db + 1) u9 q CC v5.heap.size 28 (by have := DL.out; omega) (by have := HN.out; omega) I6 c6
      have I7 : Hid (IntR v7 (db + 1) nv (q + 1) CC) := ho
      have K7 : ∀ k, k < (v5.alloc (.cells #[.int .i64 (CC q)] 3)).heap.size → u9.ownBlock ≠ some k → v7.heap[k]? = (v5.alloc (.cells #[.int .i64 (CC q)] 3)).heap[k]? := fun k h1 h2 => hg.block k h1 (fun e => h2 e.symm)
      have BX7 : Hid (Box3 v7 db 27 (.slice ra0 (DD (q + 1)).nb rc0) (.slice ra1 (DD (q + 1)).nc rc1) (.slice ra2 (DD (q + 1)).ns rc2)) := (BX.out.below hb6).ofBlock (K7 db (by have := DL.out; omega) (fun e => by have := (I6.lt _ e).1; omega))
      have ZR7 : Hid (Box3 v7 w.heap.size 27 (.slice none 0 0) (.slice none 0 0) (.slice none 0 0)) := (ZR.out.below hb6).ofBlock (K7 _ (by have := DL.out; have := DB.out; omega) (fun e => by have := (I6.lt _ e).1; have := DB.out; omega))
      have VD7 : Hid (DiskV v7 (DD (q + 1)) ra0 ra1 ra2) := (VD.out.below hb6).grown hg SR.out
      have A7 : Hid (Below w.heap.size w v7) := A6.grown hg A6.size (fun k hk => by have := (I6.lt k hk).1; have := DB.out; omega)
      have L7 : Hid (Lw v7.heap.size ra0 ∧ Lw v7.heap.size ra1 ∧ Lw v7.heap.size ra2) := by
        have h7 : v5.heap.size ≤ v7.heap.size := Nat.le_trans hb6.size hg.size
        exact ⟨LR.out.1.mono h7, LR.out.2.1.mono h7, LR.out.2.2.mono h7⟩
      have S7 : Hid (∀ g, nv.ownBlock = some g → Ap g ra0 ∧ Ap g ra1 ∧ Ap g ra2) := fun g e => by
        rcases hloc with h1 | h1
        · exact SR.out g (h1 ▸ e)
        · have h2 : (v5.alloc (.cells #[.int .i64 (CC q)] 3)).heap.size = g := Option.some.inj (h1.symm.trans e)
          have h3 : v5.heap.size ≤ g := by omega
          exact ⟨LR.out.1.ap h3, LR.out.2.1.ap h3, LR.out.2.2.ap h3⟩
      clear hb6 hz6 c6 I6 A6 ho hg hloc K7 BX ZR VD A1 LR SR IR DL
      go_wp2_with (at_builtin; refine Lib.wpList_append_run _ rfl (.tmp 68) (.tmp 70) _ _ rfl _ _ rfl rfl _ _ hr ?_)
      clear hr
      go_wp2
      go_roundw
      case rel => exact ⟨q + 1, ra0, ra1, ra2, rc0, rc1, rc2, by omega, by go_num, BX7.out, VD7.out, RZ.out.1, RZ.out.2.1, RZ.out.2.2, I7.out, ZR7.out, A7.out, L7.out, S7.out⟩
      case measure => simp [intOf]; omega
    · obtain rfl : q = n := by omega
      have y1 : ¬ (q : Int) < (q : Int) := by omega
      have t0 := BX.out.c0
      have t1 := BX.out.c1
      have t2 := BX.out.c2
      go_wp2_with fail
      clear t0 t1 t2
      refine (OW.out _ _ _ _ _ _ _ ZC.out.1 ZC.out.2.1 ZC.out.2.2 VD.out).mono ?_
      rintro e v3 ⟨⟨r0, r1, r2, rfl, rw3⟩, hb⟩
      obtain ⟨e0, e1, e2, f0, f1, f2, g0, g1, g2, rfl, rfl, rfl, rd, hg0, hg1, hg2⟩ := rw3.rowD
      have ZN : Hid ((e0 = none → f0 = 0) ∧ (e1 = none → f1 = 0) ∧ (e2 = none → f2 = 0)) := ⟨own_zn rw3.t0, own_zn rw3.t1, own_zn rw3.t2⟩
      have ZR3 := ZR.out.below hb
      have z0 := ZR3.c0
      have z1 := ZR3.c1
      have z2 := ZR3.c2
      have z3 := ZR3.fr 0
      have z4 := ZR3.fr 1
      have z5 := ZR3.fr 2
      have hgw : w.heap.size < wr.heap.size := ZR.out.lt
      have ho := OnlyB.stored3 v3 w.heap.size (.slice e0 (DD q).nb f0) (.slice e1 (DD q).nc f1) (.slice e2 (DD q).ns f2)
      have RD : Hid (RowD (v3.setCells w.heap.size 0 [.slice e0 (DD q).nb f0, .slice e1 (DD q).nc f1, .slice e2 (DD q).ns f2]) (DD q) e0 e1 e2 g0 g1 g2) := rd.keepR ho.keepR (.inr ⟨fun z => by have := hg0 z; omega, fun z => by have := hg1 z; omega, fun z => by have := hg2 z; omega⟩)
      have GD : Hid (GeD (DD q) g0 g1 g2 w.heap.size) := ⟨fun z => by have := hg0 z; omega, fun z => by have := hg1 z; omega, fun z => by have := hg2 z; omega⟩
      have IF : Hid (IntR (v3.setCells w.heap.size 0 [.slice e0 (DD q).nb f0, .slice e1 (DD q).nc f1, .slice e2 (DD q).ns f2]) w.heap.size u9 q CC) := IntR.mono ((IR.out.below hb).onlyB ho (fun e => by have := (IR.out.lt _ e).1; have := DB.out; omega)) (by have := DB.out; omega)
      have BF : Hid (Below w.heap.size w (v3.setCells w.heap.size 0 [.slice e0 (DD q).nb f0, .slice e1 (DD q).nc f1, .slice e2 (DD q).ns f2])) := (A1.out.trans (hb.mono A1.out.size)).trans (ho.toBelow (Nat.le_refl _) (Nat.le_trans (Nat.le_of_lt hgw) hb.size))
      clear hb rw3 rd ho hgw hg0 hg1 hg2 ZR3 OW ST BX VD IR ZR A1 ZC
      go_wp2
      exact ret_cell3 (b := w.heap.size) (x := .agg #[.slice e0 (DD q).nb f0, .slice e1 (DD q).nc f1, .slice e2 (DD q).ns f2]) Tryd.results5 rfl rfl rfl (by go_simp) ⟨⟨e0, e1, e2, f0, f1, f2, g0, g1, g2, u9, rfl, RD.out, GD.out, IF.out, ZN.out.1, ZN.out.2.1, ZN.out.2.2⟩, BF.out⟩
end Go.Proofs.YtgdfhgepbamhmaaDoor
