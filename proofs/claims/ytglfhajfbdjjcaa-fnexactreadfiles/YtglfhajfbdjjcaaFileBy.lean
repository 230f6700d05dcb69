/-
  Files' bytes: FilesBytes of the program.
-/
import Derived.Test.YtglfhajfbdjjcaaFileFt
import Derived.Test.YtglfhajfbdjjcaaFileMk
import Derived.Test.YtglfhajfbdjjcaaBox3
import Derived.Test.YtglfhajfbdjjcaaRowL
import Derived.Deep.Cut
namespace Go.Proofs.Ytglfhajfbdjjcaa
open Go.ChangeShapes Go.WideShapes Go.ChangeAt Go.RowKit
set_option linter.unusedVariables false
def flatF {T : Type} (f : T → List Nat) (F : Nat → T) : Nat → List Nat
  | 0 => []
  | n + 1 => flatF f F n ++ f (F n)
def bitN (b : Bool) : Nat := if b then 1 else 0
/-- A file's bytes. -/
def fiL (x : Fi) : List Nat := [x.p.size] ++ strL x.p ++ [bitN x.d] ++ numL 2 x.t.size ++ strL x.t
/-- Files' bytes. -/
def filL (n : Nat) (F : Nat → Fi) : List Nat := [n] ++ flatF fiL F n
theorem fiL_length {x : Fi} (h : x.Ok) : (fiL x).length ≤ 244 := by
  have h1 := h.1.1
  have h2 := h.2.1
  unfold fiL
  simp only [List.length_append, List.length_cons, List.length_nil, numL_length, strL_length]
  omega
theorem flatF_le {n : Nat} {F : Nat → Fi} (h : ∀ i, i < n → (F i).Ok) : (flatF fiL F n).length ≤ n * 244 := by
  induction n with
  | zero => simp [flatF]
  | succ n ih =>
    have h1 := ih (fun i hi => h i (by omega))
    have h2 := fiL_length (h n (by omega))
    show (flatF fiL F n ++ fiL (F n)).length ≤ _
    rw [List.length_append]
    omega
theorem lit1F (w : World) (x : Nat) : ∀ j (hj : j < [x].length), (w.alloc (.cells #[.int .u8 ((x : Nat) : Int)] 5)).cell? ⟨w.heap.size, 0 + j, none⟩ = some (.int .u8 (([x][j] : Nat) : Int)) := fun j hj => by
  obtain rfl : j = 0 := by simpa using hj
  have : ((w.alloc (.cells #[.int .u8 ((x : Nat) : Int)] 5)).rowIs w.heap.size 5 1 (fun _ => .int .u8 ((x : Nat) : Int))) := World.rowIs_alloc w #[.int .u8 ((x : Nat) : Int)] 5 _ (fun i hi => by
    obtain rfl : i = 0 := by simpa using hi
    rfl)
  exact this.cell (by omega)
/-- On the way: the row so far, and the variable of the file. -/
structure StF (v0 W : World) (rb g c q : Nat) (L : List Nat) (x : Fi) : Prop where
  row : RL W v0.heap.size g c L
  len : q = L.length
  ne : g ≠ rb
  box : Box3 W rb 33 (.string x.p) (.bool x.d) (.string x.t)
  hb : Below v0.heap.size v0 W
theorem StF.below {v0 W W' : World} {rb g c q : Nat} {L : List Nat} {x : Fi} (h : StF v0 W rb g c q L x) (hb : Below W.heap.size W W') : StF v0 W' rb g c q L x := ⟨h.row.below hb, h.len, h.ne, h.box.below hb, h.hb.trans (hb.mono h.hb.size)⟩
theorem StF.add1 {v0 W : World} {rb g c q : Nat} {L : List Nat} {x : Fi} (h : StF v0 W rb g c q L x) (z : Nat) (hq : q ≤ 900000) :
    ∃ g' c' W', (∀ ty, (Builtin.append_ #[30, 30] ty #[.slice (some ⟨g, 0, none⟩) q c, .slice (some ⟨W.heap.size, 0, none⟩) 1 1]).run Try.prog (W.alloc (.cells #[.int .u8 ((z : Nat) : Int)] 5)) = .ok (.slice (some ⟨g', 0, none⟩) (q + 1) c') W') ∧ StF v0 W' rb g' c' (q + 1) (L ++ [z]) x := by
  have hb : Below W.heap.size W (W.alloc (.cells #[.int .u8 ((z : Nat) : Int)] 5)) := (Below.refl _ _).alloc (Nat.le_refl _) _
  have hl := h.len
  obtain ⟨g3, c3, w3, hr3, hrow3, ho3, hg3⟩ := appL (W.alloc (.cells #[.int .u8 ((z : Nat) : Int)] 5)) v0.heap.size g c L [z] W.heap.size 0 1 30 (by have := h.hb.size; simp; omega) (by simp; omega) (h.row.below hb) (lit1F W z)
  have el2 : (L ++ [z]).length = q + 1 := by rw [List.length_append, hl]; rfl
  rw [← hl, el2] at hr3
  have bl := h.box.lt
  have h2 := h.below hb
  refine ⟨g3, c3, w3, fun ty => hr3, hrow3, el2.symm, ?_, h2.box.ofBlock (ho3.block _ h2.box.lt h.ne.symm), h2.hb.trans (ho3.toBelow h.row.ge.1 h2.hb.size)⟩
  rcases hg3 with e | e
  · rw [e]; exact h.ne
  · rw [e, World.size_alloc]; omega
theorem StF.addT {v0 W : World} {rb g c q : Nat} {L : List Nat} {x : Fi} (h : StF v0 W rb g c q L x) (s : ByteArray) (hq : q + s.size ≤ 900000) :
    ∃ g' c' W', (∀ ty, (Builtin.append_ #[30, 9] ty #[.slice (some ⟨g, 0, none⟩) q c, .string s]).run Try.prog W = .ok (.slice (some ⟨g', 0, none⟩) (q + s.size) c') W') ∧ StF v0 W' rb g' c' (q + s.size) (L ++ strL s) x := by
  have hl := h.len
  obtain ⟨i, hi, hz, hsz, hby⟩ := info_parts Try.infoB8
  obtain ⟨g3, c3, w3, hr3, hrow3, ho3⟩ := appT W v0.heap.size g c L s 30 h.hb.size (by omega) h.row
  have el2 : (L ++ strL s).length = q + s.size := by rw [List.length_append, hl, strL_length]
  rw [← hl, el2] at hr3
  have bl := h.box.lt
  have hB := h.box.ofBlock (ho3.block _ bl h.ne.symm)
  refine ⟨g3, c3, w3, fun ty => hr3, hrow3, el2.symm, ?_, hB, h.hb.trans (ho3.toBelow h.row.ge.1 h.hb.size)⟩
  intro e
  have c1 := hB.c0
  obtain ⟨hl', ⟨h1, h2⟩ | ⟨g', cap, cur, hv, hBB, hh, _⟩⟩ := hrow3
  · cases h1
  · cases hv
    obtain ⟨cur', hh', _⟩ := hB
    rw [e] at hh
    rw [hh'] at hh
    cases hh
set_option maxRecDepth 100000 in
theorem dirByte_any (b : Bool) (w : World) : Calls Try.prog 99 #[.bool b] w fun e w' => e = .returned (.int .u8 ((bitN b : Nat) : Int)) ∧ w' = w := by
  cases b with
  | true =>
    go_enter Try.func99, Try.ntmps99
    go_wp2
    go_ret
    exact ⟨rfl, rfl⟩
  | false =>
    go_enter Try.func99, Try.ntmps99
    go_wp2
    go_ret
    exact ⟨rfl, rfl⟩
theorem StF.num {v0 W : World} {rb g c q : Nat} {L : List Nat} {x : Fi} (h : StF v0 W rb g c q L x) (z : Nat) (hq : q ≤ 800000) :
    Calls Try.prog 100 #[.slice (some ⟨g, 0, none⟩) q c, .int .i64 (z : Int), .int .i64 2] W fun e w' => ∃ g' c', e = .returned (.slice (some ⟨g', 0, none⟩) (q + 2) c') ∧ StF v0 w' rb g' c' (q + 2) (L ++ numL 2 z) x := by
  have hl := h.len
  refine (appendNumberL v0.heap.size g c z 2 L (by omega) (by omega) W h.hb.size h.row q hl).mono ?_
  rintro e w' ⟨⟨g', c', rfl, hr, hg⟩, ho⟩
  have bl := h.box.lt
  refine ⟨g', c', rfl, hr, by rw [List.length_append, numL_length, hl], ?_, h.box.ofBlock (ho.block _ bl h.ne.symm), h.hb.trans (ho.toBelow h.row.ge.1 h.hb.size)⟩
  rcases hg with e | e
  · rw [e]; exact h.ne
  · omega
/-- What FilesBytes does. -/
def ByIs (n : Nat) (F : Nat → Fi) (L : List Nat) (c : Int) : Prop := (4096 < n ∧ c = 2 ∧ L = []) ∨ (¬ 4096 < n ∧ ((¬ FsOk n F ∧ c = 1 ∧ L = []) ∨ (FsOk n F ∧ c = 0 ∧ L = filL n F)))
theorem FtIs.none {n : Nat} {F : Nat → Fi} {t : Nat → ByteArray} {c : Int} (h : FtIs n F 0 t c) : (c ≠ 0 ∧ ByIs n F [] c) ∨ (c = 0 ∧ FsOk n F ∧ ¬ 4096 < n) := by
  have hnl : ¬ LongT 0 t := fun ⟨i, hi, _⟩ => absurd hi (by omega)
  rcases h with ⟨a, rfl⟩ | ⟨a, ⟨b, rfl⟩ | ⟨b, ⟨⟨i, hi, _⟩, _⟩ | ⟨g, rfl⟩⟩⟩
  · exact .inl ⟨by decide, .inl ⟨a.resolve_right hnl, rfl, rfl⟩⟩
  · exact .inl ⟨by decide, .inr ⟨fun q => a (.inl q), .inl ⟨b, rfl, rfl⟩⟩⟩
  · exact absurd hi (by omega)
  · exact .inr ⟨rfl, b, fun q => a (.inl q)⟩
/-- A row handed back: of the call's own, or none. -/
def RetBy (L : List Nat) (cd : Int) (B : Nat) (e : Ending) (w : World) : Prop := (L = [] ∧ (∃ a, e = .returned (.tuple #[.slice a 0 0, .int .i64 cd]))) ∨ ∃ g c, e = .returned (.tuple #[.slice (some ⟨g, 0, none⟩) L.length c, .int .i64 cd]) ∧ RL w B g c L
set_option maxRecDepth 100000 in
set_option maxHeartbeats 4000000 in
theorem implBy_any (a : Option Addr) (n c : Nat) (F : Nat → Fi) (hsz : ∀ i, i < n → (F i).p.size ≤ 1048576) (hnn : n ≤ 1048576) (hsl : SlP a n c) (w : World) (h : Els w 3 a n (fiF F)) :
    Calls Try.prog 58 #[.slice a n c] w fun e w' => (∃ L cd, ByIs n F L cd ∧ RetBy L cd w.heap.size e w') ∧ Below w.heap.size w w' := by
  have FF : Hid (Calls Try.prog 42 #[.slice a n c, .slice none 0 0] w fun e w' => (∃ x : Int, e = .returned (.int .i64 x) ∧ FtIs n F 0 (fun _ => ⟨#[]⟩) x) ∧ Below w.heap.size w w') := filesFault_any a n c F none 0 0 (fun _ => ⟨#[]⟩) hsz hnn hsl (by omega) w h (fun i hi => absurd hi (by omega))
  have H : Hid (Els w 3 a n (fiF F)) := h
  clear h hsz
  go_enter Try.func58, Try.ntmps58
  go_wp2_with fail
  refine (Calls.mono FF.out) ?_
  rintro e v0 ⟨⟨x, rfl, hx⟩, hb⟩
  have B0 : Hid (Below w.heap.size w v0) := hb
  clear hb FF
  rcases hx.none with ⟨h0, hB⟩ | ⟨rfl, hok, hn4⟩
  · have g : (x != 0) = true := by simpa using h0
    have HM : Hid (ByIs n F [] x) := hB
    clear h0 hB hx
    go_wp2
    go_ret2
    exact ⟨⟨_, _, HM.out, .inl ⟨rfl, _, rfl⟩⟩, B0.out⟩
  · have HO : Hid (FsOk n F) := hok
    have hn := hok.1
    have HM : Hid (ByIs n F (filL n F) 0) := .inr ⟨hn4, .inr ⟨hok, rfl, rfl⟩⟩
    have y0 : (n : Int) % 256 = (n : Int) := by omega
    have RB : Hid (RL (v0.alloc (.cells #[.int .u8 ((n : Nat) : Int)] 5)) v0.heap.size v0.heap.size 1 [n]) := RL.made v0 _ [n] 1 rfl (by omega) rfl
    have BB : Hid (Below v0.heap.size v0 (v0.alloc (.cells #[.int .u8 ((n : Nat) : Int)] 5))) := (Below.refl _ _).alloc (Nat.le_refl _) _
    have V0 : Hid (Els v0 3 a n (fiF F)) := H.out.below B0.out
    clear hx hok hn4 H
    go_wp2
    generalize (v0.alloc (.cells #[.int .u8 ((n : Nat) : Int)] 5)) = v1 at *
    go_loopw [5, 19] (fun s i wr => ∃ k g c q : Nat, k ≤ n ∧ i = .int .i64 k ∧ s = .slice (some ⟨g, 0, none⟩) q c ∧ q = ([n] ++ flatF fiL F k).length ∧ RL wr v0.heap.size g c ([n] ++ flatF fiL F k) ∧ Below v0.heap.size v0 wr) (fun _ i _ => n - (intOf i).toNat)
    case atStart => exact ⟨0, v0.heap.size, 1, 1, by omega, rfl, rfl, rfl, by simpa [flatF] using RB.out, BB.out⟩
    case round =>
      clear RB BB
      obtain ⟨k, g, c2, q, hk, rfl, rfl, hq, hrow, hb⟩ := hrel
      have HR : Hid (RL wr v0.heap.size g c2 ([n] ++ flatF fiL F k)) := hrow
      have HB : Hid (Below v0.heap.size v0 wr) := hb
      have HQ : Hid (q = ([n] ++ flatF fiL F k).length) := hq
      have hql : q ≤ 1 + 12 * 244 := by
        have := flatF_le (n := k) (F := F) (fun i hi => (HO.out.2 i (by omega)).1)
        rw [List.length_append] at hq
        simp at hq
        omega
      clear hrow hb hq
      by_cases hlt : k < n
      · have hlt' : (k : Int) < (n : Int) := by omega
        obtain ⟨b, off, rfl, hc⟩ := (V0.out.below HB.out).opened (by omega)
        obtain ⟨c0, c1, c2'⟩ := Els.fiC hc k hlt
        have hfo := (HO.out.2 k hlt).1
        have hps := hfo.1.1
        have hts := hfo.2.1
        have EF : Hid (flatF fiL F (k + 1) = flatF fiL F k ++ fiL (F k)) := rfl
        obtain ⟨v2, hv2⟩ : ∃ v2, v2 = wr.alloc (.cells #[.string (F k).p, .bool (F k).d, .string (F k).t] 33) := ⟨_, rfl⟩
        have hbr : Below wr.heap.size wr v2 := by rw [hv2]; exact (Below.refl _ _).alloc (Nat.le_refl _) _
        have S2 : Hid (StF v0 v2 wr.heap.size g c2 q ([n] ++ flatF fiL F k) (F k)) := ⟨HR.out.below hbr, HQ.out, by have := HR.out.ge; omega, by rw [hv2]; exact Box3.made _ _ _ _ _, HB.out.trans (hbr.mono HB.out.size)⟩
        have HV2 : Hid (wr.alloc (.cells #[.string (F k).p, .bool (F k).d, .string (F k).t] 33) = v2) := hv2.symm
        have EL : Hid ([n] ++ flatF fiL F k ++ [(F k).p.size] ++ strL (F k).p ++ [bitN (F k).d] ++ numL 2 (F k).t.size ++ strL (F k).t = [n] ++ flatF fiL F (k + 1)) := by
          show _ = _
          rw [EF.out]
          unfold fiL
          simp only [List.append_assoc]
        have hp256 : ((F k).p.size : Int) % 256 = ((F k).p.size : Int) := by omega
        generalize [n] ++ flatF fiL F k = L at *
        generalize F k = y at *
        clear hfo hc hbr hv2 EF HQ HR HB
        go_upto_region 8 with fail
        rw [HV2.out]
        clear c0 c1 c2' HV2
        generalize wr.heap.size = rb at *
        obtain ⟨g3, c3, v3, r3, s3⟩ := S2.out.add1 y.p.size (by omega)
        have S3 : Hid (StF v0 v3 rb g3 c3 (q + 1) (L ++ [y.p.size]) y) := s3
        have x0 := S2.out.box.c0
        clear s3
        go_upto_region 9 with (at_builtin; refine Lib.wpList_append_run _ rfl (.tmp 23) (.tmp 28) 30 30 rfl (.slice (some ⟨g, 0, none⟩) q c2) (.slice (some ⟨v2.heap.size, 0, none⟩) 1 1) rfl rfl _ _ (r3 _) ?_)
        clear r3 x0 S2
        obtain ⟨g4, c4, v4, r4, s4⟩ := S3.out.addT y.p (by omega)
        have S4 : Hid (StF v0 v4 rb g4 c4 (q + 1 + y.p.size) (L ++ [y.p.size] ++ strL y.p) y) := s4
        have x0 := S3.out.box.c0
        clear s4
        go_upto_region 10 with (at_builtin; refine Lib.wpList_append_run _ rfl (.tmp 30) (.tmp 32) 30 9 rfl (.slice (some ⟨g3, 0, none⟩) (q + 1) c3) (.string y.p) rfl rfl _ _ (r4 _) ?_)
        clear r4 x0 S3
        have x1 := S4.out.box.c1
        go_wp2_with fail
        refine (dirByte_any y.d _).mono ?_
        rintro e v4' ⟨rfl, hw⟩
        cases hw
        obtain ⟨g5, c5, v5, r5, s5⟩ := S4.out.add1 (bitN y.d) (by omega)
        have S5 : Hid (StF v0 v5 rb g5 c5 (q + 1 + y.p.size + 1) (L ++ [y.p.size] ++ strL y.p ++ [bitN y.d]) y) := s5
        clear s5 x1
        generalize bitN y.d = bd at *
        go_upto_region 11 with (at_builtin; refine Lib.wpList_append_run _ rfl (.tmp 34) (.tmp 38) 30 30 rfl (.slice (some ⟨g4, 0, none⟩) (q + 1 + y.p.size) c4) (.slice (some ⟨v4.heap.size, 0, none⟩) 1 1) rfl rfl _ _ (r5 _) ?_)
        clear r5 S4
        have x2 := S5.out.box.c2
        have NU : Hid (Calls Try.prog 100 #[.slice (some ⟨g5, 0, none⟩) (q + 1 + y.p.size + 1) c5, .int .i64 (y.t.size : Int), .int .i64 2] v5 fun e w' => ∃ g' c', e = .returned (.slice (some ⟨g', 0, none⟩) (q + 1 + y.p.size + 1 + 2) c') ∧ StF v0 w' rb g' c' (q + 1 + y.p.size + 1 + 2) (L ++ [y.p.size] ++ strL y.p ++ [bd] ++ numL 2 y.t.size) y) := S5.out.num y.t.size (by omega)
        go_wp2_with fail
        refine (Calls.mono NU.out) ?_
        rintro e v6 ⟨g6, c6, rfl, s6⟩
        clear NU S5 x2
        have S6 : Hid (StF v0 v6 rb g6 c6 (q + 1 + y.p.size + 1 + 2) (L ++ [y.p.size] ++ strL y.p ++ [bd] ++ numL 2 y.t.size) y) := s6
        obtain ⟨g7, c7, v7, r7, s7⟩ := S6.out.addT y.t (by omega)
        rw [EL.out] at s7
        have S7 : Hid (StF v0 v7 rb g7 c7 (q + 1 + y.p.size + 1 + 2 + y.t.size) ([n] ++ flatF fiL F (k + 1)) y) := s7
        have x2 := S6.out.box.c2
        clear s6 s7 S6
        go_wp2_with (at_builtin; refine Lib.wpList_append_run _ rfl (.tmp 45) (.tmp 47) 30 9 rfl (.slice (some ⟨g6, 0, none⟩) (q + 1 + y.p.size + 1 + 2) c6) (.string y.t) rfl rfl _ _ (r7 _) ?_)
        go_roundw
        case rel => exact ⟨k + 1, g7, c7, _, by omega, by go_num, rfl, S7.out.len, S7.out.row, S7.out.hb⟩
        case measure => simp [intOf]; omega
      · obtain rfl : k = n := by omega
        have hlt' : ¬ (k : Int) < (k : Int) := by omega
        have HE : Hid (RetBy (filL k F) 0 w.heap.size (.returned (.tuple #[.slice (some ⟨g, 0, none⟩) q c2, .int .i64 0])) wr) := .inr ⟨g, c2, by rw [HQ.out]; rfl, HR.out.mono B0.out.size⟩
        have BE : Hid (Below w.heap.size w wr) := B0.out.trans (HB.out.mono B0.out.size)
        clear HQ HR HB
        go_wp2
        go_ret2
        exact ⟨⟨_, _, HM.out, HE.out⟩, BE.out⟩
end Go.Proofs.Ytglfhajfbdjjcaa
