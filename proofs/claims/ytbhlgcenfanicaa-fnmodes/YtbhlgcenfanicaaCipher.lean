/-
  The cells of a cipher (a key made ready), and the contract of impl.newCipher.
-/
import Derived.Test.YtbhlgcenfanicaaKeys
import Derived.Test.YtbhlgcenfanicaaRowOrder
import Derived.Laws.Tables
import Derived.Deep.RegionHeld3
namespace Go.Proofs.Ytbhlgcenfanicaa
open Go.ChangeShapes Go.WideShapes Go.ChangeAt Go.RowKit
/-- Cell j of a cipher. -/
def cf (n : Nat) (K : Nat → Nat) (j : Nat) : Value :=
  if j = 0 then .int .i64 (n : Nat) else if j < 241 then .int .u8 (K (j - 1) : Nat) else if j < 497 then .int .u8 (Gf.sub (j - 241) : Nat) else if j < 753 then .int .u8 (Gf.unsub (j - 497) : Nat) else ordA.getD (j - 753) undef
def cA (n : Nat) (K : Nat → Nat) : Array Value := ((List.range 769).map (cf n K)).toArray
theorem cA_size (n : Nat) (K : Nat → Nat) : (cA n K).size = 769 := by simp [cA]
theorem cA_len (n : Nat) (K : Nat → Nat) : (cA n K).toList.length = 769 := by simp [cA]
theorem cA_at {n : Nat} {K : Nat → Nat} {k : Nat} (h : k < 769) : (cA n K)[k]? = some (cf n K k) := by simp [cA, h]
theorem cf_one (n : Nat) (K : Nat → Nat) (j : Nat) (h : j < 769) : (cf n K j).oneCell' = true := by
  unfold cf
  split
  · rfl
  · split
    · rfl
    · split
      · rfl
      · split
        · rfl
        · have : ∀ k, k < 16 → (ordA.getD k undef).oneCell' = true := by decide
          exact this _ (by omega)
theorem cA_one (n : Nat) (K : Nat → Nat) : (cA n K).all (·.oneCell') = true := all_oneCell_toArray (fun v hv => by
  obtain ⟨i, hi, rfl⟩ := List.mem_map.1 hv
  exact cf_one _ _ _ (List.mem_range.1 hi))
theorem foldl_set (off : Nat) : ∀ (vs : List Value) (k : Nat) (cells : Array Value) (i : Nat),
    ((vs.zipIdx k).foldl (fun cs (x : Value × Nat) => cs.setIfInBounds (off + x.2) x.1) cells)[i]? = if off + k ≤ i ∧ i < off + k + vs.length ∧ i < cells.size then vs[i - (off + k)]? else cells[i]? := by
  intro vs
  induction vs with
  | nil => intro k cells i; rw [if_neg (by simp; omega)]; rfl
  | cons v vs ih =>
    intro k cells i
    rw [List.zipIdx_cons, List.foldl_cons, ih]
    rw [Array.size_setIfInBounds]
    by_cases h1 : off + (k + 1) ≤ i ∧ i < off + (k + 1) + vs.length ∧ i < cells.size
    · rw [if_pos h1, if_pos (by simp; omega), show i - (off + k) = (i - (off + (k + 1))) + 1 from by omega, List.getElem?_cons_succ]
    · rw [if_neg h1, Array.getElem?_setIfInBounds]
      by_cases h2 : off + k = i
      · subst h2
        rw [if_pos rfl]
        by_cases h3 : off + k < cells.size
        · rw [if_pos h3, if_pos (by simp; omega)]; simp
        · rw [if_neg h3, if_neg (by omega)]
          exact (Array.getElem?_eq_none (by omega)).symm
      · rw [if_neg h2, if_neg (by simp; omega)]
/-- The cells with those of a part laid over them. -/
def laid (off : Nat) (vs : Array Value) (cells : Array Value) : Array Value := vs.zipIdx.foldl (fun cs (x : Value × Nat) => cs.setIfInBounds (off + x.2) x.1) cells
theorem laid_at (off : Nat) (vs cells : Array Value) (i : Nat) : (laid off vs cells)[i]? = if off ≤ i ∧ i < off + vs.size ∧ i < cells.size then vs[i - off]? else cells[i]? := by
  unfold laid
  rw [← Array.foldl_toList, Array.toList_zipIdx]
  have := foldl_set off vs.toList 0 cells i
  simpa using this
theorem laid_size (off : Nat) (vs cells : Array Value) : (laid off vs cells).size = cells.size := by
  unfold laid
  rw [← Array.foldl_toList]
  generalize vs.zipIdx.toList = l
  induction l generalizing cells with
  | nil => rfl
  | cons x l ih => rw [List.foldl_cons, ih, Array.size_setIfInBounds]
theorem fill_cons (place : Nat → Option (Nat × Nat)) (cells : Array Value) (i : Nat) (v : Value) (rest : List (Nat × Value)) {off size : Nat} (hp : place i = some (off, size)) (hs : v.cells.size = size) (hf : off + size ≤ cells.size) :
    Instr.fill place cells ((i, v) :: rest) = Instr.fill place (laid off v.cells cells) rest := by
  rw [Instr.fill, hp]
  simp only [hs]
  rw [if_neg (by simp; omega)]
  rfl
theorem built_struct {P : Program} {t : TypeId} {it : TypeInfo} {z : Value} {fs : Array Field} {places : List (Nat × Nat)} (hi : P.info? t = some it) (hz : it.zero = some z) (hu : P.underlying t = some (.struct fs))
    (hp : fs.toList.mapM (fun f => (P.info? f.type).map fun i => (f.offset, i.size)) = some places) (parts : List (Nat × Value)) : P.built t parts = Instr.fill (places.toArray[·]?) z.cells parts := by
  simp [Program.built, hi, hz, hu, hp]
theorem Try.infoC : (Try.prog.info? 44).map (fun i => (i.zero.map (fun z => (z.cells.size, match z with | .agg _ => true | _ => false)), i.size)) = some (some (769, true), 769) := by kernel_rfl
theorem Try.sizeC : (Try.prog.info? 44).map (·.size) = some 769 := by
  have h := Try.infoC
  cases hq : Try.prog.info? 44 with
  | none => simp [hq] at h
  | some i => simp [hq] at h ⊢; exact h.2
theorem Try.placesC : (match Try.prog.underlying 44 with | some (.struct fs) => fs.toList.mapM (fun f => (Try.prog.info? f.type).map fun i => (f.offset, i.size)) | _ => none) = some [(0, 1), (1, 240), (241, 256), (497, 256), (753, 16)] := by kernel_rfl
theorem Try.zeroC : ∃ Z : Array Value, (∀ w, (zeroValue 44).run Try.prog w = .ok (.agg Z) w) ∧ Z.size = 769 ∧ (∃ it, Try.prog.info? 44 = some it ∧ it.zero = some (.agg Z)) := by
  have h := Try.infoC
  cases hq : Try.prog.info? 44 with
  | none => simp [hq] at h
  | some i =>
    simp only [hq, Option.map_some, Option.some.injEq, Prod.mk.injEq] at h
    cases hz : i.zero with
    | none => simp [hz] at h
    | some z =>
      simp only [hz, Option.map_some, Option.some.injEq, Prod.mk.injEq] at h
      cases z with
      | agg Z => exact ⟨Z, fun w => by simp [zeroValue, typeInfo, hq, hz], h.1.1, i, rfl, hz⟩
      | _ => simp at h
theorem cells_agg (A : Array Value) : (Value.agg A).cells = A := rfl
theorem cells_int (k : IntKind) (v : Int) : (Value.int k v).cells = #[.int k v] := rfl
theorem laid_cipher (n : Nat) (K : Nat → Nat) (Z : Array Value) (hs : Z.size = 769) : laid 753 ordA (laid 497 (bA 256 Gf.unsub) (laid 241 (bA 256 Gf.sub) (laid 1 (bA 240 K) (laid 0 #[.int .i64 (n : Nat)] Z)))) = cA n K := by
  apply Array.ext_getElem?
  intro i
  rw [laid_at, laid_at, laid_at, laid_at, laid_at]
  simp only [laid_size, bA_size, hs, show ordA.size = 16 from rfl]
  by_cases hi : i < 769
  · rw [cA_at hi]
    unfold cf
    by_cases h4 : 753 ≤ i
    · rw [if_pos (by omega), if_neg (by omega), if_neg (by omega), if_neg (by omega), if_neg (by omega)]
      rw [Array.getD_eq_getD_getElem?]
      have : ∀ k, k < 16 → (ordA[k]?).isSome = true := by decide
      obtain ⟨v, hv⟩ := Option.isSome_iff_exists.1 (this (i - 753) (by omega))
      rw [hv]; rfl
    · rw [if_neg (by omega)]
      by_cases h3 : 497 ≤ i
      · rw [if_pos (by omega), if_neg (by omega), if_neg (by omega), if_neg (by omega), if_pos (by omega), bA_at (by omega)]
      · rw [if_neg (by omega)]
        by_cases h2 : 241 ≤ i
        · rw [if_pos (by omega), if_neg (by omega), if_neg (by omega), if_pos (by omega), bA_at (by omega)]
        · rw [if_neg (by omega)]
          by_cases h1 : 1 ≤ i
          · rw [if_pos (by omega), if_neg (by omega), if_pos (by omega), bA_at (by omega)]
          · obtain rfl : i = 0 := by omega
            simp
  · rw [if_neg (by omega), if_neg (by omega), if_neg (by omega), if_neg (by omega), if_neg (by omega)]
    rw [Array.getElem?_eq_none (by omega), Array.getElem?_eq_none (by rw [cA_size]; omega)]
theorem structC : ∃ fs, Try.prog.underlying 44 = some (.struct fs) ∧ fs.toList.mapM (fun f => (Try.prog.info? f.type).map fun i => (f.offset, i.size)) = some [(0, 1), (1, 240), (241, 256), (497, 256), (753, 16)] := by
  have hp := Try.placesC
  generalize Try.prog.underlying 44 = u at hp
  match u, hp with
  | some (.struct fs), hp => exact ⟨fs, rfl, hp⟩
theorem built_cipher (n : Nat) (K : Nat → Nat) : Try.prog.built 44 [(0, .int .i64 (n : Nat)), (1, .agg (bA 240 K)), (2, .agg (bA 256 Gf.sub)), (3, .agg (bA 256 Gf.unsub)), (4, .agg ordA)] = some (cA n K) := by
  obtain ⟨Z, -, hs, it, hi, hz⟩ := Try.zeroC
  obtain ⟨fs, hu, hp⟩ := structC
  rw [built_struct hi hz hu hp]
  rw [fill_cons (off := 0) (size := 1) _ _ _ _ _ rfl rfl (by show 0 + 1 ≤ Z.size; omega)]
  rw [fill_cons (off := 1) (size := 240) _ _ _ (.agg (bA 240 K)) _ rfl (bA_size _ _) (by rw [laid_size]; show 1 + 240 ≤ Z.size; omega)]
  rw [fill_cons (off := 241) (size := 256) _ _ _ (.agg (bA 256 Gf.sub)) _ rfl (bA_size _ _) (by rw [laid_size, laid_size]; show 241 + 256 ≤ Z.size; omega)]
  rw [fill_cons (off := 497) (size := 256) _ _ _ (.agg (bA 256 Gf.unsub)) _ rfl (bA_size _ _) (by rw [laid_size, laid_size, laid_size]; show 497 + 256 ≤ Z.size; omega)]
  rw [fill_cons (off := 753) (size := 16) _ _ _ _ _ rfl rfl (by rw [laid_size, laid_size, laid_size, laid_size]; show 753 + 16 ≤ Z.size; omega)]
  rw [cells_agg, cells_agg, cells_agg, cells_agg, cells_agg, cells_int, laid_cipher n K Z hs]
  rfl
theorem run_cipher (n : Nat) (K : Nat → Nat) (w : World) : (Instr.build 44 #[(0, .int .i64 (n : Nat)), (1, .agg (bA 240 K)), (2, .agg (bA 256 Gf.sub)), (3, .agg (bA 256 Gf.unsub)), (4, .agg ordA)]).run Try.prog w = .ok (.agg (cA n K)) w :=
  run_build w _ _ _ (built_cipher n K)
theorem there_big (w : World) (A : Array Value) (t : TypeId) {n : Nat} (hn : A.size = n) : (w.alloc (.cells A t)).there w.heap.size 0 n := by subst hn; exact there_alloc w A t
theorem size_setCells {b : Nat} (vs : List Value) : ∀ (o : Nat) (w : World), (w.setCells b o vs).heap.size = w.heap.size := by
  induction vs with
  | nil => intro o w; rfl
  | cons v vs ih => intro o w; exact (ih (o + 1) _).trans (by simp)
theorem nc_drew {B C : Nat} {w w' : World} {SL : List Value} (h : w'.rangeAt B 0 SL ∧ w'.there C 0 769 ∧ Below C w w' ∧ B < w'.heap.size) : w'.drew.rangeAt B 0 SL ∧ w'.drew.there C 0 769 ∧ Below C w w'.drew ∧ B < w'.drew.heap.size :=
  ⟨h.1, h.2.1, h.2.2.1.drew, h.2.2.2⟩
theorem nc_below {B C : Nat} {w w' w'' : World} {SL : List Value} (h : w'.rangeAt B 0 SL ∧ w'.there C 0 769 ∧ Below C w w' ∧ B < w'.heap.size) (hC : C < B) (hb : Below w'.heap.size w' w'') : w''.rangeAt B 0 SL ∧ w''.there C 0 769 ∧ Below C w w'' ∧ B < w''.heap.size :=
  ⟨range_below h.1 hb, there_below h.2.1 (by omega) hb, h.2.2.1.trans (hb.mono (by omega)), by have := hb.size; omega⟩
theorem nc_store {B C : Nat} {w w' : World} {SL : List Value} (h : w'.rangeAt B 0 SL ∧ w'.there C 0 769 ∧ Below C w w' ∧ B < w'.heap.size) (hC : C < B) (vs : List Value) : (w'.setCells C 0 vs).rangeAt B 0 SL ∧ (w'.setCells C 0 vs).there C 0 769 ∧ Below C w (w'.setCells C 0 vs) ∧ B < (w'.setCells C 0 vs).heap.size :=
  ⟨World.rangeAt_setCells_apart h.1 _ _ _ (by omega), World.there_setCells h.2.1 _ _ _, below_setCells (Nat.le_refl _) _ _ _ h.2.2.1, by rw [size_setCells]; exact h.2.2.2⟩
def NCH (B C : Nat) (w : World) (SL : List Value) (w' : World) : Prop := w'.rangeAt B 0 SL ∧ w'.there C 0 769 ∧ Below C w w' ∧ B < w'.heap.size
theorem NCH.below {B C : Nat} {w w' w'' : World} {SL : List Value} (h : NCH B C w SL w') (hC : C < B) (hb : Below w'.heap.size w' w'') : NCH B C w SL w'' := nc_below h hC hb
theorem NCH.store {B C : Nat} {w w' : World} {SL : List Value} (h : NCH B C w SL w') (hC : C < B) (vs : List Value) : NCH B C w SL (w'.setCells C 0 vs) := nc_store h hC vs
theorem NCH.range {B C : Nat} {w w' : World} {SL : List Value} (h : NCH B C w SL w') : w'.rangeAt B 0 SL := h.1
theorem NCH.there {B C : Nat} {w w' : World} {SL : List Value} (h : NCH B C w SL w') {CL : List Value} (hl : CL.length = 769) : w'.there C 0 CL.toArray.size := by
  rw [List.size_toArray, hl]; exact h.2.1
theorem yieldsIf_build {P : Program} {ops : Array Oper} {S : World → Prop} {op : Oper} {a : Act} (hw : Region.wanted op (yielded ops a.tmps) = true) (t : TypeId) (parts : Array (Nat × Operand)) (ho : op.op = .build t parts)
    (v : Value) (hb : ∀ w, (Instr.build t (parts.map fun (i, x) => (i, a.eval x))).run P w = .ok v w) : YieldsIf P ops S op v a :=
  .inl ⟨hw, fun w _ => by
    unfold execOp
    simp only [ho, Sem.run_bind, hb, Result.andThen_ok]
    rfl⟩
set_option maxRecDepth 100000 in
set_option maxHeartbeats 4000000 in
/-- impl.newCipher -/
theorem newCipher_any (s : ByteArray) (n : Nat) (hn : n = 4 ∨ n = 8) (hs : s.size = n * 4) (w : World) :
    Calls Try.prog 25 #[.string s] w fun e w' => e = .returned (.agg (cA (n + 6) (Gf.ws (strB s) n (3 * n + 28)))) ∧ Below w.heap.size w w' := by
  obtain ⟨Z, z0, hZ, -⟩ := Try.zeroC
  have z1 := Try.zero256
  have hbuild := run_cipher (n + 6) (Gf.ws (strB s) n (3 * n + 28))
  have RK : Hid (∀ w : World, Calls Try.prog 50 #[.string s, .agg (bA 256 Gf.sub)] w fun e w' => e = .returned (.agg (bA 240 (Gf.ws (strB s) n (3 * n + 28)))) ∧ Below w.heap.size w w') := roundKeys_any s n hn hs
  have BW : Hid (∀ w : World, Calls Try.prog 51 #[.agg (bA 256 Gf.sub)] w fun e w' => e = .returned (.agg (bA 256 Gf.unsub)) ∧ Below w.heap.size w w') := backwards_any
  have RO : Hid (∀ w : World, Calls Try.prog 52 #[] w fun e w' => e = .returned (.agg ordA) ∧ Below w.heap.size w w') := rowOrder_any
  have SU : Hid (∀ w : World, Calls Try.prog 49 #[] w fun e w' => e = .returned (.agg (bA 256 Gf.sub)) ∧ Below w.heap.size w w') := substitutes_any
  have S1 : Hid ((Try.prog.info? 41).map (·.size) = some (bA 256 Gf.sub).size) := by rw [bA_size]; exact Try.size256
  have O1 : Hid ((bA 256 Gf.sub).all (·.oneCell') = true) := bA_one _ _
  have S2 : Hid ((Try.prog.info? 44).map (·.size) = some (cA (n + 6) (Gf.ws (strB s) n (3 * n + 28))).size) := by rw [cA_size]; exact Try.sizeC
  have O2 : Hid ((cA (n + 6) (Gf.ws (strB s) n (3 * n + 28))).all (·.oneCell') = true) := cA_one _ _
  have hs' : (s.size : Int) / 4 + 6 = ((n + 6 : Nat) : Int) := by omega
  have hs2 : (s.size : Int) = ((n * 4 : Nat) : Int) := by omega
  have T0 : Hid ((w.alloc (.cells Z 44)).there w.heap.size 0 769) := there_big w Z _ hZ
  go_enter Try.func25, Try.ntmps25
  go_wp2_with (first
    | (go_at_call 49; refine (SU.out _).mono ?_; rintro e w1 ⟨rfl, hb⟩)
    | (refine wpList_store_mid rfl 41 (.tmp 3) (.tmp 4) rfl _ 0 (bA 256 Gf.sub) rfl rfl ?_ S1.out O1.out ?_))
  · rw [bA_size]; exact (Row8.zeros w1 _ 256).there
  · rw [bA_toList]
    have R1 : (( w1.alloc (.cells (Array.replicate 256 (.int .u8 0)) 41)).setCells w1.heap.size 0 (bv 256 Gf.sub)).rangeAt w1.heap.size 0 (bv 256 Gf.sub) := ((Row8.zeros w1 41 256).stored Gf.sub).range
    have hsz : (w.alloc (.cells Z 44)).heap.size = w.heap.size + 1 := by simp
    have hw1 : w.heap.size + 1 ≤ w1.heap.size := by have := hb.size; omega
    have R2 : ((w1.alloc (.cells (Array.replicate 256 (.int .u8 0)) 41)).setCells w1.heap.size 0 (bv 256 Gf.sub)).there w.heap.size 0 769 := World.there_setCells (World.there_alloc (there_below T0.out (by omega) hb) _) _ _ _
    have R3 : Below w.heap.size w ((w1.alloc (.cells (Array.replicate 256 (.int .u8 0)) 41)).setCells w1.heap.size 0 (bv 256 Gf.sub)) := below_setCells (by omega) _ _ _ ((((Below.refl _ _).alloc (Nat.le_refl _) _).trans (hb.mono (by omega))).alloc (by omega) _)
    have R4 : w1.heap.size < ((w1.alloc (.cells (Array.replicate 256 (.int .u8 0)) 41)).setCells w1.heap.size 0 (bv 256 Gf.sub)).heap.size := by rw [size_setCells]; simp
    clear hb hsz T0 z0 z1 SU S1 O1
    generalize (w1.alloc (.cells (Array.replicate 256 (.int .u8 0)) 41)).setCells w1.heap.size 0 (bv 256 Gf.sub) = wz at *
    generalize w1.heap.size = B at *
    have L2 : (Try.prog.info? 41).map (·.size) = some (bv 256 Gf.sub).length := by rw [bv_length]; exact Try.size256
    have L3 : (bv 256 Gf.sub).length = 256 := bv_length _ _
    have L5 : (Try.prog.info? 44).map (·.size) = some (cA (n + 6) (Gf.ws (strB s) n (3 * n + 28))).toList.length := by rw [cA_len]; exact Try.sizeC
    have L6 : (cA (n + 6) (Gf.ws (strB s) n (3 * n + 28))).toList.length = 769 := cA_len _ _
    have L7 : ∀ v ∈ (cA (n + 6) (Gf.ws (strB s) n (3 * n + 28))).toList, v.oneCell' = true := fun v hv => by
      obtain ⟨i, hi, rfl⟩ := List.mem_map.1 hv
      exact cf_one _ _ _ (List.mem_range.1 hi)
    have eC : cA (n + 6) (Gf.ws (strB s) n (3 * n + 28)) = (cA (n + 6) (Gf.ws (strB s) n (3 * n + 28))).toList.toArray := rfl
    rw [eC] at hbuild
    clear eC S2 O2
    have U1 := Try.underlying41
    have eA : (bv 256 Gf.sub).toArray = bA 256 Gf.sub := rfl
    generalize hCA : (cA (n + 6) (Gf.ws (strB s) n (3 * n + 28))).toList = CL at *
    have HCA : Hid ((cA (n + 6) (Gf.ws (strB s) n (3 * n + 28))).toList = CL) := hCA
    clear hCA
    generalize bA 240 (Gf.ws (strB s) n (3 * n + 28)) = KA at *
    generalize bA 256 Gf.unsub = UA at *
    generalize bA 256 Gf.sub = SA at *
    generalize bv 256 Gf.sub = SL at *
    generalize ordA = OA at *
    subst eA
    have H : NCH B w.heap.size w SL wz.drew := nc_drew ⟨R1, R2, R3, R4⟩
    clear R1 R2 R3 R4
    have q1 : IntKind.i64.wrap (n : Int) = n := IntWalk.i64_in _ ⟨by omega, by omega⟩
    have q2 : IntKind.i64.wrap ((n : Int) + 6) = n + 6 := IntWalk.i64_in _ ⟨by omega, by omega⟩
    have hbuild' : ∀ w : World, (Instr.build 44 #[(0, .int .i64 ((n : Int) + 6)), (1, .agg KA), (2, .agg SL.toArray), (3, .agg UA), (4, .agg OA)]).run Try.prog w = .ok (.agg CL.toArray) w := hbuild
    clear hbuild
    refine wp_region_noPanic ?_
    refine wp_region_held_drew (S := NCH B w.heap.size w SL) (by kernel_rfl) H (fun _ => ?_)
    refine wpAnyH_take (i := 0) (v := .string s) rfl (by kernel_rfl) (by kernel_rfl) (by kernel_rfl) (fun _ _ _ h => h) (Or.inl ⟨by rfl, ?_⟩) H ?_
    · intro w hSw; go_simp
    change wpAnyH _ _ _ _ _ _ _ { tmps := #[.string s, undef, .pointer (some ⟨w.heap.size, 0, none⟩), .pointer (some ⟨B, 0, none⟩), .agg SL.toArray, .string s, undef, undef, undef, undef, undef, undef, undef, undef, undef, undef, undef], defers := [] } _
    refine wpAnyH_take (i := 1) (v := .int .i64 ((n : Int) * 4)) rfl (by kernel_rfl) (by kernel_rfl) (by kernel_rfl) (fun _ _ _ h => h) (Or.inl ⟨by rfl, ?_⟩) H ?_
    · intro w hSw; go_simp
    change wpAnyH _ _ _ _ _ _ _ { tmps := #[.string s, undef, .pointer (some ⟨w.heap.size, 0, none⟩), .pointer (some ⟨B, 0, none⟩), .agg SL.toArray, .string s, .int .i64 ((n : Int) * 4), undef, undef, undef, undef, undef, undef, undef, undef, undef, undef], defers := [] } _
    refine wpAnyH_take (i := 2) (v := .int .i64 (n : Nat)) rfl (by kernel_rfl) (by kernel_rfl) (by kernel_rfl) (fun _ _ _ h => h) (Or.inl ⟨by rfl, ?_⟩) H ?_
    · intro w hSw; go_simp
    change wpAnyH _ _ _ _ _ _ _ { tmps := #[.string s, undef, .pointer (some ⟨w.heap.size, 0, none⟩), .pointer (some ⟨B, 0, none⟩), .agg SL.toArray, .string s, .int .i64 ((n : Int) * 4), .int .i64 (n : Nat), undef, undef, undef, undef, undef, undef, undef, undef, undef], defers := [] } _
    refine wpAnyH_take (i := 3) (v := .int .i64 ((n : Int) + 6)) rfl (by kernel_rfl) (by kernel_rfl) (by kernel_rfl) (fun _ _ _ h => h) (Or.inl ⟨by rfl, ?_⟩) H ?_
    · intro w hSw; go_simp
    change wpAnyH _ _ _ _ _ _ _ { tmps := #[.string s, undef, .pointer (some ⟨w.heap.size, 0, none⟩), .pointer (some ⟨B, 0, none⟩), .agg SL.toArray, .string s, .int .i64 ((n : Int) * 4), .int .i64 (n : Nat), .int .i64 ((n : Int) + 6), undef, undef, undef, undef, undef, undef, undef, undef], defers := [] } _
    refine wpAnyH_take (i := 4) (v := .string s) rfl (by kernel_rfl) (by kernel_rfl) (by kernel_rfl) (fun _ _ _ h => h) (Or.inl ⟨by rfl, ?_⟩) H ?_
    · intro w hSw; go_simp
    change wpAnyH _ _ _ _ _ _ _ { tmps := #[.string s, undef, .pointer (some ⟨w.heap.size, 0, none⟩), .pointer (some ⟨B, 0, none⟩), .agg SL.toArray, .string s, .int .i64 ((n : Int) * 4), .int .i64 (n : Nat), .int .i64 ((n : Int) + 6), .string s, undef, undef, undef, undef, undef, undef, undef], defers := [] } _
    refine wpAnyH_take (i := 5) (v := .agg SL.toArray) rfl (by kernel_rfl) (by kernel_rfl) (by kernel_rfl) (fun _ _ _ h => h) (yieldsIf_load_mid (by rfl) 41 (.tmp 3) rfl B 0 rfl SL _ (fun w h => NCH.range h) U1 rfl L2) H ?_
    change wpAnyH _ _ _ _ _ _ _ { tmps := #[.string s, undef, .pointer (some ⟨w.heap.size, 0, none⟩), .pointer (some ⟨B, 0, none⟩), .agg SL.toArray, .string s, .int .i64 ((n : Int) * 4), .int .i64 (n : Nat), .int .i64 ((n : Int) + 6), .string s, .agg SL.toArray, undef, undef, undef, undef, undef, undef], defers := [] } _
    refine wpAnyH_take (i := 7) (v := .agg SL.toArray) rfl (by kernel_rfl) (by kernel_rfl) (by kernel_rfl) (fun _ _ _ h => h) (yieldsIf_load_mid (by rfl) 41 (.tmp 3) rfl B 0 rfl SL _ (fun w h => NCH.range h) U1 rfl L2) H ?_
    change wpAnyH _ _ _ _ _ _ _ { tmps := #[.string s, undef, .pointer (some ⟨w.heap.size, 0, none⟩), .pointer (some ⟨B, 0, none⟩), .agg SL.toArray, .string s, .int .i64 ((n : Int) * 4), .int .i64 (n : Nat), .int .i64 ((n : Int) + 6), .string s, .agg SL.toArray, undef, .agg SL.toArray, undef, undef, undef, undef], defers := [] } _
    refine wpAnyH_take (i := 8) (v := .agg SL.toArray) rfl (by kernel_rfl) (by kernel_rfl) (by kernel_rfl) (fun _ _ _ h => h) (yieldsIf_load_mid (by rfl) 41 (.tmp 3) rfl B 0 rfl SL _ (fun w h => NCH.range h) U1 rfl L2) H ?_
    change wpAnyH _ _ _ _ _ _ _ { tmps := #[.string s, undef, .pointer (some ⟨w.heap.size, 0, none⟩), .pointer (some ⟨B, 0, none⟩), .agg SL.toArray, .string s, .int .i64 ((n : Int) * 4), .int .i64 (n : Nat), .int .i64 ((n : Int) + 6), .string s, .agg SL.toArray, undef, .agg SL.toArray, .agg SL.toArray, undef, undef, undef], defers := [] } _
    refine wpAnyH_ready (rs := [6]) (by kernel_rfl) (by simp) ?_
    refine AllReadyH.cons rfl (fun K hK => ?_) AllReadyH.nil
    go_simp
    refine (RK.out _).mono ?_
    rintro e w1 ⟨rfl, hb⟩
    replace H := NCH.below H (by omega) hb
    refine hK.out _ _ H (fun _ => ?_)
    clear hK K hb
    change wpAnyH _ _ _ _ _ _ _ { tmps := #[.string s, undef, .pointer (some ⟨w.heap.size, 0, none⟩), .pointer (some ⟨B, 0, none⟩), .agg SL.toArray, .string s, .int .i64 ((n : Int) * 4), .int .i64 (n : Nat), .int .i64 ((n : Int) + 6), .string s, .agg SL.toArray, .agg KA, .agg SL.toArray, .agg SL.toArray, undef, undef, undef], defers := [] } _
    refine wpAnyH_ready (rs := [9]) (by kernel_rfl) (by simp) ?_
    refine AllReadyH.cons rfl (fun K hK => ?_) AllReadyH.nil
    go_simp
    refine (BW.out _).mono ?_
    rintro e w1 ⟨rfl, hb⟩
    replace H := NCH.below H (by omega) hb
    refine hK.out _ _ H (fun _ => ?_)
    clear hK K hb
    change wpAnyH _ _ _ _ _ _ _ { tmps := #[.string s, undef, .pointer (some ⟨w.heap.size, 0, none⟩), .pointer (some ⟨B, 0, none⟩), .agg SL.toArray, .string s, .int .i64 ((n : Int) * 4), .int .i64 (n : Nat), .int .i64 ((n : Int) + 6), .string s, .agg SL.toArray, .agg KA, .agg SL.toArray, .agg SL.toArray, .agg UA, undef, undef], defers := [] } _
    refine wpAnyH_ready (rs := [10]) (by kernel_rfl) (by simp) ?_
    refine AllReadyH.cons rfl (fun K hK => ?_) AllReadyH.nil
    go_simp
    refine (RO.out _).mono ?_
    rintro e w1 ⟨rfl, hb⟩
    replace H := NCH.below H (by omega) hb
    refine hK.out _ _ H (fun _ => ?_)
    clear hK K hb
    change wpAnyH _ _ _ _ _ _ _ { tmps := #[.string s, undef, .pointer (some ⟨w.heap.size, 0, none⟩), .pointer (some ⟨B, 0, none⟩), .agg SL.toArray, .string s, .int .i64 ((n : Int) * 4), .int .i64 (n : Nat), .int .i64 ((n : Int) + 6), .string s, .agg SL.toArray, .agg KA, .agg SL.toArray, .agg SL.toArray, .agg UA, .agg OA, undef], defers := [] } _
    refine wpAnyH_take (i := 11) (v := .agg CL.toArray) rfl (by kernel_rfl) (by kernel_rfl) (by kernel_rfl) (fun _ _ _ h => h) (yieldsIf_build (by rfl) 44 #[(0, .tmp 8), (1, .tmp 11), (2, .tmp 12), (3, .tmp 14), (4, .tmp 15)] rfl _ (by intro w; simp only [List.map_toArray, List.map_cons, List.map_nil]; exact hbuild' w)) H ?_
    change wpAnyH _ _ _ _ _ _ _ { tmps := #[.string s, undef, .pointer (some ⟨w.heap.size, 0, none⟩), .pointer (some ⟨B, 0, none⟩), .agg SL.toArray, .string s, .int .i64 ((n : Int) * 4), .int .i64 (n : Nat), .int .i64 ((n : Int) + 6), .string s, .agg SL.toArray, .agg KA, .agg SL.toArray, .agg SL.toArray, .agg UA, .agg OA, .agg CL.toArray], defers := [] } _
    refine wpAnyH_ready (rs := [12]) (by kernel_rfl) (by simp) ?_
    refine AllReadyH.cons rfl (fun K hK => ?_) AllReadyH.nil
    rw [if_pos (by rfl)]
    refine wp_store_mid 44 (.tmp 2) (.tmp 16) rfl w.heap.size 0 CL.toArray rfl rfl (H.there L6) L5 (all_oneCell_toArray L7) ?_
    have T := H.there L6
    replace H := NCH.store H (by omega) CL
    refine hK.out _ _ H (fun _ => ?_)
    clear hK K
    refine wpAnyH_done (by kernel_rfl) ?_ _
    refine NoPanic.normal ?_
    change Exit.then _ _ Exit.normal { tmps := #[.string s, undef, .pointer (some ⟨w.heap.size, 0, none⟩), .pointer (some ⟨B, 0, none⟩), .agg SL.toArray, .string s, .int .i64 ((n : Int) * 4), .int .i64 (n : Nat), .int .i64 ((n : Int) + 6), .string s, .agg SL.toArray, .agg KA, .agg SL.toArray, .agg SL.toArray, .agg UA, .agg OA, .agg CL.toArray], defers := [] } _
    have eL : CL.toArray.toList = CL := rfl
    rw [eL] at *
    have hL : (w1.setCells w.heap.size 0 CL).rangeAt w.heap.size 0 CL := World.rangeAt_setCells_same w1 w.heap.size 0 CL T
    have Bo := H.2.2.1
    go_wp2
    rw [show cA (n + 6) (Gf.ws (strB s) n (3 * n + 28)) = CL.toArray from by rw [← HCA.out]]
    obtain ⟨fs, hu, -⟩ := structC
    have Lo : (loadVar 44 ⟨w.heap.size, 0, none⟩).run Try.prog (w1.setCells w.heap.size 0 CL) = .ok (.agg CL.toArray) (w1.setCells w.heap.size 0 CL) := run_loadVar_mid _ w.heap.size 0 44 CL _ hL hu rfl L5
    exact bodyPost_ret (v := .agg CL.toArray) (results_cell_one (b := w.heap.size) (o := 0) Try.results25 _ _ _ rfl Lo) rfl ⟨rfl, Bo⟩
end Go.Proofs.Ytbhlgcenfanicaa
