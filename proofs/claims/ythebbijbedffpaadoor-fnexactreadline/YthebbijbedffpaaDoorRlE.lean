/-
  What the condition on the library's tables and errors gives the walks.
-/
import Derived.Test.YthebbijbedffpaaDoorRlT
import Derived.LaidSub
import Derived.Lay
import Derived.LaidLaws
import Derived.Stop.Joined
namespace Go.Proofs.YthebbijbedffpaaDoor
open Go.ChangeShapes Go.WideShapes Go.ChangeAt Go.RowKit
def laidRl : List (String × DataW Unit) := [("math/bits.deBruijn32tab", Rows.laid_math_bits_deBruijn32tab), ("math/bits.deBruijn64tab", Rows.laid_math_bits_deBruijn64tab), ("internal/strconv.uint64pow10", Rows.laid_internal_strconv_uint64pow10), ("unicode/utf8.acceptRanges", Rows.laid_unicode_utf8_acceptRanges), ("strconv.ErrRange", Rows.laid_strconv_ErrRange), ("strconv.ErrSyntax", Rows.laid_strconv_ErrSyntax), ("unicode/utf8.first", Rows.laid_unicode_utf8_first)]
theorem doorRl (os : Os) (args : Array Value) : laidMetH Tryd.prog laidRl ((World.laidAll Tryd.prog os laidRl).forCall (fun _ _ => 0) ⟨#[], args, []⟩).memory := by
  rw [MakeChecks.laidMetH_plain _ _ _ (by kernel_rfl)]
  exact laidMet_laidAll _ (by kernel_rfl) (by kernel_rfl)
theorem errRowRl (u : TypeId) (h : Tryd.prog.typeName? 3 u = some "*errors.errorString") : u = 111 :=
  typeName_ptr_named (nm := "errors.errorString") (by rw [show "*" ++ "errors.errorString" = "*errors.errorString" from by decide]; kernel_rfl) (by kernel_rfl) (by decide) u (by rw [show "*" ++ "errors.errorString" = "*errors.errorString" from by decide]; exact h)
theorem laid_one {W : World} (n : String) (x : DataW Unit) (hx : laidRl.filter (fun y => y.1 == n) = [(n, x)]) (h : laidMetH Tryd.prog laidRl W) : laidMet Tryd.prog [(n, x)] W := by
  rw [MakeChecks.laidMetH_plain _ _ _ (by kernel_rfl)] at h
  have h1 := h.filter (fun y => y.1 == n)
  rwa [hx] at h1
set_option maxRecDepth 100000 in
theorem err_cell {W : World} {n : String} {text : List UInt8} {g : Nat} (hg : Tryd.prog.globalNamed n = some g) (ht : (Tryd.prog.globals[g]?).map (·.type) = some 59) (h : laidMet Tryd.prog [(n, .iface "*errors.errorString" (.ptr (.agg [.lit (.string text)])))] W) : ∃ t p, W.cell? ⟨g, 0, none⟩ = some (.iface t p) := by
  obtain ⟨ps, ⟨g0, t0, cs0, f0, p0, q0, hg0, ht0, hv0, hd0, hq0, e0⟩, hnd, hrows⟩ := h
  obtain rfl := Option.some.inj (hg.symm.trans hg0)
  obtain rfl := Option.some.inj (ht.symm.trans ht0)
  have hq0' : q0 = [] := hq0
  subst hq0'
  subst e0
  obtain ⟨l2⟩ := cs0
  have ok2 : ∀ u v, l2 = [.iface u v] → Value.okWide Tryd.prog W .any 0 u v := fun u v e => by
    subst e
    exact (hrows g 0 (by simp [MemPlace.row])).2 u v (by simpa using World.var?_cell hg hv0 0)
  obtain ⟨a2, s2, rfl, hc2, hs2, hz2, rfl⟩ := errorString_of_trod Tryd.underlying59 errRowRl Tryd.underlying111 Tryd.underlying113 rfl rfl Tryd.underlying9 (by kernel_rfl) (by kernel_rfl) hd0 ok2
  exact ⟨_, _, by simpa using World.var?_cell hg hv0 0⟩
theorem cellLt {w : World} {g : Nat} {v : Value} (h : w.cell? ⟨g, 0, none⟩ = some v) : g < w.heap.size := by
  rcases Nat.lt_or_ge g w.heap.size with z | z
  · exact z
  · simp [World.cell?, Array.getElem?_eq_none z] at h
theorem envN_of_laid {W : World} (h : laidMetH Tryd.prog laidRl W) : EnvN W.heap.size W := by
  have h1 := laid_one "internal/strconv.uint64pow10" Rows.laid_internal_strconv_uint64pow10 (by kernel_rfl) h
  have h2 := err_cell (g := 1) (by kernel_rfl) (by kernel_rfl) (laid_one "strconv.ErrSyntax" Rows.laid_strconv_ErrSyntax (by kernel_rfl) h)
  have h3 := err_cell (g := 2) (by kernel_rfl) (by kernel_rfl) (laid_one "strconv.ErrRange" Rows.laid_strconv_ErrRange (by kernel_rfl) h)
  refine ⟨Lib.tabBelow_of_tabIs (Lib.tabIs_of_head (rest := []) (g := 5) (t := 115) (e := 89) (n := 20) (by kernel_rfl) (by kernel_rfl) Tryd.underlying115 Tryd.underlying89 (by kernel_rfl) (by kernel_rfl) h1), h2, h3, ?_, ?_⟩
  · obtain ⟨t, p, h2⟩ := h2; exact cellLt h2
  · obtain ⟨t, p, h3⟩ := h3; exact cellLt h3
end Go.Proofs.YthebbijbedffpaaDoor
