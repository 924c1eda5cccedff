/- Short vectors are exact: the differences, the products. -/
import Derived.Test.YtpedbahppkimbaaDoorVecC
namespace Go.Proofs.YtpedbahppkimbaaDoor
open Go Go.RowKit Dg

/-- The vector from a to b. -/
def difI (a b : P3) : P3 := ⟨b.x - a.x, b.y - a.y, b.z - a.z⟩
/-- Six times the volume of a tetrahedron, with its sign. -/
def detI (a b c d : P3) : Int := dotI (crsI (difI a b) (difI a c)) (difI a d)

structure P3.Short (p : P3) : Prop where
  x : -1073741824 < p.x ∧ p.x < 1073741824
  y : -1073741824 < p.y ∧ p.y < 1073741824
  z : -1073741824 < p.z ∧ p.z < 1073741824
structure P3.Mid (p : P3) : Prop where
  x : -2305843009213693952 < p.x ∧ p.x < 2305843009213693952
  y : -2305843009213693952 < p.y ∧ p.y < 2305843009213693952
  z : -2305843009213693952 < p.z ∧ p.z < 2305843009213693952

theorem wrap64_in {x : Int} (h : -9223372036854775808 ≤ x ∧ x ≤ 9223372036854775807) : wrap64 x = x := by
  rw [← IntWalk.i64_left, IntKind.wrap_i64]; omega

theorem mids_short {a b : Int} (ha : I64 a) (hb : I64 b) (h : um (mids a b) < 536870912) : (-1073741824 < b - a ∧ b - a < 1073741824) ∧ wrap64 (b - a) = b - a := by
  have h' : um (IntKind.i64.wrap (IntKind.i64.wrap (b / 2 - a / 2) + 268435456)) < 536870912 := by rw [IntWalk.i64_left, IntWalk.i64_left]; exact h
  have s := short_diff ha hb h'
  exact ⟨⟨s.1, s.2.1⟩, by rw [← IntWalk.i64_left]; exact s.2.2⟩

theorem shrt_dif {a b : P3} (ha : a.Ok) (hb : b.Ok) (h : shrt a b = true) : dif a b = difI a b ∧ (difI a b).Short := by
  unfold shrt at h
  rw [decide_eq_true_eq, um_wrap] at h
  obtain ⟨h1, h2, h3⟩ := or3_lt (by omega : um (bits .or .i64 (bits .or .i64 (mids a.x b.x) (mids a.y b.y)) (mids a.z b.z)) < 536870912)
  have s1 := mids_short ha.x hb.x h1
  have s2 := mids_short ha.y hb.y h2
  have s3 := mids_short ha.z hb.z h3
  exact ⟨by unfold dif difI; rw [s1.2, s2.2, s3.2], ⟨s1.1, s2.1, s3.1⟩⟩

theorem prod_in {a b c d : Int} (ha : -1073741824 < a ∧ a < 1073741824) (hb : -1073741824 < b ∧ b < 1073741824) (hc : -1073741824 < c ∧ c < 1073741824) (hd : -1073741824 < d ∧ d < 1073741824) :
    wrap64 (wrap64 (a * b) - wrap64 (c * d)) = a * b - c * d := by
  have h1 := mul_bd30 ha hb
  have h2 := mul_bd30 hc hd
  rw [wrap64_in (x := a * b) (by omega), wrap64_in (x := c * d) (by omega), wrap64_in (by omega)]

theorem crs_crsI {v u : P3} (hv : v.Short) (hu : u.Short) : crs v u = crsI v u ∧ (crsI v u).Mid := by
  refine ⟨?_, ⟨crs_bd hv.y hu.z hv.z hu.y, crs_bd hv.z hu.x hv.x hu.z, crs_bd hv.x hu.y hv.y hu.x⟩⟩
  unfold crs crsI
  rw [prod_in hv.y hu.z hv.z hu.y, prod_in hv.z hu.x hv.x hu.z, prod_in hv.x hu.y hv.y hu.x]

theorem P3.Short.mid {p : P3} (h : p.Short) : p.Mid := ⟨by have := h.x; omega, by have := h.y; omega, by have := h.z; omega⟩
theorem P3.Mid.ok {p : P3} (h : p.Mid) : p.Ok := ⟨by have := h.x; unfold I64; omega, by have := h.y; unfold I64; omega, by have := h.z; unfold I64; omega⟩
theorem dot_bd {v u : P3} (hv : v.Mid) (hu : u.Mid) : -170141183460469231731687303715884105728 ≤ v.x * u.x + v.y * u.y + v.z * u.z ∧ v.x * u.x + v.y * u.y + v.z * u.z < 170141183460469231731687303715884105728 := by
  have h1 := mul_bd61 hv.x hu.x
  have h2 := mul_bd61 hv.y hu.y
  have h3 := mul_bd61 hv.z hu.z
  omega

theorem difI_sm {a b : P3} (ha : a.Ok) (hb : b.Ok) : (difI a b).Sm 65 :=
  ⟨(Sm.i64 hb.x.1 hb.x.2).sub (Sm.i64 ha.x.1 ha.x.2), (Sm.i64 hb.y.1 hb.y.2).sub (Sm.i64 ha.y.1 ha.y.2), (Sm.i64 hb.z.1 hb.z.2).sub (Sm.i64 ha.z.1 ha.z.2)⟩
theorem crsI_sm {v u : P3} {k : Nat} (hv : v.Sm k) (hu : u.Sm k) : (crsI v u).Sm (k + k + 1) :=
  ⟨(hv.y.mul hu.z).sub (hv.z.mul hu.y), (hv.z.mul hu.x).sub (hv.x.mul hu.z), (hv.x.mul hu.y).sub (hv.y.mul hu.x)⟩
theorem P3.Sm.mono {k l : Nat} {p : P3} (h : p.Sm k) (hl : k ≤ l) : p.Sm l := ⟨Go.Proofs.YtpedbahppkimbaaDoor.Sm.mono h.x hl, Go.Proofs.YtpedbahppkimbaaDoor.Sm.mono h.y hl, Go.Proofs.YtpedbahppkimbaaDoor.Sm.mono h.z hl⟩
theorem dotI_sm {v u : P3} {k l : Nat} (hv : v.Sm k) (hu : u.Sm l) : Sm (k + l + 2) (dotI v u) :=
  ((hv.x.mul hu.x).add (hv.y.mul hu.y)).add ((hv.z.mul hu.z).mono (by omega))

end Go.Proofs.YtpedbahppkimbaaDoor
