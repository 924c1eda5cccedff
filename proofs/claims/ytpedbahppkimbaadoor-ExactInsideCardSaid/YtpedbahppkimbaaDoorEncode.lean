/- wide.appendBytes. -/
import Derived.Test.YtpedbahppkimbaaDoorWords
import Derived.Test.YtpedbahppkimbaaDoorUse
import Derived.Lib.ItoaNum
import Derived.Test.YtpedbahppkimbaaDoorMath
import Derived.Test.YtpedbahppkimbaaDoorAdd
namespace Go.Proofs.YtpedbahppkimbaaDoor
open Go.RowKit Dg

theorem info_u8 : (Tryd.prog.info? 5).map (fun i => (i.zero, i.size, i.bytes)) = some (some (.int .u8 0), 1, 1) := by kernel_rfl

/-- The first j bytes of the word x. -/
structure ByInv (x j : Nat) (M : List Nat) : Prop where
  len : M.length = j
  ok : Ok 256 M
  val : bv M = x / 256 ^ (8 - j)

theorem ByInv.zero {x : Nat} (hx : x < BB) : ByInv x 0 [] := ⟨rfl, Ok.nil _, (Nat.div_eq_of_lt (show x < 256 ^ 8 from hx)).symm⟩

theorem ByInv.step {x j : Nat} {M : List Nat} (h : ByInv x j M) (hj : j < 8) : ByInv x (j + 1) (M ++ [x / 256 ^ (7 - j) % 256]) := by
  refine ⟨by simp [h.len], h.ok.snoc (Nat.mod_lt _ (by omega)), ?_⟩
  rw [bv_snoc, h.val, show 8 - j = (7 - j) + 1 by omega, show 8 - (j + 1) = 7 - j by omega, Nat.pow_succ, ← Nat.div_div_eq_div_mul]
  have := Nat.div_add_mod (x / 256 ^ (7 - j)) 256
  omega

/-- The bytes of the last k words, the highest one first. -/
structure BsInv (ws : List Nat) (k : Nat) (L : List Nat) : Prop where
  len : L.length = 8 * k
  ok : Ok 256 L
  val : bv L = dg BB (ws.drop (ws.length - k))

theorem BsInv.zero (ws : List Nat) : BsInv ws 0 [] := ⟨rfl, Ok.nil _, by simp [bv, dg]⟩

theorem BsInv.step {ws L M : List Nat} {k : Nat} (h : BsInv ws k L) (hk : k < ws.length) (hM : ByInv (ws.getD (ws.length - 1 - k) 0) 8 M) : BsInv ws (k + 1) (L ++ M) := by
  refine ⟨by rw [List.length_append, h.len, hM.len]; omega, h.ok.append hM.ok, ?_⟩
  rw [bv_append, h.val, hM.val, hM.len, dg_drop BB ws (ws.length - (k + 1)) (by omega), show ws.length - (k + 1) + 1 = ws.length - k by omega, show ws.length - (k + 1) = ws.length - 1 - k by omega]
  simp only [Nat.sub_self, Nat.pow_zero, Nat.div_one]
  rfl

theorem shr_byte (x j : Nat) (hj : j < 8) : IntKind.u8.wrap ((x : Int) / 2 ^ (56 - 8 * j)) = ((x / 256 ^ (7 - j) % 256 : Nat) : Int) := by
  have e : 2 ^ (56 - 8 * j) = 256 ^ (7 - j) := by
    rw [show 56 - 8 * j = 8 * (7 - j) by omega, Nat.pow_mul]
  have e2 : (x : Int) / 2 ^ (56 - 8 * j) = ((x / 256 ^ (7 - j) : Nat) : Int) := by
    rw [← e]; simp
  rw [e2, IntKind.wrap_u8]
  omega

set_option maxHeartbeats 2000000 in
set_option maxRecDepth 100000 in
theorem appendBytes (gm capm gw capw : Nat) (pre' post' : List Value) (ow : Nat) (ws : List Nat) (w : World) (hgg : gm ≠ gw) (hw : Ok BB ws) (hb : ws.length ≤ 1000000)
    (hM : Own w 5 .u8 gm capm []) (hW : Win w 56 .u64 gw ow pre' ws post') :
    Calls Tryd.prog 62 #[.slice (some ⟨gm, 0, none⟩) 0 capm, .slice (some ⟨gw, ow, none⟩) ws.length capw] w fun e w' => ∃ v L, e = .returned v ∧ BsInv ws ws.length L ∧ Words 5 .u8 w [gm] v L w' := by
  obtain ⟨i0, hi, hz0, hz1, hz2⟩ := info_parts info_u8
  go_enter Tryd.func62, Tryd.ntmps62
  go_wp2
  go_loopw [0, 10] (fun v i wr => ∃ (g cap k : Nat) (L : List Nat), v = .slice (some ⟨g, 0, none⟩) L.length cap ∧ i = .int .i64 k ∧ k ≤ ws.length ∧ BsInv ws k L ∧ Own wr 5 .u8 g cap L ∧ (g ∈ [gm] ∨ w.heap.size ≤ g) ∧ Tch [gm] w wr)
    (fun _ i _ => ws.length - (intOf i).toNat)
  case atStart => exact ⟨gm, capm, 0, [], rfl, rfl, Nat.zero_le _, BsInv.zero _, hM, .inl (by simp), Tch.refl _ _⟩
  case round =>
    obtain ⟨g, cap, k, L, rfl, rfl, hk, hI, hO, hg, hT⟩ := hrel
    by_cases hlt : k < ws.length
    · have hWr := hW.kept hT (by simp; exact fun h => hgg h.symm)
      obtain ⟨x, ex, cx⟩ := hWr.read (j := ws.length - 1 - k) (by omega)
      have hxb : x < BB := ex.out ▸ hw.getD (by decide) _
      have hsub : ((ws.length : Int) - 1 - (k : Int)) = ((ws.length - 1 - k : Nat) : Int) := by omega
      obtain ⟨q, hq⟩ : ∃ q, q = ws.length - 1 - k := ⟨_, rfl⟩
      rw [← hq] at cx hsub
      have hql : q < ws.length := by omega
      have HQ := Lib.hid hq
      clear hq
      clear hM hWr
      go_wp2
      obtain ⟨wo, rfl⟩ : ∃ wo : World, wo = wr := ⟨_, rfl⟩
      go_loopw [0, 7] (fun v i wr => ∃ (g cap j : Nat) (M : List Nat) (S : Int), v = .slice (some ⟨g, 0, none⟩) (L ++ M).length cap ∧ i = .int .i64 S ∧ Hid (S = 56 - 8 * (j : Int)) ∧ j ≤ 8 ∧ ByInv x j M ∧ Own wr 5 .u8 g cap (L ++ M) ∧ (g ∈ [gm] ∨ w.heap.size ≤ g) ∧ Tch [gm] w wr)
        (fun _ i _ => (intOf i + 8).toNat)
      case atStart => exact ⟨g, cap, 0, [], 56, by simp, rfl, Lib.hid (by omega), by omega, ByInv.zero hxb, by simpa using hO, hg, hT⟩
      case round =>
        clear hO hg hT
        obtain ⟨g, cap, j, M, S, rfl, rfl, hS, hj, hB, hO, hg, hT⟩ := hrel
        by_cases hj8 : j < 8
        · obtain ⟨sN, hsN⟩ : ∃ sN : Nat, sN = 56 - 8 * j := ⟨_, rfl⟩
          obtain rfl : S = (sN : Int) := by have := hS.out; omega
          obtain ⟨y, hy⟩ : ∃ y, y = x / 256 ^ (7 - j) % 256 := ⟨_, rfl⟩
          have r := shr_byte x j hj8
          rw [← hsN, ← hy] at r
          have hB2 := Lib.hid (hy ▸ hB.step hj8)
          have HSN : Hid ((sN : Int) - 8 = 56 - 8 * ((j + 1 : Nat) : Int)) := Lib.hid (by omega)
          have hs56 : sN ≤ 56 := by omega
          have hl : (L ++ M).length ≤ 10000000 := by rw [List.length_append, hI.len, hB.len]; omega
          have hna : ∀ z : Value, Own (wr.alloc (.cells #[z] 5)) 5 .u8 g cap (L ++ M) := fun z => hO.kept ((Tch.refl [] wr).alloc _) (by simp)
          have HNA := Lib.hid hna
          clear hsN hy hB hS hna hO
          go_wp2_with (at_builtin; refine wpList_app_one _ rfl _ _ 80 rfl 5 .u8 i0 Tryd.underlying80 hi hz0 hz1 (by omega) g cap (L ++ M).length (L ++ M) (HNA.out _) rfl rfl ⟨wr.heap.size, 0, none⟩ 1 y rfl (by simp) (by omega) ?_)
          intro v' w3 happ
          obtain ⟨g2, cap2, hv, hO2, hg2, hT2⟩ := happ.words hT hg ((Tch.refl [] wr).alloc _)
          subst hv
          have HO2 := Lib.hid hO2
          clear happ HNA hO2 hT
          go_wp2
          go_roundw
          case rel => exact ⟨g2, cap2, j + 1, M ++ [y], _, rfl, by first | rfl | go_num, HSN, by omega, hB2.out, HO2.out, hg2, hT2⟩
          case measure => first | (simp [intOf]; done) | (simp [intOf]; omega)
        · obtain rfl : j = 8 := by omega
          obtain rfl : S = -8 := by have := hS.out; omega
          have hI2 := Lib.hid (hI.step hlt (M := M) (by rw [← HQ.out, show (ws.getD q 0) = x from by rw [HQ.out]; exact ex.out]; exact hB))
          clear hS hB hI
          go_wp2
          go_roundw
          case rel => exact ⟨g, cap, k + 1, L ++ M, by simp, by first | rfl | go_num, by omega, hI2.out, hO, hg, hT⟩
          case measure => first | (simp [intOf]; done) | (simp [intOf]; omega)
    · obtain rfl : k = ws.length := by omega
      go_wp2
      go_ret
      exact ⟨_, L, rfl, hI, g, cap, rfl, hO, hg, hT⟩

end Go.Proofs.YtpedbahppkimbaaDoor

/- wide.encode. -/
namespace Go.Proofs.YtpedbahppkimbaaDoor
open Go.RowKit Dg

/-- The bytes of a number, without zeros in front. -/
def mo (n : Nat) : ByteArray := ⟨((digs 256 n).reverse.map UInt8.ofNat).toArray⟩

theorem sb_mo (n : Nat) : sb (mo n) = (digs 256 n).reverse := by
  have h := digs_ok (b := 256) (by omega) n
  simp only [sb, mo, List.map_reverse, List.map_map]
  congr 1
  refine List.map_congr_left ?_ |>.trans (List.map_id _)
  intro x hx
  have := h x hx
  simp [Nat.mod_eq_of_lt this]

theorem trim_of_ge {b m : Nat} {xs : List Nat} (hx : Ok b xs) (hl : xs.length = m + 1) (h : b ^ m ≤ dg b xs) : Trim xs := by
  intro hne hz
  have e := List.dropLast_concat_getLast hne
  have h5 := dg_snoc b xs.dropLast (xs.getLast hne)
  rw [e, hz, Nat.mul_zero, Nat.add_zero] at h5
  have h6 := dg_lt (b := b) (xs := xs.dropLast) (fun y hy => hx y ((List.dropLast_sublist _).subset hy))
  rw [← h5, List.length_dropLast, hl, Nat.add_sub_cancel] at h6
  omega

/-- The zero bytes in front are as many as the leading zeros of the highest word tell. -/
theorem enc_bytes {ws L : List Nat} {n top : Nat} (hw : Ok BB ws) (hl : ws.length = n + 1) (ht : ws.getD n 0 = top) (h0 : 0 < top) (h : BsInv ws ws.length L) {z : Nat} (hz : z = (64 - Lib.bitLen top) / 8) :
    (L.drop z).reverse = digs 256 (dg BB ws) ∧ z < 8 := by
  have htb : top < BB := ht ▸ hw.getD (by decide) n
  obtain ⟨b1, b2, b3⟩ := Lib.bitLenAux_bounds 64 top htb (by omega)
  have hle := Lib.bitLen_le top 64 (Nat.le_refl _) htb
  have e : Lib.bitLenAux 64 top = Lib.bitLen top := rfl
  rw [e] at b1 b2 b3
  generalize Lib.bitLen top = bl at *
  obtain ⟨a1, a2⟩ := dg_lt_top hw hl
  rw [ht] at a1 a2
  have hL := h.len
  have hv := h.val
  rw [Nat.sub_self, List.drop_zero] at hv
  rw [hl] at hL
  have hz8 : z < 8 := by omega
  have hsplit : bv L = bv (L.drop z) + 256 ^ (8 * (n + 1) - z) * bv (L.take z) := by
    conv => lhs; rw [← List.take_append_drop z L, bv_append]
    rw [List.length_drop, hL]
  have hlt : bv L < 256 ^ (8 * (n + 1) - z) := by
    rw [hv]
    refine Nat.lt_of_lt_of_le a1 ?_
    have h2 : top + 1 ≤ 256 ^ (8 - z) := by
      have : 2 ^ bl ≤ 2 ^ (8 * (8 - z)) := Nat.pow_le_pow_right (by omega) (by omega)
      rw [Nat.pow_mul] at this
      exact Nat.le_trans b3 this
    have h3 := Nat.mul_le_mul_right (BB ^ n) h2
    rw [BB_256, ← Nat.pow_add, show 8 - z + 8 * n = 8 * (n + 1) - z by omega] at h3
    rw [BB_256]; exact h3
  have hge : 256 ^ (8 * n + 7 - z) ≤ bv L := by
    rw [hv]
    refine Nat.le_trans ?_ a2
    have h2 : 256 ^ (7 - z) ≤ top := by
      refine Nat.le_trans ?_ b2
      have : 2 ^ (8 * (7 - z)) ≤ 2 ^ (bl - 1) := Nat.pow_le_pow_right (by omega) (by omega)
      rwa [Nat.pow_mul] at this
    have h3 := Nat.mul_le_mul_right (BB ^ n) h2
    rw [BB_256, ← Nat.pow_add, show 7 - z + 8 * n = 8 * n + 7 - z by omega] at h3
    rw [BB_256]; exact h3
  have h0 : bv (L.take z) = 0 := by
    rcases Nat.eq_zero_or_pos (bv (L.take z)) with h | h
    · exact h
    · have := Nat.mul_le_mul_left (256 ^ (8 * (n + 1) - z)) h
      omega
  rw [h0, Nat.mul_zero, Nat.add_zero] at hsplit
  refine ⟨?_, hz8⟩
  have hval : dg 256 (L.drop z).reverse = dg BB ws := by rw [← hv, hsplit]; rfl
  rw [← hval]
  have hok : Ok 256 (L.drop z).reverse := (h.ok.drop z).reverse
  refine (digs_dg (by omega) hok (trim_of_ge (m := 8 * n + 7 - z) hok ?_ ?_)).symm
  · rw [List.length_reverse, List.length_drop, hL]; omega
  · rw [hval, ← hv]; exact hge

def zero64 : Array Value := Array.replicate 64 (.int .u8 0)

theorem str_sb (s : ByteArray) : strOfNums ((sb s).map fun x : Nat => (x : Int)) = s := by
  simp only [strOfNums, sb, List.map_map]
  have : (s.data.toList.map ((fun n : Int => UInt8.ofNat n.toNat) ∘ (fun x : Nat => (x : Int)) ∘ UInt8.toNat)) = s.data.toList := by
    conv => rhs; rw [← List.map_id s.data.toList]
    refine List.map_congr_left ?_
    intro b _
    simp
  rw [this, Array.toArray_toList]

/-- 'string(mag[z:])'. -/
theorem conv_bytes {w : World} {g : Nat} {L : List Nat} {post : List Value} (h : Win w 5 .u8 g 0 [] L post) (z c : Nat) (hz : z ≤ L.length) :
    (convert 80 9 (.slice (some ⟨g, z, none⟩) (L.length - z) c)).run Tryd.prog w = .ok (.string (strOfNums ((L.drop z).map fun x : Nat => (x : Int)))) w := by
  refine run_convert_bytes_arg w 80 5 Tryd.underlying80 Tryd.underlying5 g z (L.length - z) c _ (by simp) ?_ 9 Tryd.underlying9
  intro i hi
  have hc := h.cell (j := z + i) (by omega)
  rw [Nat.zero_add] at hc
  rw [hc]
  congr 2
  have h1 : i < (L.drop z).length := by simp; omega
  have h2 : z + i < L.length := by omega
  simp [List.getD, List.getElem?_eq_getElem h2]

/-- A number as it is returned: its sign and its size. -/
def wv (neg : Bool) (n : Nat) : Value := if n = 0 then .agg #[.bool false, .string ⟨#[]⟩] else .agg #[.bool neg, .string (mo n)]

set_option maxHeartbeats 2000000 in
set_option maxRecDepth 100000 in
theorem encode (neg : Bool) (gw capw ow : Nat) (pre' post' : List Value) (ws : List Nat) (w : World) (hw : Ok BB ws) (hb : ws.length ≤ 1000000) (hc : ws.length ≤ capw) (hW : Win w 56 .u64 gw ow pre' ws post') :
    Calls Tryd.prog 44 #[.bool neg, .slice (some ⟨gw, ow, none⟩) ws.length capw] w fun e w' => e = .returned (wv neg (dg BB ws)) ∧ Tch [] w w' := by
  have CT := Lib.hid (fun w1 h => trim gw ow capw pre' post' ws w1 (by omega) hc h)
  go_enter Tryd.func44, Tryd.ntmps44
  go_wp2_with fail
  refine (CT.out _ (hW.kept ((Tch.refl [] w).alloc _) (by simp))).mono ?_
  rintro e w1 ⟨rfl, rfl⟩
  by_cases h0 : (cut ws).length = 0
  · have hz : dg BB ws = 0 := by
      rw [← dg_cut, List.eq_nil_of_length_eq_zero h0]; rfl
    have HZ := Lib.hid hz
    have h0' : (((cut ws).length : Int) == 0) = true := by simpa using h0
    go_wp2
    refine bodyPost_ret (v := .agg #[.bool false, .string ⟨#[]⟩]) (by simp [results, Tryd.results44, go_sem]) rfl ⟨?_, ?_⟩
    · unfold wv; rw [if_pos HZ.out]
    · exact (Tch.refl [] w).alloc _
  · obtain ⟨n, hn⟩ : ∃ n, (cut ws).length = n + 1 := ⟨(cut ws).length - 1, by omega⟩
    obtain ⟨vs, hvs⟩ : ∃ vs, vs = cut ws := ⟨_, rfl⟩
    have hvok : Ok BB vs := by rw [hvs]; exact cut_ok hw
    have hvv : dg BB vs = dg BB ws := by rw [hvs, dg_cut]
    have hvt : Trim vs := by rw [hvs]; exact cut_trim ws
    have hWv : ∃ post2, Win w 56 .u64 gw ow pre' vs post2 := by
      refine ⟨ints .u64 (ws.drop (cut ws).length) ++ post', ?_, hW.2⟩
      rw [hW.1, ← List.append_assoc (ints .u64 vs), ← ints_append, hvs]
      conv => lhs; rw [← List.take_append_drop (cut ws).length ws, ← cut_take]
    obtain ⟨post2, hWv⟩ := hWv
    rw [← hvs] at hn ⊢
    have hn1 : n + 1 ≤ ws.length := by rw [← hn, hvs]; exact cut_length_le ws
    have HN := Lib.hid hn
    have HV := Lib.hid hvv
    have HT := Lib.hid hvt
    rw [hn]
    have hne : vs.getD n 0 ≠ 0 := by
      have h := hvt (by intro h; rw [h] at hn; simp at hn)
      rw [List.getLast_eq_getElem] at h
      simp only [hn, Nat.add_sub_cancel] at h
      rw [List.getD, List.getElem?_eq_getElem (by omega)]
      exact h
    have HNE := Lib.hid hne
    clear hn hvv hvt hvs h0 hne hW CT hw
    have hmk : ∀ w, (Instr.makeSlice 80 (.int .i64 0) (.int .i64 64)).run Tryd.prog w = .ok (.slice (some ⟨w.heap.size, 0, none⟩) 0 64) (w.alloc (.cells zero64 5)) := fun _ => by kernel_rfl
    go_wp2_with fail
    obtain ⟨w0, hw0⟩ : ∃ w0, w0 = (w.alloc (.cells #[.bool false, .string ⟨#[]⟩] 36)).alloc (.cells zero64 5) := ⟨_, rfl⟩
    have hT0 : Tch [] w w0 := by rw [hw0]; exact ((Tch.refl [] w).alloc _).alloc _
    have hM0 : Own w0 5 .u8 (w.heap.size + 1) 64 [] := by
      rw [hw0]
      have h := Below.heap_alloc_new' (w.alloc (.cells #[.bool false, .string ⟨#[]⟩] 36)) (.cells zero64 5)
      rw [World.size_alloc] at h
      exact Own.of_row h (by rfl) (by decide) rfl (by simp)
    have hBk : w0.heap[w.heap.size]? = some (.cells #[.bool false, .string ⟨#[]⟩] 36 (0, 0)) := by
      rw [hw0, Below.heap_alloc _ _ _ (by simp)]; exact Below.heap_alloc_new' w _
    have hWv0 := hWv.kept hT0 (by simp)
    have hgw : gw < w.heap.size := hWv.lt
    rw [← hw0]
    clear hw0 hmk
    obtain ⟨B, hB⟩ : ∃ B, B = w.heap.size := ⟨_, rfl⟩
    rw [← hB] at hM0 hBk hgw ⊢
    have cB := appendBytes (B + 1) 64 gw capw pre' post2 ow vs w0 (by omega) hvok (by rw [HN.out]; omega) hM0 hWv0
    rw [HN.out] at cB
    refine cB.mono ?_
    rintro e w1 ⟨v, L, rfl, hL, g, cap, rfl, hO, hg, hT1⟩
    have hBlt : B < w0.heap.size := (Array.getElem?_eq_some_iff.1 hBk).1
    have hBk1 := (hT1.block B hBlt (by simp)).trans hBk
    have hWv1 := hWv0.kept hT1 (by simp; omega)
    obtain ⟨top, et, ct⟩ := hWv1.read (j := n) (by rw [HN.out]; omega)
    have htb : top < BB := et.out ▸ hvok.getD (by decide) n
    have ht0 : 0 < top := by have := HNE.out; rw [et.out] at this; omega
    have hLZ := Tryd.bits_LeadingZeros64 (top : Int) w1 (by omega) (by rw [BB_eq] at htb; omega)
    have hble := Lib.bitLen_le top 64 (Nat.le_refl _) htb
    have ez : (64 - (Lib.bitLen (top : Int).toNat : Int)) = ((64 - Lib.bitLen top : Nat) : Int) := by rw [Int.toNat_natCast]; omega
    rw [ez] at hLZ
    obtain ⟨lz, hlz⟩ : ∃ lz, lz = 64 - Lib.bitLen top := ⟨_, rfl⟩
    rw [← hlz] at hLZ
    obtain ⟨e1, e2⟩ := enc_bytes hvok HN.out et.out ht0 (by rw [HN.out]; exact hL) (z := lz / 8) (by rw [hlz])
    have hLl := hL.len
    have HLZ := Lib.hid hLZ
    have HE := Lib.hid e1
    have hcap := hO.le
    have HLl := Lib.hid hLl
    have hLg : 8 ≤ L.length := by omega
    obtain ⟨restm, hWm⟩ := hO.win
    have hconv := conv_bytes hWm (lz / 8) (cap - lz / 8) (by omega)
    have e3 : L.drop (lz / 8) = sb (mo (dg BB ws)) := by rw [sb_mo, ← HV.out, ← e1, List.reverse_reverse]
    rw [e3, str_sb] at hconv
    clear e3
    have hcz : ¬ cap = lz / 8 := by omega
    have b0 : w1.cell? ⟨B, 0, none⟩ = some (.bool false) := by rw [cell_of_row w1 B 0 _ _ _ hBk1]; rfl
    have b1 : w1.cell? ⟨B, 1, none⟩ = some (.string ⟨#[]⟩) := by rw [cell_of_row w1 B 1 _ _ _ hBk1]; rfl
    have f0 := frozen_of_row w1 B 0 _ _ hBk1
    have f1 := frozen_of_row w1 B 1 _ _ hBk1
    have hN0 : Hid (dg BB ws ≠ 0) := by
      refine Lib.hid ?_
      rw [← HV.out]
      refine dg_ne_zero (by decide) HT.out ?_
      intro h; have := HN.out; rw [h] at this; simp at this
    have HT1 : Hid (Tch [] w w1) := Lib.hid (hT0.trans hT1 (by simp; omega))
    have HBw := Lib.hid hB
    have hz8 : lz / 8 < 8 := e2
    clear ez hlz hLZ e1 hLl cB hWv0 hWv hBk hM0 hble hBk1 hWm hO e2 hT1 hT0 hL hWv1 hB
    go_wp2_with fail
    refine HLZ.out.mono ?_
    rintro e w2 ⟨rfl, hw⟩
    subst hw
    go_wp2
    refine bodyPost_ret (v := .agg #[.bool neg, .string (mo (dg BB ws))]) (by simp [results, Tryd.results44, go_sem, b0, b1]) rfl ⟨?_, ?_⟩
    · unfold wv; rw [if_neg hN0.out]
    · exact (HT1.out.setCell (.inr (by have := HBw.out; simp; omega)) _).setCell (.inr (by have := HBw.out; simp; omega)) _

end Go.Proofs.YtpedbahppkimbaaDoor
