/-
  The law of reading: what is put, one behind the other, is read so, and nothing is left.
-/
import Derived.Test.YtggonealcpbonaaAwake
import Derived.Test.YtggonealcpbonaaText
import Derived.Test.YtggonealcpbonaaHash
import Derived.Test.YtggonealcpbonaaPuts
import Derived.Deep.RegionHeld3
namespace Go.Proofs.Ytggonealcpbonaa
open Go.RowKit

set_option maxRecDepth 100000 in
set_option maxHeartbeats 3200000 in
theorem back_any (v : Value) (ps : List PutD) (w : World) (hv : Puts w v ps) : Calls Try.prog 5 #[v] w fun e w' => e = .returned (.bool true) ∧ Below w.heap.size w w' := by
  obtain ⟨i0, hi, hz0, hz1, hz2⟩ := info_parts info_u8
  obtain ⟨A, c, rfl, hlc, hcm, hps⟩ := hv
  unfold maxLen at hcm
  by_cases hlong : 20 < ps.length
  · go_enter Try.func5, Try.ntmps5
    go_wp2_with fail
    refine (awake_any w).mono ?_
    rintro e w' ⟨rfl, hb⟩
    go_wp2_with fail
    go_ret
    exact ⟨rfl, hb⟩
  · obtain ⟨K, HK⟩ : ∃ K : Nat, Hid (ps.length = K) := ⟨_, rfl⟩
    have hK : K ≤ 20 := by rw [← HK.out]; omega
    rw [HK.out] at hlc ⊢
    go_enter Try.func5, Try.ntmps5
    go_wp2_with fail
    have hb0 : Below w.heap.size w (w.alloc (.cells #[] 5)) := (Below.refl _ _).alloc (Nat.le_refl _) _
    have ho0 : Own w.heap.size (w.alloc (.cells #[] 5)) (.slice (some ⟨w.heap.size, 0, none⟩) 0 0) [] := World.ownsRow_made w #[] 0 (Nat.le_refl _) (Nat.zero_le _) rfl
    go_loopw [3, 4] (fun sv si wr => ∃ i : Nat, i ≤ K ∧ si = .int .i64 i ∧ Own w.heap.size wr sv (encs (ps.take i)) ∧ (encs (ps.take i)).length ≤ 400 * i ∧ Hid (∀ j (h : j < ps.length), j < i → ps[j].t.length ≤ 300) ∧ Below w.heap.size w wr) (fun _ si _ => K - (intOf si).toNat)
    case atStart => exact ⟨0, Nat.zero_le _, rfl, by simpa [encs] using ho0, by simp [encs], hid (fun j _ h => absurd h (by omega)), hb0⟩
    case round =>
      obtain ⟨i, hik, rfl, hown, hlen, HT, hbw⟩ := hrel
      by_cases hlt : i < K
      · have hil : i < ps.length := by rw [HK.out]; exact hlt
        obtain ⟨b, off, rfl, hblt, hcells⟩ := hps (by omega)
        obtain ⟨hok, hran⟩ := hcells i hil
        obtain ⟨k0, k1, k2⟩ := PutD.at_ (range_below hran hbw hblt)
        have hvt := hok.v.below hbw
        have hn := hok.n
        have hh := hok.h
        have hes := encs_succ ps i hil
        obtain ⟨d, HD⟩ : ∃ d : PutD, Hid (ps[i] = d) := ⟨ps[i], hid rfl⟩
        rw [HD.out] at hok k0 k1 k2 hvt hn hh hes
        have HES := hid hes
        clear hes hcells hran hok
        obtain ⟨T, tc, et⟩ := hvt.shape
        rw [et] at k1 hvt
        have hsz : off + i * 34 + 1 = off + i * 34 + 1 := rfl
        have hiK : (i : Int) < (K : Int) := by omega
        by_cases hlong2 : 300 < d.t.length
        · clear k2
          go_wp2_with fail
          refine (awake_any wr).mono ?_
          rintro e w' ⟨rfl, hba⟩
          go_wp2_with fail
          go_ret
          exact ⟨rfl, hbw.trans (hba.mono hbw.size)⟩
        · have htl : ¬ (300 : Int) < (d.t.length : Int) := by omega
          have hbs := hbw.size
          have hu := under_hash
          have hsz : (Try.prog.info? 25).map (·.size) = some (bcells d.h).length := by rw [size_hash, bcells_length, hh]
          have hblt' : b < wr.heap.size := by omega
          have hlen' : (encs (ps.take i)).length ≤ 1099511000000 := by omega
          have hd1 := dg_len10 hn
          have htx := tx_len d.t
          have hd2 := dg_len10 (n := d.t.length) (by omega)
          have hby : Byt wr u3 (encs (ps.take i)) := hown.byt
          clear hps hlong2 htx
          go_wp2_with fail
          go_region_held3 (fun w' => w'.cell? ⟨b, off + i * 34, none⟩ = some (.int .u64 (d.n : Int)) ∧ w'.cell? ⟨b, off + i * 34 + 1, none⟩ = some (.slice T d.t.length tc) ∧ w'.rangeAt b (off + i * 34 + 2) (bcells d.h) ∧ Byt w' (.slice T d.t.length tc) d.t)
            (first
              | (refine ⟨k0, k1, k2, hvt⟩)
              | (refine ⟨(hB5.cell (p := ⟨b, off + i * 34, none⟩) hblt').trans k0, (hB5.cell (p := ⟨b, off + i * 34 + 1, none⟩) hblt').trans k1, range_below k2 hB5 hblt', hvt.below hB5⟩)
              | (refine ⟨(hB4.cell (p := ⟨b, off + i * 34, none⟩) hblt').trans k0, (hB4.cell (p := ⟨b, off + i * 34 + 1, none⟩) hblt').trans k1, range_below k2 hB4 hblt', hvt.below hB4⟩)
              | (refine ⟨(hB3.cell (p := ⟨b, off + i * 34, none⟩) hblt').trans k0, (hB3.cell (p := ⟨b, off + i * 34 + 1, none⟩) hblt').trans k1, range_below k2 hB3 hblt', hvt.below hB3⟩))
            (first
              | (go_at_call 10; refine (num_any _ _ _ _ (hby.drewN 1) (by omega) (by omega) (by omega)).mono ?_; rintro e w3 ⟨v3, rfl, hown3, hb3⟩; have hB3 : Below wr.heap.size wr w3 := (Below.drew (Below.refl _ wr)).trans hb3)
              | (go_at_call 9; refine (text_any _ _ _ _ _ hown3.byt (hvt.below hB3) (by simp; omega) (by omega)).mono ?_; rintro e w4 ⟨v4, rfl, hown4, hb4⟩; have hB4 : Below wr.heap.size wr w4 := hB3.trans (hb4.mono hB3.size))
              | (go_at_call 8; refine (hash_any _ _ d.h _ hown4.byt (by simp [tx]; omega) hh).mono ?_; rintro e w5 ⟨v5, rfl, hown5, hb5⟩; have hB5 : Below wr.heap.size wr w5 := hB4.trans (hb5.mono hB4.size)))
          have hnew : (encs (ps.take i) ++ dg (d.n : Int).toNat ++ tx d.t ++ d.h) = encs (ps.take (i + 1)) := by rw [HES.out, Int.toNat_natCast]; simp [PutD.enc]
          have hnl : (encs (ps.take (i + 1))).length ≤ 400 * (i + 1) := by
            rw [HES.out, List.length_append]
            have := enc_len hn hh (by omega)
            omega
          have HT2 : Hid (∀ j (h : j < ps.length), j < i + 1 → ps[j].t.length ≤ 300) := hid (fun j h hj => by
            by_cases hji : j < i
            · exact HT.out j h hji
            · obtain rfl : j = i := by omega
              have := HD.out
              rw [this]
              omega)
          rw [hnew] at hown5
          have hown6 : Own w.heap.size w5 v5 (encs (ps.take (i + 1))) := hown5.more (by have := hB4.size; omega)
          have hbw5 : Below w.heap.size w w5 := hbw.trans (hB5.mono hbw.size)
          clear hnew hown5 hB3 hB4 hB5 hb3 hb4 hb5 hown3 hown4 hby k0 k1 k2 hvt
          go_wp2_with fail
          go_roundw
          case rel => exact ⟨i + 1, by omega, by go_num, hown6, hnl, HT2, hbw5⟩
          case measure => simp [intOf]; omega
      · obtain rfl : i = K := by omega
        have hall : ps.take i = ps := by rw [← HK.out, List.take_length]
        rw [hall] at hown hlen
        clear hall
        go_wp2_with fail
        refine (read_any _ _ wr hown.byt (by omega)).mono ?_
        rintro e w6 ⟨g, rfl, hg, hrd, hb6⟩
        have hbs := hbw.size
        have hgw : w.heap.size ≤ g := by omega
        have hbw6 : Below w.heap.size w w6 := hbw.trans (hb6.mono hbw.size)
        have HL := hid hlen
        clear hb6 hg hown hbw hbs hlen
        go_wp2
        go_loopw [6] (fun si wq => ∃ q : Nat, q ≤ i ∧ si = .int .i64 q ∧ Rdr wq g (encs ps) (encs (ps.take q)).length true ∧ Below w.heap.size w wq) (fun si _ => i - (intOf si).toNat)
        case atStart => exact ⟨0, Nat.zero_le _, rfl, by simpa [encs] using hrd, hbw6⟩
        case round =>
          obtain ⟨q, hqi, rfl, hr, hbq⟩ := hrel
          by_cases hlt : q < i
          · have hil : q < ps.length := by rw [HK.out]; exact hlt
            obtain ⟨b, off, rfl, hblt, hcells⟩ := hps (by omega)
            obtain ⟨hok, hran⟩ := hcells q hil
            have htl := HT.out q hil (by omega)
            have hdrop := encs_drop ps q hil
            have hes := encs_succ ps q hil
            have hvt0 := hok.v
            have hn := hok.n
            have hh := hok.h
            obtain ⟨d, HD⟩ : ∃ d : PutD, Hid (ps[q] = d) := ⟨ps[q], hid rfl⟩
            rw [HD.out] at hran hvt0 hn hh htl hdrop hes
            obtain ⟨P0, HP0⟩ : ∃ P0 : Nat, Hid ((encs (ps.take q)).length = P0) := ⟨_, hid rfl⟩
            rw [HP0.out] at hr hdrop
            have e1 : (encs ps).drop P0 = dg d.n ++ (tx d.t ++ (d.h ++ encs (ps.drop (q + 1)))) := by rw [hdrop]; simp [PutD.enc]
            have e2 := drop_more e1
            have e3 := drop_more e2
            have R1 := hid (rdNum_at e1 hn)
            have R2 := hid (rdText_at e2 (by omega))
            have R3 := hid (rdHash_at e3 hh)
            have hend : P0 + (dg d.n).length + (tx d.t).length + 32 = (encs (ps.take (q + 1))).length := by
              rw [hes, List.length_append, HP0.out]
              simp [PutD.enc, hh]
              omega
            have HE := hid hend
            have hLl : (encs ps).length ≤ 1099511627776 := by have := HL.out; omega
            clear e1 e2 e3 hdrop hes hend hcells hok
            obtain ⟨T, tc, et⟩ := hvt0.shape
            obtain ⟨K0, K1, K2⟩ := PutD.at_ hran
            rw [et] at K1 hvt0
            have Z0 := hid K0
            have Z1 := hid K1
            have Z2 := hid K2
            clear et hran hps K0 K1 K2
            have hiK : (q : Int) < (i : Int) := by omega
            have hnn : ((d.n : Int) != (d.n : Int)) = false := by simp
            have hu := under_hash
            have hsz : (Try.prog.info? 25).map (·.size) = some (bcells d.h).length := by rw [size_hash, bcells_length, hh]
            have hbq2 := hbq.size
            have heq : ∀ w' : World, (Op.equalIn 10000 25 (.agg (hcells d.h)) (.agg (bcells d.h).toArray)).run Try.prog w' = .ok true w' := fun w' => by
              have := eq_hash d.h d.h hh hh w'
              rw [decide_eq_true rfl] at this
              exact this
            have hbq1 : Below w.heap.size w wr.drew := hbq.drew
            go_wp2_with fail
            go_region_held3 (fun w' => w'.cell? ⟨b, off + q * 34, none⟩ = some (.int .u64 (d.n : Int)) ∧ w'.cell? ⟨b, off + q * 34 + 1, none⟩ = some (.slice T d.t.length tc) ∧ w'.rangeAt b (off + q * 34 + 2) (bcells d.h) ∧ Byt w' (.slice T d.t.length tc) d.t)
              (first
                | (refine ⟨(hbq1.cell (p := ⟨b, off + q * 34, none⟩) hblt).trans Z0.out, (hbq1.cell (p := ⟨b, off + q * 34 + 1, none⟩) hblt).trans Z1.out, range_below Z2.out hbq1 hblt, hvt0.below hbq1⟩)
                | (refine ⟨(hb6'.cell (p := ⟨b, off + q * 34, none⟩) hblt).trans Z0.out, (hb6'.cell (p := ⟨b, off + q * 34 + 1, none⟩) hblt).trans Z1.out, range_below Z2.out hb6' hblt, hvt0.below hb6'⟩)
                | (refine ⟨(hb5.cell (p := ⟨b, off + q * 34, none⟩) hblt).trans Z0.out, (hb5.cell (p := ⟨b, off + q * 34 + 1, none⟩) hblt).trans Z1.out, range_below Z2.out hb5 hblt, hvt0.below hb5⟩)
                | (refine ⟨(hb4.cell (p := ⟨b, off + q * 34, none⟩) hblt).trans Z0.out, (hb4.cell (p := ⟨b, off + q * 34 + 1, none⟩) hblt).trans Z1.out, range_below Z2.out hb4 hblt, hvt0.below hb4⟩)
                | (refine ⟨(hb3.cell (p := ⟨b, off + q * 34, none⟩) hblt).trans Z0.out, (hb3.cell (p := ⟨b, off + q * 34 + 1, none⟩) hblt).trans Z1.out, range_below Z2.out hb3 hblt, hvt0.below hb3⟩)
                | fail)
              (first
                | (go_at_call 15; have C := rnum_any g (encs ps) P0 true _ (hr.drewN 1) hLl; rw [R1.out] at C; refine C.mono ?_; clear C; rintro e w3 ⟨rfl, hr3, hg3⟩; have hb3 : Below w.heap.size w w3 := (below_drewN hbq 1).grown hg3 hbq2 (fun k hk => by injection hk; omega))
                | (go_at_call 17; have C := rtext_any g (encs ps) _ true _ hr3 hLl; rw [R2.out] at C; refine C.mono ?_; clear C; rintro e w4 ⟨v4, rfl, hown4, hr4, hg4⟩; have hb4 : Below w.heap.size w w4 := hb3.grown hg4 hb3.size (fun k hk => by injection hk; omega))
                | (go_at_call 11; refine (same_yes _ _ d.t _ hown4.byt (hvt0.below hb4)).mono ?_; rintro e w' ⟨rfl, n5, rfl⟩; have hb5 : Below w.heap.size w (w4.drewN n5) := below_drewN hb4 n5)
                | (go_at_call 19; have C := rhash_any g (encs ps) _ true _ (hr4.drewN n5) hLl; rw [R3.out] at C; refine C.mono ?_; clear C; rintro e w6 ⟨rfl, hr6, hg6⟩; have hb6' : Below w.heap.size w w6 := hb5.grown hg6 hb5.size (fun k hk => by injection hk; omega)))
            have hr7 : Rdr w6 g (encs ps) (encs (ps.take (q + 1))).length true := by
              rw [← HE.out]
              exact hr6
            clear hb3 hb4 hb5 hr3 hr4 hr6 hg3 hg4 hg6 hown4 heq hbq1 hnn
            go_wp2_with fail
            go_roundw
            case rel => exact ⟨q + 1, by omega, by go_num, hr7, hb6'⟩
            case measure => simp [intOf]; omega
          · obtain rfl : q = i := by omega
            have hall : ps.take q = ps := by rw [← HK.out, List.take_length]
            rw [hall] at hr
            clear hall
            go_wp2_with fail
            have C := done_any g (encs ps) _ true _ hr (by have := HL.out; omega)
            rw [show (true && decide ((encs ps).length = (encs ps).length)) = true from by simp] at C
            refine C.mono ?_
            clear C
            rintro e w' ⟨rfl, n7, rfl⟩
            go_wp2_with fail
            refine (awake_any _).mono ?_
            rintro e w' ⟨rfl, hba⟩
            go_wp2_with fail
            go_ret
            exact ⟨rfl, (below_drewN hbq n7).trans (hba.mono hbq.size)⟩
end Go.Proofs.Ytggonealcpbonaa
