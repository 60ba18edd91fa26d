/-
 tithingref11.Get: the message whose bytes they are. Printed with genmget.py.
-/
import Derived.Test.YtjemfmbmlmogcaaGreatBs26
import Derived.Test.YtjemfmbmlmogcaaGreatMgRd
namespace Go.Proofs.YtjemfmbmlmogcaaGreat
set_option maxRecDepth 20000
open Go.RowKit
attribute [local go_sem ↓] exec_load_mg exec_alloc_mg exec_store_mg exec_build_mg
set_option maxHeartbeats 25600000 in
theorem refGet11_any (v : Value) (l : List UInt8) (w : World) (hv : Byt w v l) (hl : l.length ≤ 1000000) :
  Calls Tryz.prog 15 #[v] w (GmPost l w) := by
 obtain ⟨A, c, rfl⟩ := hv.shape
 have HH := hid (fun p r (hp : p ≤ l.length) (w' : World) (hb : Below w.heap.size w w') => refHash_any A c p r l w' (hv.below hb) hp (by omega))
 have HU := hid (fun p r (hp : p ≤ l.length) m (h1 : -9223372036854775808 ≤ m) (h2 : m ≤ 9223372036854775807) (w' : World) (hb : Below w.heap.size w w') => refUpto_any A c p r l m w' (hv.below hb) hp (by omega) h1 h2)
 have HT := hid (fun p r (hp : p ≤ l.length) (w' : World) (hb : Below w.heap.size w w') => refText_any A c p r l w' (hv.below hb) hp (by omega))
 have HR8 := hid (fun p r (hp : p ≤ l.length) (w' : World) (hb : Below w.heap.size w w') => refRead8_any A c p r l w' (hv.below hb) hp hl)
 have HR9 := hid (fun p r (hp : p ≤ l.length) (w' : World) (hb : Below w.heap.size w w') => refRead9_post A c p r l w' (hv.below hb) hp hl)
 have HR10 := hid (fun p r (hp : p ≤ l.length) (w' : World) (hb : Below w.heap.size w w') => refRead10_post A c p r l w' (hv.below hb) hp hl)
 have HR6 := hid (fun p r (hp : p ≤ l.length) (w' : World) (hb : Below w.heap.size w w') => refTx_any A c p r l w' (hv.below hb) hp hl)
 have HV := hid (fun W (h : Below w.heap.size w W) => hv.below h)
 obtain ⟨Z, HZ⟩ : ∃ C : Array Value, Hid (mgc mgZ (.slice none 0 0) (.slice none 0 0) (.slice none 0 0) = C) := ⟨_, hid rfl⟩
 have hbz : ∀ W, buildMg W = .ok (.value (.agg Z)) W := fun W => by rw [← HZ.out]; exact buildMg_eq W
 have hal : ∀ W, allocMg W = .ok (.value (.pointer (some ⟨W.heap.size, 0, none⟩))) (W.alloc (.cells Z 38)) := fun W => by rw [← HZ.out]; exact allocMg_eq W
 have HSZ : Hid (Z.size = 349) := hid (by rw [← HZ.out]; exact mgc_size _ _ _ mgZ_ok)
 have HZ1 : Hid (Z.all (·.oneCell') = true) := hid (by rw [← HZ.out]; exact mgc_one (w := w) (m := mgZ) (Els.nil w) (Els.nil w) (Txs.nil w))
 have hsv : storeMg (.pointer (some ⟨w.heap.size + 1, 0, none⟩)) (.agg Z) ((w.alloc (.cells Z 38)).alloc (.cells Z 38)) = .ok .skip ((w.alloc (.cells Z 38)).alloc (.cells Z 38)) := by
  have := mg_var (w.alloc (.cells Z 38)) HSZ.out HSZ.out HZ1.out
  rwa [show (w.alloc (.cells Z 38)).heap.size = w.heap.size + 1 from by simp] at this
 have hst0 := GmSt.new w (.slice A l.length c) (.int .i64 0) (.bool false) Z HZ.out
 have hsz1 : (w.alloc (.cells Z 38)).heap.size = w.heap.size + 1 := by simp
 obtain ⟨LN, HLN⟩ : ∃ n : Nat, Hid (l.length = n) := ⟨_, hid rfl⟩
 have HBZ := hid hbz
 clear hv hl hbz
 go_enter Tryz.func15, Tryz.ntmps15
 have hbz := HBZ.out
 go_upto_region 3 with (fail)
 generalize (((w.alloc (.cells Z 38)).alloc (.cells Z 38)).alloc (.cells #[.slice A l.length c, .int .i64 0, .bool false] 83)) = w0 at *
 clear hbz hal hsv hsz1
 have hp : 0 ≤ l.length := Nat.zero_le _
 obtain ⟨⟨c0, c1, c2⟩, ⟨k0, k1, k2⟩, g1, g2⟩ := hst0.cells
 have HST := hid hst0
 clear hst0
 obtain ⟨a1, p1, r1, HA1⟩ : ∃ x q s, Hid (rdUpto 10 l 0 true = (x, q, s)) := ⟨_, _, _, hid rfl⟩
 have hp1 : p1 ≤ l.length := by have := rdUpto_pl (m := 10) (r := true) hp; rw [HA1.out] at this; exact this
 have C := HU.out 0 true hp 10 (by omega) (by omega) _ (HST.out).bel
 rw [HA1.out] at C
 go_wp2_with fail
 refine C.mono ?_
 clear C
 rintro e w1 ⟨rfl, hb⟩
 have hst := (HST.out).below hb
 clear hb HST c0 c1 c2 k0 k1 k2 g1 g2
 obtain ⟨⟨c0, c1, c2⟩, ⟨k0, k1, k2⟩, g1, g2⟩ := hst.cells
 have HST := hid hst
 clear hst
 unfold rv
 obtain ⟨a2, p2, r2, HA2⟩ : ∃ x q s, Hid (rdUpto 21 l p1 r1 = (x, q, s)) := ⟨_, _, _, hid rfl⟩
 have hp2 : p2 ≤ l.length := by have := rdUpto_pl (m := 21) (r := r1) hp1; rw [HA2.out] at this; exact this
 have C := HU.out p1 r1 hp1 21 (by omega) (by omega) _ (((HST.out.put (.slice A l.length c) (.int .i64 (p1 : Int)) (.bool (!r1))).cell (n := { mgZ with ki := (a1 : Int) }) (v := .int .i64 (a1 : Int)) 0 (mgc_ki2 _ _ _ _ _))).bel
 rw [HA2.out] at C
 go_wp2_with fail
 refine C.mono ?_
 clear C
 rintro e w2 ⟨rfl, hb⟩
 have hst := (((HST.out.put (.slice A l.length c) (.int .i64 (p1 : Int)) (.bool (!r1))).cell (n := { mgZ with ki := (a1 : Int) }) (v := .int .i64 (a1 : Int)) 0 (mgc_ki2 _ _ _ _ _))).below hb
 clear hb HST c0 c1 c2 k0 k1 k2 g1 g2
 obtain ⟨⟨c0, c1, c2⟩, ⟨k0, k1, k2⟩, g1, g2⟩ := hst.cells
 have HST := hid hst
 clear hst
 unfold rv
 obtain ⟨a3, p3, r3, HA3⟩ : ∃ x q s, Hid (rdUpto 21 l p2 r2 = (x, q, s)) := ⟨_, _, _, hid rfl⟩
 have hp3 : p3 ≤ l.length := by have := rdUpto_pl (m := 21) (r := r2) hp2; rw [HA3.out] at this; exact this
 have C := HU.out p2 r2 hp2 21 (by omega) (by omega) _ (((HST.out.put (.slice A l.length c) (.int .i64 (p2 : Int)) (.bool (!r2))).cell (n := { mgZ with ki := (a1 : Int), fr := (a2 : Int) }) (v := .int .i64 (a2 : Int)) 1 (mgc_fr2 _ _ _ _ _))).bel
 rw [HA3.out] at C
 go_wp2_with fail
 refine C.mono ?_
 clear C
 rintro e w3 ⟨rfl, hb⟩
 have hst := (((HST.out.put (.slice A l.length c) (.int .i64 (p2 : Int)) (.bool (!r2))).cell (n := { mgZ with ki := (a1 : Int), fr := (a2 : Int) }) (v := .int .i64 (a2 : Int)) 1 (mgc_fr2 _ _ _ _ _))).below hb
 clear hb HST c0 c1 c2 k0 k1 k2 g1 g2
 obtain ⟨⟨c0, c1, c2⟩, ⟨k0, k1, k2⟩, g1, g2⟩ := hst.cells
 have HST := hid hst
 clear hst
 unfold rv
 go_upto_region 6 with (fail)
 have hst := ((HST.out.put (.slice A l.length c) (.int .i64 (p3 : Int)) (.bool (!r3))).cell (n := { mgZ with ki := (a1 : Int), fr := (a2 : Int), tu := (a3 : Int) }) (v := .int .i64 (a3 : Int)) 2 (mgc_tu2 _ _ _ _ _))
 obtain ⟨hd, HHD⟩ : ∃ m : MgM, Hid (({ mgZ with ki := (a1 : Int), fr := (a2 : Int), tu := (a3 : Int) } : MgM) = m) := ⟨_, hid rfl⟩
 have HKI : Hid (hd.ki = (a1 : Int)) := hid (by rw [← HHD.out])
 have HRAW : Hid (rawM l = restM l hd p3 r3) := hid (by
  unfold rawM headM
  simp only [HA1.out, HA2.out, HA3.out]
  rw [← HHD.out])
 have HDO : Hid hd.Ok := hid (by rw [← HHD.out]; exact ⟨mgZ_ok.aa, mgZ_ok.cc, mgZ_ok.xx, mgZ_ok.kk, mgZ_ok.hh⟩)
 have HDZ : Hid (hd.aa = atZ ∧ hd.cc = ctZ ∧ hd.xx = acZ ∧ hd.kk = bkZ ∧ hd.hh = z32 ∧ hd.tt = txZ) := hid (by rw [← HHD.out]; exact ⟨rfl, rfl, rfl, rfl, rfl, rfl⟩)
 have H10 : Hid (a1 ≤ 10) := hid (by have := rdUpto_le (m := 10) (l := l) (p := 0) (r := true); rw [show ((10 : Nat) : Int) = 10 from rfl, HA1.out] at this; exact this)
 rw [HHD.out] at hst
 clear HST c0 c1 c2 k0 k1 k2 g1 g2
 generalize (((((w3.setCell ⟨w.heap.size + 1 + 1, 0, none⟩ (.slice A l.length c)).setCell ⟨w.heap.size + 1 + 1, 1, none⟩ (.int .i64 (p3 : Int))).setCell ⟨w.heap.size + 1 + 1, 2, none⟩ (.bool (!r3))).setCell ⟨w.heap.size + 1, 2, none⟩ (.int .i64 (a3 : Int)))) = w4 at *
 obtain ⟨⟨c0, c1, c2⟩, ⟨k0, _, _⟩, _, _⟩ := hst.cells
 rw [HKI.out] at k0
 have HST := hid hst
 clear hst
 have HE1 := hid (fun B W => (show OwnE scl 33 111 B W (.slice none 0 0) hd.cc.sg from by rw [HDZ.out.2.1]; exact OwnE.nil _ _))
 have HE2 := hid (fun B W => (show OwnE icl 1 3 B W (.slice none 0 0) hd.xx.fr from by rw [HDZ.out.2.2.1]; exact OwnE.nil _ _))
 have HE3 := hid (fun B W => (show OwnT B W (.slice none 0 0) hd.kk.txs from by rw [HDZ.out.2.2.2.1]; exact OwnT.nil _ _))
 have HL0 : Hid (lightK hd.kk ∧ hd.tt.key.length ≤ 1000000 ∧ hd.tt.val.length ≤ 1000000) := hid (by rw [HDZ.out.2.2.2.1, HDZ.out.2.2.2.2.2]; exact ⟨bkZ_light, txZ_short⟩)
 go_upto_block 0 with (fail)
 go_cut [] (fun wx => GotM w l wx)
 case first =>
  by_cases g1 : a1 = 1 ∨ a1 = 3 ∨ a1 = 5
  case pos =>
   rcases g1 with rfl | rfl | rfl
   all_goals
    have HRS : Hid (restM l hd p3 r3 = _) := hid (by unfold restM; rw [if_pos (by unfold isA; rw [HKI.out]; omega)])
    have C := HR8.out p3 r3 hp3 w4 HST.out.bel
    obtain ⟨na, HNA⟩ : ∃ a : AtM, Hid (atOf l p3 r3 = a) := ⟨_, hid rfl⟩
    have HNO : Hid na.Ok := hid (by rw [← HNA.out]; exact atOf_ok l p3 r3)
    rw [HNA.out] at C HRS
    obtain ⟨G, HG⟩ : ∃ C : Array Value, Hid (atc na = C) := ⟨_, hid rfl⟩
    rw [HG.out] at C
    go_wp2_with fail
    refine C.mono ?_
    clear C
    rintro e w5 ⟨rfl, hb5⟩
    have hst5 := HST.out.below hb5
    have HXB := hid hst5.b1
    clear hb5 c0 c1 c2 k0 HST
    unfold rv
    go_wp2_with (refine wpList_store_maa rfl _ _ rfl na HNO.out rfl (by rw [HG.out]; rfl) HXB.out HDO.out ?_; intro wN hgN hXN hsN; clear HXB)
    obtain ⟨rm, HRM0⟩ : ∃ m : MgM, Hid (({ hd with aa := na } : MgM) = m) := ⟨_, hid rfl⟩
    have HRM : Hid (rawM l = rm) := hid (by rw [HRAW.out, HRS.out]; exact HRM0.out)
    rw [HRM0.out] at hXN
    have HGN := hid (hst5.att hgN hXN)
    have HRO : Hid rm.Ok := hid (by rw [← HRM0.out]; exact ⟨HNO.out, HDO.out.cc, HDO.out.xx, HDO.out.kk, HDO.out.hh⟩)
    have HON : Hid (OwnsM (w.heap.size + 3) wN rm (.slice none 0 0) (.slice none 0 0) (.slice none 0 0)) := hid (by rw [← HRM0.out]; exact ⟨(HE1.out _ _), (HE2.out _ _), (HE3.out _ _)⟩)
    have HRL : Hid (lightK rm.kk ∧ rm.tt.key.length ≤ 1000000 ∧ rm.tt.val.length ≤ 1000000) := hid (by rw [← HRM0.out]; exact HL0.out)
    clear hgN hXN hsN hst5
    go_meet
    exact ⟨_, _, _, _, _, _, _, HGN.out, HRO.out, HON.out, HRM.out, HRL.out⟩
  have u1 : ((a1 : Int) == 1) = false := by simp; omega
  have u3 : ((a1 : Int) == 3) = false := by simp; omega
  have u5 : ((a1 : Int) == 5) = false := by simp; omega
  by_cases g4 : a1 = 4 ∨ a1 = 6
  case pos =>
   rcases g4 with rfl | rfl
   all_goals
    have HRS : Hid (restM l hd p3 r3 = _) := hid (by unfold restM; rw [if_neg (by unfold isA; rw [HKI.out]; omega), if_pos (by unfold isC; rw [HKI.out]; omega)])
    have C := HR9.out p3 r3 hp3 w4 HST.out.bel
    obtain ⟨na, HNA⟩ : ∃ a : CtM, Hid (ctOf l p3 r3 = a) := ⟨_, hid rfl⟩
    unfold CrPost at C
    rw [HNA.out] at C HRS
    go_wp2_with fail
    refine C.mono ?_
    clear C
    rintro e w5 ⟨x5, rfl, ⟨s5, rfl, ho5, how5⟩, hb5⟩
    have HNO : Hid na.Ok := hid ho5
    have HOW5 := hid (how5.more (B' := w.heap.size + 3) (by have := HST.out.lt; omega))
    have HEL5 := hid (HOW5.out.els eltSg HNO.out.sg)
    obtain ⟨G, HG⟩ : ∃ C : Array Value, Hid (ctc na s5 = C) := ⟨_, hid rfl⟩
    rw [HG.out]
    clear ho5 how5
    have hst5 := HST.out.below hb5
    have HXB := hid hst5.b1
    clear hb5 c0 c1 c2 k0 HST
    unfold rv
    go_wp2_with (refine wpList_store_mcc rfl _ _ rfl na s5 HNO.out.att (ctl_one HEL5.out) rfl (by rw [HG.out]; rfl) HXB.out HDO.out ?_; intro wN hgN hXN hsN; clear HXB)
    obtain ⟨rm, HRM0⟩ : ∃ m : MgM, Hid (({ hd with cc := na } : MgM) = m) := ⟨_, hid rfl⟩
    have HRM : Hid (rawM l = rm) := hid (by rw [HRAW.out, HRS.out]; exact HRM0.out)
    rw [HRM0.out] at hXN
    have HGN := hid (hst5.att hgN hXN)
    have HRO : Hid rm.Ok := hid (by rw [← HRM0.out]; exact ⟨HDO.out.aa, HNO.out, HDO.out.xx, HDO.out.kk, HDO.out.hh⟩)
    have HON : Hid (OwnsM (w.heap.size + 3) wN rm s5 (.slice none 0 0) (.slice none 0 0)) := hid (by rw [← HRM0.out]; exact ⟨HOW5.out.far hgN (by omega), (HE2.out _ _), (HE3.out _ _)⟩)
    have HRL : Hid (lightK rm.kk ∧ rm.tt.key.length ≤ 1000000 ∧ rm.tt.val.length ≤ 1000000) := hid (by rw [← HRM0.out]; exact HL0.out)
    clear hgN hXN hsN hst5
    go_meet
    exact ⟨_, _, _, _, _, _, _, HGN.out, HRO.out, HON.out, HRM.out, HRL.out⟩
  have u4 : ((a1 : Int) == 4) = false := by simp; omega
  have u6 : ((a1 : Int) == 6) = false := by simp; omega
  by_cases g7 : a1 = 7
  case pos =>
   rcases g7 with rfl
   have HRS : Hid (restM l hd p3 r3 = _) := hid (by unfold restM; rw [if_neg (by unfold isA; rw [HKI.out]; omega), if_neg (by unfold isC; rw [HKI.out]; omega), if_pos (by rw [HKI.out]; omega)])
   have C := HH.out p3 r3 hp3 w4 HST.out.bel
   obtain ⟨na, HNA⟩ : ∃ a : List UInt8, Hid ((rdHash l p3 r3).1 = a) := ⟨_, hid rfl⟩
   have HNO : Hid (na.length = 32) := hid (by rw [← HNA.out]; exact rdHash_32 l p3 r3)
   unfold RefHash at C
   rw [HNA.out] at C HRS
   obtain ⟨G, HG⟩ : ∃ C : Array Value, Hid (hcells na = C) := ⟨_, hid rfl⟩
   rw [HG.out] at C
   go_wp2_with fail
   refine C.mono ?_
   clear C
   rintro e w5 ⟨rfl, hb5⟩
   have hst5 := HST.out.below hb5
   have HXB := hid hst5.b1
   clear hb5 c0 c1 c2 k0 HST
   unfold rv
   go_wp2_with (refine wpList_store_mhh rfl _ _ rfl na HNO.out rfl (by rw [HG.out]; rfl) HXB.out HDO.out ?_; intro wN hgN hXN hsN; clear HXB)
   obtain ⟨rm, HRM0⟩ : ∃ m : MgM, Hid (({ hd with hh := na } : MgM) = m) := ⟨_, hid rfl⟩
   have HRM : Hid (rawM l = rm) := hid (by rw [HRAW.out, HRS.out]; exact HRM0.out)
   rw [HRM0.out] at hXN
   have HGN := hid (hst5.att hgN hXN)
   have HRO : Hid rm.Ok := hid (by rw [← HRM0.out]; exact ⟨HDO.out.aa, HDO.out.cc, HDO.out.xx, HDO.out.kk, HNO.out⟩)
   have HON : Hid (OwnsM (w.heap.size + 3) wN rm (.slice none 0 0) (.slice none 0 0) (.slice none 0 0)) := hid (by rw [← HRM0.out]; exact ⟨(HE1.out _ _), (HE2.out _ _), (HE3.out _ _)⟩)
   have HRL : Hid (lightK rm.kk ∧ rm.tt.key.length ≤ 1000000 ∧ rm.tt.val.length ≤ 1000000) := hid (by rw [← HRM0.out]; exact HL0.out)
   clear hgN hXN hsN hst5
   go_meet
   exact ⟨_, _, _, _, _, _, _, HGN.out, HRO.out, HON.out, HRM.out, HRL.out⟩
  have u7 : ((a1 : Int) == 7) = false := by simp; omega
  by_cases g9 : a1 = 9
  case pos =>
   rcases g9 with rfl
   have HRS : Hid (restM l hd p3 r3 = _) := hid (by unfold restM; rw [if_neg (by unfold isA; rw [HKI.out]; omega), if_neg (by unfold isC; rw [HKI.out]; omega), if_neg (by rw [HKI.out]; omega), if_pos (by rw [HKI.out]; omega)])
   have C := HR6.out p3 r3 hp3 w4 HST.out.bel
   obtain ⟨nt, HNA⟩ : ∃ a : TxM, Hid (rdTx l p3 r3 = a) := ⟨_, hid rfl⟩
   rw [HNA.out, txv_tcl] at C
   rw [HNA.out] at HRS
   obtain ⟨G, HG⟩ : ∃ C : Array Value, Hid ((tcl nt).toArray = C) := ⟨_, hid rfl⟩
   rw [HG.out] at C
   go_wp2_with fail
   refine C.mono ?_
   clear C
   rintro e w5 ⟨rfl, hb5⟩
   have hst5 := HST.out.below hb5
   have HXB := hid hst5.b1
   clear hb5 c0 c1 c2 k0 HST
   unfold rv
   go_wp2_with (refine wpList_store_mtt rfl _ _ rfl nt rfl (by rw [HG.out]; rfl) HXB.out HDO.out ?_; intro wN hgN hXN hsN; clear HXB)
   obtain ⟨rm, HRM0⟩ : ∃ m : MgM, Hid (({ hd with tt := nt } : MgM) = m) := ⟨_, hid rfl⟩
   have HRM : Hid (rawM l = rm) := hid (by rw [HRAW.out, HRS.out]; exact HRM0.out)
   rw [HRM0.out] at hXN
   have HGN := hid (hst5.att hgN hXN)
   have HRO : Hid rm.Ok := hid (by rw [← HRM0.out]; exact ⟨HDO.out.aa, HDO.out.cc, HDO.out.xx, HDO.out.kk, HDO.out.hh⟩)
   have HON : Hid (OwnsM (w.heap.size + 3) wN rm (.slice none 0 0) (.slice none 0 0) (.slice none 0 0)) := hid (by rw [← HRM0.out]; exact ⟨(HE1.out _ _), (HE2.out _ _), (HE3.out _ _)⟩)
   have HRL : Hid (lightK rm.kk ∧ rm.tt.key.length ≤ 1000000 ∧ rm.tt.val.length ≤ 1000000) := hid (by rw [← HRM0.out]; exact ⟨HL0.out.1, (by show (TxM.key nt).length ≤ 1000000 ∧ _; rw [← HNA.out]; exact rdTx_lim _ _ _)⟩)
   clear hgN hXN hsN hst5
   go_meet
   exact ⟨_, _, _, _, _, _, _, HGN.out, HRO.out, HON.out, HRM.out, HRL.out⟩
  have u9 : ((a1 : Int) == 9) = false := by simp; omega
  by_cases g10 : a1 = 10
  case pos =>
   rcases g10 with rfl
   have HRS : Hid (restM l hd p3 r3 = _) := hid (by unfold restM; rw [if_neg (by unfold isA; rw [HKI.out]; omega), if_neg (by unfold isC; rw [HKI.out]; omega), if_neg (by rw [HKI.out]; omega), if_neg (by rw [HKI.out]; omega), if_pos (by rw [HKI.out]; omega)])
   have C := HR10.out p3 r3 hp3 w4 HST.out.bel
   obtain ⟨na, HNA⟩ : ∃ a : AcM, Hid (acOf l p3 r3 = a) := ⟨_, hid rfl⟩
   unfold XrPost at C
   rw [HNA.out] at C HRS
   go_wp2_with fail
   refine C.mono ?_
   clear C
   rintro e w5 ⟨x5, rfl, ⟨s5, rfl, ho5, how5⟩, hb5⟩
   have HNO : Hid na.Ok := hid ho5
   have HOW5 := hid (how5.more (B' := w.heap.size + 3) (by have := HST.out.lt; omega))
   have HEL5 := hid (HOW5.out.els eltIc (fun _ _ => trivial))
   obtain ⟨G, HG⟩ : ∃ C : Array Value, Hid (axc na s5 = C) := ⟨_, hid rfl⟩
   rw [HG.out]
   clear ho5 how5
   have hst5 := HST.out.below hb5
   have HXB := hid hst5.b1
   clear hb5 c0 c1 c2 k0 HST
   unfold rv
   go_wp2_with (refine wpList_store_mxx rfl _ _ rfl na s5 HNO.out (axl_one HEL5.out) rfl (by rw [HG.out]; rfl) HXB.out HDO.out ?_; intro wN hgN hXN hsN; clear HXB)
   obtain ⟨rm, HRM0⟩ : ∃ m : MgM, Hid (({ hd with xx := na } : MgM) = m) := ⟨_, hid rfl⟩
   have HRM : Hid (rawM l = rm) := hid (by rw [HRAW.out, HRS.out]; exact HRM0.out)
   rw [HRM0.out] at hXN
   have HGN := hid (hst5.att hgN hXN)
   have HRO : Hid rm.Ok := hid (by rw [← HRM0.out]; exact ⟨HDO.out.aa, HDO.out.cc, HNO.out, HDO.out.kk, HDO.out.hh⟩)
   have HON : Hid (OwnsM (w.heap.size + 3) wN rm (.slice none 0 0) s5 (.slice none 0 0)) := hid (by rw [← HRM0.out]; exact ⟨(HE1.out _ _), HOW5.out.far hgN (by omega), (HE3.out _ _)⟩)
   have HRL : Hid (lightK rm.kk ∧ rm.tt.key.length ≤ 1000000 ∧ rm.tt.val.length ≤ 1000000) := hid (by rw [← HRM0.out]; exact HL0.out)
   clear hgN hXN hsN hst5
   go_meet
   exact ⟨_, _, _, _, _, _, _, HGN.out, HRO.out, HON.out, HRM.out, HRL.out⟩
  have u10 : ((a1 : Int) == 10) = false := by simp; omega
  by_cases g2 : a1 = 2
  case pos =>
   rcases g2 with rfl
   have HRS : Hid (restM l hd p3 r3 = _) := hid (by unfold restM; rw [if_neg (by unfold isA; rw [HKI.out]; omega), if_neg (by unfold isC; rw [HKI.out]; omega), if_neg (by rw [HKI.out]; omega), if_neg (by rw [HKI.out]; omega), if_neg (by rw [HKI.out]; omega), if_pos (by rw [HKI.out]; omega)])
   have C := HT.out p3 r3 hp3 w4 HST.out.bel
   unfold RefText at C
   obtain ⟨tb, p4, r4, HTB⟩ : ∃ x y z, Hid (rdText l p3 r3 = (x, y, z)) := ⟨_, _, _, hid rfl⟩
   have hp4 : p4 ≤ l.length ∧ tb.length ≤ 65536 := by have := rdText_pl (r := r3) hp3; rw [HTB.out] at this; exact this
   rw [HTB.out] at C HRS
   simp only at C HRS
   go_wp2_with fail
   refine C.mono ?_
   clear C
   rintro e w5 ⟨v5, rfl, ho5, hb5⟩
   have HB5 := hid ho5.byt
   have hst5a := HST.out.below hb5
   clear c0 c1 c2 k0 HST
   unfold rv
   obtain ⟨A5, n5, c5, rfl⟩ : ∃ A n c, v5 = .slice A n c := (by obtain ⟨A, c, e⟩ := ho5.byt.shape; exact ⟨_, _, _, e⟩)
   clear ho5 hb5
   go_upto_region 23 with (fail)
   have hbx : Below w5.heap.size w5 (w5.alloc (.cells #[.slice A l.length c, .int .i64 (p4 : Int), .bool (!r4)] 83)) := (Below.refl _ _).alloc (Nat.le_refl _) _
   have hrx := heap_alloc_new w5 (.cells #[.slice A l.length c, .int .i64 (p4 : Int), .bool (!r4)] 83)
   have hst6 := hst5a.below hbx
   have HB6 := hid (HB5.out.below hbx)
   obtain ⟨vb, HVB⟩ : ∃ k : Nat, Hid (w5.heap.size = k) := ⟨_, hid rfl⟩
   have HVL : Hid (w.heap.size + 1 + 1 < vb) := hid (by have := hst5a.lt; have := HVB.out; omega)
   rw [HVB.out] at hrx ⊢
   clear hbx hst5a
   generalize (w5.alloc (.cells #[.slice A l.length c, .int .i64 (p4 : Int), .bool (!r4)] 83)) = w6 at *
   have C := refGet7_new (.slice A5 n5 c5) tb w6 HB6.out (by omega)
   unfold GetPostN at C
   obtain ⟨nb, HNB⟩ : ∃ b : BkM, Hid (gotK tb = b) := ⟨_, hid rfl⟩
   rw [HNB.out] at C HRS
   have HST6 := hid hst6
   clear hst6
   go_wp2_with fail
   refine C.mono ?_
   clear C
   rintro e w7 ⟨x7, rfl, ⟨s7, rfl, ho7, how7⟩, hb7⟩
   have HNO : Hid (nb.par.length = 32) := hid ho7
   have HOW7 := hid (how7.more (B' := w.heap.size + 3) (by have := HST6.out.lt; omega))
   obtain ⟨G, HG⟩ : ∃ C : Array Value, Hid (bkc nb s7 = C) := ⟨_, hid rfl⟩
   rw [HG.out]
   have hst7 := HST6.out.below hb7
   have HRX7 := hid ((hb7.block _ (lt_of_block hrx)).trans hrx)
   have HXB := hid hst7.b1
   clear ho7 how7 hb7 hrx HST6
   go_upto_region 24 with (refine wpList_store_mkk rfl _ _ rfl nb s7 HNO.out (bkl_one HOW7.out.txs) rfl (by rw [HG.out]; rfl) HXB.out HDO.out ?_; intro w8 hg8 hX8 hs8; clear HXB)
   have hst8 := hst7.att hg8 hX8
   have HOW8 := hid (HOW7.out.far hg8 (by omega))
   have HRX8 := hid ((hg8.block _ (lt_of_block HRX7.out) (fun e => by injection e with e; have := HVL.out; omega)).trans HRX7.out)
   have k0 := hst8.b1.ints.1
   rw [show ({ hd with kk := nb } : MgM).ki = hd.ki from rfl, HKI.out] at k0
   clear hst7 hg8 hX8 hs8
   have d0 := cell_blk HRX8.out 0
   have d1 := cell_blk HRX8.out 1
   have d2 := cell_blk HRX8.out 2
   simp at d0 d1 d2
   have C := HR10.out p4 r4 hp4.1 w8 hst8.bel
   unfold XrPost at C
   obtain ⟨na, HNA⟩ : ∃ a : AcM, Hid (acOf l p4 r4 = a) := ⟨_, hid rfl⟩
   rw [HNA.out] at C HRS
   have HST8 := hid hst8
   clear hst8
   go_wp2_with fail
   refine C.mono ?_
   clear C
   rintro e w9 ⟨x9, rfl, ⟨s9, rfl, ho9, how9⟩, hb9⟩
   have HXO : Hid na.Ok := hid ho9
   have HOW9 := hid (how9.more (B' := w.heap.size + 3) (by have := HST8.out.lt; omega))
   have HEL9 := hid (HOW9.out.els eltIc (fun _ _ => trivial))
   obtain ⟨G9, HG9⟩ : ∃ C : Array Value, Hid (axc na s9 = C) := ⟨_, hid rfl⟩
   rw [HG9.out]
   have hst5 := HST8.out.below hb9
   have HOW10 := hid (HOW8.out.below hb9)
   have HXB := hid hst5.b1
   clear ho9 how9 hb9 d0 d1 d2 k0 HST8
   unfold rv
   go_wp2_with (refine wpList_store_mxx rfl _ _ rfl na s9 HXO.out (axl_one HEL9.out) rfl (by rw [HG9.out]; rfl) HXB.out ⟨HDO.out.aa, HDO.out.cc, HDO.out.xx, HNO.out, HDO.out.hh⟩ ?_; intro wN hgN hXN hsN; clear HXB)
   obtain ⟨rm, HRM0⟩ : ∃ m : MgM, Hid (({ { hd with kk := nb } with xx := na } : MgM) = m) := ⟨_, hid rfl⟩
   have HRM : Hid (rawM l = rm) := hid (by rw [HRAW.out, HRS.out]; exact HRM0.out)
   rw [HRM0.out] at hXN
   have HGN := hid (hst5.att hgN hXN)
   have HRO : Hid rm.Ok := hid (by rw [← HRM0.out]; exact ⟨HDO.out.aa, HDO.out.cc, HXO.out, HNO.out, HDO.out.hh⟩)
   have HON : Hid (OwnsM (w.heap.size + 3) wN rm (.slice none 0 0) s9 s7) := hid (by rw [← HRM0.out]; exact ⟨(HE1.out _ _), HOW9.out.far hgN (by omega), HOW10.out.far hgN (by omega)⟩)
   have HRL : Hid (lightK rm.kk ∧ rm.tt.key.length ≤ 1000000 ∧ rm.tt.val.length ≤ 1000000) := hid (by rw [← HRM0.out]; exact ⟨(by show lightK nb; rw [← HNB.out]; exact gotK_light _), HL0.out.2⟩)
   clear hgN hXN hsN hst5
   go_meet
   exact ⟨_, _, _, _, _, _, _, HGN.out, HRO.out, HON.out, HRM.out, HRL.out⟩
  have u2 : ((a1 : Int) == 2) = false := by simp; omega
  by_cases g8 : a1 = 8
  case pos =>
   rcases g8 with rfl
   have HRS : Hid (restM l hd p3 r3 = _) := hid (by unfold restM; rw [if_neg (by unfold isA; rw [HKI.out]; omega), if_neg (by unfold isC; rw [HKI.out]; omega), if_neg (by rw [HKI.out]; omega), if_neg (by rw [HKI.out]; omega), if_neg (by rw [HKI.out]; omega), if_neg (by rw [HKI.out]; omega), if_pos (by rw [HKI.out]; omega)])
   have C := HT.out p3 r3 hp3 w4 HST.out.bel
   unfold RefText at C
   obtain ⟨tb, p4, r4, HTB⟩ : ∃ x y z, Hid (rdText l p3 r3 = (x, y, z)) := ⟨_, _, _, hid rfl⟩
   have hp4 : p4 ≤ l.length ∧ tb.length ≤ 65536 := by have := rdText_pl (r := r3) hp3; rw [HTB.out] at this; exact this
   rw [HTB.out] at C HRS
   simp only at C HRS
   go_wp2_with fail
   refine C.mono ?_
   clear C
   rintro e w5 ⟨v5, rfl, ho5, hb5⟩
   have HB5 := hid ho5.byt
   have hst5a := HST.out.below hb5
   clear c0 c1 c2 k0 HST
   unfold rv
   obtain ⟨A5, n5, c5, rfl⟩ : ∃ A n c, v5 = .slice A n c := (by obtain ⟨A, c, e⟩ := ho5.byt.shape; exact ⟨_, _, _, e⟩)
   clear ho5 hb5
   go_upto_region 23 with (fail)
   have hbx : Below w5.heap.size w5 (w5.alloc (.cells #[.slice A l.length c, .int .i64 (p4 : Int), .bool (!r4)] 83)) := (Below.refl _ _).alloc (Nat.le_refl _) _
   have hrx := heap_alloc_new w5 (.cells #[.slice A l.length c, .int .i64 (p4 : Int), .bool (!r4)] 83)
   have hst6 := hst5a.below hbx
   have HB6 := hid (HB5.out.below hbx)
   obtain ⟨vb, HVB⟩ : ∃ k : Nat, Hid (w5.heap.size = k) := ⟨_, hid rfl⟩
   have HVL : Hid (w.heap.size + 1 + 1 < vb) := hid (by have := hst5a.lt; have := HVB.out; omega)
   rw [HVB.out] at hrx ⊢
   clear hbx hst5a
   generalize (w5.alloc (.cells #[.slice A l.length c, .int .i64 (p4 : Int), .bool (!r4)] 83)) = w6 at *
   have C := refGet7_new (.slice A5 n5 c5) tb w6 HB6.out (by omega)
   unfold GetPostN at C
   obtain ⟨nb, HNB⟩ : ∃ b : BkM, Hid (gotK tb = b) := ⟨_, hid rfl⟩
   rw [HNB.out] at C HRS
   have HST6 := hid hst6
   clear hst6
   go_wp2_with fail
   refine C.mono ?_
   clear C
   rintro e w7 ⟨x7, rfl, ⟨s7, rfl, ho7, how7⟩, hb7⟩
   have HNO : Hid (nb.par.length = 32) := hid ho7
   have HOW7 := hid (how7.more (B' := w.heap.size + 3) (by have := HST6.out.lt; omega))
   obtain ⟨G, HG⟩ : ∃ C : Array Value, Hid (bkc nb s7 = C) := ⟨_, hid rfl⟩
   rw [HG.out]
   have hst7 := HST6.out.below hb7
   have HRX7 := hid ((hb7.block _ (lt_of_block hrx)).trans hrx)
   have HXB := hid hst7.b1
   clear ho7 how7 hb7 hrx HST6
   go_upto_region 24 with (refine wpList_store_mkk rfl _ _ rfl nb s7 HNO.out (bkl_one HOW7.out.txs) rfl (by rw [HG.out]; rfl) HXB.out HDO.out ?_; intro w8 hg8 hX8 hs8; clear HXB)
   have hst8 := hst7.att hg8 hX8
   have HOW8 := hid (HOW7.out.far hg8 (by omega))
   have HRX8 := hid ((hg8.block _ (lt_of_block HRX7.out) (fun e => by injection e with e; have := HVL.out; omega)).trans HRX7.out)
   have k0 := hst8.b1.ints.1
   rw [show ({ hd with kk := nb } : MgM).ki = hd.ki from rfl, HKI.out] at k0
   clear hst7 hg8 hX8 hs8
   go_wp2_with fail
   clear k0
   obtain ⟨rm, HRM0⟩ : ∃ m : MgM, Hid (({ hd with kk := nb } : MgM) = m) := ⟨_, hid rfl⟩
   have HRM : Hid (rawM l = rm) := hid (by rw [HRAW.out, HRS.out]; exact HRM0.out)
   rw [HRM0.out] at hst8
   have HGN := hid hst8
   have HRO : Hid rm.Ok := hid (by rw [← HRM0.out]; exact ⟨HDO.out.aa, HDO.out.cc, HDO.out.xx, HNO.out, HDO.out.hh⟩)
   have HON : Hid (OwnsM (w.heap.size + 3) w8 rm (.slice none 0 0) (.slice none 0 0) s7) := hid (by rw [← HRM0.out]; exact ⟨(HE1.out _ _), (HE2.out _ _), HOW8.out⟩)
   have HRL : Hid (lightK rm.kk ∧ rm.tt.key.length ≤ 1000000 ∧ rm.tt.val.length ≤ 1000000) := hid (by rw [← HRM0.out]; exact ⟨(by show lightK nb; rw [← HNB.out]; exact gotK_light _), HL0.out.2⟩)
   clear hst8
   go_meet
   exact ⟨_, _, _, _, _, _, _, HGN.out, HRO.out, HON.out, HRM.out, HRL.out⟩
  have u8 : ((a1 : Int) == 8) = false := by simp; omega
  have HRS : Hid (restM l hd p3 r3 = hd) := hid (by have := H10.out; unfold restM; rw [if_neg (by unfold isA; rw [HKI.out]; omega), if_neg (by unfold isC; rw [HKI.out]; omega), if_neg (by rw [HKI.out]; omega), if_neg (by rw [HKI.out]; omega), if_neg (by rw [HKI.out]; omega), if_neg (by rw [HKI.out]; omega), if_neg (by rw [HKI.out]; omega)])
  have hst5 := HST.out
  have HRM : Hid (rawM l = hd) := hid (by rw [HRAW.out, HRS.out])
  have HGN := hid hst5
  have HRO := HDO
  have HON : Hid (OwnsM (w.heap.size + 3) w4 hd (.slice none 0 0) (.slice none 0 0) (.slice none 0 0)) := hid ⟨HE1.out _ _, HE2.out _ _, HE3.out _ _⟩
  have HRL := HL0
  clear hst5
  go_wp2_with fail
  go_meet
  exact ⟨_, _, _, _, _, _, _, HGN.out, HRO.out, HON.out, HRM.out, HRL.out⟩
 case rest =>
  clear c0 c1 c2 k0 HST HA1 HA2 HA3
  obtain ⟨x0, x1, x2, rm, t1, t2, t3, hgn, hro, hon, hrm, hrl⟩ := hcut
  have HGN := hid hgn
  have HRO := hid hro
  have HON := hid hon
  have HRM := hid hrm
  have HRL := hid hrl
  clear hgn hro hon hrm hrl
  have HBN := hid HGN.out.bel
  have HEN := hid (HON.out.els HRO.out)
  obtain ⟨q, HQ⟩ : ∃ q : Bool, Hid (mayM rm = q) := ⟨_, hid rfl⟩
  have HEB := hid (fun W (h : Below wc.heap.size wc W) => (show MgV W (.agg (mgc rm t1 t2 t3)) rm from ⟨_, _, _, rfl, HRO.out, HEN.out.1.below h, HEN.out.2.1.below h, HEN.out.2.2.below h⟩))
  have HMY := hid (refMay11_any (.agg (mgc rm t1 t2 t3)) rm wc (HEB.out wc (Below.refl _ _)) HRL.out.1 HRL.out.2)
  rw [HQ.out] at HMY
  have HBY := hid (fun (hq : q = true) W (h : Below wc.heap.size wc W) => refBytes11_any (.agg (mgc rm t1 t2 t3)) rm W (HEB.out W h) (HQ.out.trans hq))
  have HS : Hid ((mgc rm t1 t2 t3).size = 349 ∧ (mgc rm t1 t2 t3).all (·.oneCell') = true) := hid ⟨mgc_size _ _ _ HRO.out, mgc_one HEN.out.1 HEN.out.2.1 HEN.out.2.2⟩
  obtain ⟨X, HX⟩ : ∃ C : Array Value, Hid (mgc rm t1 t2 t3 = C) := ⟨_, hid rfl⟩
  rw [HX.out] at HMY HBY HS
  have HLX : Hid (∀ W, Below wc.heap.size wc W → loadMg (.pointer (some ⟨w.heap.size + 1, 0, none⟩)) W = .ok (.value (.agg X)) W) := hid (fun W h => loadMg_row (by rw [← HX.out]; exact (HGN.out.b1.keep h)) HS.out.1)
  have HRZ : Hid (∀ W, Below wc.heap.size wc W → W.heap[w.heap.size]? = some (.cells Z 38 (0, 0))) := hid (fun W h => by rw [← HZ.out]; exact HGN.out.b0.keep h)
  have HSZW : Hid (∀ W, Below wc.heap.size wc W → storeMg (.pointer (some ⟨w.heap.size, 0, none⟩)) (.agg Z) W = .ok .skip W) := hid (fun W h => by rw [storeMg_eq (HRZ.out W h) HSZ.out HSZ.out HZ1.out, setMg_self (HRZ.out W h)])
  have hbz := HBZ.out
  have l1 := HLX.out wc (Below.refl _ _)
  go_wp2_with fail
  refine HMY.out.mono ?_
  rintro e w6 ⟨rfl, hb6⟩
  have HB6 := hid hb6
  have HBW6 := hid (HBN.out.trans (hb6.mono HBN.out.size))
  clear l1 hb6 HMY
  cases q with
  | false =>
   have HIS : Hid (mgIs l = false) := hid (by unfold mgIs; rw [HRM.out, HQ.out, Bool.false_and])
   have hz := HSZW.out w6 HB6.out
   go_wp2_with fail
   refine bodyPost_ret (results_mb2 rfl _ _ _ _ _ _ rfl rfl (HRZ.out w6 HB6.out) HSZ.out) rfl ?_
   rw [← HZ.out]
   exact gmPost_no HIS.out HBW6.out
  | true =>
   have HBY2 := hid (HBY.out rfl)
   have l2 := HLX.out w6 HB6.out
   clear HBY
   go_wp2_with fail
   refine (HBY2.out w6 HB6.out).mono ?_
   rintro e w7 ⟨v7, rfl, ho7, hb7⟩
   have HB7 := hid (HB6.out.trans (hb7.mono HB6.out.size))
   have HBW7 := hid (HBW6.out.trans (hb7.mono HBW6.out.size))
   have HSA := hid (same_any v7 (.slice A l.length c) (bytesM rm) l w7 ho7.byt (HV.out w7 HBW7.out))
   obtain ⟨d, HD⟩ : ∃ q : Bool, Hid (decide (bytesM rm = l) = q) := ⟨_, hid rfl⟩
   rw [HD.out] at HSA
   obtain ⟨A7, n7, c7, rfl⟩ : ∃ A n c, v7 = .slice A n c := (by obtain ⟨A, c, e⟩ := ho7.byt.shape; exact ⟨_, _, _, e⟩)
   clear l2 hb7 ho7
   go_wp2_with fail
   refine HSA.out.mono ?_
   rintro e w8 ⟨rfl, k8, hw8⟩
   have HB8 : Hid (Below wc.heap.size wc w8) := hid (by rw [hw8]; exact below_drewN HB7.out k8)
   have HBW8 := hid (HBN.out.trans (HB8.out.mono HBN.out.size))
   clear hw8 HSA
   cases d with
   | false =>
    have HIS : Hid (mgIs l = false) := hid (by unfold mgIs; rw [HRM.out, HQ.out, HD.out]; rfl)
    have hz := HSZW.out w8 HB8.out
    go_wp2_with fail
    refine bodyPost_ret (results_mb2 rfl _ _ _ _ _ _ rfl rfl (HRZ.out w8 HB8.out) HSZ.out) rfl ?_
    rw [← HZ.out]
    exact gmPost_no HIS.out HBW8.out
   | true =>
    have HIS : Hid (mgIs l = true) := hid (by unfold mgIs; rw [HRM.out, HQ.out, HD.out]; rfl)
    have l2 := HLX.out w8 HB8.out
    have hz := storeMg_eq (HRZ.out w8 HB8.out) HSZ.out HS.out.1 HS.out.2
    have HSS := hid (setMg_same (C := X) (HRZ.out w8 HB8.out))
    have HBF := hid (setMg_below (C := X) HBW8.out (Nat.le_refl w.heap.size))
    have HEF := hid (((HON.out.below HB8.out).far (setMg_grown2 w8 w.heap.size X) (by omega)).els HRO.out)
    clear hbz
    go_wp2_with fail
    refine bodyPost_ret (results_mb2 rfl _ _ _ _ _ _ rfl rfl HSS.out HS.out.1) rfl ?_
    rw [← HX.out] at HBF HEF ⊢
    exact gmPost_yes HIS.out HRM.out HRO.out HEF.out.1 HEF.out.2.1 HEF.out.2.2 HBF.out
end Go.Proofs.YtjemfmbmlmogcaaGreat
