/- A model's finish: by contract. -/
import Derived.StillTailTactics
import Derived.Test.YtmncpgfdpcckpaaGreatDoorZMFQN
import Derived.Test.YtmncpgfdpcckpaaGreatDoorZOQN
import Derived.Test.YtmncpgfdpcckpaaGreatDoorZSQN
set_option maxRecDepth 100000
namespace Go.Proofs.YtmncpgfdpcckpaaGreatDoor.Mo
open Go.RowKit
open VecM RdM Vc Sp Pc El Cd Dc
set_option maxHeartbeats 6400000 in
theorem fin_any {g n : Nat} {q : MoD} {D : DeD} {F : Nat → Prop} {w : World} (h : IsMo g q w F) (hqd : q.d = some D) (hok : DeOk D q.L.m n) (hmay : q.L.may = true) (hon : q.L.on = true) (htr : q.L.trial = 0) (hfull : rankM D.M = D.K + D.P) (hlen : 1 ≤ q.L.m.l ∧ q.L.m.l ≤ 512) (hT : ∀ W, Fr w W F → Sh.Tab W) :
  Calls Tryz.prog 48 #[.pointer (some ⟨g, 0, none⟩)] w (MoTo g (q.fin D).1 (q.fin D).2 F w) := by
 obtain ⟨Ak, ck, cs, A0, c0, A1, c1, pd, G, Fd, H⟩ := h
 have hd := H.d
 rw [hqd] at hd
 obtain ⟨gd, rfl, hdec⟩ := hd
 obtain ⟨Ah, ch, e12, e13, e16, rh⟩ := st_now H.st
 have HIM := Lib.hid (image_any Fd gd D.s D.K D.P D.Z D.t D.M q.L.m.l w.drew (hdec.keep fun _ _ _ => rfl) hok.inv hfull hok.cn hok.K hok.P)
 have HH := Lib.hid H
 have HTT := Lib.hid hT
 have HMAY := Lib.hid hmay
 have HON := Lib.hid hon
 have HTR := Lib.hid htr
 have HLI := Lib.hid (light_of_may hmay)
 have HAT : Hid (q.L.act = 0 ∨ q.L.act = 1) := Lib.hid (stMay_act hmay).1
 have IN := Lib.hid H.st.inf
 have BSZ := Lib.hid H.st.size
 have E16 := Lib.hid e16
 have RH := Lib.hid rh
 have H32 : Hid (q.L.m.h.length = 32) := Lib.hid (by
  unfold LSt.may mayB2 at hmay
  rw [hon] at hmay
  simp only [Bool.and_eq_true, if_true] at hmay
  obtain ⟨_, _, _, _, _, _, _, _, _, _, _, h32⟩ := man_bounds hmay.1.2
  exact h32)
 obtain ⟨Q, hQ⟩ : ∃ Q, q.fin D = Q := ⟨_, rfl⟩
 rw [hQ]
 unfold MoD.fin DeD.image at hQ
 obtain ⟨img, himg⟩ : ∃ img, joinLs ((solM D.M).take D.K) q.L.m.l = img := ⟨_, rfl⟩
 rw [himg] at hQ
 unfold ImgOk at HIM
 rw [himg] at HIM
 have HIMG : Hid (img.length ≤ 512) := Lib.hid (by rw [← himg]; exact joinLs_le _ _)
 have HZD : Hid (w.heap.size = w.drew.heap.size) := Lib.hid rfl
 have HC1 : Hid (∀ W, FrP w Fd W → W.cell? ⟨g, 14, none⟩ = some (.int .i64 q.L.m.l) ∧ W.cell? ⟨g, 20, none⟩ = some (.pointer (some ⟨gd, 0, none⟩))) := Lib.hid fun W hW => by
  have hb := H.bx.keep (Fr.block hW g H.bx.lt fun e => (H.hF g e).2.1 rfl) (Fr.size hW)
  exact ⟨hb.st 13 _ (by rw [Array.getElem?_toList]; exact e13), hb.p⟩
 clear himg e12 e13 e16 rh hdec hqd H hok hmay hon htr hfull hlen hT
 go_enter Tryz.func48, Tryz.ntmps48
 go_wp2_with fail
 refine wp_region_noPanic ?_
 refine wp_region_held_drew (S := (fun W => FrP w Fd W)) (by kernel_rfl) (Fr.of_below (Below.refl _ _).drew) (fun hH0 => ?_)
 have hH0 : FrP w Fd w.drew := hH0
 generalize w.drew = wd2000 at *
 refine wpAnyH_take (i := 0) (oi := _) (v := ?tkv2001) rfl (by kernel_rfl) (by kernel_rfl) (by kernel_rfl) (fun _ _ _ h => h) (Or.inl ⟨by rfl, ?tky2001⟩) hH0 ?tkr2001
 case tky2001 => (intro w' hSw; clear hSw; go_simp; try with_reducible rfl)
 try simp only [Act.put, zqa, zqb, zqc]
 refine wpAnyH_take (i := 1) (oi := _) (v := ?tkv2002) rfl (by kernel_rfl) (by kernel_rfl) (by kernel_rfl) (fun _ _ _ h => h) (Or.inl ⟨by rfl, ?tky2002⟩) hH0 ?tkr2002
 case tky2002 => (intro w' hSw; clear hSw; go_simp; try with_reducible rfl)
 try simp only [Act.put, zqa, zqb, zqc]
 refine wpAnyH_take (i := 2) (oi := _) (v := ?tkv2003) rfl (by kernel_rfl) (by kernel_rfl) (by kernel_rfl) (fun _ _ _ h => h) (Or.inl ⟨by rfl, ?tky2003⟩) hH0 ?tkr2003
 case tky2003 => (intro w' hSw; clear hSw; go_simp; try with_reducible rfl)
 try simp only [Act.put, zqa, zqb, zqc]
 refine wpAnyH_take (i := 3) (oi := _) (v := ?tkv2004) rfl (by kernel_rfl) (by kernel_rfl) (by kernel_rfl) (fun _ _ _ h => h) (Or.inl ⟨by rfl, ?tky2004⟩) hH0 ?tkr2004
 case tky2004 => (intro w' hSw; have z0 := HC1.out _ hSw; clear hSw; go_simp; try with_reducible rfl)
 try simp only [Act.put, zqa, zqb, zqc]
 refine wpAnyH_take (i := 4) (oi := _) (v := ?tkv2005) rfl (by kernel_rfl) (by kernel_rfl) (by kernel_rfl) (fun _ _ _ h => h) (Or.inl ⟨by rfl, ?tky2005⟩) hH0 ?tkr2005
 case tky2005 => (intro w' hSw; clear hSw; go_simp; try with_reducible rfl)
 try simp only [Act.put, zqa, zqb, zqc]
 refine wpAnyH_take (i := 5) (oi := _) (v := ?tkv2006) rfl (by kernel_rfl) (by kernel_rfl) (by kernel_rfl) (fun _ _ _ h => h) (Or.inl ⟨by rfl, ?tky2006⟩) hH0 ?tkr2006
 case tky2006 => (intro w' hSw; clear hSw; go_simp; try with_reducible rfl)
 try simp only [Act.put, zqa, zqb, zqc]
 refine wpAnyH_take (i := 6) (oi := _) (v := ?tkv2007) rfl (by kernel_rfl) (by kernel_rfl) (by kernel_rfl) (fun _ _ _ h => h) (Or.inl ⟨by rfl, ?tky2007⟩) hH0 ?tkr2007
 case tky2007 => (intro w' hSw; clear hSw; go_simp; try with_reducible rfl)
 try simp only [Act.put, zqa, zqb, zqc]
 refine wpAnyH_take (i := 7) (oi := _) (v := ?tkv2008) rfl (by kernel_rfl) (by kernel_rfl) (by kernel_rfl) (fun _ _ _ h => h) (Or.inl ⟨by rfl, ?tky2008⟩) hH0 ?tkr2008
 case tky2008 => (intro w' hSw; clear hSw; go_simp; try with_reducible rfl)
 try simp only [Act.put, zqa, zqb, zqc]
 refine wpAnyH_take (i := 8) (oi := _) (v := ?tkv2009) rfl (by kernel_rfl) (by kernel_rfl) (by kernel_rfl) (fun _ _ _ h => h) (Or.inl ⟨by rfl, ?tky2009⟩) hH0 ?tkr2009
 case tky2009 => (intro w' hSw; clear hSw; go_simp; try with_reducible rfl)
 try simp only [Act.put, zqa, zqb, zqc]
 refine wpAnyH_take (i := 9) (oi := _) (v := ?tkv2010) rfl (by kernel_rfl) (by kernel_rfl) (by kernel_rfl) (fun _ _ _ h => h) (Or.inl ⟨by rfl, ?tky2010⟩) hH0 ?tkr2010
 case tky2010 => (intro w' hSw; have z0 := HC1.out _ hSw; clear hSw; go_simp; try with_reducible rfl)
 try simp only [Act.put, zqa, zqb, zqc]
 refine wpAnyH_ready (rs := [10]) (by kernel_rfl) (by simp) ?_
 refine AllReadyH.cons (o := _) rfl (fun K hK => ?_) AllReadyH.nil
 go_simp
 refine HIM.out.mono ?_
 rintro e' wn2011 ⟨AI, mi, ci, rfl, hmi, hoi, -, hf2⟩
 go_simp
 have hS2011 : FrP w Fd wn2011 := Fr.trans (hH0) hf2.out (fun _ _ h => h)
 refine hK.out _ _ hS2011 (fun hH2011 => ?_)
 have hH2011 : FrP w Fd wn2011 := hH2011
 clear hK K hS2011
 try simp only [Act.put, zqa, zqb, zqc]
 refine wpAnyH_take (i := 11) (oi := _) (v := ?tkv2012) rfl (by kernel_rfl) (by kernel_rfl) (by kernel_rfl) (fun _ _ _ h => h) (Or.inl ⟨by rfl, ?tky2012⟩) hH2011 ?tkr2012
 case tky2012 => (intro w' hSw; clear hSw; go_simp; try with_reducible rfl)
 try simp only [Act.put, zqa, zqb, zqc]
 refine wpAnyH_take (i := 12) (oi := _) (v := ?tkv2013) rfl (by kernel_rfl) (by kernel_rfl) (by kernel_rfl) (fun _ _ _ h => h) (Or.inl ⟨by rfl, ?tky2013⟩) hH2011 ?tkr2013
 case tky2013 => (intro w' hSw; clear hSw; go_simp; try with_reducible rfl)
 try simp only [Act.put, zqa, zqb, zqc]
 refine wpAnyH_take (i := 13) (oi := _) (v := ?tkv2014) rfl (by kernel_rfl) (by kernel_rfl) (by kernel_rfl) (fun _ _ _ h => h) (Or.inl ⟨by rfl, ?tky2014⟩) hH2011 ?tkr2014
 case tky2014 => (intro w' hSw; clear hSw; go_simp; try with_reducible rfl)
 try simp only [Act.put, zqa, zqb, zqc]
 refine wpAnyH_take (i := 14) (oi := _) (v := ?tkv2015) rfl (by kernel_rfl) (by kernel_rfl) (by kernel_rfl) (fun _ _ _ h => h) (Or.inl ⟨by rfl, ?tky2015⟩) hH2011 ?tkr2015
 case tky2015 => (intro w' hSw; clear hSw; go_simp; try with_reducible rfl)
 try simp only [Act.put, zqa, zqb, zqc]
 refine wpAnyH_take (i := 15) (oi := _) (v := ?tkv2016) rfl (by kernel_rfl) (by kernel_rfl) (by kernel_rfl) (fun _ _ _ h => h) (Or.inl ⟨by rfl, ?tky2016⟩) hH2011 ?tkr2016
 case tky2016 => (intro w' hSw; clear hSw; go_simp; try with_reducible rfl)
 try simp only [Act.put, zqa, zqb, zqc]
 refine wpAnyH_done (by kernel_rfl) ?_ _
 refine NoPanic.normal ?_
 have HF2 : Hid (Fr w wn2011 Fd) := Lib.hid (hH2011)
 clear hH2011 hf2 hH0
 generalize wn2011 = w2 at *
 have HIL : Hid (img.length = mi) := Lib.hid hmi.out.symm
 have RI2 : Hid (RowP w2 (fun b => w.heap.size ≤ b) AI mi (bv img)) := Lib.hid (by
  have ho := hoi.out
  refine ⟨(Row.of_own ho).1, fun hn => ?_⟩
  obtain ⟨b, o, e, hb, hc⟩ := (Row.of_own ho).2 hn
  exact ⟨b, o, e, hb, by rw [HZD.out]; exact (ho.lt b (by rw [e]; rfl)).1, hc⟩)
 have B2 := Lib.hid (HH.out.bx.keep (HF2.out.block g HH.out.bx.lt fun e => (HH.out.hF g e).2.1 rfl) HF2.out.size)
 have S2 : Hid (IsSt w2 G cs q.L) := Lib.hid (HH.out.st.keep HF2.out.size fun b hb hl => HF2.out.block b hl (HH.out.hG b hb).2.2.1)
 have RH2 : Hid (RowP w2 G Ah q.L.m.h.length (bv q.L.m.h)) := Lib.hid (RH.out.keep HF2.out.size fun b hb hl => HF2.out.block b hl (HH.out.hG b hb).2.2.1)
 have HGL : Hid (g < w2.heap.size) := Lib.hid B2.out.lt
 have HSUM : Hid (∀ W, Below w2.heap.size w2 W → Calls Tryz.prog 77 #[.slice AI mi ci] W (Sh.SumOk img W)) := Lib.hid fun W hW => by
  have ht := HTT.out W ((HF2.out.more fun b _ hb => (HH.out.hF b hb).1).trans (Fr.of_below (F := F) hW) (fun _ _ h => h))
  exact Sh.sum_any W.heap.size mi ci AI img W ht ((RI2.out.below hW).row) (Nat.le_refl _) (by have := HIMG.out; have := HIL.out; omega)
 have HFX : Hid (∀ W, Below w2.heap.size w2 W → W.cell? ⟨g, 17, none⟩ = some (.slice Ah 32 ch)) := Lib.hid fun W hW => by
  have := (B2.out.keep (hW.block g HGL.out) hW.size).st 16 _ (by rw [Array.getElem?_toList]; exact E16.out)
  rw [H32.out] at this
  exact this
 have HRH : Hid (∀ W, Below w2.heap.size w2 W → Row W W.heap.size Ah 32 (bv q.L.m.h)) := Lib.hid fun W hW => by
  have := (RH2.out.below hW).row
  rwa [H32.out] at this
 clear HIM hmi hoi HZD RH E16 HC1
 by_cases hD : Sha.D img = q.L.m.h
 ·have HEQ : Hid ((Sha.D img == q.L.m.h) = true) := Lib.hid (by simpa using hD)
  have HQ := Lib.hid hQ
  rw [if_pos hD] at HQ
  clear hD hQ
  go_upto_region 2 with fail
  refine id ?_
  refine wp_region_noPanic ?_
  refine wp_region_held_drew (S := (fun W => Below (w2.heap.size) w2 W)) (by kernel_rfl) (Below.refl _ _).drew (fun hH0 => ?_)
  have hH0 : Below (w2.heap.size) w2 w2.drew := hH0
  generalize w2.drew = wd3000 at *
  refine wpAnyH_take (i := 0) (oi := _) (v := ?tkv3001) rfl (by kernel_rfl) (by kernel_rfl) (by kernel_rfl) (fun _ _ _ h => h) (Or.inl ⟨by rfl, ?tky3001⟩) hH0 ?tkr3001
  case tky3001 => (intro w' hSw; clear hSw; go_simp; try with_reducible rfl)
  try simp only [Act.put, zqa, zqb, zqc]
  refine wpAnyH_take (i := 2) (oi := _) (v := ?tkv3002) rfl (by kernel_rfl) (by kernel_rfl) (by kernel_rfl) (fun _ _ _ h => h) (Or.inl ⟨by rfl, ?tky3002⟩) hH0 ?tkr3002
  case tky3002 => (intro w' hSw; clear hSw; go_simp; try with_reducible rfl)
  try simp only [Act.put, zqa, zqb, zqc]
  refine wpAnyH_take (i := 3) (oi := _) (v := ?tkv3003) rfl (by kernel_rfl) (by kernel_rfl) (by kernel_rfl) (fun _ _ _ h => h) (Or.inl ⟨by rfl, ?tky3003⟩) hH0 ?tkr3003
  case tky3003 => (intro w' hSw; clear hSw; go_simp; try with_reducible rfl)
  try simp only [Act.put, zqa, zqb, zqc]
  refine wpAnyH_take (i := 4) (oi := _) (v := ?tkv3004) rfl (by kernel_rfl) (by kernel_rfl) (by kernel_rfl) (fun _ _ _ h => h) (Or.inl ⟨by rfl, ?tky3004⟩) hH0 ?tkr3004
  case tky3004 => (intro w' hSw; clear hSw; go_simp; try with_reducible rfl)
  try simp only [Act.put, zqa, zqb, zqc]
  refine wpAnyH_take (i := 5) (oi := _) (v := ?tkv3005) rfl (by kernel_rfl) (by kernel_rfl) (by kernel_rfl) (fun _ _ _ h => h) (Or.inl ⟨by rfl, ?tky3005⟩) hH0 ?tkr3005
  case tky3005 => (intro w' hSw; clear hSw; go_simp; try with_reducible rfl)
  try simp only [Act.put, zqa, zqb, zqc]
  refine wpAnyH_take (i := 6) (oi := _) (v := ?tkv3006) rfl (by kernel_rfl) (by kernel_rfl) (by kernel_rfl) (fun _ _ _ h => h) (Or.inl ⟨by rfl, ?tky3006⟩) hH0 ?tkr3006
  case tky3006 => (intro w' hSw; clear hSw; go_simp; try with_reducible rfl)
  try simp only [Act.put, zqa, zqb, zqc]
  refine wpAnyH_take (i := 7) (oi := _) (v := ?tkv3007) rfl (by kernel_rfl) (by kernel_rfl) (by kernel_rfl) (fun _ _ _ h => h) (Or.inl ⟨by rfl, ?tky3007⟩) hH0 ?tkr3007
  case tky3007 => (intro w' hSw; have z0 := HFX.out _ hSw; clear hSw; go_simp; try with_reducible rfl)
  try simp only [Act.put, zqa, zqb, zqc]
  refine wpAnyH_ready (rs := [1]) (by kernel_rfl) (by simp) ?_
  refine AllReadyH.cons (o := _) rfl (fun K hK => ?_) AllReadyH.nil
  go_simp
  refine (HSUM.out wd3000 (hH0)).mono ?_
  rintro e' wn3008 ⟨A3008, c3008, rfl, ho3008, hbb3008⟩
  have hb3008 := hbb3008.out
  have RW3008 : Hid (Row wn3008 wn3008.heap.size A3008 32 (bv (Sha.D img))) := Lib.hid (Row.of_own ho3008.out)
  clear ho3008 hbb3008
  go_simp
  have hS3008 : Below (w2.heap.size) w2 wn3008 := (hH0).trans (hb3008.mono (hH0).size)
  refine hK.out _ _ hS3008 (fun hH3008 => ?_)
  have hH3008 : Below (w2.heap.size) w2 wn3008 := hH3008
  clear hK K hS3008
  try simp only [Act.put, zqa, zqb, zqc]
  refine wpAnyH_ready (rs := [8]) (by kernel_rfl) (by simp) ?_
  refine AllReadyH.cons (o := _) rfl (fun K hK => ?_) AllReadyH.nil
  go_simp
  have he3009 := equal_any wn3008.heap.size 32 c3008 32 ch A3008 Ah (Sha.D img) q.L.m.h wn3008 RW3008.out (HRH.out wn3008 (hH3008))
  rw [HEQ.out] at he3009
  refine he3009.mono ?_
  clear he3009
  rintro e' wn3009 ⟨rfl, hq3009⟩
  obtain rfl : wn3008 = wn3009 := hq3009.symm
  go_simp
  have hS3009 : Below (w2.heap.size) w2 wn3008 := hH3008
  refine hK.out _ _ hS3009 (fun hH3009 => ?_)
  have hH3009 : Below (w2.heap.size) w2 wn3008 := hH3009
  clear hK K hS3009
  try simp only [Act.put, zqa, zqb, zqc]
  refine wpAnyH_take (i := 9) (oi := _) (v := ?tkv3010) rfl (by kernel_rfl) (by kernel_rfl) (by kernel_rfl) (fun _ _ _ h => h) (Or.inl ⟨by rfl, ?tky3010⟩) hH3009 ?tkr3010
  case tky3010 => (intro w' hSw; clear hSw; go_simp; try with_reducible rfl)
  try simp only [Act.put, zqa, zqb, zqc]
  refine wpAnyH_done (by kernel_rfl) ?_ _
  refine NoPanic.normal ?_
  have HB3 := Lib.hid (show Below w2.heap.size w2 wn3008 from hH3009)
  generalize wn3008 = w3 at *
  have HF3 : Hid (Fr w w3 Fd) := Lib.hid (HF2.out.trans (Fr.of_below (F := Fd) HB3.out) (fun _ _ h => h))
  have B3 := Lib.hid (B2.out.keep (HB3.out.block g HGL.out) HB3.out.size)
  have S3 := Lib.hid (S2.out.below HB3.out)
  have RI := Lib.hid (RI2.out.below HB3.out)
  have HAC := Lib.hid (activate_yes S3.out HMAY.out HON.out HTR.out)
  go_wp2_with ((with_reducible show wpList _ _ _ _ _ _); refine wpList_load_st (o := ⟨some 46, _, _, _, _, _⟩) rfl _ (.tmp 45) rfl g rfl cs _ B3.out.st Tryz.underlying39 rfl IN.out ?_)
  refine HAC.out.mono ?_
  rintro e w4 ⟨ds, rfl, hs4, hb4⟩
  have IS := Lib.hid hs4.out.inf
  have OS := Lib.hid hs4.out.one
  have SS : Hid (17 = ds.size) := Lib.hid hs4.out.size.symm
  have HS4 := Lib.hid hs4.out
  have HB4 := Lib.hid hb4.out
  have Z34 : Hid (w2.heap.size ≤ w3.heap.size ∧ w3.heap.size ≤ w4.heap.size) := Lib.hid ⟨HB3.out.size, hb4.out.size⟩
  clear hs4 hb4 HAC
  go_upto_region 8 with ((with_reducible show wpList _ _ _ _ _ _); refine wpList_store_new rfl rfl _ (.tmp 5) (.tmp 48) rfl _ _ ds _ rfl rfl IS.out SS.out OS.out ?_)
  have HX5 := Lib.hid (heap_alloc_new w4 (.cells ds 39))
  have HB5 : Hid (Below w3.heap.size w3 (w4.alloc (.cells ds 39))) := Lib.hid (HB4.out.alloc HB4.out.size _)
  have HS5 : Hid (IsSt (w4.alloc (.cells ds 39)) (fun b => w3.heap.size ≤ b) ds q.L.activate) := Lib.hid (HS4.out.below ((Below.refl _ _).alloc (Nat.le_refl _) _))
  have HR5 := Lib.hid (RI.out.below HB5.out)
  generalize w4.alloc (.cells ds 39) = w5 at *
  have B5 := Lib.hid (B3.out.keep (HB5.out.block g B3.out.lt) HB5.out.size)
  have k0 : w5.drew.cell? ⟨w4.heap.size, 0, none⟩ = some (.int .i64 q.L.activate.act) := (cell_of_row w5 w4.heap.size 0 _ _ (0, 0) HX5.out).trans HS5.out.c0
  have HFD : Hid (Fr w w5 Fd) := Lib.hid (HF3.out.trans (Fr.of_below (F := Fd) HB5.out) (fun _ _ h => h))
  clear HS4 HB4 RI
  rcases HAT.out with ha | ha
  ·have hact : q.L.activate.act = 1 := by rw [(activate_is q.L).1, ha]; rfl
   rw [hact] at k0
   have ca : w5.drew.cell? ⟨g, 19, none⟩ = _ := B5.out.b
   have fa : w5.drew.frozen? ⟨g, 19, none⟩ = false := by have := (B5.out.th 19 (by omega)).2; rwa [Nat.zero_add] at this
   have HACT := Lib.hid ha
   clear hact ha
   go_region
   have hbx6 := B5.out.set1 BSZ.out (o := 19) (.slice AI mi ci) (by omega) (by omega)
   have B6 : Hid (Bx (w5.setCell ⟨g, 19, none⟩ (.slice AI mi ci)).drew g _ cs _ _ _) := Lib.hid (hbx6.keep (W' := (w5.setCell ⟨g, 19, none⟩ (.slice AI mi ci)).drew) rfl (Nat.le_refl _))
   have HF6 : Hid (Fr w5 (w5.setCell ⟨g, 19, none⟩ (.slice AI mi ci)).drew (fun b => b = g)) := Lib.hid (Fr.trans (fr_setCell w5 g 19 (.slice AI mi ci) (F := fun b => b = g) rfl) (Fr.of_below (F := fun b => b = g) (Below.refl _ _).drew) (fun _ _ e => e))
   have HX6 : Hid ((w5.setCell ⟨g, 19, none⟩ (.slice AI mi ci)).drew.heap[w4.heap.size]? = some (.cells ds 39 (0, 0))) := Lib.hid ((HF6.out.block w4.heap.size (Array.getElem?_eq_some_iff.1 HX5.out).1 (by have := HGL.out; have := Z34.out; omega)).trans HX5.out)
   clear hbx6 ca fa k0
   generalize (w5.setCell ⟨g, 19, none⟩ (.slice AI mi ci)).drew = w6 at *
   have TH := Lib.hid (B6.out.thS SS.out.symm)
   have hbx7 := B6.out.setS SS.out.symm
   have cp := hbx7.p
   have fp := (hbx7.th 20 (by omega)).2
   rw [Nat.zero_add] at fp
   clear hbx7
   go_wp2_with (first
    | ((with_reducible show wpList _ _ _ _ _ _); refine wpList_load_row (o := ⟨some 62, _, _, _, _, _⟩) rfl _ (.tmp 5) rfl w4.heap.size rfl _ _ _ _ HX6.out Tryz.underlying39 rfl IS.out ?_)
    | ((with_reducible show wpList _ _ _ _ _ _); refine wpList_store_mid rfl _ (.tmp 64) (.tmp 62) rfl g 1 ds rfl rfl TH.out IS.out OS.out ?_))
   go_ret
   have hb8 := (B6.out.setS SS.out.symm).set1 SS.out.symm (o := 20) (.pointer none) (by omega) (by omega)
   have hfr : Fr w5 ((w6.setCells g 1 ds.toList).setCell ⟨g, 20, none⟩ (.pointer none)) (fun b => b = g) := HF6.out.trans ((fr_setCells w6 g 1 ds.toList (F := fun b => b = g) rfl).trans (fr_setCell _ g 20 _ (F := fun b => b = g) rfl) (fun _ _ e => e)) (fun _ _ e => e)
   have hz := HF3.out.size
   have hz5 := HB5.out.size
   have q0 := HQ.out
   rw [if_pos HACT.out, if_pos HACT.out] at q0
   have HR5i : RowP w5 (fun b => w.heap.size ≤ b ∧ b < w5.heap.size) AI img.length (bv img) := by rw [HIL.out]; exact HR5.out.imp fun b hl hb => ⟨hb, hl⟩
   obtain ⟨a, b⟩ := HH.out.new (B := w5.heap.size) (K := q.L.activate) (d' := none) (j1 := img) HFD.out (by omega) (Nat.le_refl _) (HS5.out.imp fun b hl hb => ⟨(by omega : w.heap.size ≤ b), hl⟩) (.inl ⟨rfl, rfl⟩) (.inr HR5i) (Fd' := fun _ => False) (pd' := .pointer none) rfl (fun b hb => hb.elim) hfr (by rw [HIL.out]; exact hb8)
   rw [← q0]
   exact ⟨rfl, Lib.hid a, Lib.hid b⟩
  ·have hact : q.L.activate.act = 0 := by rw [(activate_is q.L).1, ha]; rfl
   rw [hact] at k0
   have ca : w5.drew.cell? ⟨g, 18, none⟩ = _ := B5.out.a
   have fa : w5.drew.frozen? ⟨g, 18, none⟩ = false := by have := (B5.out.th 18 (by omega)).2; rwa [Nat.zero_add] at this
   have HACT := Lib.hid ha
   clear hact ha
   go_region
   have hbx6 := B5.out.set1 BSZ.out (o := 18) (.slice AI mi ci) (by omega) (by omega)
   have B6 : Hid (Bx (w5.setCell ⟨g, 18, none⟩ (.slice AI mi ci)).drew g _ cs _ _ _) := Lib.hid (hbx6.keep (W' := (w5.setCell ⟨g, 18, none⟩ (.slice AI mi ci)).drew) rfl (Nat.le_refl _))
   have HF6 : Hid (Fr w5 (w5.setCell ⟨g, 18, none⟩ (.slice AI mi ci)).drew (fun b => b = g)) := Lib.hid (Fr.trans (fr_setCell w5 g 18 (.slice AI mi ci) (F := fun b => b = g) rfl) (Fr.of_below (F := fun b => b = g) (Below.refl _ _).drew) (fun _ _ e => e))
   have HX6 : Hid ((w5.setCell ⟨g, 18, none⟩ (.slice AI mi ci)).drew.heap[w4.heap.size]? = some (.cells ds 39 (0, 0))) := Lib.hid ((HF6.out.block w4.heap.size (Array.getElem?_eq_some_iff.1 HX5.out).1 (by have := HGL.out; have := Z34.out; omega)).trans HX5.out)
   clear hbx6 ca fa k0
   generalize (w5.setCell ⟨g, 18, none⟩ (.slice AI mi ci)).drew = w6 at *
   have TH := Lib.hid (B6.out.thS SS.out.symm)
   have hbx7 := B6.out.setS SS.out.symm
   have cp := hbx7.p
   have fp := (hbx7.th 20 (by omega)).2
   rw [Nat.zero_add] at fp
   clear hbx7
   go_wp2_with (first
    | ((with_reducible show wpList _ _ _ _ _ _); refine wpList_load_row (o := ⟨some 62, _, _, _, _, _⟩) rfl _ (.tmp 5) rfl w4.heap.size rfl _ _ _ _ HX6.out Tryz.underlying39 rfl IS.out ?_)
    | ((with_reducible show wpList _ _ _ _ _ _); refine wpList_store_mid rfl _ (.tmp 64) (.tmp 62) rfl g 1 ds rfl rfl TH.out IS.out OS.out ?_))
   go_ret
   have hb8 := (B6.out.setS SS.out.symm).set1 SS.out.symm (o := 20) (.pointer none) (by omega) (by omega)
   have hfr : Fr w5 ((w6.setCells g 1 ds.toList).setCell ⟨g, 20, none⟩ (.pointer none)) (fun b => b = g) := HF6.out.trans ((fr_setCells w6 g 1 ds.toList (F := fun b => b = g) rfl).trans (fr_setCell _ g 20 _ (F := fun b => b = g) rfl) (fun _ _ e => e)) (fun _ _ e => e)
   have hz := HF3.out.size
   have hz5 := HB5.out.size
   have q0 := HQ.out
   rw [if_neg (by have := HACT.out; omega), if_neg (by have := HACT.out; omega)] at q0
   have HR5i : RowP w5 (fun b => w.heap.size ≤ b ∧ b < w5.heap.size) AI img.length (bv img) := by rw [HIL.out]; exact HR5.out.imp fun b hl hb => ⟨hb, hl⟩
   obtain ⟨a, b⟩ := HH.out.new (B := w5.heap.size) (K := q.L.activate) (d' := none) (j0 := img) HFD.out (by omega) (Nat.le_refl _) (HS5.out.imp fun b hl hb => ⟨(by omega : w.heap.size ≤ b), hl⟩) (.inr HR5i) (.inl ⟨rfl, rfl⟩) (Fd' := fun _ => False) (pd' := .pointer none) rfl (fun b hb => hb.elim) hfr (by rw [HIL.out]; exact hb8)
   rw [← q0]
   exact ⟨rfl, Lib.hid a, Lib.hid b⟩
 ·have HEQ : Hid ((Sha.D img == q.L.m.h) = false) := Lib.hid (by simpa using hD)
  have HQ := Lib.hid hQ
  rw [if_neg hD] at HQ
  clear hD hQ
  go_upto_region 2 with fail
  refine id ?_
  refine wp_region_noPanic ?_
  refine wp_region_held_drew (S := (fun W => Below (w2.heap.size) w2 W)) (by kernel_rfl) (Below.refl _ _).drew (fun hH0 => ?_)
  have hH0 : Below (w2.heap.size) w2 w2.drew := hH0
  generalize w2.drew = wd4000 at *
  refine wpAnyH_take (i := 0) (oi := _) (v := ?tkv4001) rfl (by kernel_rfl) (by kernel_rfl) (by kernel_rfl) (fun _ _ _ h => h) (Or.inl ⟨by rfl, ?tky4001⟩) hH0 ?tkr4001
  case tky4001 => (intro w' hSw; clear hSw; go_simp; try with_reducible rfl)
  try simp only [Act.put, zqa, zqb, zqc]
  refine wpAnyH_take (i := 2) (oi := _) (v := ?tkv4002) rfl (by kernel_rfl) (by kernel_rfl) (by kernel_rfl) (fun _ _ _ h => h) (Or.inl ⟨by rfl, ?tky4002⟩) hH0 ?tkr4002
  case tky4002 => (intro w' hSw; clear hSw; go_simp; try with_reducible rfl)
  try simp only [Act.put, zqa, zqb, zqc]
  refine wpAnyH_take (i := 3) (oi := _) (v := ?tkv4003) rfl (by kernel_rfl) (by kernel_rfl) (by kernel_rfl) (fun _ _ _ h => h) (Or.inl ⟨by rfl, ?tky4003⟩) hH0 ?tkr4003
  case tky4003 => (intro w' hSw; clear hSw; go_simp; try with_reducible rfl)
  try simp only [Act.put, zqa, zqb, zqc]
  refine wpAnyH_take (i := 4) (oi := _) (v := ?tkv4004) rfl (by kernel_rfl) (by kernel_rfl) (by kernel_rfl) (fun _ _ _ h => h) (Or.inl ⟨by rfl, ?tky4004⟩) hH0 ?tkr4004
  case tky4004 => (intro w' hSw; clear hSw; go_simp; try with_reducible rfl)
  try simp only [Act.put, zqa, zqb, zqc]
  refine wpAnyH_take (i := 5) (oi := _) (v := ?tkv4005) rfl (by kernel_rfl) (by kernel_rfl) (by kernel_rfl) (fun _ _ _ h => h) (Or.inl ⟨by rfl, ?tky4005⟩) hH0 ?tkr4005
  case tky4005 => (intro w' hSw; clear hSw; go_simp; try with_reducible rfl)
  try simp only [Act.put, zqa, zqb, zqc]
  refine wpAnyH_take (i := 6) (oi := _) (v := ?tkv4006) rfl (by kernel_rfl) (by kernel_rfl) (by kernel_rfl) (fun _ _ _ h => h) (Or.inl ⟨by rfl, ?tky4006⟩) hH0 ?tkr4006
  case tky4006 => (intro w' hSw; clear hSw; go_simp; try with_reducible rfl)
  try simp only [Act.put, zqa, zqb, zqc]
  refine wpAnyH_take (i := 7) (oi := _) (v := ?tkv4007) rfl (by kernel_rfl) (by kernel_rfl) (by kernel_rfl) (fun _ _ _ h => h) (Or.inl ⟨by rfl, ?tky4007⟩) hH0 ?tkr4007
  case tky4007 => (intro w' hSw; have z0 := HFX.out _ hSw; clear hSw; go_simp; try with_reducible rfl)
  try simp only [Act.put, zqa, zqb, zqc]
  refine wpAnyH_ready (rs := [1]) (by kernel_rfl) (by simp) ?_
  refine AllReadyH.cons (o := _) rfl (fun K hK => ?_) AllReadyH.nil
  go_simp
  refine (HSUM.out wd4000 (hH0)).mono ?_
  rintro e' wn4008 ⟨A4008, c4008, rfl, ho4008, hbb4008⟩
  have hb4008 := hbb4008.out
  have RW4008 : Hid (Row wn4008 wn4008.heap.size A4008 32 (bv (Sha.D img))) := Lib.hid (Row.of_own ho4008.out)
  clear ho4008 hbb4008
  go_simp
  have hS4008 : Below (w2.heap.size) w2 wn4008 := (hH0).trans (hb4008.mono (hH0).size)
  refine hK.out _ _ hS4008 (fun hH4008 => ?_)
  have hH4008 : Below (w2.heap.size) w2 wn4008 := hH4008
  clear hK K hS4008
  try simp only [Act.put, zqa, zqb, zqc]
  refine wpAnyH_ready (rs := [8]) (by kernel_rfl) (by simp) ?_
  refine AllReadyH.cons (o := _) rfl (fun K hK => ?_) AllReadyH.nil
  go_simp
  have he4009 := equal_any wn4008.heap.size 32 c4008 32 ch A4008 Ah (Sha.D img) q.L.m.h wn4008 RW4008.out (HRH.out wn4008 (hH4008))
  rw [HEQ.out] at he4009
  refine he4009.mono ?_
  clear he4009
  rintro e' wn4009 ⟨rfl, hq4009⟩
  obtain rfl : wn4008 = wn4009 := hq4009.symm
  go_simp
  have hS4009 : Below (w2.heap.size) w2 wn4008 := hH4008
  refine hK.out _ _ hS4009 (fun hH4009 => ?_)
  have hH4009 : Below (w2.heap.size) w2 wn4008 := hH4009
  clear hK K hS4009
  try simp only [Act.put, zqa, zqb, zqc]
  refine wpAnyH_take (i := 9) (oi := _) (v := ?tkv4010) rfl (by kernel_rfl) (by kernel_rfl) (by kernel_rfl) (fun _ _ _ h => h) (Or.inl ⟨by rfl, ?tky4010⟩) hH4009 ?tkr4010
  case tky4010 => (intro w' hSw; clear hSw; go_simp; try with_reducible rfl)
  try simp only [Act.put, zqa, zqb, zqc]
  refine wpAnyH_done (by kernel_rfl) ?_ _
  refine NoPanic.normal ?_
  have HB3 := Lib.hid (show Below w2.heap.size w2 wn4008 from hH4009)
  generalize wn4008 = w3 at *
  have HF3 : Hid (Fr w w3 Fd) := Lib.hid (HF2.out.trans (Fr.of_below (F := Fd) HB3.out) (fun _ _ h => h))
  have B3 := Lib.hid (B2.out.keep (HB3.out.block g HGL.out) HB3.out.size)
  have S3 := Lib.hid (S2.out.below HB3.out)
  have RI := Lib.hid (RI2.out.below HB3.out)
  have HDR := Lib.hid (dropS (S3.out) HLI.out)
  go_wp2_with ((with_reducible show wpList _ _ _ _ _ _); refine wpList_load_st (o := ⟨some 36, _, _, _, _, _⟩) rfl _ (.tmp 35) rfl g rfl cs _ B3.out.st Tryz.underlying39 rfl IN.out ?_)
  refine HDR.out.mono ?_
  rintro e w4 ⟨ds, rfl, hs4, hb4⟩
  have IS := Lib.hid hs4.out.inf
  have OS := Lib.hid hs4.out.one
  have SS : Hid (ds.size = 17) := Lib.hid hs4.out.size
  have HS4 := Lib.hid hs4.out
  have HB4 := Lib.hid hb4.out
  have B4 := Lib.hid (B3.out.keep (hb4.out.block g B3.out.lt) hb4.out.size)
  have TH := Lib.hid (B4.out.thS SS.out)
  have hbx7 := B4.out.setS SS.out
  have cp := hbx7.p
  have fp := (hbx7.th 20 (by omega)).2
  rw [Nat.zero_add] at fp
  clear hs4 hb4 HDR hbx7
  go_wp2_with ((with_reducible show wpList _ _ _ _ _ _); refine wpList_store_mid rfl _ (.tmp 39) (.tmp 37) rfl g 1 ds rfl rfl TH.out IS.out OS.out ?_)
  go_ret
  have hb8 := (B4.out.setS SS.out).set1 SS.out (o := 20) (.pointer none) (by omega) (by omega)
  have hfr : Fr w4 ((w4.setCells g 1 ds.toList).setCell ⟨g, 20, none⟩ (.pointer none)) (fun b => b = g) := (fr_setCells w4 g 1 ds.toList (F := fun b => b = g) rfl).trans (fr_setCell _ g 20 _ (F := fun b => b = g) rfl) (fun _ _ e => e)
  have hz := HF3.out.size
  obtain ⟨a, b⟩ := HH.out.new (B := w4.heap.size) (K := q.L.drop) (d' := none) (HF3.out.trans (Fr.of_below (F := Fd) HB4.out) (fun _ _ h => h)) (Nat.le_trans hz HB4.out.size) (Nat.le_refl _) (HS4.out.imp fun b hl hb => ⟨(by omega : w.heap.size ≤ b), hl⟩) (.inl ⟨rfl, rfl⟩) (.inl ⟨rfl, rfl⟩) (Fd' := fun _ => False) (pd' := .pointer none) rfl (fun b hb => hb.elim) hfr hb8
  rw [← HQ.out]
  exact ⟨rfl, Lib.hid a, Lib.hid b⟩
end Go.Proofs.YtmncpgfdpcckpaaGreatDoor.Mo
