/- -/
import Derived.Test.YtkllhjhkcipkoaaGreatDoorTHG4
set_option linter.unusedVariables false
set_option linter.unusedSimpArgs false
set_option maxRecDepth 100000
set_option maxHeartbeats 4000000
namespace Go.Proofs.YtkllhjhkcipkoaaGreatDoor.Rg
open Go.RowKit Go.Shelf Go.Maps Go.Proofs.YtkllhjhkcipkoaaGreatDoor.C Go.Proofs.YtkllhjhkcipkoaaGreatDoor.E
attribute [local go_sem] Oper.semAt_some

theorem one_nils (x:Int):∀ v∈[Value.int .i64 x,.slice none 0 0,.slice none 0 0,.slice none 0 0,.slice none 0 0,.slice none 0 0,.slice none 0 0,.slice none 0 0,.slice none 0 0,.slice none 0 0,.slice none 0 0,.slice none 0 0,.slice none 0 0,.slice none 0 0,.slice none 0 0,.slice none 0 0,.slice none 0 0,.slice none 0 0],v.oneCell'=true:=by
 intro v hv
 simp at hv
 rcases hv with rfl | rfl <;> rfl
theorem moved_slots (P:Nat) (hp:(P:Int)∈prm) (b:Int) (b0:0≤b) (b1:b<P) (vs us:List Value) (hu:us.length=18) (r:Nat) (hr:r<P):(mvL vs us 0 (walkN (P:Int) b 1))[r+1]?=some (vs[(((r:Int) - b) % P).toNat+1]?.getD undef):=by
 have hb:=prm_bounds hp
 have h1:(1:Int) % (P:Int)=1:=Int.emod_eq_of_lt (by omega) (by omega)
 have hi:(1:Int) % (P:Int) * 1 % (P:Int)=1:=by rw [h1];exact h1
 rw [walkN_yes (fine_one.2 ⟨hp,b0,b1⟩),Int.toNat_natCast]
 have h0:=Int.emod_nonneg ((r:Int) - b) (show (P:Int)≠0 by omega)
 have h2:=Int.emod_lt_of_pos ((r:Int) - b) (show (0:Int)<P by omega)
 have e1:((r:Int) - b) % (P:Int) * 1 % (P:Int)=((r:Int) - b) % (P:Int):=by rw [Int.mul_one,Int.emod_emod_of_dvd _ (Int.dvd_refl _)]
 have hc:=walk_comes P (by omega) b (r:Int) (1 % (P:Int)) 1 hi (by omega) (by omega)
 rw [e1] at hc
 rw [mvL_at vs r (walkL P b (1 % (P:Int))) us 0 (((r:Int) - b) % (P:Int)).toNat ?_ (walk_nodup P b _ 1 hi) ?_,Nat.zero_add]
 · intro x hx
   have:=walk_in P (by omega) b (1 % (P:Int)) x hx
   omega
 · unfold walkL
   rw [List.getElem?_map,List.getElem?_range (by omega),Option.map_some,hc]
theorem moved_any {B:Nat} (P Q n:Nat) (hQ:P=Q+1) (hp:(P:Int)∈prm) (f:Nat→List UInt8) (vs:List Value) (by_:Int) (y1:-9223372036854775808≤by_) (y2:by_≤9223372036854775807) (w:World) (hL:Laid w) (hB:B≤w.heap.size) (hV:ColV B w P n f vs) :
 Calls Tryz.prog 132 #[.agg vs.toArray,.int .i64 by_] w fun e w'=>∃ us,e = .returned (.agg us.toArray)∧ColV B w' P n (fun r=>f (((r:Int) - by_) % P).toNat) us∧Below w.heap.size w w':=by
 have hpb:=prm_bounds hp
 have hVB:=Lib.hid (fun (U:World) (hU:Below w.heap.size w U)=>hV.below (hU.mono hB))
 obtain ⟨hl,h0,hr,h1c⟩:=hV
 obtain ⟨WX,hWX⟩:∃ x,((w.alloc (.cells vs.toArray 146)).alloc (.cells #[.int .i64 0,.slice none 0 0,.slice none 0 0,.slice none 0 0,.slice none 0 0,.slice none 0 0,.slice none 0 0,.slice none 0 0,.slice none 0 0,.slice none 0 0,.slice none 0 0,.slice none 0 0,.slice none 0 0,.slice none 0 0,.slice none 0 0,.slice none 0 0,.slice none 0 0,.slice none 0 0] 146))=x:=⟨_,rfl⟩
 have hBX:Below w.heap.size w WX:=by rw [←hWX];exact below_two w _ _
 have bX0:Blk WX w.heap.size 146 vs.toArray:=by rw [←hWX];exact (Blk.new w _ _).alloc _
 have bX1:Blk WX (w.heap.size+1) 146 #[.int .i64 0,.slice none 0 0,.slice none 0 0,.slice none 0 0,.slice none 0 0,.slice none 0 0,.slice none 0 0,.slice none 0 0,.slice none 0 0,.slice none 0 0,.slice none 0 0,.slice none 0 0,.slice none 0 0,.slice none 0 0,.slice none 0 0,.slice none 0 0,.slice none 0 0,.slice none 0 0]:=by rw [←hWX];exact Blk.second w _ _ _
 have sX:WX.heap.size=w.heap.size+2:=by rw [←hWX];simp
 obtain ⟨WA,hWA⟩:∃ x,((WX.alloc (.cells #[.int .i64 0,.slice none 0 0,.slice none 0 0,.slice none 0 0,.slice none 0 0,.slice none 0 0,.slice none 0 0,.slice none 0 0,.slice none 0 0,.slice none 0 0,.slice none 0 0,.slice none 0 0,.slice none 0 0,.slice none 0 0,.slice none 0 0,.slice none 0 0,.slice none 0 0,.slice none 0 0] 146)).alloc (.cells #[.int .i64 0] 3))=x:=⟨_,rfl⟩
 have hBA:Below WX.heap.size WX WA:=by rw [←hWA];exact below_two WX _ _
 have bA2:Blk WA WX.heap.size 146 #[.int .i64 0,.slice none 0 0,.slice none 0 0,.slice none 0 0,.slice none 0 0,.slice none 0 0,.slice none 0 0,.slice none 0 0,.slice none 0 0,.slice none 0 0,.slice none 0 0,.slice none 0 0,.slice none 0 0,.slice none 0 0,.slice none 0 0,.slice none 0 0,.slice none 0 0,.slice none 0 0]:=by rw [←hWA];exact (Blk.new WX _ _).alloc _
 have bA3:Blk WA (WX.heap.size+1) 3 #[.int .i64 0]:=by rw [←hWA];exact Blk.second WX _ _ _
 have sA:WA.heap.size=WX.heap.size+2:=by rw [←hWA];simp
 have HST:(storeVar 146 ⟨WX.heap.size,0,none⟩ (.agg #[.int .i64 (P:Int),.slice none 0 0,.slice none 0 0,.slice none 0 0,.slice none 0 0,.slice none 0 0,.slice none 0 0,.slice none 0 0,.slice none 0 0,.slice none 0 0,.slice none 0 0,.slice none 0 0,.slice none 0 0,.slice none 0 0,.slice none 0 0,.slice none 0 0,.slice none 0 0,.slice none 0 0])).run Tryz.prog WA = .ok () (WA.setRow WX.heap.size #[.int .i64 (P:Int),.slice none 0 0,.slice none 0 0,.slice none 0 0,.slice none 0 0,.slice none 0 0,.slice none 0 0,.slice none 0 0,.slice none 0 0,.slice none 0 0,.slice none 0 0,.slice none 0 0,.slice none 0 0,.slice none 0 0,.slice none 0 0,.slice none 0 0,.slice none 0 0,.slice none 0 0]):=store_col0 bA2 rfl rfl (one_nils _)
 have bR3:Blk (WA.setRow WX.heap.size #[.int .i64 (P:Int),.slice none 0 0,.slice none 0 0,.slice none 0 0,.slice none 0 0,.slice none 0 0,.slice none 0 0,.slice none 0 0,.slice none 0 0,.slice none 0 0,.slice none 0 0,.slice none 0 0,.slice none 0 0,.slice none 0 0,.slice none 0 0,.slice none 0 0,.slice none 0 0,.slice none 0 0]) (WX.heap.size+1) 3 #[.int .i64 0]:=bA3.farRow (by omega) _
 obtain ⟨W2,hW2⟩:∃ x,(WA.setRow WX.heap.size #[.int .i64 (P:Int),.slice none 0 0,.slice none 0 0,.slice none 0 0,.slice none 0 0,.slice none 0 0,.slice none 0 0,.slice none 0 0,.slice none 0 0,.slice none 0 0,.slice none 0 0,.slice none 0 0,.slice none 0 0,.slice none 0 0,.slice none 0 0,.slice none 0 0,.slice none 0 0,.slice none 0 0]).setCell ⟨WX.heap.size+1,0,none⟩ (.int .i64 0)=x:=⟨_,rfl⟩
 have q2:Blk W2 WX.heap.size 146 #[.int .i64 (P:Int),.slice none 0 0,.slice none 0 0,.slice none 0 0,.slice none 0 0,.slice none 0 0,.slice none 0 0,.slice none 0 0,.slice none 0 0,.slice none 0 0,.slice none 0 0,.slice none 0 0,.slice none 0 0,.slice none 0 0,.slice none 0 0,.slice none 0 0,.slice none 0 0,.slice none 0 0]:=by rw [←hW2];exact (bA2.setRow _).far (by show WX.heap.size≠WX.heap.size+1;omega) _
 have q3:Blk W2 (WX.heap.size+1) 3 #[.int .i64 0]:=by rw [←hW2];exact bR3.set_ 0 _
 have q0:Blk W2 w.heap.size 146 vs.toArray:=by rw [←hW2];exact ((bX0.below hBA bX0.lt).farRow (by omega) _).far (by show w.heap.size≠WX.heap.size+1;omega) _
 have q1:Blk W2 (w.heap.size+1) 146 #[.int .i64 0,.slice none 0 0,.slice none 0 0,.slice none 0 0,.slice none 0 0,.slice none 0 0,.slice none 0 0,.slice none 0 0,.slice none 0 0,.slice none 0 0,.slice none 0 0,.slice none 0 0,.slice none 0 0,.slice none 0 0,.slice none 0 0,.slice none 0 0,.slice none 0 0,.slice none 0 0]:=by rw [←hW2];exact ((bX1.below hBA bX1.lt).farRow (by omega) _).far (by show w.heap.size+1≠WX.heap.size+1;omega) _
 have hBW:Below w.heap.size w W2:=by rw [←hW2];exact (C.below_setRow (below_in hBX hBA) (by omega) _).setCell (by show w.heap.size≤WX.heap.size+1;omega) _
 have s2:W2.heap.size=WX.heap.size+2:=by rw [←hW2];simp [World.setRow,sA]
 have k0:=bX0.cell 0
 rw [List.getElem?_toArray,h0] at k0
 have k3:=bR3.one
 have k4:=bR3.frozen 0
 obtain ⟨b,hb⟩:∃ b,by_ % (P:Int)=b:=⟨_,rfl⟩
 have b1:0≤b:=by rw [←hb];exact Int.emod_nonneg _ (by omega)
 have b2:b<(P:Int):=by rw [←hb];exact Int.emod_lt_of_pos _ (by omega)
 have HPL:Hid (∀ U:World,Below w.heap.size w U→Calls Tryz.prog 151 #[.agg vs.toArray,.int .i64 by_] U fun e w'=>e = .returned (.int .i64 b)∧Below U.heap.size U w'):=fun U hU=>by
  have:=place_any P vs hp h0 by_ y1 y2 U (hL.next hU)
  rwa [hb] at this
 have HWK:=Lib.hid (fun (U:World) (hU:Below w.heap.size w U)=>modWalk_anyO (P:Int) b 1 (fine_one.2 ⟨hp,b1,b2⟩) U (hL.next hU) (by omega) (by omega))
 have HSS:Hid (∀ U,Below W2.heap.size W2 U→(fun U:World=>U.cell? ⟨w.heap.size,0,none⟩=some (.int .i64 (P:Int))∧LoadIs Tryz.prog 146 ⟨w.heap.size,0,none⟩ (.agg vs.toArray) U) U):=fun U hU=>⟨by
  have:=(q0.below hU q0.lt).cell 0
  rwa [List.getElem?_toArray,h0] at this,load_col0 (q0.below hU q0.lt) hl⟩
 have hBx:=(Below.refl W2.heap.size W2).drew
 obtain ⟨ws,hws⟩:∃ ws,(vs.drop 1).take 17=ws:=⟨_,rfl⟩
 have hwl:ws.length=17:=by rw [←hws,List.length_take,List.length_drop];omega
 have HLW:=Lib.hid (fun (X:World) (hX:Blk X w.heap.size 146 vs.toArray)=>(by
  have:=load_whole hX 1 (by omega)
  rwa [hws] at this:LoadIs Tryz.prog 144 ⟨w.heap.size,1,none⟩ (.agg ws.toArray) X))
 have HCE:=Lib.hid (fun (k:Nat) (hk:k<P) (X:World) (u:Value) (hu:vs[k+1]?=some u)=>cell_any ws k u hwl (by rw [←hws,ws_get hl k (by omega),hu]) X)
 have HR:=Lib.hid hr
 have HVS:=Lib.hid (⟨hl,h0,h1c⟩:_∧_∧_)
 have HQ:=Lib.hid hQ
 have HPP:=Lib.hid hp
 have HBY:=Lib.hid hb
 have HSX:=Lib.hid sX
 have HS2:=Lib.hid s2
 clear hl h0 hr h1c hws hwl bX0 bX1 bA2 bA3 bR3 sX sA s2 hQ hp hb hBX hBA hL
 refine (callsIn_wide (n:=9)).1 ?_
 refine callsIn_of_wp_marks Tryz.func132 rfl trivial ?_ rfl
 simp only [Tryz.ntmps132,List.size_toArray,List.length_cons,List.length_nil,Nat.reduceAdd,Nat.reduceSub,Array.replicate_succ,Array.replicate_zero,List.push_toArray,List.append_toArray,List.nil_append,List.cons_append]
 gi_wp2_with (refine wpListIn_storeS rfl rfl rfl rfl HST ?_)
 clear HST hWX hWA hW2 k0 k3 k4
 have hS:(fun U:World=>U.cell? ⟨w.heap.size,0,none⟩=some (.int .i64 (P:Int))∧LoadIs Tryz.prog 146 ⟨w.heap.size,0,none⟩ (.agg vs.toArray) U) W2.drew:=HSS.out _ hBx
 refine wpIn_mono (region_HF (Q:=NoPanic _) (S:=(fun U:World=>U.cell? ⟨w.heap.size,0,none⟩=some (.int .i64 (P:Int))∧LoadIs Tryz.prog 146 ⟨w.heap.size,0,none⟩ (.agg vs.toArray) U)) (by kernel_rfl) ?_) NoPanic.imp
 refine tkF (i:=0) (d:=11) (v:=.pointer (some ⟨w.heap.size,0,none⟩)) (s:=hS) (c:=?_)
 simp only [ud9]
 refine tkF (i:=1) (d:=12) (v:=.int .i64 (P:Int)) (s:=hS) (c:=?_)
 simp only [ud9]
 refine anyHF_take (i:=2) (d:=13) (v:=.agg vs.toArray) (by kernel_rfl) rfl (by kernel_rfl) (by kernel_rfl) (by kernel_rfl) rfl (fun _ _ _ h=>h) ⟨Or.inl ⟨by rfl,fun w hS=>by obtain ⟨h0,h1⟩:=hS;exact exec_load rfl rfl (by first | exact h1)⟩,fun _=>rfl⟩ hS ?_
 simp only [ud9]
 refine tkF (i:=3) (d:=14) (v:=.int .i64 by_) (s:=hS) (c:=?_)
 simp only [ud9]
 refine oneF (i:=4) (c:=?_)
 gi_wp2_with fail
 refine ⟨trivial,(callsIn_wide.2 (HPL.out _ (below_in hBW hBx))).mono ?_⟩
 rintro e w1 ⟨rfl,hB1⟩
 replace hBx:=below_in hBx hB1
 clear hS
 have hS:=HSS.out _ hBx
 gi_wp2
 try (refine ⟨hS,?_⟩)
 refine oneF (i:=5) (c:=?_)
 gi_wp2_with fail
 refine ⟨trivial,(callsIn_wide.2 (HWK.out _ (below_in hBW hBx))).mono ?_⟩
 rintro e w2 ⟨v',rfl,⟨gf,lb,rfl,eg,hgo⟩,hB2⟩
 have hBx1:=hBx
 replace hBx:=below_in hBx hB2
 clear hS
 have hS:=HSS.out _ hBx
 gi_wp2
 try (refine ⟨hS,?_⟩)
 refine anyHF_done (by kernel_rfl) ?_ _
 refine NoPanic.normal ?_
 have hlen:(walkN (P:Int) b 1).length=P:=by rw [walkN_yes (fine_one.2 ⟨HPP.out,b1,b2⟩),walkL_len,Int.toNat_natCast]
 have hsz1:=hBx1.size
 have hszb:=hB2.size
 have sX:=HSX.out
 have s2:=HS2.out
 have h16:WX.heap.size+2≤w1.heap.size:=by omega
 clear hS sX s2
 gi_wp2_with fail
 refine wpIn_rangeActO rfl (by omega) (gf:=gf) (lb:=lb) rfl trivial eg (hgo _ (by omega)) (fun h h'=>h.trans h') (fun X l' ob hl' hlX _=>Keep.putFar X (by omega) ob) (Below.refl _ _) (fun _=>rfl)
  (fun (pre:List Int) X=>Blk X w.heap.size 146 vs.toArray∧Blk X (w.heap.size+1) 146 #[.int .i64 0,.slice none 0 0,.slice none 0 0,.slice none 0 0,.slice none 0 0,.slice none 0 0,.slice none 0 0,.slice none 0 0,.slice none 0 0,.slice none 0 0,.slice none 0 0,.slice none 0 0,.slice none 0 0,.slice none 0 0,.slice none 0 0,.slice none 0 0,.slice none 0 0,.slice none 0 0]∧Blk X WX.heap.size 146 (mvL vs [.int .i64 (P:Int),.slice none 0 0,.slice none 0 0,.slice none 0 0,.slice none 0 0,.slice none 0 0,.slice none 0 0,.slice none 0 0,.slice none 0 0,.slice none 0 0,.slice none 0 0,.slice none 0 0,.slice none 0 0,.slice none 0 0,.slice none 0 0,.slice none 0 0,.slice none 0 0,.slice none 0 0] 0 pre).toArray∧Blk X (WX.heap.size+1) 3 #[.int .i64 (pre.length:Int)]∧Below w.heap.size w X) (fun _ _ _=>False) ?hI (fun c s o X Y row hs _ _=>hs.2.elim) ?h0 ?act (fun x:Int=>0≤x∧x<(P:Int)) ?assign ?body ?done (fun D c pre W _ _ h=>h.elim)
 case h0=>exact ⟨q0.below hBx q0.lt,q1.below hBx q1.lt,q2.below hBx q2.lt,q3.below hBx q3.lt,below_in hBW hBx⟩
 case hI =>
  have sX:=HSX.out
  exact FarO.and (farO_pure _ (fun _ o=>o=none)) (FarO.and (farO_blk (by omega) _ (fun _=>vs.toArray)) (FarO.and (farO_blk (by omega) _ (fun _=>_)) (FarO.and (farO_blk (by omega) _ (fun pre:List Int=>(mvL vs [.int .i64 (P:Int),.slice none 0 0,.slice none 0 0,.slice none 0 0,.slice none 0 0,.slice none 0 0,.slice none 0 0,.slice none 0 0,.slice none 0 0,.slice none 0 0,.slice none 0 0,.slice none 0 0,.slice none 0 0,.slice none 0 0,.slice none 0 0,.slice none 0 0,.slice none 0 0,.slice none 0 0] 0 pre).toArray)) (FarO.and (farO_blk (by omega) _ (fun pre:List Int=>#[.int .i64 (pre.length:Int)])) (farO_below (Nat.le_refl _) (by omega))))))
 case assign =>
  intro l' pre x X K hsz hi hok hK
  gi_wp2
  exact hK _ (Below.refl _ _) (Keep.refl _ _ _) hi hok
 case body =>
  rintro l' pre x X hsz ⟨p0,p1,p2,p3,hbX⟩ ⟨x0,x1⟩ hln
  rw [hlen] at hln
  obtain ⟨r,rfl⟩:∃ r:Nat,x=(r:Int):=⟨x.toNat,by omega⟩
  have sX:=HSX.out
  obtain ⟨k,hk⟩:∃ k,pre.length=k:=⟨_,rfl⟩
  rw [hk] at p3 hln
  obtain ⟨us,hus⟩:∃ us,mvL vs [.int .i64 (P:Int),.slice none 0 0,.slice none 0 0,.slice none 0 0,.slice none 0 0,.slice none 0 0,.slice none 0 0,.slice none 0 0,.slice none 0 0,.slice none 0 0,.slice none 0 0,.slice none 0 0,.slice none 0 0,.slice none 0 0,.slice none 0 0,.slice none 0 0,.slice none 0 0,.slice none 0 0] 0 pre=us:=⟨_,rfl⟩
  have hul:us.length=18:=by rw [←hus,mvL_len];rfl
  obtain ⟨nk,u,hu,yk⟩:=HR.out k hln
  obtain ⟨Au,cu,eu,_,_⟩:=id yk
  rw [nk] at eu
  subst eu
  have hnext:mvL vs [.int .i64 (P:Int),.slice none 0 0,.slice none 0 0,.slice none 0 0,.slice none 0 0,.slice none 0 0,.slice none 0 0,.slice none 0 0,.slice none 0 0,.slice none 0 0,.slice none 0 0,.slice none 0 0,.slice none 0 0,.slice none 0 0,.slice none 0 0,.slice none 0 0,.slice none 0 0,.slice none 0 0] 0 (pre ++ [(r:Int)])=us.set (1+r) (.slice Au n cu):=by rw [mvL_snoc,hus,hk,Nat.zero_add,Int.toNat_natCast,hu,Nat.add_comm 1 r];rfl
  rw [hus] at p2
  have hlw:=HLW.out X p0
  have hce:=HCE.out k hln X _ hu
  have c3:=p3.one
  have i1:(0:Int)≤(k:Int):=by omega
  have i2:(k:Int)<17:=by omega
  have i3:(0:Int)≤(r:Int):=by omega
  have i4:(r:Int)<17:=by omega
  have hwr:IntKind.i64.wrap ((k:Int)+1)=(k:Int)+1:=IntWalk.i64_in _ (by omega)
  have HUS:=Lib.hid hus
  have HK:=Lib.hid hk
  have HUL:=Lib.hid hul
  have HN:=Lib.hid hnext
  have HS:=Lib.hid sX
  clear hus hk hul hnext sX x0 x1 hlen hu yk nk
  gi_wp2_with (refine wpListIn_loadS rfl rfl rfl hlw ?_)
  refine ⟨trivial,(CallsIn.inRound l' (callsIn_wide.2 hce)).mono ?_⟩
  rintro e X1 ⟨rfl,hB1⟩
  have r2:=p2.below hB1 p2.lt
  have r3:=p3.below hB1 p3.lt
  obtain ⟨old,hold⟩:∃ old,X1.cell? ⟨WX.heap.size,1+r,none⟩=some old:=⟨_,by rw [r2.cell,List.getElem?_toArray,List.getElem?_eq_getElem (by have:=HUL.out;omega)]⟩
  have hfz:=r2.frozen (1+r)
  have d3:(X1.setCell ⟨WX.heap.size,1+r,none⟩ (.slice Au n cu)).cell? ⟨WX.heap.size+1,0,none⟩=some (.int .i64 (k:Int)):=(r3.far (by show WX.heap.size+1≠WX.heap.size;omega) _).one
  have e3:(X1.setCell ⟨WX.heap.size,1+r,none⟩ (.slice Au n cu)).frozen? ⟨WX.heap.size+1,0,none⟩=false:=(r3.far (by show WX.heap.size+1≠WX.heap.size;omega) _).frozen 0
  gi_wp2_with fail
  have sX:=HS.out
  have hO:Only (fun b=>b=WX.heap.size∨b=WX.heap.size+1) X ((X1.setCell ⟨WX.heap.size,1+r,none⟩ (.slice Au n cu)).setCell ⟨WX.heap.size+1,0,none⟩ (.int .i64 ((k:Int)+1))):=(Only.below hB1).trans ((Only.set (.inl rfl) _).trans (Only.set (.inr rfl) _))
  have hl2:w1.heap.size+(w2.heap.size - w1.heap.size)≤X.heap.size:=by omega
  refine ⟨none,.inl rfl,hO.since (fun b hb=>by omega),hO.keep hl2 (fun b hb=>by omega),rfl,?_⟩
  rw [HN.out]
  refine ⟨hO.blk p0 (by omega),hO.blk p1 (by omega),?_,?_,((below_in hbX hB1).setCell (by show w.heap.size≤WX.heap.size;omega) _).setCell (by show w.heap.size≤WX.heap.size+1;omega) _⟩
  · have:=(r2.set_ (1+r) (.slice Au n cu)).far (p:=⟨WX.heap.size+1,0,none⟩) (by show WX.heap.size≠WX.heap.size+1;omega) (.int .i64 ((k:Int)+1))
    rwa [List.setIfInBounds_toArray] at this
  · have:=(r3.far (p:=⟨WX.heap.size,1+r,none⟩) (by show WX.heap.size+1≠WX.heap.size;omega) (.slice Au n cu)).set_ 0 (.int .i64 ((k:Int)+1))
    rw [List.length_append,HK.out]
    exact this
 case done =>
  rintro D xs X hD rfl ⟨p0,p1,p2,p3,hbX⟩ hK
  have sX:=HSX.out
  have hms:=moved_slots P HPP.out b b1 b2 vs [.int .i64 (P:Int),.slice none 0 0,.slice none 0 0,.slice none 0 0,.slice none 0 0,.slice none 0 0,.slice none 0 0,.slice none 0 0,.slice none 0 0,.slice none 0 0,.slice none 0 0,.slice none 0 0,.slice none 0 0,.slice none 0 0,.slice none 0 0,.slice none 0 0,.slice none 0 0,.slice none 0 0] rfl
  have hml:=mvL_len vs (walkN (P:Int) b 1) [.int .i64 (P:Int),.slice none 0 0,.slice none 0 0,.slice none 0 0,.slice none 0 0,.slice none 0 0,.slice none 0 0,.slice none 0 0,.slice none 0 0,.slice none 0 0,.slice none 0 0,.slice none 0 0,.slice none 0 0,.slice none 0 0,.slice none 0 0,.slice none 0 0,.slice none 0 0,.slice none 0 0] 0
  have hmz:=mvL_zero vs (walkN (P:Int) b 1) [.int .i64 (P:Int),.slice none 0 0,.slice none 0 0,.slice none 0 0,.slice none 0 0,.slice none 0 0,.slice none 0 0,.slice none 0 0,.slice none 0 0,.slice none 0 0,.slice none 0 0,.slice none 0 0,.slice none 0 0,.slice none 0 0,.slice none 0 0,.slice none 0 0,.slice none 0 0,.slice none 0 0] 0
  have hm1:=mvL_one vs HVS.out.2.2 (walkN (P:Int) b 1) [.int .i64 (P:Int),.slice none 0 0,.slice none 0 0,.slice none 0 0,.slice none 0 0,.slice none 0 0,.slice none 0 0,.slice none 0 0,.slice none 0 0,.slice none 0 0,.slice none 0 0,.slice none 0 0,.slice none 0 0,.slice none 0 0,.slice none 0 0,.slice none 0 0,.slice none 0 0,.slice none 0 0] 0 (by have:=HVS.out.1;omega) (one_nils _)
  generalize mvL vs [.int .i64 (P:Int),.slice none 0 0,.slice none 0 0,.slice none 0 0,.slice none 0 0,.slice none 0 0,.slice none 0 0,.slice none 0 0,.slice none 0 0,.slice none 0 0,.slice none 0 0,.slice none 0 0,.slice none 0 0,.slice none 0 0,.slice none 0 0,.slice none 0 0,.slice none 0 0,.slice none 0 0] 0 (walkN (P:Int) b 1)=us at *
  have hul:us.length=18:=hml
  have HLD:=load_col0 p2 hul
  have HSD:=store_col0 (cs:=[.int .i64 0,.slice none 0 0,.slice none 0 0,.slice none 0 0,.slice none 0 0,.slice none 0 0,.slice none 0 0,.slice none 0 0,.slice none 0 0,.slice none 0 0,.slice none 0 0,.slice none 0 0,.slice none 0 0,.slice none 0 0,.slice none 0 0,.slice none 0 0,.slice none 0 0,.slice none 0 0]) p1 rfl hul hm1
  have z1:=p1.setRow us.toArray
  have hKz:(X.setRow (w.heap.size+1) us.toArray).heap[D]?=some (.deferred (some [])):=(setRow_other X _ D _ (by omega)).trans hK
  have hbz:=C.below_setRow hbX (show w.heap.size≤w.heap.size+1 by omega) us.toArray
  have HF:Hid (ColV B ((X.setRow (w.heap.size+1) us.toArray).putObj D (.deferred none)) P n (fun r=>f (((r:Int) - by_) % P).toNat) us∧LoadIs Tryz.prog 146 ⟨w.heap.size+1,0,none⟩ (.agg us.toArray) ((X.setRow (w.heap.size+1) us.toArray).putObj D (.deferred none))∧Below w.heap.size w ((X.setRow (w.heap.size+1) us.toArray).putObj D (.deferred none))):=by
   have hWf:Below w.heap.size w ((X.setRow (w.heap.size+1) us.toArray).putObj D (.deferred none)):=hbz.trans (belowK_b (w:=w) (Nat.le_refl _) _ D _ _ (by have:=hbz.size;omega) hKz rfl rfl)
   refine ⟨⟨hul,by rw [hmz];rfl,fun r hr=>?_,hm1⟩,?_,hWf⟩
   · have e1:((r:Int) - b) % (P:Int)=((r:Int) - by_) % (P:Int):=by rw [←HBY.out,Int.sub_emod,Int.emod_emod_of_dvd _ (Int.dvd_refl _),←Int.sub_emod]
     have h0:=Int.emod_nonneg ((r:Int) - by_) (show (P:Int)≠0 by omega)
     have h2:=Int.emod_lt_of_pos ((r:Int) - by_) (show (0:Int)<P by omega)
     obtain ⟨nk,u,hu,yk⟩:=(hVB.out _ hWf).2.2.1 (((r:Int) - by_) % (P:Int)).toNat (by omega)
     have:=hms r hr
     rw [e1,hu] at this
     exact ⟨nk,u,this,yk⟩
   · exact load_col0 ((World.putObj_heap_other (by omega)).trans z1) hul
  clear hms hml hmz hm1
  gi_wp2_with (first | refine wpListIn_loadS rfl rfl rfl HLD ?_ | refine wpListIn_storeS rfl rfl rfl rfl HSD ?_)
  refine ⟨by simp,.inl ⟨_,_,rfl,run_takeDeferred hKz,?_⟩⟩
  exact ⟨_,results_cell rfl rfl HF.out.2.1,us,rfl,HF.out.1,HF.out.2.2⟩
end Go.Proofs.YtkllhjhkcipkoaaGreatDoor.Rg

namespace Go.Proofs.YtkllhjhkcipkoaaGreatDoor.Rg
open Go.RowKit Go.Shelf Go.Proofs.YtkllhjhkcipkoaaGreatDoor.C Go.Proofs.YtkllhjhkcipkoaaGreatDoor.E

def BytesA (A:Nat→Prop) (W:World) (v:Value) (l:List UInt8):Prop :=
 ∃ a cap,v = .slice a l.length cap∧l.length≤cap∧(0<l.length→∃ b off,a=some ⟨b,off,none⟩∧b<W.heap.size∧¬ A b∧∀ j,j<l.length→W.cell? ⟨b,off+j,none⟩=some (.int .u8 ((l[j]?.getD 0).toNat:Int)))
section
variable {A A':Nat→Prop} {X Y:World} {v:Value} {l:List UInt8} {B base:Nat}
theorem BytesA.bytes (h:BytesA A X v l):Bytes X.heap.size X v l:=by
 obtain ⟨a,cap,e,hc,hA⟩:=h
 refine ⟨a,cap,e,hc,fun hp=>?_⟩
 obtain ⟨b,off,e2,hb,_,hcell⟩:=hA hp
 exact ⟨b,off,e2,hb,hcell⟩
theorem BytesA.of_fresh (h:Fresh base X v l) (hA:∀ b,A b→b<base):BytesA A X v l:=by
 obtain ⟨a,cap,e,hc,hb⟩:=h
 refine ⟨a,cap,e,hc,fun hp=>?_⟩
 obtain ⟨b,off,e2,h1,h2,hcell⟩:=hb hp
 exact ⟨b,off,e2,h2,fun e=>by have:=hA b e;omega,hcell⟩
theorem BytesA.of_bytes (h:Bytes B X v l) (hB:B≤X.heap.size) (hA:∀ b,A b→B≤b):BytesA A X v l:=by
 obtain ⟨a,cap,e,hc,hb⟩:=h
 refine ⟨a,cap,e,hc,fun hp=>?_⟩
 obtain ⟨b,off,e2,h1,hcell⟩:=hb hp
 exact ⟨b,off,e2,by omega,fun e=>by have:=hA b e;omega,hcell⟩
theorem BytesA.less (h:BytesA A X v l) (hA:∀ b,A' b→A b):BytesA A' X v l:=by
 obtain ⟨a,cap,e,hc,hb⟩:=h
 refine ⟨a,cap,e,hc,fun hp=>?_⟩
 obtain ⟨b,off,e2,h1,h2,hcell⟩:=hb hp
 exact ⟨b,off,e2,h1,fun e=>h2 (hA b e),hcell⟩
theorem BytesA.only (h:BytesA A X v l) (ho:Only A X Y):BytesA A Y v l:=by
 obtain ⟨a,cap,e,hc,hb⟩:=h
 refine ⟨a,cap,e,hc,fun hp=>?_⟩
 obtain ⟨b,off,e2,h1,h2,hcell⟩:=hb hp
 exact ⟨b,off,e2,Nat.lt_of_lt_of_le h1 ho.1,h2,fun j hj=>(World.cell?_of_block (ho.2 b h1 h2)).trans (hcell j hj)⟩
theorem fresh_only (h:Fresh base X v l) (ho:Only A X Y) (hA:∀ b,A b→b<base):Fresh base Y v l:=by
 obtain ⟨a,cap,e,hc,hb⟩:=h
 refine ⟨a,cap,e,hc,fun hp=>?_⟩
 obtain ⟨b,off,e2,h1,h2,hcell⟩:=hb hp
 exact ⟨b,off,e2,h1,Nat.lt_of_lt_of_le h2 ho.1,fun j hj=>(World.cell?_of_block (ho.2 b h2 (fun e=>by have:=hA b e;omega))).trans (hcell j hj)⟩
theorem fresh_slice (h:Fresh base X v l):∃ a c,v = .slice a l.length c:=by
 obtain ⟨a,cap,e,_⟩:=h
 exact ⟨a,cap,e⟩
end
def ToldA (A:Nat→Prop) (W:World) (F:Nat→List UInt8) (i:Nat) (ts:List Value):Prop:=∀ j,j<i→∃ u,ts[j]?=some u∧BytesA A W u (F j)
def ToldF (base:Nat) (W:World) (F:Nat→List UInt8) (i:Nat) (ts:List Value):Prop:=∀ j,j<i→∃ u,ts[j]?=some u∧Fresh base W u (F j)
section
variable {A:Nat→Prop} {X Y:World} {F:Nat→List UInt8} {i base:Nat} {ts:List Value}
theorem ToldA.only (h:ToldA A X F i ts) (ho:Only A X Y):ToldA A Y F i ts:=fun j hj=>by obtain ⟨u,h1,h2⟩:=h j hj;exact ⟨u,h1,h2.only ho⟩
theorem ToldF.less {base':Nat} (h:ToldF base X F i ts) (hb:base'≤base):ToldF base' X F i ts:=fun j hj=>by obtain ⟨u,h1,h2⟩:=h j hj;exact ⟨u,h1,fresh_more h2 hb⟩
theorem ToldF.only (h:ToldF base X F i ts) (ho:Only A X Y) (hA:∀ b,A b→b<base):ToldF base Y F i ts:=fun j hj=>by obtain ⟨u,h1,h2⟩:=h j hj;exact ⟨u,h1,fresh_only h2 ho hA⟩
theorem ToldA.next {u:Value} (h:ToldA A X F i ts) (hi:i<ts.length) (hu:BytesA A X u (F i)):ToldA A X F (i+1) (ts.set i u):=fun j hj=>by
 by_cases e:j=i
 · subst e
   exact ⟨u,List.getElem?_set_self hi,hu⟩
 · obtain ⟨v,h1,h2⟩:=h j (by omega)
   exact ⟨v,by rw [List.getElem?_set_ne (Ne.symm e)];exact h1,h2⟩
theorem ToldF.next {u:Value} (h:ToldF base X F i ts) (hi:i<ts.length) (hu:Fresh base X u (F i)):ToldF base X F (i+1) (ts.set i u):=fun j hj=>by
 by_cases e:j=i
 · subst e
   exact ⟨u,List.getElem?_set_self hi,hu⟩
 · obtain ⟨v,h1,h2⟩:=h j (by omega)
   exact ⟨v,by rw [List.getElem?_set_ne (Ne.symm e)];exact h1,h2⟩
theorem ToldA.many {k g:Nat} {t:TypeId} (h:ToldA A X F k ts) (hk:ts.length=k) (hb:Blk X g t ts.toArray):Many X.heap.size X (.slice (some ⟨g,0,none⟩) k k) ((List.range k).map F):=by
 refine ⟨_,k,by rw [List.length_map,List.length_range],by rw [List.length_map,List.length_range];exact Nat.le_refl _,fun _=>⟨g,0,rfl,hb.lt,fun j hj=>?_⟩⟩
 rw [List.length_map,List.length_range] at hj
 obtain ⟨u,h1,h2⟩:=h j hj
 refine ⟨u,by rw [Nat.zero_add,hb.cell,List.getElem?_toArray];exact h1,?_⟩
 rw [List.getElem?_map,List.getElem?_range hj]
 exact h2.bytes
theorem ToldF.many {k g:Nat} {t:TypeId} (h:ToldF base X F k ts) (hk:ts.length=k) (hb:Blk X g t ts.toArray) (hg:base≤g):FreshMany base X (.slice (some ⟨g,0,none⟩) k k) ((List.range k).map F):=by
 refine ⟨_,k,by rw [List.length_map,List.length_range],by rw [List.length_map,List.length_range];exact Nat.le_refl _,fun _=>⟨g,0,rfl,hg,hb.lt,fun j hj=>?_⟩⟩
 rw [List.length_map,List.length_range] at hj
 obtain ⟨u,h1,h2⟩:=h j hj
 refine ⟨u,by rw [Nat.zero_add,hb.cell,List.getElem?_toArray];exact h1,?_⟩
 rw [List.getElem?_map,List.getElem?_range hj]
 exact h2
end
theorem many_ok {k n:Nat} {F:Nat→List UInt8} (hk:1≤k) (h1:1≤n) (h64:n≤64) (h:∀ i,i<k→(F i).length=n):XorOk ((List.range k).map F):=by
 have h0:(((List.range k).map F)[0]?.getD []).length=n:=by
  rw [List.getElem?_map,List.getElem?_range (by omega)]
  exact h 0 (by omega)
 refine ⟨by simp;omega,by unfold Cell;omega,fun j hj=>?_⟩
 rw [List.length_map,List.length_range] at hj
 rw [h0,List.getElem?_map,List.getElem?_range hj]
 exact h j hj
section
variable {F:Fence} {n:Nat} {P:Program} {md:Region.Mode} {ops:Array Oper} {Q:Exit→Act→World→Prop} {S:World→Prop}
theorem anyHF_both {i j:Nat} {oi oj:Oper} {k:Nat} {listed:Array Bool} {a:Act} {w:World} (hr:Region.ready md ops listed = [i,j]) (hi:ops[i]?=some oi) (hj:ops[j]?=some oj) (hwi:Region.wanted oi (yielded ops a.tmps)=true) (hwj:Region.wanted oj (yielded ops a.tmps)=true)
 (h1:Oper.wpIn F n P oi a w (fun a' w'=>S w'∧anyHF F n P md ops Q S k (listed.setIfInBounds i true) a' w') Q) (h2:Oper.wpIn F n P oj a w (fun a' w'=>S w'∧anyHF F n P md ops Q S k (listed.setIfInBounds j true) a' w') Q):anyHF F n P md ops Q S (k+1) listed a w :=
 ⟨fun h0=>(by rw [hr] at h0;cases h0),fun m hm=>by
  rw [hr] at hm
  simp only [List.mem_cons,List.not_mem_nil,or_false] at hm
  rcases hm with rfl | rfl
  · unfold wpOpIn
    rw [hi]
    simp only [hwi,if_true]
    exact h1
  · unfold wpOpIn
    rw [hj]
    simp only [hwj,if_true]
    exact h2⟩
end
theorem made_nils (n:Nat):madeCells #[.slice none 0 0] n=(List.replicate n (Value.slice none 0 0)).toArray:=by
 apply Array.toList_inj.1
 rw [toList_madeCells_one]
end Go.Proofs.YtkllhjhkcipkoaaGreatDoor.Rg
