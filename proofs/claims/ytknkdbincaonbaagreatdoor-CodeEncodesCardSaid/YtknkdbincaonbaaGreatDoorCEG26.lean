/- -/
import Derived.Test.YtknkdbincaonbaaGreatDoorCEG25
import Derived.Test.YtknkdbincaonbaaGreatDoorCECA
import Derived.Test.YtknkdbincaonbaaGreatDoorCEG15
import Derived.Test.YtknkdbincaonbaaGreatDoorCEG4
import Derived.Test.YtknkdbincaonbaaGreatDoorCEG10
import Derived.Test.YtknkdbincaonbaaGreatDoorCEG13
set_option linter.unusedVariables false
set_option linter.unusedSimpArgs false
set_option maxRecDepth 100000
set_option maxHeartbeats 4000000
namespace Go.Proofs.YtknkdbincaonbaaGreatDoor.Cd
open Go.RowKit Go.Shelf Go.Maps Go.Proofs.YtknkdbincaonbaaGreatDoor.C Go.Proofs.YtknkdbincaonbaaGreatDoor.E Go.Proofs.YtknkdbincaonbaaGreatDoor.Q
attribute [local go_sem] Oper.semAt_some

theorem gather_any (base B gl gs k p:_) (A:Option Addr) (cap R n:Nat) (s:List (List (List UInt8))) (X Y:Nat) (lv:Value) (ls:List (List UInt8)) (w:World) (hX:X<s.length) (hY:Y<R) (hg:Grid R n s)
 (bl:Blk w gl 57 #[lv]) (bs:Blk w gs 76 #[.int .i64 k,.int .i64 p,.slice A s.length cap]) (hsl:gs<gl) (hlb:gl<base) (hBg:B≤gl) (hbase:base≤w.heap.size) (hC:Cols B w (.slice A s.length cap) s) (hrow:RowM (·<B) w base lv ls) (hlen:ls.length≤10000) :
 Calls Tryz.prog 80 #[.agg #[.int .i64 (X:Int),.int .i64 (Y:Int)],.pointer (some ⟨gl,0,none⟩),.pointer (some ⟨gs,0,none⟩)] w fun e w'=>e = .returned (.tuple #[])∧∃ lv',Blk w' gl 57 #[lv']∧RowM (·<B) w' base lv' (ls ++ [cellI s ((X:Int),(Y:Int))])∧Below gl w w':=by
 obtain ⟨lA,ln,lc,rfl⟩:=T.RowG.form hrow
 obtain ⟨Q,hQ⟩:∃ Q:Nat→Prop,(·<B)=Q:=⟨_,rfl⟩
 have hBB:∀ q,Q q→q<B:=fun q hq=>by rw [←hQ] at hq;exact hq
 have hBz:=below_one w (.cells #[.int .i64 (X:Int),.int .i64 (Y:Int)] 53)
 have bz:=Blk.new w 53 #[.int .i64 (X:Int),.int .i64 (Y:Int)]
 obtain ⟨wb,hwb⟩:∃ wb,w.alloc (.cells #[.int .i64 (X:Int),.int .i64 (Y:Int)] 53)=wb:=⟨_,rfl⟩
 rw [hwb] at hBz bz
 have hsw:w.heap.size<wb.heap.size:=bz.lt
 have HSS:Hid (∀ U,Below wb.heap.size wb U→(fun U:World=>U.cell? ⟨gl,0,none⟩=some (.slice lA ln lc)∧U.cell? ⟨gs,2,none⟩=some (.slice A s.length cap)∧U.cell? ⟨w.heap.size,0,none⟩=some (.int .i64 (X:Int))∧U.cell? ⟨w.heap.size,1,none⟩=some (.int .i64 (Y:Int))) U):=fun U hU=>by
  have h1:=below_in hBz hU
  exact ⟨(bl.below h1 bl.lt).cell 0,(bs.below h1 bs.lt).cell 2,(bz.below hU bz.lt).cell 0,(bz.below hU bz.lt).cell 1⟩
 have HCE:=Lib.hid (fun (U:World) (hU:Below wb.heap.size wb U)=>cell_any (B:=B) (.slice A s.length cap) s R n X Y U (by have h1:=(below_in hBz hU).size;omega) (hC.below ((below_in hBz hU).mono (by omega))) hg hX hY)
 rw [hQ] at hrow ⊢
 have HROW:=Lib.hid (fun (U:World) (hU:Below wb.heap.size wb U)=>RowG.below hrow (below_in hBz hU))
 have HUU:Hid (∀ (U V:World) (uv:Value),Below wb.heap.size wb U→Below U.heap.size U V→Bytes B U uv (cellI s ((X:Int),(Y:Int)))→BytesP (fun b=>b<V.heap.size∧some b≠(Value.slice lA ln lc).ownBlock∧Q b) V uv (cellI s ((X:Int),(Y:Int)))):=fun U V uv hU hV hb=>by
  have h1:=(below_in hBz hU).size
  have h2:=hV.size
  refine BytesP.imp (hb.below (hV.mono (by omega))) fun q hq=>?_
  have h3:q<B:=hq
  exact ⟨by omega,fun e=>by have h6:=RowG.own_le hrow q e.symm;omega,by rw [←hQ];exact h3⟩
 have HLEN:Hid (ls.length≤100000):=by unfold Hid;omega
 have HBS:Hid (∀ U,Below wb.heap.size wb U→base≤U.heap.size):=fun U hU=>by have h1:=(below_in hBz hU).size;omega
 have HKEEP:Hid (∀ (U V:World),Below wb.heap.size wb U→U.grownBy V (Value.slice lA ln lc).ownBlock→((fun U:World=>U.cell? ⟨gl,0,none⟩=some (.slice lA ln lc)∧U.cell? ⟨gs,2,none⟩=some (.slice A s.length cap)∧U.cell? ⟨w.heap.size,0,none⟩=some (.int .i64 (X:Int))∧U.cell? ⟨w.heap.size,1,none⟩=some (.int .i64 (Y:Int))) V)∧V.frozen? ⟨gl,0,none⟩=false):=fun U V hU hg4=>by
  have hown:∀ b,(Value.slice lA ln lc).ownBlock=some b→base≤b∧b<w.heap.size:=fun b e=>⟨RowG.own_le hrow b e,RowG.own_lt hrow b e⟩
  have h1:=below_in hBz hU
  have hs1:=h1.size
  have hsU:=hU.size
  have hbl:Blk V gl 57 #[.slice lA ln lc]:=(hg4.block gl (by omega) (fun e=>by have:=(hown gl e.symm).1;omega)).trans (bl.below h1 bl.lt)
  have hbs:Blk V gs 76 #[.int .i64 k,.int .i64 p,.slice A s.length cap]:=(hg4.block gs (by omega) (fun e=>by have:=(hown gs e.symm).1;omega)).trans (bs.below h1 bs.lt)
  have hbz:Blk V w.heap.size 53 #[.int .i64 (X:Int),.int .i64 (Y:Int)]:=(hg4.block w.heap.size (by omega) (fun e=>by have:=(hown w.heap.size e.symm).2;omega)).trans (bz.below hU bz.lt)
  exact ⟨⟨hbl.cell 0,hbs.cell 2,hbz.cell 0,hbz.cell 1⟩,hbl.frozen 0⟩
 have HFIN:Hid (∀ (U V:World) (v5:Value) (ys:List (List UInt8)),Below wb.heap.size wb U→U.grownBy V (Value.slice lA ln lc).ownBlock→RowM Q V base v5 ys→∀ V',V'=V.setCell ⟨gl,0,none⟩ v5→Blk V' gl 57 #[v5]∧RowM Q V' base v5 ys∧Below gl w V'):=fun U V v5 ys hU hg4 hr4 V' hV'=>by
  have hown:∀ b,(Value.slice lA ln lc).ownBlock=some b→base≤b∧b<w.heap.size:=fun b e=>⟨RowG.own_le hrow b e,RowG.own_lt hrow b e⟩
  have h1:=below_in hBz hU
  have hs1:=h1.size
  have hbl:Blk V gl 57 #[.slice lA ln lc]:=(hg4.block gl (by omega) (fun e=>by have:=(hown gl e.symm).1;omega)).trans (bl.below h1 bl.lt)
  refine ⟨by rw [hV'];exact hbl.set_ 0 v5,?_,?_⟩
  · rw [hV']
    exact RowG.kept hr4 (grown_set V ⟨gl,0,none⟩ v5) (.inr fun e=>by have:=RowG.own_le hr4 gl e;omega) (fun q hq e=>by injection e with e;have e2:q=gl:=e;have:=hBB q hq;omega)
  · rw [hV']
    have g1:gl≤w.heap.size:=Nat.le_trans (Nat.le_of_lt hlb) hbase
    have g2:gl≤U.heap.size:=Nat.le_trans g1 hs1
    exact (below_grown (h1.mono g1) hg4 g2 (fun b e=>Nat.le_trans (Nat.le_of_lt hlb) (hown b e).1)).setCell (Nat.le_refl _) _
 clear hC hrow bl bs bz hX hY hg hbase hlen hsl hlb hBg hBB hQ hsw
 generalize s.length=N at *
 refine (callsIn_wide (n:=9)).1 ?_
 refine callsIn_of_wp_marks Tryz.func80 rfl trivial ?_ rfl
 simp only [Tryz.ntmps80,List.size_toArray,List.length_cons,List.length_nil,Nat.reduceAdd,Nat.reduceSub,Array.replicate_succ,Array.replicate_zero,List.push_toArray,List.append_toArray,List.nil_append,List.cons_append]
 gi_wp2_with fail
 try rw [hwb]
 have hBx:Below wb.heap.size wb wb.drew:=(Below.refl _ _).drew
 have hS:=HSS.out _ hBx
 refine wpIn_mono (T.region_HG (Q:=NoPanic _) (S:=(fun U:World=>U.cell? ⟨gl,0,none⟩=some (.slice lA ln lc)∧U.cell? ⟨gs,2,none⟩=some (.slice A N cap)∧U.cell? ⟨w.heap.size,0,none⟩=some (.int .i64 (X:Int))∧U.cell? ⟨w.heap.size,1,none⟩=some (.int .i64 (Y:Int)))) (m:=7) (by kernel_rfl) ?_) NoPanic.imp
 refine T.anyHG_take (i:=0) (d:=4) (v:=.slice lA ln lc) (by kernel_rfl) rfl (by kernel_rfl) (by kernel_rfl) (by kernel_rfl) rfl (by kernel_rfl) (fun _ _ _ h=>h) ⟨Or.inl ⟨by rfl,fun w hS=>by obtain ⟨h0,h1,h2,h3⟩:=hS;go_simp⟩,fun _=>rfl⟩ hS ?_
 simp only [ud9]
 refine T.anyHG_take (i:=1) (d:=5) (v:=.pointer (some ⟨gs,2,none⟩)) (by kernel_rfl) rfl (by kernel_rfl) (by kernel_rfl) (by kernel_rfl) rfl (by kernel_rfl) (fun _ _ _ h=>h) ⟨Or.inl ⟨by rfl,fun w hS=>by obtain ⟨h0,h1,h2,h3⟩:=hS;go_simp⟩,fun _=>rfl⟩ hS ?_
 simp only [ud9]
 refine T.anyHG_take (i:=2) (d:=6) (v:=.slice A N cap) (by kernel_rfl) rfl (by kernel_rfl) (by kernel_rfl) (by kernel_rfl) rfl (by kernel_rfl) (fun _ _ _ h=>h) ⟨Or.inl ⟨by rfl,fun w hS=>by obtain ⟨h0,h1,h2,h3⟩:=hS;go_simp⟩,fun _=>rfl⟩ hS ?_
 simp only [ud9]
 refine T.anyHG_take (i:=3) (d:=7) (v:=.agg #[.int .i64 (X:Int),.int .i64 (Y:Int)]) (by kernel_rfl) rfl (by kernel_rfl) (by kernel_rfl) (by kernel_rfl) rfl (by kernel_rfl) (fun _ _ _ h=>h) ⟨Or.inl ⟨by rfl,fun w hS=>by obtain ⟨h0,h1,h2,h3⟩:=hS;go_simp⟩,fun _=>rfl⟩ hS ?_
 simp only [ud9]
 refine T.anyHG_one (i:=4) (by kernel_rfl) rfl (by kernel_rfl) (by rfl) ?_
 gi_wp2_with fail
 refine ⟨trivial,(callsIn_wide.2 (HCE.out _ hBx)).mono ?_⟩
 rintro e wn ⟨uc,rfl,huc,hB1⟩
 obtain ⟨cA,cc,hce,_,_⟩:=id huc
 obtain ⟨cn,hcn⟩:∃ cn,(cellI s ((X:Int),(Y:Int))).length=cn:=⟨_,rfl⟩
 rw [hcn] at hce
 subst hce
 replace hBx:=below_in hBx hB1
 clear hS
 have hS:=HSS.out _ hBx
 gi_wp2
 try (refine ⟨.inr hS,?_⟩)
 refine T.anyHG_one (i:=5) (by kernel_rfl) rfl (by kernel_rfl) (by rfl) ?_
 have hB3:Below wn.heap.size wn (wn.alloc (.cells #[.slice cA cn cc] 32)):=below_one wn _
 have bE:Blk (wn.alloc (.cells #[.slice cA cn cc] 32)) wn.heap.size 32 #[.slice cA cn cc]:=Blk.new wn _ _
 obtain ⟨w3,hw3⟩:∃ w3,(wn.alloc (.cells #[.slice cA cn cc] 32))=w3:=⟨_,rfl⟩
 rw [hw3] at hB3 bE
 have hBx3:=below_in hBx hB3
 clear hS
 have hS:(fun U:World=>U.cell? ⟨gl,0,none⟩=some (.slice lA ln lc)∧U.cell? ⟨gs,2,none⟩=some (.slice A N cap)∧U.cell? ⟨w.heap.size,0,none⟩=some (.int .i64 (X:Int))∧U.cell? ⟨w.heap.size,1,none⟩=some (.int .i64 (Y:Int))) w3:=HSS.out _ hBx3
 gi_wp2
 try rw [hw3]
 try (refine ⟨.inr hS,?_⟩)
 refine T.anyHG_one (i:=6) (by kernel_rfl) rfl (by kernel_rfl) (by rfl) ?_
 refine opIn_pushM (base:=base) (Q:=Q) (v:=.slice lA ln lc) w3 _ _ rfl Tryz.underlying57 _ rfl (HROW.out _ hBx3) wn.heap.size _ _ _ rfl bE (HUU.out _ _ _ hBx hB3 huc) HLEN.out (HBS.out _ hBx3) ?_
 intro v' w4 hrow4 hgr4 hor4
 obtain ⟨lA2,ln2,lc2,rfl⟩:=T.RowG.form hrow4
 have hcl4:=HKEEP.out _ _ hBx3 hgr4
 clear hS
 have hS:(fun U:World=>U.cell? ⟨gl,0,none⟩=some (.slice lA ln lc)∧U.cell? ⟨gs,2,none⟩=some (.slice A N cap)∧U.cell? ⟨w.heap.size,0,none⟩=some (.int .i64 (X:Int))∧U.cell? ⟨w.heap.size,1,none⟩=some (.int .i64 (Y:Int))) w4:=hcl4.1
 gi_wp2_with fail
 try (refine ⟨.inr hS,?_⟩)
 refine T.anyHG_one (i:=7) (by kernel_rfl) rfl (by kernel_rfl) (by rfl) ?_
 have hfr4:=hcl4.2
 obtain ⟨h0,h1,h2,h3⟩:=hS
 gi_wp2
 try (refine ⟨.inl rfl,?_⟩)
 refine T.anyHG_done (by kernel_rfl) ?_ _
 refine NoPanic.normal ?_
 gi_wp2
 obtain ⟨f1,f2,f3⟩:=HFIN.out _ _ _ _ hBx3 hgr4 hrow4 _ rfl
 exact ⟨_,results_none rfl _ _ _,rfl,_,f1,f2,f3⟩
theorem enter_octets1:∀ args W,(callFunc 80 args).run Tryz.prog W = .ok (.enter 80 args) W:=enters_of Tryz.func80 (by kernel_rfl) rfl
def cellsL (d:Nat) (s:List (List (List UInt8))) (m:Nat):List (List UInt8):=(List.range m).map fun i=>cellOf_ s (i % d) (i / d)
theorem cellsL_next (d:Nat) (s:List (List (List UInt8))) (m:Nat):cellsL d s (m+1)=cellsL d s m ++ [cellOf_ s (m % d) (m / d)]:=by unfold cellsL;rw [List.range_succ,List.map_append];rfl
theorem cellsL_len (d:Nat) (s:List (List (List UInt8))) (m:Nat):(cellsL d s m).length=m:=by unfold cellsL;rw [List.length_map,List.length_range]
theorem cellsL_flat (d R:Nat) (s:List (List (List UInt8))):(cellsL d s (d * R)).flatten=dataL d R s:=rfl
theorem cells_glue {d R n:Nat} {s:List (List (List UInt8))} (hd:0<d) (hds:d≤s.length) (hR:0<R) (hg:Grid R n s) (hn:1≤n∧n≤64):GlueOk (cellsL d s (d * R)) (((d * R:Nat):Int) * (n:Int))∧(cellsL d s (d * R)).flatten.take ((((d * R:Nat):Int) * (n:Int)).toNat)=dataL d R s:=by
 have hal:AllLen n (cellsL d s (d * R)):=fun j hj=>by
  rw [cellsL_len] at hj
  unfold cellsL
  rw [List.getElem?_map,List.getElem?_range hj]
  have h1:j % d<s.length:=Nat.lt_of_lt_of_le (Nat.mod_lt _ hd) hds
  have h2:j / d<R:=Nat.div_lt_of_lt_mul hj
  exact (hg (j % d) h1).2 (j / d) h2
 have hM:0<d * R:=Nat.mul_pos hd hR
 have h0:((cellsL d s (d * R))[0]?.getD []).length=n:=hal 0 (by rw [cellsL_len];exact hM)
 have hfl:(cellsL d s (d * R)).flatten.length=d * R * n:=by rw [C.flat_alike _ n hal,cellsL_len]
 have e:(((d * R:Nat):Int) * (n:Int))=((d * R * n:Nat):Int):=(Int.natCast_mul _ _).symm
 rw [e,Int.toNat_natCast]
 refine ⟨⟨.inr ⟨by unfold Cell;omega,by rw [h0];exact hal⟩,⟨by omega,by omega,by omega⟩,?_⟩,?_⟩
 · rw [Int.toNat_natCast,List.drop_eq_nil_of_le (by omega)]
   rfl
 · rw [List.take_of_length_le (by omega),cellsL_flat]
theorem octets_any {B:Nat} (k p:Int) (v:Value) (s:List (List (List UInt8))) (h:AllK k p s) (w:World) (hL:Laid w) (hB:B≤w.heap.size) (hC:Cols B w v s) :
 Calls Tryz.prog 44 #[.agg #[.int .i64 k,.int .i64 p,v]] w fun e w'=>∃ u,e = .returned u∧Fresh w.heap.size w' u (dataL (datN k p) (p - 1).toNat s)∧Below w.heap.size w w':=by
 have hst:=all_stripe h
 have hln:=all_len h
 have hfn:=right_n h.2
 have hR:=h.1.1
 obtain ⟨hDN,hd2,hd17⟩:=datN_eq hR
 obtain ⟨hmn,hR2,hR16,hM272⟩:=many_nat hR
 have HNB:=Lib.hid (fun (U:World) (hLU:Laid U)=>by
  have h:=numbers_yes k p hR U hLU
  rw [hmn] at h
  exact h)
 have HNUM:Hid (∀ i:Nat,i<datN k p * (p - 1).toNat→HasNum k p (i:Int)):=fun i hi=>⟨by omega,by rw [hmn];exact_mod_cast hi⟩
 have HPL:=Lib.hid (fun (i:Nat) (hi:i<datN k p * (p - 1).toNat) (U:World) (hLU:Laid U)=>by
  have h:=(shapePlace_any k p (i:Int) U hLU).mono fun _ _ h=>(⟨h.2.2.1 hR (HNUM.out i hi),h.2.2.2⟩:_∧_)
  rw [hDN,show ((i:Int) % ((datN k p:Nat):Int))=((i % datN k p:Nat):Int) from rfl,show ((i:Int) / ((datN k p:Nat):Int))=((i / datN k p:Nat):Int) from rfl] at h
  exact h)
 have hGR:=hst.2.2.1
 have hlen0:0<(s[0]?.getD []).length:=by rw [(hGR 0 (by omega)).1];omega
 have hgl:=cells_glue (d:=datN k p) (R:=(p - 1).toNat) (by omega) (by omega) (by omega) hGR hfn
 obtain ⟨A,cap,rfl,_,_⟩:=id hC
 generalize (p - 1).toNat=R at *
 have hds:datN k p<s.length:=hln.2.2
 generalize datN k p=d at *
 obtain ⟨M,hM⟩:∃ M,d * R=M:=⟨_,rfl⟩
 rw [hM] at HNB HPL hM272 hgl
 obtain ⟨n,hn⟩:∃ n,(firstC s).length=n:=⟨_,rfl⟩
 have hls:=hln.2.1
 have hl4:=hln.1
 have HLNs:=Lib.hid (fun (U:World) (hCU:Cols B U (.slice A s.length cap) s)=>length_any (.slice A s.length cap) s U hCU (by omega) hlen0)
 rw [hn] at hgl hfn HLNs hGR
 have hw1:IntKind.i64.wrap ((M:Int) * (n:Int))=(M:Int) * (n:Int):=IntWalk.i64_in _ (by have h9:M * n≤272 * 64:=Nat.mul_le_mul hM272 hfn.2;rw [←Int.natCast_mul];omega)
 have hw2:wrap64 ((M:Int) * (n:Int))=(M:Int) * (n:Int):=IntWalk.wrap64_in _ (by have h9:M * n≤272 * 64:=Nat.mul_le_mul hM272 hfn.2;rw [←Int.natCast_mul];omega)
 have HGO:=Lib.hid (fun (U:World) (u:Value) (hu:Many U.heap.size U u (cellsL d s M))=>by
  have hg:=glue_yes u (cellsL d s M) ((M:Int) * (n:Int)) (by rw [cellsL_len];omega) U hu hgl.1
  rw [hgl.2] at hg
  exact hg)
 obtain ⟨N,hN⟩:∃ N,s.length=N:=⟨_,rfl⟩
 obtain ⟨wb,hwb⟩:∃ wb,w.alloc (.cells #[.int .i64 k,.int .i64 p,.slice A s.length cap] 76)=wb:=⟨_,rfl⟩
 have hB1:Below w.heap.size w wb:=by rw [←hwb];exact below_one w _
 have bs0:Blk wb w.heap.size 76 #[.int .i64 k,.int .i64 p,.slice A s.length cap]:=by rw [←hwb];exact Blk.new w _ _
 obtain ⟨gl,hgE⟩:∃ gl,wb.heap.size=gl:=⟨_,rfl⟩
 have hgF:w.heap.size+1=gl:=by rw [←hgE,←hwb];simp
 have S1:Hid (gl=w.heap.size+1):=hgF.symm
 obtain ⟨wc,hwc⟩:∃ wc,wb.alloc (.cells #[.slice none 0 0] 57)=wc:=⟨_,rfl⟩
 have hB2:Below wb.heap.size wb wc:=by rw [←hwc];exact below_one wb _
 have bl0:Blk wc gl 57 #[.slice none 0 0]:=by rw [←hwc,←hgE];exact Blk.new wb _ _
 have bs:Blk wc w.heap.size 76 #[.int .i64 k,.int .i64 p,.slice A s.length cap]:=bs0.below hB2 bs0.lt
 have S2:Hid (wc.heap.size=w.heap.size+2):=by unfold Hid;rw [←hwc];simp;rw [hgE];exact S1.out
 have hB12:=below_in hB1 hB2
 have hLc:=hL.next hB12
 have hCc:=hC.below (hB12.mono hB)
 have hen:=enter_octets1
 have hmf:∀ (fn:Fn) (first cap:Array Value) (w:World),(Instr.makeFunc fn first cap).run Tryz.prog w = .ok (.func fn first cap) w:=fun _ _ _ _=>rfl
 have c0:=bs.cell 0
 have c1:=bs.cell 1
 have c2:=bs.cell 2
 simp only [gz9] at c0 c1 c2
 have hL0:=hL
 have hC0:=hC
 clear hst hln hDN hmn hR hC hgl h hL hn HNUM bs0
 rw [hN] at hwb c2 ⊢
 have HNS:=Lib.hid hN
 go_enter Tryz.func44,Tryz.ntmps44
 go_wp2_with (go_at_call 82;refine (HNB.out _ hLc).mono ?_;rintro e w1 ⟨rfl,hB3⟩)
 have hB3g:Below gl wc w1:=hB3.mono (by have:=S2.out;have:=S1.out;omega)
 have bl1:=bl0.below hB3 bl0.lt
 have hLn0:(0:Nat)≤M:=Nat.zero_le _
 clear hB3 HNB c0 c1 c2
 go_loopw [10] (fun i wr=>∃ (m:Nat) (lv:Value),m≤M∧i = .int .i64 m∧Hid (Blk wr gl 57 #[lv])∧Hid (RowM (·<B) wr (w.heap.size+2) lv (cellsL d s m))∧Hid (Below gl wc wr)) (fun i _=>M - (intOf i).toNat)
 case atStart=>exact ⟨0,.slice none 0 0,by omega,rfl,Lib.hid bl1,RowG.nil _ _ _ _ _ _,Lib.hid hB3g⟩
 case round =>
  obtain ⟨m,lv,hm,rfl,HBL,HROW,HBR⟩:=hrel
  clear hgE hgF
  have s2:=S2.out
  have s1:=S1.out
  have hBw:Below w.heap.size w wr:=hB12.trans (HBR.out.mono (by omega))
  have hsr:=HBR.out.size
  have bsr:=bs.below HBR.out (by omega)
  have c0:=bsr.cell 0
  have c1:=bsr.cell 1
  have c2:=bsr.cell 2
  simp only [gz9] at c0 c1 c2
  by_cases hlt:m<M
  · have hdec:decide ((m:Int)<(M:Int))=true:=by simp;omega
    have hX:m % d<s.length:=Nat.lt_trans (Nat.mod_lt _ (by omega)) hds
    have hY:m / d<R:=Nat.div_lt_of_lt_mul (by rw [hM];exact hlt)
    have hpl:=HPL.out m hlt wr (hL0.next hBw)
    have hcv:=hC0.below (hBw.mono hB)
    have HGA:=Lib.hid (fun (U:World) (hU:Below wr.heap.size wr U)=>gather_any (w.heap.size+2) B gl w.heap.size k p A cap R n s (m % d) (m / d) lv (cellsL d s m) U hX hY hGR (HBL.out.below hU HBL.out.lt) (bsr.below hU bsr.lt) (by omega) (by omega) (by omega) (by have:=hU.size;omega) (hcv.below (hU.mono (by omega))) (RowG.below HROW.out hU) (by rw [cellsL_len];omega))
    have HNX:Hid (cellsL d s m ++ [cellI s (((m % d:Nat):Int),((m / d:Nat):Int))]=cellsL d s (m+1)):=(cellsL_next d s m).symm
    have i1:(m:Int)≤300:=by omega
    clear hX hY hcv bsr HBL HROW s1 s2
    generalize (m % d:Nat)=X at *
    generalize (m / d:Nat)=Y at *
    go_wp2_with (first
     | (go_at_call 84;refine hpl.mono ?_;rintro e w2 ⟨rfl,hB4⟩)
     | (go_at_call 83;refine (sureP _ _ _).mono ?_;rintro e w3 ⟨rfl,hB5⟩;have hB45:=below_in hB4 hB5)
     | fail)
    refine (HGA.out _ hB45).mono ?_
    rintro e w4 ⟨rfl,lv',hbl,hrow,hB6⟩
    rw [HNX.out] at hrow
    have HH:=Lib.hid (⟨hbl,hrow,HBR.out.trans ((hB45.mono (by have:=S1.out;have:=S2.out;omega)).trans hB6)⟩:Blk w4 gl 57 #[lv']∧RowM (·<B) w4 (w.heap.size+2) lv' (cellsL d s (m+1))∧Below gl wc w4)
    clear hbl hrow hB6 hpl HGA
    go_wp2
    go_roundw
    case rel=>exact ⟨m+1,lv',hlt,by go_num,Lib.hid HH.out.1,Lib.hid HH.out.2.1,Lib.hid HH.out.2.2⟩
    case measure=>simp [intOf];omega
  · obtain rfl:m=M:=by omega
    have hdec:decide ((m:Int)<(m:Int))=false:=by simp
    have hrow:=HROW.out
    obtain ⟨lA,ln,lc,rfl⟩:=T.RowG.form hrow
    obtain rfl:ln=m:=by rw [row_len hrow,cellsL_len]
    have HSS:Hid (∀ U,Below wr.heap.size wr U→(fun U:World=>U.cell? ⟨gl,0,none⟩=some (.slice lA ln lc)∧U.cell? ⟨w.heap.size,2,none⟩=some (.slice A s.length cap)) U):=fun U hU=>⟨(HBL.out.below hU HBL.out.lt).cell 0,(bsr.below hU bsr.lt).cell 2⟩
    have HLN:=Lib.hid (fun (U:World) (hU:Below wr.heap.size wr U)=>by
     have h:=HLNs.out U (hC0.below ((below_in hBw hU).mono hB))
     rw [HNS.out] at h
     exact h)
    have HGL:=Lib.hid (fun (U:World) (hU:Below wr.heap.size wr U)=>HGO.out U (.slice lA ln lc) (Many.more (manyR_iff.1 (RowM.many (RowG.below hrow hU) fun q hq _=>hq)) (Nat.le_refl _)))
    clear hrow HROW HPL
    rw [HNS.out] at HSS
    clear s1 s2
    go_wp2_with fail
    have hBx:Below wr.heap.size wr wr.drew:=(Below.refl _ _).drew
    have hS:=HSS.out _ hBx
    refine (wpIn_wide (n:=12)).1 (wpIn_mono (region_HF (Q:=NoPanic _) (S:=(fun U:World=>U.cell? ⟨gl,0,none⟩=some (.slice lA ln lc)∧U.cell? ⟨w.heap.size,2,none⟩=some (.slice A N cap))) (by kernel_rfl) ?_) NoPanic.imp)
    refine tkF (i:=0) (d:=23) (v:=.slice lA ln lc) (s:=hS) (c:=?_)
    simp only [ud9]
    refine tkF (i:=1) (d:=24) (v:=.slice lA ln lc) (s:=hS) (c:=?_)
    simp only [ud9]
    refine tkF (i:=2) (d:=25) (v:=.int .i64 (ln:Int)) (s:=hS) (c:=?_)
    simp only [ud9]
    refine tkF (i:=3) (d:=26) (v:=.pointer (some ⟨w.heap.size,2,none⟩)) (s:=hS) (c:=?_)
    simp only [ud9]
    refine tkF (i:=4) (d:=27) (v:=.slice A N cap) (s:=hS) (c:=?_)
    simp only [ud9]
    refine oneF (i:=5) (c:=?_)
    gi_wp2_with fail
    refine ⟨trivial,(callsIn_wide.2 (HLN.out _ hBx)).mono ?_⟩
    rintro e wz ⟨rfl,rfl⟩
    gi_wp2
    try (refine ⟨hS,?_⟩)
    refine tkF (i:=6) (d:=29) (v:=.int .i64 ((ln:Int) * (n:Int))) (s:=hS) (c:=?_)
    simp only [ud9]
    refine oneF (i:=7) (c:=?_)
    gi_wp2_with fail
    refine ⟨trivial,(callsIn_wide.2 (HGL.out _ hBx)).mono ?_⟩
    rintro e wn ⟨ug,rfl,hug,hB1⟩
    obtain ⟨gA,gc,hge,_,_⟩:=id hug
    obtain ⟨gn,hgn⟩:∃ gn,(dataL d R s).length=gn:=⟨_,rfl⟩
    rw [hgn] at hge
    subst hge
    replace hBx:=below_in hBx hB1
    clear hS
    have hS:=HSS.out _ hBx
    gi_wp2
    try (refine ⟨hS,?_⟩)
    refine tkF (i:=8) (d:=31) (v:=.slice gA gn gc) (s:=hS) (c:=?_)
    simp only [ud9]
    refine tkF (i:=9) (d:=32) (v:=.int .i64 0) (s:=hS) (c:=?_)
    simp only [ud9]
    refine oneF (i:=10) (c:=?_)
    gi_wp2_with fail
    refine ⟨trivial,(callsIn_wide.2 (sureB _ _)).mono ?_⟩
    rintro e wz ⟨rfl,rfl⟩
    gi_wp2
    try (refine ⟨hS,?_⟩)
    refine oneF (i:=11) (c:=?_)
    gi_wp2
    refine anyHF_done (by kernel_rfl) ?_ _
    refine NoPanic.normal ?_
    go_wp2
    go_ret
    exact ⟨.slice gA gn gc,rfl,Fresh.less hug hBw.size,below_in hBw hBx⟩
end Go.Proofs.YtknkdbincaonbaaGreatDoor.Cd

namespace Go.Proofs.YtknkdbincaonbaaGreatDoor.Cd
open Go.RowKit Go.Shelf Go.Maps Go.Proofs.YtknkdbincaonbaaGreatDoor.C Go.Proofs.YtknkdbincaonbaaGreatDoor.E Go.Proofs.YtknkdbincaonbaaGreatDoor.Q
theorem enter_data1:∀ args W,(callFunc 42 args).run Tryz.prog W = .ok (.enter 42 args) W:=enters_of Tryz.func42 (by kernel_rfl) rfl
theorem data_yes {B:Nat} (k p:Int) (v:Value) (css:List (List (List UInt8))) (hok:AllK k p css) (w:World) (hL:Laid w) (hB:B≤w.heap.size) (hC:Cols B w v css) :
 Calls Tryz.prog 11 #[.agg #[.int .i64 k,.int .i64 p],v] w fun e w'=>∃ u,e = .returned (.tuple #[u,.int .i64 0])∧Fresh w.heap.size w' u (dataL (datN k p) (p - 1).toNat css)∧Below w.heap.size w w':=by
 have hlen:=(all_len hok).2.1
 obtain ⟨A,cap,rfl,_,_⟩:=id hC
 obtain ⟨W2,hW2⟩:∃ W2,((w).alloc (.cells #[.int .i64 k,.int .i64 p] 24)).alloc (.cells #[.slice A css.length cap] 28)=W2:=⟨_,rfl⟩
 have hBW:Below w.heap.size w W2:=by rw [←hW2];exact below_two w _ _
 have S2:Hid (W2.heap.size=w.heap.size+2):=by unfold Hid;rw [←hW2];simp
 have b0:Blk W2 (w.heap.size) 24 #[.int .i64 k,.int .i64 p]:=by rw [←hW2];exact (Blk.new (w) 24 #[.int .i64 k,.int .i64 p]).alloc (.cells #[.slice A css.length cap] 28)
 have b1:Blk W2 (w.heap.size+1) 28 #[.slice A css.length cap]:=by rw [←hW2];exact Blk.at_size (Blk.new ((w).alloc (.cells #[.int .i64 k,.int .i64 p] 24)) 28 #[.slice A css.length cap]) (by simp)
 have hL2:=hL.next hBW
 have HA:=Lib.hid (ans_B_yes 42 #[.pointer (some ⟨w.heap.size,0,none⟩),.pointer (some ⟨w.heap.size+1,0,none⟩)] W2 (fun u W=>Fresh (W2.heap.size+1) W u (dataL (datN k p) (p - 1).toNat css)) (enter_data1 _) (fun U hU bU=>by
  have hLU:=hL2.next hU
  have hBU:=below_in hBW hU
  have hCU:=hC.below (hBU.mono hB)
  have hlt:=bU.lt
  have HQ:=Lib.hid (asked_yes (B:=B) 43 k p (.slice A css.length cap) css (by have h:=many_cols k p;rwa [←hok.1.2] at h) hok.1.1 U hLU (Nat.le_trans hB hBU.size) hCU (by omega) hok.2)
  have HE:=Lib.hid (fun (V:World) (hV:Below U.heap.size U V)=>octets_any (B:=B) k p (.slice A css.length cap) css hok V (hLU.next hV) (Nat.le_trans hB (Nat.le_trans hBU.size hV.size)) (hCU.below (hV.mono (Nat.le_trans hB hBU.size))))
  have c0:=(b0.below hU b0.lt).cell 0
  have c1:=(b0.below hU b0.lt).cell 1
  have c2:=(b1.below hU b1.lt).cell 0
  simp only [gz9] at c0 c1 c2
  clear hC hCU hok b0 b1 hW2 hL hL2 hLU hlen
  generalize dataL (datN k p) (p - 1).toNat css=dl at *
  generalize css.length=n at *
  go_enter Tryz.func42,Tryz.ntmps42
  go_wp2_with (first
   | (go_at_call 38;refine HQ.out.mono ?_;rintro e w1 ⟨rfl,hB1⟩)
   | (go_at_call 44;refine (HE.out _ hB1).mono ?_;rintro e w2 ⟨u,rfl,hu,hB2⟩))
  go_ret
  exact ⟨u,rfl,Fresh.less hu (by have h1:=hB1.size;omega),below_in hB1 hB2⟩))
 clear hC b0 b1 hL2 hok hlen
 generalize dataL (datN k p) (p - 1).toNat css=dl at *
 generalize css.length=n at *
 go_enter Tryz.func11,Tryz.ntmps11
 have hmf:∀ (fn:Fn) (first cap:Array Value) (w:World),(Instr.makeFunc fn first cap).run Tryz.prog w = .ok (.func fn first cap) w:=fun _ _ _ _=>rfl
 go_wp2_with (go_at_call 41;refine HA.out.mono ?_;rintro e w1 ⟨u,W,rfl,hu,bE,rfl,hB1⟩)
 go_ret2
 have s2:=S2.out
 exact ⟨u,rfl,Fresh.less (Fresh.set_ hu (Nat.lt_succ_self _) _) (by omega),below_in hBW hB1⟩
theorem data_no {B:Nat} (k p:Int) (v:Value) (css:List (List (List UInt8))) (w:World) (hL:Laid w) (hB:B≤w.heap.size) (hC:Cols B w v css) (hlen:css.length≤1000) (hcl:∀ j,j<css.length→(css[j]?.getD []).length≤1000) (hno:¬ AllK k p css) :
 Calls Tryz.prog 11 #[.agg #[.int .i64 k,.int .i64 p],v] w fun e w'=>e = .returned (.tuple #[.slice none 0 0,.int .i64 2])∧Below w.heap.size w w':=by
 obtain ⟨A,cap,rfl,_,_⟩:=id hC
 obtain ⟨W2,hW2⟩:∃ W2,((w).alloc (.cells #[.int .i64 k,.int .i64 p] 24)).alloc (.cells #[.slice A css.length cap] 28)=W2:=⟨_,rfl⟩
 have hBW:Below w.heap.size w W2:=by rw [←hW2];exact below_two w _ _
 have S2:Hid (W2.heap.size=w.heap.size+2):=by unfold Hid;rw [←hW2];simp
 have b0:Blk W2 (w.heap.size) 24 #[.int .i64 k,.int .i64 p]:=by rw [←hW2];exact (Blk.new (w) 24 #[.int .i64 k,.int .i64 p]).alloc (.cells #[.slice A css.length cap] 28)
 have b1:Blk W2 (w.heap.size+1) 28 #[.slice A css.length cap]:=by rw [←hW2];exact Blk.at_size (Blk.new ((w).alloc (.cells #[.int .i64 k,.int .i64 p] 24)) 28 #[.slice A css.length cap]) (by simp)
 have hL2:=hL.next hBW
 have HA:=Lib.hid (ans_B_no 2 42 #[.pointer (some ⟨w.heap.size,0,none⟩),.pointer (some ⟨w.heap.size+1,0,none⟩)] W2 (enter_data1 _) (fun U hU _=>by
  have hBU:=below_in hBW hU
  have HQ:=Lib.hid (asked_no (B:=B) 43 k p (p - shortN k+madeN k) (.slice A css.length cap) css (many_cols k p) U (hL2.next hU) (Nat.le_trans hB hBU.size) (hC.below (hBU.mono hB)) hlen hcl hno)
  have c0:=(b0.below hU b0.lt).cell 0
  have c1:=(b0.below hU b0.lt).cell 1
  have c2:=(b1.below hU b1.lt).cell 0
  simp only [gz9] at c0 c1 c2
  clear hC b0 b1 hW2 hL hL2 hno hcl hlen
  generalize css.length=n at *
  go_enter Tryz.func42,Tryz.ntmps42
  go_wp2_with (go_at_call 38;refine HQ.out.mono ?_;rintro e w1 ⟨rfl,hB1⟩)
  exact ⟨rfl,rfl,hB1⟩))
 clear hC b0 b1 hL2 hno hcl hlen
 generalize css.length=n at *
 go_enter Tryz.func11,Tryz.ntmps11
 have hmf:∀ (fn:Fn) (first cap:Array Value) (w:World),(Instr.makeFunc fn first cap).run Tryz.prog w = .ok (.func fn first cap) w:=fun _ _ _ _=>rfl
 go_wp2_with (go_at_call 41;refine HA.out.mono ?_;rintro e w1 ⟨rfl,hB1⟩)
 go_ret2
 exact ⟨rfl,below_in hBW hB1⟩
end Go.Proofs.YtknkdbincaonbaaGreatDoor.Cd

namespace Go.Proofs.YtknkdbincaonbaaGreatDoor.R
open Go.RowKit Go.Shelf Go.Proofs.YtknkdbincaonbaaGreatDoor.C Go.Proofs.YtknkdbincaonbaaGreatDoor.E
attribute [local go_sem] Oper.semAt_some

theorem _root_.Go.Proofs.YtknkdbincaonbaaGreatDoor.OwnA.far {w:World} {base:Nat} {v:Value} {l:List (Int×Int)} (h:OwnA w base v l) {p:Addr} (hp:some p.block≠v.ownBlock) (u:Value):OwnA (w.setCell p u) base v l:=by
 refine ⟨h.1,?_⟩
 rcases h.2 with h1 | ⟨g,cap,cur,e,h2,hg,rest⟩
 · exact .inl h1
 · exact .inr ⟨g,cap,cur,e,h2,(Below.heap_setCell w p u g (fun e2=>hp (by rw [e,←e2];rfl))).trans hg,rest⟩
theorem _root_.Go.Proofs.YtknkdbincaonbaaGreatDoor.OwnA.kept {w w':World} {base:Nat} {v:Value} {l:List (Int×Int)} (h:OwnA w base v l) {row:Option Nat} (hg:w.grownBy w' row) (hne:v.ownBlock=none∨v.ownBlock≠row):OwnA w' base v l:=World.ownsRow.kept h hg hne
theorem _root_.Go.Proofs.YtknkdbincaonbaaGreatDoor.OwnA.blks {w w':World} {base:Nat} {v:Value} {l:List (Int×Int)} (h:OwnA w base v l) (hk:∀ g t cs,Blk w g t cs→Blk w' g t cs):OwnA w' base v l :=
 ⟨h.1,h.2.imp id fun ⟨g,cap,cur,e,h2,hg,rest⟩=>⟨g,cap,cur,e,h2,hk _ _ _ hg,rest⟩⟩
theorem _root_.Go.Proofs.YtknkdbincaonbaaGreatDoor.OwnA.rowO {w:World} {base:Nat} {v:Value} {l:List (Int×Int)} (h:OwnA w base v l):RowO v.ownBlock w:=fun b e=>by
 rcases h.2 with ⟨rfl,_⟩ | ⟨g,cap,cur,rfl,_,hg,_⟩
 · cases e
 · injection e with e
   subst e
   exact ⟨_,_,_,hg⟩
end Go.Proofs.YtknkdbincaonbaaGreatDoor.R

namespace Go.Proofs.YtknkdbincaonbaaGreatDoor.R
open Go.RowKit Go.Shelf Go.Proofs.YtknkdbincaonbaaGreatDoor.C Go.Proofs.YtknkdbincaonbaaGreatDoor.E
attribute [local go_sem] Oper.semAt_some

theorem values1_in (n:Nat) (hn:2≤n) (l g N:Nat) (u:Value) (L:List (Int×Int)) (hLn:L.length≤1000) (W:World) (hg:g<N) (hN:N≤W.heap.size) (J Jx:List (Int×Int)→Option Nat→World→Prop) (o₀:Option Nat)
 (hJ:FarO W.heap.size J)
 (hY:∀ pre (z:Int×Int) o W1,J pre o W1→z∈L→pre.length<1000→W.heap.size≤W1.heap.size→YieldAt Fence.wide (n - 1) Tryz.prog l (encA z) W1 fun e W'=>∃ o',FreshO o o' W1∧SinceO W.heap.size o W1 W'∧((e = .returned (.bool true)∧J (pre ++ [z]) o' W'∧Keep 0 N W1 W')∨(e = .returned (.bool false)∧Jx (pre ++ [z]) o' W'∧Keep 0 N W1 W')))
 (bg:Blk W g 47 #[u]) (hR:∃ (q:Option Addr) (cap:Nat),u = .slice q L.length cap∧∀ (j:Nat) (hj:j<L.length),∃ b,q=some ⟨b,0,none⟩∧b<N∧W.cell? ⟨b,j * 2,none⟩=some (.int .i64 (L[j]).1)∧W.cell? ⟨b,j * 2+1,none⟩=some (.int .i64 (L[j]).2)) (h0:J [] o₀ W) :
 CallsIn Fence.wide n Tryz.prog 98 #[.func (.yield l) #[] #[],.pointer (some ⟨g,0,none⟩)] W fun e W'=>(∃ v,e = .returned v)∧∃ o',FreshO o₀ o' W∧((∃ ys,ys=L∧J ys o' W')∨(∃ pre,pre <+: L∧Jx pre o' W')):=by
 obtain ⟨q,cap,rfl,hRd⟩:=hR
 have HR1:=Lib.hid hRd
 have c0:=bg.one
 obtain ⟨M,hM⟩:∃ M,L.length=M:=⟨_,rfl⟩
 have HM:=Lib.hid hM
 have HTK:Hid (L.take M=L):=by unfold Hid;rw [←hM,List.take_length]
 have HNX:Hid (∀ j (hj:j<L.length),L.take (j+1)=L.take j ++ [L[j]]):=fun j hj=>List.take_succ_eq_append_getElem hj
 rw [hM] at hLn c0
 rw [hM] at bg
 clear hRd hM
 refine callsIn_of_wp_marks Tryz.func98 rfl trivial ?_ rfl
 simp only [Tryz.ntmps98,List.size_toArray,List.length_cons,List.length_nil,Nat.reduceAdd,Nat.reduceSub,Array.replicate_succ,Array.replicate_zero,List.push_toArray,List.append_toArray,List.nil_append,List.cons_append]
 gi_wp2_with fail
 gi_loopw [7] (fun i wr=>∃ j:Nat,j≤M∧i = .int .i64 j∧Hid (∃ o,J (L.take j) o wr∧FreshO o₀ o W)∧Keep 0 N W wr) (fun i _=>M - (intOf i).toNat)
 case atStart=>exact ⟨0,by omega,rfl,Lib.hid ⟨o₀,h0,.inl rfl⟩,Keep.refl _ _ _⟩
 case round =>
  obtain ⟨j,hj,rfl,HJ,hK⟩:=hrel
  obtain ⟨o,hjj,hfo⟩:=HJ.out
  have HJ2:=Lib.hid hjj
  have hKs:=hK.1
  by_cases hlt:j<M
  · have hdec:decide ((j:Int)<(M:Int))=true:=by simp;omega
    have hjs:j<L.length:=by rw [HM.out];exact hlt
    obtain ⟨b,rfl,hb,x0,x1⟩:=HR1.out j hjs
    have hmem:L[j]∈L:=List.getElem_mem hjs
    have hnx:=HNX.out j hjs
    have kx:∀ a:Addr,a.block<N→wr.cell? a=W.cell? a:=fun a ha=>World.cell?_of_block (hK.2 a.block (Nat.zero_le _) (by omega))
    replace x0:=(kx ⟨b,j * 2,none⟩ hb).trans x0
    replace x1:=(kx ⟨b,j * 2+1,none⟩ hb).trans x1
    clear kx
    generalize L[j]=z at *
    obtain ⟨zx,zy⟩:=z
    have hlay:=below_one wr (.cells #[.int .i64 zx,.int .i64 zy] 53)
    have bz:=Blk.new wr 53 #[.int .i64 zx,.int .i64 zy]
    have q0:=bz.cell 0;have q1:=bz.cell 1;simp only [gz9] at q0 q1
    have hj3:=hJ.below hjj hlay
    have hlen5:(L.take j).length<1000:=by rw [List.length_take];omega
    have HY:=hY _ (zx,zy) o _ hj3 hmem hlen5 (by have:=hlay.size;omega)
    unfold encA at HY
    have HNXJ:=Lib.hid hnx
    have HPX:Hid (L.take (j+1) <+: L):=List.take_prefix _ _
    have i1:(0:Int)≤(j:Int):=by omega
    have i2:(j:Int)<(M:Int):=by omega
    have hKl:Keep 0 N W (wr.alloc (.cells #[.int .i64 zx,.int .i64 zy] 53)):=hK.trans (Keep.below hlay (by omega))
    clear hnx hlen5 hmem HJ2
    obtain ⟨fn,tmps,asg,bdy,hy,hRr⟩:=HY
    gi_wp2_with fail
    refine ⟨fun _=>by omega,hRr.mono ?_⟩
    rintro e W3 ⟨o',hf3,hS3,(⟨rfl,hJ3,hk3⟩ | ⟨rfl,hJx3,hk3⟩)⟩
    all_goals have hfo':FreshO o₀ o' W:=hfo.trans (by have:=hlay.size;omega) hf3
    · have hKw:=hKl.trans hk3
      gi_wp2
      go_roundw
      case rel=>exact ⟨j+1,by omega,by go_num,Lib.hid ⟨o',by rw [HNXJ.out];exact hJ3,hfo'⟩,hKw⟩
      case measure=>simp [intOf];omega
    · gi_wp2
      exact ⟨_,results_none rfl _ _ _,⟨_,rfl⟩,o',hfo',.inr ⟨L.take (j+1),HPX.out,by rw [HNXJ.out];exact hJx3⟩⟩
  · obtain rfl:j=M:=by omega
    have hdec:decide ((j:Int)<(j:Int))=false:=by simp
    have HJE:Hid (J L o wr):=by have h:=HJ2.out;rw [HTK.out] at h;exact h
    gi_wp2
    exact ⟨_,results_none rfl _ _ _,⟨_,rfl⟩,o,hfo,.inl ⟨_,rfl,HJE.out⟩⟩
theorem enter_values1:∀ args W,(callFunc 98 args).run Tryz.prog W = .ok (.enter 98 args) W:=enters_of Tryz.func98 (by kernel_rfl) rfl
theorem values_any (A:Option Addr) (n cap:Nat) (w:World) :
 Calls Tryz.prog 60 #[.slice A n cap] w fun e w'=>e = .returned (.func (.func 98) #[] #[.pointer (some ⟨w.heap.size,0,none⟩)])∧Blk w' w.heap.size 47 #[.slice A n cap]∧Below w.heap.size w w':=by
 have hmf:∀ (fn:Fn) (first cap:Array Value) (w:World),(Instr.makeFunc fn first cap).run Tryz.prog w = .ok (.func fn first cap) w:=fun _ _ _ _=>rfl
 have b0:=Blk.new w 47 #[.slice A n cap]
 have hB:=below_one w (.cells #[.slice A n cap] 47)
 go_enter Tryz.func60,Tryz.ntmps60
 go_wp2
 go_ret
 exact ⟨rfl,b0,hB⟩
end Go.Proofs.YtknkdbincaonbaaGreatDoor.R

namespace Go.Proofs.YtknkdbincaonbaaGreatDoor.Cd
open Go.RowKit Go.Shelf Go.Maps Go.Proofs.YtknkdbincaonbaaGreatDoor.C Go.Proofs.YtknkdbincaonbaaGreatDoor.E Go.Proofs.YtknkdbincaonbaaGreatDoor.Q
attribute [local go_sem] Oper.semAt_some

def seekD:DataW Unit:=(((DataW.map []).put (.int .i64 1) (.lit (.int .i64 134))).put (.int .i64 2) (.lit (.int .i64 135))).put (.int .i64 3) (.lit (.int .i64 134))
def Seeks (W:World) (b:Nat):Prop:=W.ownsMap Tryz.prog 22 readF b 3 seekD
theorem Seeks.look {W:World} {b:Nat} (h:Seeks W b) (r:Int) (g:Nat) (hr:(Lit.int .i64 r).wf=true) (hg:g≠0) (hat:seekD.atKey (.int .i64 r) (.lit (.int .i64 0)) = .lit (.int .i64 (g:Int))) :
 (Instr.lookup 130 (.map (some b)) (.int .i64 r) false).run Tryz.prog W = .ok (.func (.func g) #[] #[]) W:=by
 obtain ⟨v,ps,hrun,hv⟩:=World.ownsMap.lookup h (int_keyed Tryz.underlying22) Tryz.underlying130 (Tryz.zeroValue129 W) (zd:=.lit (.int .i64 0)) (zp:=[]) rfl (keyOf_int_mk Tryz.underlying22 hr)
 rw [hat] at hv
 rw [hrun,readF_func hv hg]
end Go.Proofs.YtknkdbincaonbaaGreatDoor.Cd

namespace Go.Proofs.YtknkdbincaonbaaGreatDoor.Cd
open Go.RowKit Go.Shelf Go.Maps Go.Proofs.YtknkdbincaonbaaGreatDoor.C Go.Proofs.YtknkdbincaonbaaGreatDoor.E Go.Proofs.YtknkdbincaonbaaGreatDoor.Q

theorem cells_flat_len {d R n:Nat} {s:List (List (List UInt8))} (hd:0<d) (hds:d≤s.length) (hg:Grid R n s):∀ m,m≤d * R→(cellsL d s m).flatten.length=m * n
 | 0,_=>by simp [cellsL]
 | m+1,h=>by
   have hX:m % d<d:=Nat.mod_lt _ hd
   have hY:m / d<R:=Nat.div_lt_of_lt_mul h
   have h1:(cellOf_ s (m % d) (m / d)).length=n:=(hg (m % d) (by omega)).2 (m / d) hY
   rw [cellsL_next,List.flatten_append,List.length_append,cells_flat_len hd hds hg m (by omega)]
   simp only [List.flatten_cons,List.flatten_nil,List.append_nil]
   rw [h1,Nat.succ_mul]
theorem refData9_any {B:Nat} (k p:Int) (v:Value) (s:List (List (List UInt8))) (h:AllK k p s) (w:World) (hB:B≤w.heap.size) (hC:Cols B w v s) :
 Calls Tryz.prog 15 #[.agg #[.int .i64 k,.int .i64 p],v] w fun e w'=>∃ u,e = .returned u∧Bytes w'.heap.size w' u (dataL (datN k p) (p - 1).toNat s)∧Below w.heap.size w w':=by
 obtain ⟨i0,hi,hz0,hz1,hz2⟩:=info_parts Tryz.infoByte
 have hR:=h.1.1
 have hpp:=prm_bounds hR.2
 have hdn:=datN_eq hR
 have hal:=all_len h
 have hg:=right_grid h.2
 have hn:=right_n h.2
 have HDA:=Lib.hid (fun (U:World)=>refData_any k p hR U)
 have HRO:=Lib.hid (fun (U:World)=>refRows_any k p hR U)
 have HPL:=Lib.hid (fun (m:Nat) (hm:m<1000) (U:World)=>refPlace_any k p (m:Int) hR (by omega) (by omega) U)
 rw [hdn.1] at HDA HPL
 obtain ⟨R,hRR⟩:∃ R:Nat,p - 1=(R:Int):=⟨(p - 1).toNat,by omega⟩
 have hRt:(p - 1).toNat=R:=by omega
 rw [hRR] at HRO
 rw [hRt] at hg ⊢
 have hR16:R≤16:=by omega
 have hd17:datN k p≤17:=by omega
 have hd2:2≤datN k p:=by omega
 have hds:datN k p≤s.length:=by omega
 have HF:=Lib.hid (cellsL_flat (datN k p) R s)
 generalize datN k p=d at *
 generalize (firstC s).length=n at *
 obtain ⟨b1,off1,cap,rfl,hcap,hb1,hrow0⟩:=hC.at_ (by omega)
 have HCC:=Lib.hid hrow0
 obtain ⟨M,hM⟩:∃ M,s.length=M:=⟨_,rfl⟩
 rw [hM] at hcap hds ⊢
 have HM:=Lib.hid hM
 have HG:=Lib.hid hg
 have hdR:d * R≤272:=Nat.le_trans (Nat.mul_le_mul hd17 hR16) (by omega)
 have b0:=Blk.new w 24 #[.int .i64 k,.int .i64 p]
 have hBW:=below_one w (.cells #[.int .i64 k,.int .i64 p] 24)
 obtain ⟨w2,hw2⟩:∃ w2,w.alloc (.cells #[.int .i64 k,.int .i64 p] 24)=w2:=⟨_,rfl⟩
 rw [hw2] at b0 hBW
 clear hC hrow0 hg h hR hpp hdn hal hM hRt hRR
 have hmul:IntKind.i64.wrap ((d:Int) * (R:Int))=(d:Int) * (R:Int):=by
  have h1:d * R≤17 * R:=Nat.mul_le_mul_right _ (by omega)
  rw [show (d:Int) * (R:Int)=((d * R:Nat):Int) by push_cast;rfl];exact IntWalk.i64_in _ (by omega)
 go_enter Tryz.func15,Tryz.ntmps15
 go_wp2
 try rw [hw2]
 clear hw2
 go_loopw [5,6] (fun v i wr=>∃ m:Nat,m≤d * R∧i = .int .i64 m∧OwnB wr w2.heap.size v (cellsL d s m).flatten∧Below w2.heap.size w2 wr) (fun _ i _=>d * R - (intOf i).toNat)
 case atStart=>exact ⟨0,Nat.zero_le _,rfl,World.ownsRow_nil _ _ _ _,Below.refl _ _⟩
 case round =>
  obtain ⟨m,hm,rfl,hrow,hBr⟩:=hrel
  have HBS:=Lib.hid (fun (V:World) (hV:Below wr.heap.size wr V)=>below_in hBr hV)
  have HSS:=Lib.hid (fun (V:World) (hV:Below wr.heap.size wr V)=>(⟨(b0.below (below_in hBr hV) b0.lt).cell 0,(b0.below (below_in hBr hV) b0.lt).cell 1⟩:(fun U:World=>U.cell? ⟨w.heap.size,0,none⟩=some (.int .i64 k)∧U.cell? ⟨w.heap.size,1,none⟩=some (.int .i64 p)) V))
  have hS:(fun U:World=>U.cell? ⟨w.heap.size,0,none⟩=some (.int .i64 k)∧U.cell? ⟨w.heap.size,1,none⟩=some (.int .i64 p)) wr.drew:=HSS.out _ (Below.refl _ _).drew
  have hBx:Below wr.heap.size wr wr.drew:=(Below.refl _ _).drew
  by_cases hlt:m<d * R
  · have hdec:decide ((m:Int)<(d:Int) * (R:Int))=true:=by rw [decide_eq_true_iff];exact_mod_cast hlt
    go_wp2_with fail
    refine (wpIn_wide (n:=12)).1 (wpIn_mono (region_HF (Q:=NoPanic _) (S:=(fun U:World=>U.cell? ⟨w.heap.size,0,none⟩=some (.int .i64 k)∧U.cell? ⟨w.heap.size,1,none⟩=some (.int .i64 p))) (by kernel_rfl) ?_) NoPanic.imp)
    refine tkF (i:=0) (d:=8) (v:=.int .i64 (m:Int)) (s:=hS) (c:=?_)
    simp only [ud9]
    refine tkF (i:=1) (d:=9) (v:=.agg #[.int .i64 k,.int .i64 p]) (s:=hS) (c:=?_)
    simp only [ud9]
    refine tkF (i:=3) (d:=11) (v:=.agg #[.int .i64 k,.int .i64 p]) (s:=hS) (c:=?_)
    simp only [ud9]
    refine oneF (i:=2) (c:=?_)
    gi_wp2_with fail
    refine ⟨trivial,(callsIn_wide.2 (HDA.out _)).mono ?_⟩
    rintro e wn ⟨rfl,hB1⟩
    replace hBx:=below_in hBx hB1
    clear hS
    have hS:=HSS.out _ hBx
    gi_wp2
    try (refine ⟨hS,?_⟩)
    refine oneF (i:=4) (c:=?_)
    gi_wp2_with fail
    refine ⟨trivial,(callsIn_wide.2 (HRO.out _)).mono ?_⟩
    rintro e wm ⟨rfl,hB1⟩
    replace hBx:=below_in hBx hB1
    clear hS
    have hS:=HSS.out _ hBx
    gi_wp2
    try (refine ⟨hS,?_⟩)
    refine tkF (i:=5) (d:=13) (v:=.int .i64 ((d:Int) * (R:Int))) (s:=hS) (c:=?_)
    simp only [ud9]
    refine tkF (i:=6) (d:=14) (v:=.bool true) (s:=hS) (c:=?_)
    simp only [ud9]
    refine anyHF_done (by kernel_rfl) ?_ _
    refine NoPanic.normal ?_
    clear hS
    have bx:=b0.below (below_in hBr hBx) b0.lt
    have hrow2:=(show OwnB wm w2.heap.size _ _ from OwnB.grown_ hrow (grown_below hBx))
    have hBr2:=below_in hBr hBx
    have hX:m % d<d:=Nat.mod_lt _ (by omega)
    have hY:m / d<R:=Nat.div_lt_of_lt_mul hlt
    have hx0:=bx.cell 0
    have hx1:=bx.cell 1
    simp only [gz9] at hx0 hx1
    have HPQ:=HPL.out m (by omega) wm
    rw [show (m:Int) % (d:Int)=((m % d:Nat):Int) by push_cast;rfl,show (m:Int) / (d:Int)=((m / d:Nat):Int) by push_cast;rfl] at HPQ
    have HPH:=Lib.hid HPQ
    have HNX:Hid ((cellsL d s (m+1)).flatten=(cellsL d s m).flatten ++ cellOf_ s (m % d) (m / d)):=by unfold Hid;rw [cellsL_next,List.flatten_append];simp
    have HLN:Hid ((cellsL d s m).flatten.length≤100000):=by
     unfold Hid
     rw [cells_flat_len (by omega) (by rw [HM.out];exact hds) HG.out m hm]
     exact Nat.le_trans (Nat.mul_le_mul (Nat.le_trans hm hdR) hn.2) (by omega)
    generalize hXX:m % d=X at *
    generalize hYY:m / d=Y at *
    clear hXX hYY hrow HPQ
    obtain ⟨u1,hc1,hm1⟩:=HCC.out X (by rw [HM.out];omega)
    obtain ⟨hcr,hce⟩:=HG.out X (by rw [HM.out];omega)
    obtain ⟨A3,cap3,rfl,_,_⟩:=id hm1
    obtain ⟨b2,off3,rfl,hb2,hrow3⟩:=many_at hm1 (by omega)
    obtain ⟨A4,c4,hc3,hby⟩:=hrow3 Y (by omega)
    rw [hcr] at hc1
    have hcl:(cellOf_ s X Y).length=n:=hce Y hY
    rw [hce Y hY] at hc3 hby
    have hby':Bytes B w (.slice A4 n c4) (cellOf_ s X Y):=hby
    generalize cellOf_ s X Y=cl at *
    generalize (cellsL d s m).flatten=pre at *
    clear hm1 hrow3 hcr hce hby
    go_wp2_with (go_at_call 33;refine HPH.out.mono ?_;rintro e w5 ⟨rfl,hB5⟩)
    have hBxx:=below_in hBr2 hB5
    obtain ⟨w6,hw6⟩:∃ w6,w5.alloc (.cells #[.int .i64 (X:Int),.int .i64 (Y:Int)] 53)=w6:=⟨_,rfl⟩
    have hB6:Below w5.heap.size w5 w6:=by rw [←hw6];exact below_one w5 _
    have b6:Blk w6 w5.heap.size 53 #[.int .i64 (X:Int),.int .i64 (Y:Int)]:=by rw [←hw6];exact Blk.new w5 _ _
    have hW6:=below_in hBW (below_in hBxx hB6)
    have d1:=b6.cell 0
    have d2:=b6.cell 1
    simp only [gz9] at d1 d2
    have d3:=(hW6.cell (p:=⟨b1,off1+X,none⟩) (Nat.lt_of_lt_of_le hb1 hB)).trans hc1
    have d4:=(hW6.cell (p:=⟨b2,off3+Y,none⟩) (Nat.lt_of_lt_of_le hb2 hB)).trans hc3
    have i1:(0:Int)≤(X:Int):=by omega
    have i2:(X:Int)<(M:Int):=by omega
    have i3:(0:Int)≤(Y:Int):=by omega
    have i4:(Y:Int)<(R:Int):=by omega
    have HO:Hid (OwnB w6.drew w2.heap.size _ pre):=OwnB.grown_ hrow2 (grown_below (below_in hB5 hB6).drew)
    have HY:Hid (Bytes B w6.drew (.slice A4 n c4) cl):=hby'.below (hW6.mono hB).drew
    have hs6:=hW6.size
    have hbx6:=(below_in hBxx hB6).size
    clear hc1 hc3 hby' hrow2
    try rw [hw6]
    go_region_law (refine step_app _ rfl (.tmp 20) (.tmp 29) rfl w2.heap.size i0 Tryz.underlying32 hi hz0 hz1 hz2 _ pre rfl HO.out B _ cl rfl HY.out (by have:=HLN.out;omega) (by simpa using hbx6) ?_;intro v2 w3 hown2 hgrow2 _)
    all_goals go_wp2
    all_goals go_roundw
    all_goals first
     | exact ⟨m+1,by omega,by go_num,by rw [HNX.out];exact hown2,((below_in hBxx hB6).drew).grown hgrow2 (by simpa using hbx6) (fun g e=>(World.ownsRow.lt HO.out g e).1)⟩
     | (simp [intOf];omega)
  · obtain rfl:m=d * R:=by omega
    have hdec:decide (((d * R:Nat):Int)<(d:Int) * (R:Int))=false:=by rw [decide_eq_false_iff_not];push_cast;omega
    rw [HF.out] at hrow
    go_wp2_with fail
    refine (wpIn_wide (n:=12)).1 (wpIn_mono (region_HF (Q:=NoPanic _) (S:=(fun U:World=>U.cell? ⟨w.heap.size,0,none⟩=some (.int .i64 k)∧U.cell? ⟨w.heap.size,1,none⟩=some (.int .i64 p))) (by kernel_rfl) ?_) NoPanic.imp)
    refine tkF (i:=0) (d:=8) (v:=.int .i64 ((d * R:Nat):Int)) (s:=hS) (c:=?_)
    simp only [ud9]
    refine tkF (i:=1) (d:=9) (v:=.agg #[.int .i64 k,.int .i64 p]) (s:=hS) (c:=?_)
    simp only [ud9]
    refine tkF (i:=3) (d:=11) (v:=.agg #[.int .i64 k,.int .i64 p]) (s:=hS) (c:=?_)
    simp only [ud9]
    refine oneF (i:=2) (c:=?_)
    gi_wp2_with fail
    refine ⟨trivial,(callsIn_wide.2 (HDA.out _)).mono ?_⟩
    rintro e wn ⟨rfl,hB1⟩
    replace hBx:=below_in hBx hB1
    clear hS
    have hS:=HSS.out _ hBx
    gi_wp2
    try (refine ⟨hS,?_⟩)
    refine oneF (i:=4) (c:=?_)
    gi_wp2_with fail
    refine ⟨trivial,(callsIn_wide.2 (HRO.out _)).mono ?_⟩
    rintro e wm ⟨rfl,hB1⟩
    replace hBx:=below_in hBx hB1
    clear hS
    have hS:=HSS.out _ hBx
    gi_wp2
    try (refine ⟨hS,?_⟩)
    refine tkF (i:=5) (d:=13) (v:=.int .i64 ((d:Int) * (R:Int))) (s:=hS) (c:=?_)
    simp only [ud9]
    refine tkF (i:=6) (d:=14) (v:=.bool false) (s:=hS) (c:=?_)
    simp only [ud9]
    refine anyHF_done (by kernel_rfl) ?_ _
    refine NoPanic.normal ?_
    clear hS
    go_wp2
    go_ret
    exact ⟨_,rfl,OwnB.bytes (OwnB.grown_ hrow (grown_below hBx)),below_in hBW (below_in hBr hBx)⟩
end Go.Proofs.YtknkdbincaonbaaGreatDoor.Cd
