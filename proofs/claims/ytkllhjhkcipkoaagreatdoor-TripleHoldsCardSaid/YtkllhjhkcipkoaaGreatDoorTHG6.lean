/- -/
import Derived.Test.YtkllhjhkcipkoaaGreatDoorTHMA
import Derived.Test.YtkllhjhkcipkoaaGreatDoorTHSA
import Derived.Test.YtkllhjhkcipkoaaGreatDoorTHCA
import Derived.Test.YtkllhjhkcipkoaaGreatDoorTHG1
import Derived.Test.YtkllhjhkcipkoaaGreatDoorTHG2
import Derived.Test.YtkllhjhkcipkoaaGreatDoorTHG3
import Derived.Test.YtkllhjhkcipkoaaGreatDoorTHG4
import Derived.Test.YtkllhjhkcipkoaaGreatDoorTHG5
import Derived.Deep.WholeRow
import Derived.Great.BuildSlice
set_option linter.unusedVariables false
set_option linter.unusedSimpArgs false
set_option maxRecDepth 100000
set_option maxHeartbeats 4000000
namespace Go.Proofs.YtkllhjhkcipkoaaGreatDoor.Rg
open Go.RowKit Go.Shelf Go.Maps Go.Proofs.YtkllhjhkcipkoaaGreatDoor.C Go.Proofs.YtkllhjhkcipkoaaGreatDoor.E
attribute [local go_sem] Oper.semAt_some

theorem Tryz.infoSlc:(Tryz.prog.info? 60).map (fun i=>(i.zero,i.size,i.bytes))=some (some (.slice none 0 0),1,24):=by kernel_rfl
theorem Blk.at_ {w:World} {g g':Nat} {t:TypeId} {cs:Array Value} (h:Blk w g t cs) (e:g=g'):Blk w g' t cs:=e▸h
theorem rowsK_any (P Q k n:Nat) (hQ:P=Q+1) (hP:P≤17) (hk:1≤k) (hk2:k≤100) (h1:1≤n) (h64:n≤64) (gl capl fs:Nat) (vss:Nat→List Value) (G:Nat→Nat→List UInt8) (w:World) (efs:∀ args W,(callFunc fs args).run Tryz.prog W = .ok (.enter fs args) W)
 (hld:∀ U,Below w.heap.size w U→∀ i,i<k→(vss i).length=18∧(∀ v∈vss i,v.oneCell'=true)∧LoadIs Tryz.prog 146 ⟨gl,i * 18,none⟩ (.agg (vss i).toArray) U)
 (hG:∀ i,i<k→∀ r,r<Q→(G i r).length=n)
 (hc:∀ U,Below w.heap.size w U→∀ i,i<k→∀ r,r<Q→Calls Tryz.prog fs #[.agg (vss i).toArray,.int .i64 (r:Int)] U fun e w'=>∃ u,e = .returned u∧BytesA (fun b=>w.heap.size≤b∧b<U.heap.size) w' u (G i r)∧Below U.heap.size U w') :
 Calls Tryz.prog 130 #[.int .i64 (P:Int),.func (.func fs) #[] #[],.slice (some ⟨gl,0,none⟩) k capl] w fun e w'=>∃ v,e = .returned v∧FreshMany w.heap.size w' v ((List.range Q).map fun r=>xorOf ((List.range k).map fun i=>G i r))∧Below w.heap.size w w':=by
 obtain ⟨i0,hi0,hz0,hz1,hz2⟩:=info_parts Tryz.infoSlc
 have hmkQ:=fun W:World=>run_make (P:=Tryz.prog) W 41 60 i0 (.slice none 0 0) Tryz.underlying41 hi0 hz0 .i64 .i64 (Q:Int) (Q:Int) (by omega) (by omega) (by rw [hz2];omega) (by omega)
 have hmkK:=fun W:World=>run_make (P:=Tryz.prog) W 40 60 i0 (.slice none 0 0) Tryz.underlying40 hi0 hz0 .i64 .i64 (k:Int) (k:Int) (by omega) (by omega) (by rw [hz2];omega) (by omega)
 simp only [hz1,Nat.mul_one,Int.toNat_natCast,show (Value.slice none 0 0).cells=#[.slice none 0 0] from rfl] at hmkQ hmkK
 clear hz0 hz1 hz2 hi0
 have HC:=Lib.hid hc
 have HG:=Lib.hid hG
 have HLD:=Lib.hid hld
 have hPQ:(P:Int) - 1=(Q:Int):=by omega
 have hwQ:IntKind.i64.wrap (Q:Int)=(Q:Int):=IntWalk.i64_in _ (by omega)
 have HQ:=Lib.hid hQ
 clear hc hG hld hQ
 refine (callsIn_wide (n:=9)).1 ?_
 refine callsIn_of_wp_marks Tryz.func130 rfl trivial ?_ rfl
 simp only [Tryz.ntmps130,List.size_toArray,List.length_cons,List.length_nil,Nat.reduceAdd,Nat.reduceSub,Array.replicate_succ,Array.replicate_zero,List.push_toArray,List.append_toArray,List.nil_append,List.cons_append]
 gi_wp2_with fail
 refine wpIn_mono (Q:=(fun e a V=>e=Exit.normal∧∃ gm gt,a=({ tmps:=#[.int .i64 (P:Int),.func (.func fs) #[] #[],.slice (some ⟨gl,0,none⟩) k capl,undef,undef,undef,.slice none 0 0,.slice (some ⟨gm,0,none⟩) Q Q,.slice (some ⟨gt,0,none⟩) k k,undef,undef,undef,.int .i64 (P:Int),.int .i64 (Q:Int),.slice (some ⟨gm,0,none⟩) Q Q,.slice (some ⟨gl,0,none⟩) k capl,.int .i64 (k:Int),.slice (some ⟨gt,0,none⟩) k k,undef,undef,undef,undef,undef,undef,undef,undef,undef,undef,undef,undef,undef,undef,undef,undef,undef,undef,undef,undef,undef,undef,undef,undef,undef,undef,undef],defers:=[] }:Act)∧gm≠gt∧w.heap.size≤gm∧w.heap.size≤gt∧Blk V gm 60 (madeCells #[.slice none 0 0] Q)∧Blk V gt 60 (madeCells #[.slice none 0 0] k)∧Below w.heap.size w V)) (region_HF (S:=fun _=>True) (by kernel_rfl) ?_) ?_
 · clear HC HG HLD
   refine anyHF_take (i:=0) (d:=12) (v:=.int .i64 (P:Int)) (by kernel_rfl) rfl (by kernel_rfl) (by kernel_rfl) (by kernel_rfl) rfl (fun _ _ _ h=>by cases h.1) ⟨Or.inl ⟨by rfl,fun w hS=>by go_simp⟩,fun _=>rfl⟩ trivial ?_
   simp only [ud9]
   refine anyHF_take (i:=1) (d:=13) (v:=.int .i64 (Q:Int)) (by kernel_rfl) rfl (by kernel_rfl) (by kernel_rfl) (by kernel_rfl) rfl (fun _ _ _ h=>by cases h.1) ⟨Or.inl ⟨by rfl,fun w hS=>by go_simp⟩,fun _=>rfl⟩ trivial ?_
   simp only [ud9]
   refine anyHF_take (i:=3) (d:=15) (v:=.slice (some ⟨gl,0,none⟩) k capl) (by kernel_rfl) rfl (by kernel_rfl) (by kernel_rfl) (by kernel_rfl) rfl (fun _ _ _ h=>by cases h.1) ⟨Or.inl ⟨by rfl,fun w hS=>by go_simp⟩,fun _=>rfl⟩ trivial ?_
   simp only [ud9]
   refine anyHF_take (i:=4) (d:=16) (v:=.int .i64 (k:Int)) (by kernel_rfl) rfl (by kernel_rfl) (by kernel_rfl) (by kernel_rfl) rfl (fun _ _ _ h=>by cases h.1) ⟨Or.inl ⟨by rfl,fun w hS=>by go_simp⟩,fun _=>rfl⟩ trivial ?_
   simp only [ud9]
   refine anyHF_both (i:=2) (j:=5) (by kernel_rfl) rfl rfl (by rfl) (by rfl) ?ca ?cb
   case ca =>
    gi_wp2
    try (refine ⟨trivial,?_⟩)
    refine anyHF_both (i:=5) (j:=6) (by kernel_rfl) rfl rfl (by rfl) (by rfl) ?caa ?cab
    case caa =>
     gi_wp2
     try (refine ⟨trivial,?_⟩)
     refine oneF (i:=6) (c:=?_)
     gi_wp2
     try (refine ⟨trivial,?_⟩)
     refine oneF (i:=7) (c:=?_)
     gi_wp2
     try (refine ⟨trivial,?_⟩)
     refine anyHF_done (by kernel_rfl) ?_ _
     exact ⟨rfl,_,_,rfl,by simp,by simp,by simp,(Blk.new w.drew _ _).alloc _,Blk.at_ (Blk.new (w.drew.alloc _) _ _) (by simp),(below_two w _ _).drew⟩
    case cab =>
     gi_wp2
     try (refine ⟨trivial,?_⟩)
     refine oneF (i:=5) (c:=?_)
     gi_wp2
     try (refine ⟨trivial,?_⟩)
     refine oneF (i:=7) (c:=?_)
     gi_wp2
     try (refine ⟨trivial,?_⟩)
     refine anyHF_done (by kernel_rfl) ?_ _
     exact ⟨rfl,_,_,rfl,by simp,by simp,by simp,(Blk.new w.drew _ _).alloc _,Blk.at_ (Blk.new (w.drew.alloc _) _ _) (by simp),(below_two w _ _).drew⟩
   case cb =>
    gi_wp2
    try (refine ⟨trivial,?_⟩)
    refine oneF (i:=2) (c:=?_)
    gi_wp2
    try (refine ⟨trivial,?_⟩)
    refine oneF (i:=6) (c:=?_)
    gi_wp2
    try (refine ⟨trivial,?_⟩)
    refine oneF (i:=7) (c:=?_)
    gi_wp2
    try (refine ⟨trivial,?_⟩)
    refine anyHF_done (by kernel_rfl) ?_ _
    exact ⟨rfl,_,_,rfl,by simp,by simp,by simp,Blk.at_ (Blk.new (w.drew.alloc _) _ _) (by simp),(Blk.new w.drew _ _).alloc _,(below_two w _ _).drew⟩
 rintro e a V ⟨rfl,gm,gt,rfl,hmt,hgm,hgt,bM,bT,hBV⟩
 clear hmkQ hmkK hPQ hwQ
 rw [made_nils] at bM bT
 have lM:(List.replicate Q (Value.slice none 0 0)).length=Q:=List.length_replicate
 have lT:(List.replicate k (Value.slice none 0 0)).length=k:=List.length_replicate
 generalize List.replicate Q (Value.slice none 0 0)=ms0 at *
 generalize List.replicate k (Value.slice none 0 0)=ts0 at *
 have hVm:=bM.lt
 have hVt:=bT.lt
 gi_wp2_with fail
 gi_loopw [20] (fun x wr=>∃ (i:Nat) (ms ts:List Value),i≤Q∧x = .int .i64 (i:Int)∧Hid (Blk wr gm 60 ms.toArray∧ms.length=Q∧ToldF V.heap.size wr (fun r=>xorOf ((List.range k).map fun i=>G i r)) i ms∧Blk wr gt 60 ts.toArray∧ts.length=k∧Below w.heap.size w wr∧V.heap.size≤wr.heap.size)) (fun x _=>Q - (intOf x).toNat)
 case atStart=>exact ⟨0,ms0,ts0,Nat.zero_le _,rfl,Lib.hid ⟨bM,lM,fun j hj=>absurd hj (by omega),bT,lT,hBV,Nat.le_refl _⟩⟩
 case round =>
  obtain ⟨i,ms,ts,hi,rfl,HS⟩:=hrel
  clear bM bT lM lT
  by_cases hlt:i<Q
  · have hdec:decide ((i:Int)<(Q:Int))=true:=by simp;omega
    obtain ⟨wo,hwo⟩:∃ x,x=wr:=⟨_,rfl⟩
    subst hwo
    gi_wp2_with fail
    gi_loopw [25] (fun x wr=>∃ (j:Nat) (ts:List Value),j≤k∧x = .int .i64 (j:Int)∧Hid (Blk wr gm 60 ms.toArray∧ms.length=Q∧ToldF V.heap.size wr (fun r=>xorOf ((List.range k).map fun i=>G i r)) i ms∧Blk wr gt 60 ts.toArray∧ts.length=k∧ToldA (fun b=>b=gm∨b=gt) wr (fun j=>G j i) j ts∧Below w.heap.size w wr∧V.heap.size≤wr.heap.size)) (fun x _=>k - (intOf x).toNat)
    case atStart =>
     obtain ⟨h1,h2,h3,h4,h5,h6,h7⟩:=HS.out
     exact ⟨0,ts,Nat.zero_le _,rfl,Lib.hid ⟨h1,h2,h3,h4,h5,fun j hj=>absurd hj (by omega),h6,h7⟩⟩
    case round =>
     obtain ⟨j,ts',hj,rfl,HI⟩:=hrel
     by_cases hjk:j<k
     · have hdecj:decide ((j:Int)<(k:Int))=true:=by simp;omega
       obtain ⟨a1,a2,a3,a4,a5,a6,a7,a8⟩:=HI.out
       have hldU:=HLD.out wr a7 j hjk
       have hstn:=run_storeVar_new (P:=Tryz.prog) wr 146 #[.int .i64 0,.slice none 0 0,.slice none 0 0,.slice none 0 0,.slice none 0 0,.slice none 0 0,.slice none 0 0,.slice none 0 0,.slice none 0 0,.slice none 0 0,.slice none 0 0,.slice none 0 0,.slice none 0 0,.slice none 0 0,.slice none 0 0,.slice none 0 0,.slice none 0 0,.slice none 0 0] (vss j).toArray (by rw [List.size_toArray,hldU.1];kernel_rfl) (by rw [List.size_toArray,List.size_toArray,hldU.1];rfl) (by rw [Array.all_eq_true_iff_forall_mem];intro v hv;exact hldU.2.1 v (by simpa using hv))
       obtain ⟨wv,hwv⟩:∃ x,wr.alloc (.cells (vss j).toArray 146)=x:=⟨_,rfl⟩
       have hBx:Below wr.heap.size wr wv:=by rw [←hwv];exact below_one wr _
       have bv:Blk wv wr.heap.size 146 (vss j).toArray:=by rw [←hwv];exact Blk.new wr _ _
       have hldv:=load_col0 bv hldU.1
       have hl2:=hldU.2.2
       have hcall:=HC.out wv (below_in a7 hBx) j hjk i hlt
       rw [hwv] at hstn
       clear bv hldU
       have hnl:=HG.out j hjk i hlt
       have i1:(0:Int)≤(j:Int):=by omega
       have i2:(j:Int)<(k:Int):=by omega
       have i3:(0:Int)≤(i:Int):=by omega
       have hwj:IntKind.i64.wrap ((j:Int)+1)=(j:Int)+1:=IntWalk.i64_in _ (by omega)
       clear a1 a2 a3 a4 a5 a6 hlt hdec hjk
       gi_wp2_with (first | refine wpListIn_loadS rfl rfl rfl hl2 ?_ | refine wpListIn_loadS rfl rfl rfl hldv ?_ | refine wpListIn_storeS rfl rfl rfl rfl hstn ?_)
       refine ⟨trivial,(callsIn_wide.2 hcall).mono ?_⟩
       rintro e w5 ⟨u,rfl,hu,hB5⟩
       have hX5:=below_in hBx hB5
       obtain ⟨ua,uc,eu,_⟩:=id hu
       rw [hnl] at eu
       subst eu
       obtain ⟨b1,b2,b3,b4,b5,b6,b7,b8⟩:=HI.out
       have t4:=b4.below hX5 b4.lt
       obtain ⟨old,hold⟩:∃ old,w5.cell? ⟨gt,j,none⟩=some old:=⟨_,by rw [t4.cell,List.getElem?_toArray,List.getElem?_eq_getElem (by omega)]⟩
       have hfz:=t4.frozen j
       clear b1 b2 b3 b4 b5 b6 b7 b8
       gi_wp2_with fail
       obtain ⟨b1,b2,b3,b4,b5,b6,b7,b8⟩:=HI.out
       have hO:Only (fun b=>b=gm∨b=gt) wr (w5.setCell ⟨gt,j,none⟩ (.slice ua n uc)):=(Only.below hX5).trans (Only.set (.inr rfl) _)
       have hOt:Only (fun b=>b=gt) wr (w5.setCell ⟨gt,j,none⟩ (.slice ua n uc)):=(Only.below hX5).trans (Only.set (A:=fun b=>b=gt) (p:=⟨gt,j,none⟩) rfl _)
       have hOs:Only (fun b=>b=gm∨b=gt) w5 (w5.setCell ⟨gt,j,none⟩ (.slice ua n uc)):=Only.set (.inr rfl) _
       have hsx:=hX5.size
       have hsb:=hBx.size
       have hlm:=b1.lt
       have hlg:=b4.lt
       have hfin:Blk (w5.setCell ⟨gt,j,none⟩ (.slice ua n uc)) gm 60 ms.toArray∧ms.length=Q∧ToldF V.heap.size (w5.setCell ⟨gt,j,none⟩ (.slice ua n uc)) (fun r=>xorOf ((List.range k).map fun i=>G i r)) i ms∧Blk (w5.setCell ⟨gt,j,none⟩ (.slice ua n uc)) gt 60 (ts'.set j (.slice ua n uc)).toArray∧(ts'.set j (.slice ua n uc)).length=k∧ToldA (fun b=>b=gm∨b=gt) (w5.setCell ⟨gt,j,none⟩ (.slice ua n uc)) (fun j=>G j i) (j+1) (ts'.set j (.slice ua n uc))∧Below w.heap.size w (w5.setCell ⟨gt,j,none⟩ (.slice ua n uc))∧V.heap.size≤(w5.setCell ⟨gt,j,none⟩ (.slice ua n uc)).heap.size:=by
        refine ⟨hOt.blk b1 hmt,b2,b3.only hOt (fun b e=>by have e:b=gt:=e;omega),?_,by rw [List.length_set];exact b5,(b6.only hO).next (by omega) ?_,(below_in b7 hX5).setCell (by show w.heap.size≤gt;omega) _,by simp;omega⟩
        · have:=t4.set_ j (.slice ua n uc)
          rwa [List.setIfInBounds_toArray] at this
        · exact (hu.less (fun b e=>by have e:b=gm∨b=gt:=e;omega)).only hOs
       have HF:=Lib.hid hfin
       clear hfin hO hOt hOs b1 b2 b3 b4 b5 b6 b7 b8 hu t4 hnl
       go_roundw
       case rel=>exact ⟨j+1,_,by omega,by go_num,HF⟩
       case measure=>simp [intOf];omega
     · obtain rfl:j=k:=by omega
       have hdecj:decide ((j:Int)<(j:Int))=false:=by simp
       obtain ⟨b1,b2,b3,b4,b5,b6,b7,b8⟩:=HI.out
       have HUP:=Lib.hid (upon_any _ _ wr (Nat.le_refl _) (b6.many b5 b4) (by rw [List.length_map,List.length_range];omega) (many_ok hk h1 h64 (fun x hx=>HG.out x hx i hlt)))
       have hxl:(xorOf ((List.range j).map fun x=>G x i)).length=n:=by
        rw [xorOf_len,List.getElem?_map,List.getElem?_range (by omega)]
        exact HG.out 0 (by omega) i hlt
       have i3:(0:Int)≤(i:Int):=by omega
       have hwi:IntKind.i64.wrap ((i:Int)+1)=(i:Int)+1:=IntWalk.i64_in _ (by have:=HQ.out;omega)
       have HXL:=Lib.hid hxl
       clear b1 b2 b3 b4 b5 b6 hxl
       gi_wp2_with fail
       refine ⟨trivial,(callsIn_wide.2 HUP.out).mono ?_⟩
       rintro e w5 ⟨u,rfl,hu,hB5⟩
       obtain ⟨ua,uc,eu⟩:=fresh_slice hu
       rw [HXL.out] at eu
       subst eu
       obtain ⟨b1,b2,b3,b4,b5,b6,_,_⟩:=HI.out
       have t1:=b1.below hB5 b1.lt
       obtain ⟨old,hold⟩:∃ old,w5.cell? ⟨gm,i,none⟩=some old:=⟨_,by rw [t1.cell,List.getElem?_toArray,List.getElem?_eq_getElem (by omega)]⟩
       have hfz:=t1.frozen i
       clear b1 b2 b3 b4 b5 b6
       gi_wp2_with fail
       obtain ⟨b1,b2,b3,b4,b5,b6,_,_⟩:=HI.out
       have hO:Only (fun b=>b=gm) wr (w5.setCell ⟨gm,i,none⟩ (.slice ua n uc)):=(Only.below hB5).trans (Only.set (A:=fun b=>b=gm) (p:=⟨gm,i,none⟩) rfl _)
       have hOs:Only (fun b=>b=gm) w5 (w5.setCell ⟨gm,i,none⟩ (.slice ua n uc)):=Only.set (A:=fun b=>b=gm) (p:=⟨gm,i,none⟩) rfl _
       have hsb:=hB5.size
       have hlm:=b1.lt
       have hfin:Blk (w5.setCell ⟨gm,i,none⟩ (.slice ua n uc)) gm 60 (ms.set i (.slice ua n uc)).toArray∧(ms.set i (.slice ua n uc)).length=Q∧ToldF V.heap.size (w5.setCell ⟨gm,i,none⟩ (.slice ua n uc)) (fun r=>xorOf ((List.range j).map fun i=>G i r)) (i+1) (ms.set i (.slice ua n uc))∧Blk (w5.setCell ⟨gm,i,none⟩ (.slice ua n uc)) gt 60 ts'.toArray∧ts'.length=j∧Below w.heap.size w (w5.setCell ⟨gm,i,none⟩ (.slice ua n uc))∧V.heap.size≤(w5.setCell ⟨gm,i,none⟩ (.slice ua n uc)).heap.size:=by
        refine ⟨?_,by rw [List.length_set];exact b2,(b3.only hO (fun b e=>by have e:b=gm:=e;omega)).next (by omega) ?_,hO.blk b4 (fun e=>hmt (Eq.symm e)),b5,(below_in b7 hB5).setCell (by show w.heap.size≤gm;omega) _,by simp;omega⟩
        · have:=t1.set_ i (.slice ua n uc)
          rwa [List.setIfInBounds_toArray] at this
        · exact fresh_only (fresh_more hu b8) hOs (fun b e=>by have e:b=gm:=e;omega)
       have HF:=Lib.hid hfin
       clear hfin hO hOs b1 b2 b3 b4 b5 b6 hu t1
       go_roundw
       case rel=>exact ⟨i+1,_,_,by omega,by go_num,HF⟩
       case measure=>simp [intOf];omega
  · obtain rfl:i=Q:=by omega
    have hdec:decide ((i:Int)<(i:Int))=false:=by simp
    obtain ⟨b1,b2,b3,b4,b5,b6,b7⟩:=HS.out
    have HFM:=Lib.hid ((b3.less (base':=w.heap.size) (by have:=hBV.size;omega)).many b2 b1 hgm)
    gi_wp2_with fail
    exact ⟨_,by simp [results,Tryz.results130,go_sem],_,rfl,HFM.out,b6⟩
theorem rowsC_any (P Q k n:Nat) (hQ:P=Q+1) (hP:P≤17) (hk:1≤k) (hk2:k≤100) (h1:1≤n) (h64:n≤64) (gl go capl fs:Nat) (vss:Nat→Value) (G:Nat→Nat→List UInt8) (w:World) (efs:∀ args W,(callFunc fs args).run Tryz.prog W = .ok (.enter fs args) W)
 (hld:∀ U,Below w.heap.size w U→∀ i,i<k→U.cell? ⟨gl,go+i,none⟩=some (vss i))
 (hG:∀ i,i<k→∀ r,r<Q→(G i r).length=n)
 (hc:∀ U,Below w.heap.size w U→∀ i,i<k→∀ r,r<Q→Calls Tryz.prog fs #[vss i,.int .i64 (r:Int)] U fun e w'=>∃ u,e = .returned u∧BytesA (fun b=>w.heap.size≤b∧b<U.heap.size) w' u (G i r)∧Below U.heap.size U w') :
 Calls Tryz.prog 137 #[.int .i64 (P:Int),.func (.func fs) #[] #[],.slice (some ⟨gl,go,none⟩) k capl] w fun e w'=>∃ v,e = .returned v∧(FreshMany w.heap.size w' v ((List.range Q).map fun r=>xorOf ((List.range k).map fun i=>G i r))∧∃ A,v = .slice A Q Q)∧Below w.heap.size w w':=by
 obtain ⟨i0,hi0,hz0,hz1,hz2⟩:=info_parts Tryz.infoSlc
 have hmkQ:=fun W:World=>run_make (P:=Tryz.prog) W 41 60 i0 (.slice none 0 0) Tryz.underlying41 hi0 hz0 .i64 .i64 (Q:Int) (Q:Int) (by omega) (by omega) (by rw [hz2];omega) (by omega)
 have hmkK:=fun W:World=>run_make (P:=Tryz.prog) W 40 60 i0 (.slice none 0 0) Tryz.underlying40 hi0 hz0 .i64 .i64 (k:Int) (k:Int) (by omega) (by omega) (by rw [hz2];omega) (by omega)
 simp only [hz1,Nat.mul_one,Int.toNat_natCast,show (Value.slice none 0 0).cells=#[.slice none 0 0] from rfl] at hmkQ hmkK
 clear hz0 hz1 hz2 hi0
 have HC:=Lib.hid hc
 have HG:=Lib.hid hG
 have HLD:=Lib.hid hld
 have hPQ:(P:Int) - 1=(Q:Int):=by omega
 have hwQ:IntKind.i64.wrap (Q:Int)=(Q:Int):=IntWalk.i64_in _ (by omega)
 have HQ:=Lib.hid hQ
 clear hc hG hld hQ
 refine (callsIn_wide (n:=9)).1 ?_
 refine callsIn_of_wp_marks Tryz.func137 rfl trivial ?_ rfl
 simp only [Tryz.ntmps137,List.size_toArray,List.length_cons,List.length_nil,Nat.reduceAdd,Nat.reduceSub,Array.replicate_succ,Array.replicate_zero,List.push_toArray,List.append_toArray,List.nil_append,List.cons_append]
 gi_wp2_with fail
 refine wpIn_mono (Q:=(fun e a V=>e=Exit.normal∧∃ gm gt,a=({ tmps:=#[.int .i64 (P:Int),.func (.func fs) #[] #[],.slice (some ⟨gl,go,none⟩) k capl,undef,undef,undef,.slice none 0 0,.slice (some ⟨gm,0,none⟩) Q Q,.slice (some ⟨gt,0,none⟩) k k,undef,undef,undef,.int .i64 (P:Int),.int .i64 (Q:Int),.slice (some ⟨gm,0,none⟩) Q Q,.slice (some ⟨gl,go,none⟩) k capl,.int .i64 (k:Int),.slice (some ⟨gt,0,none⟩) k k,undef,undef,undef,undef,undef,undef,undef,undef,undef,undef,undef,undef,undef,undef,undef,undef,undef,undef,undef,undef,undef,undef,undef,undef,undef,undef,undef],defers:=[] }:Act)∧gm≠gt∧w.heap.size≤gm∧w.heap.size≤gt∧Blk V gm 60 (madeCells #[.slice none 0 0] Q)∧Blk V gt 60 (madeCells #[.slice none 0 0] k)∧Below w.heap.size w V)) (region_HF (S:=fun _=>True) (by kernel_rfl) ?_) ?_
 · clear HC HG HLD
   refine anyHF_take (i:=0) (d:=12) (v:=.int .i64 (P:Int)) (by kernel_rfl) rfl (by kernel_rfl) (by kernel_rfl) (by kernel_rfl) rfl (fun _ _ _ h=>by cases h.1) ⟨Or.inl ⟨by rfl,fun w hS=>by go_simp⟩,fun _=>rfl⟩ trivial ?_
   simp only [ud9]
   refine anyHF_take (i:=1) (d:=13) (v:=.int .i64 (Q:Int)) (by kernel_rfl) rfl (by kernel_rfl) (by kernel_rfl) (by kernel_rfl) rfl (fun _ _ _ h=>by cases h.1) ⟨Or.inl ⟨by rfl,fun w hS=>by go_simp⟩,fun _=>rfl⟩ trivial ?_
   simp only [ud9]
   refine anyHF_take (i:=3) (d:=15) (v:=.slice (some ⟨gl,go,none⟩) k capl) (by kernel_rfl) rfl (by kernel_rfl) (by kernel_rfl) (by kernel_rfl) rfl (fun _ _ _ h=>by cases h.1) ⟨Or.inl ⟨by rfl,fun w hS=>by go_simp⟩,fun _=>rfl⟩ trivial ?_
   simp only [ud9]
   refine anyHF_take (i:=4) (d:=16) (v:=.int .i64 (k:Int)) (by kernel_rfl) rfl (by kernel_rfl) (by kernel_rfl) (by kernel_rfl) rfl (fun _ _ _ h=>by cases h.1) ⟨Or.inl ⟨by rfl,fun w hS=>by go_simp⟩,fun _=>rfl⟩ trivial ?_
   simp only [ud9]
   refine anyHF_both (i:=2) (j:=5) (by kernel_rfl) rfl rfl (by rfl) (by rfl) ?ca ?cb
   case ca =>
    gi_wp2
    try (refine ⟨trivial,?_⟩)
    refine anyHF_both (i:=5) (j:=6) (by kernel_rfl) rfl rfl (by rfl) (by rfl) ?caa ?cab
    case caa =>
     gi_wp2
     try (refine ⟨trivial,?_⟩)
     refine oneF (i:=6) (c:=?_)
     gi_wp2
     try (refine ⟨trivial,?_⟩)
     refine oneF (i:=7) (c:=?_)
     gi_wp2
     try (refine ⟨trivial,?_⟩)
     refine anyHF_done (by kernel_rfl) ?_ _
     exact ⟨rfl,_,_,rfl,by simp,by simp,by simp,(Blk.new w.drew _ _).alloc _,Blk.at_ (Blk.new (w.drew.alloc _) _ _) (by simp),(below_two w _ _).drew⟩
    case cab =>
     gi_wp2
     try (refine ⟨trivial,?_⟩)
     refine oneF (i:=5) (c:=?_)
     gi_wp2
     try (refine ⟨trivial,?_⟩)
     refine oneF (i:=7) (c:=?_)
     gi_wp2
     try (refine ⟨trivial,?_⟩)
     refine anyHF_done (by kernel_rfl) ?_ _
     exact ⟨rfl,_,_,rfl,by simp,by simp,by simp,(Blk.new w.drew _ _).alloc _,Blk.at_ (Blk.new (w.drew.alloc _) _ _) (by simp),(below_two w _ _).drew⟩
   case cb =>
    gi_wp2
    try (refine ⟨trivial,?_⟩)
    refine oneF (i:=2) (c:=?_)
    gi_wp2
    try (refine ⟨trivial,?_⟩)
    refine oneF (i:=6) (c:=?_)
    gi_wp2
    try (refine ⟨trivial,?_⟩)
    refine oneF (i:=7) (c:=?_)
    gi_wp2
    try (refine ⟨trivial,?_⟩)
    refine anyHF_done (by kernel_rfl) ?_ _
    exact ⟨rfl,_,_,rfl,by simp,by simp,by simp,Blk.at_ (Blk.new (w.drew.alloc _) _ _) (by simp),(Blk.new w.drew _ _).alloc _,(below_two w _ _).drew⟩
 rintro e a V ⟨rfl,gm,gt,rfl,hmt,hgm,hgt,bM,bT,hBV⟩
 clear hmkQ hmkK hPQ hwQ
 rw [made_nils] at bM bT
 have lM:(List.replicate Q (Value.slice none 0 0)).length=Q:=List.length_replicate
 have lT:(List.replicate k (Value.slice none 0 0)).length=k:=List.length_replicate
 generalize List.replicate Q (Value.slice none 0 0)=ms0 at *
 generalize List.replicate k (Value.slice none 0 0)=ts0 at *
 have hVm:=bM.lt
 have hVt:=bT.lt
 gi_wp2_with fail
 gi_loopw [20] (fun x wr=>∃ (i:Nat) (ms ts:List Value),i≤Q∧x = .int .i64 (i:Int)∧Hid (Blk wr gm 60 ms.toArray∧ms.length=Q∧ToldF V.heap.size wr (fun r=>xorOf ((List.range k).map fun i=>G i r)) i ms∧Blk wr gt 60 ts.toArray∧ts.length=k∧Below w.heap.size w wr∧V.heap.size≤wr.heap.size)) (fun x _=>Q - (intOf x).toNat)
 case atStart=>exact ⟨0,ms0,ts0,Nat.zero_le _,rfl,Lib.hid ⟨bM,lM,fun j hj=>absurd hj (by omega),bT,lT,hBV,Nat.le_refl _⟩⟩
 case round =>
  obtain ⟨i,ms,ts,hi,rfl,HS⟩:=hrel
  clear bM bT lM lT
  by_cases hlt:i<Q
  · have hdec:decide ((i:Int)<(Q:Int))=true:=by simp;omega
    obtain ⟨wo,hwo⟩:∃ x,x=wr:=⟨_,rfl⟩
    subst hwo
    gi_wp2_with fail
    gi_loopw [25] (fun x wr=>∃ (j:Nat) (ts:List Value),j≤k∧x = .int .i64 (j:Int)∧Hid (Blk wr gm 60 ms.toArray∧ms.length=Q∧ToldF V.heap.size wr (fun r=>xorOf ((List.range k).map fun i=>G i r)) i ms∧Blk wr gt 60 ts.toArray∧ts.length=k∧ToldA (fun b=>b=gm∨b=gt) wr (fun j=>G j i) j ts∧Below w.heap.size w wr∧V.heap.size≤wr.heap.size)) (fun x _=>k - (intOf x).toNat)
    case atStart =>
     obtain ⟨h1,h2,h3,h4,h5,h6,h7⟩:=HS.out
     exact ⟨0,ts,Nat.zero_le _,rfl,Lib.hid ⟨h1,h2,h3,h4,h5,fun j hj=>absurd hj (by omega),h6,h7⟩⟩
    case round =>
     obtain ⟨j,ts',hj,rfl,HI⟩:=hrel
     by_cases hjk:j<k
     · have hdecj:decide ((j:Int)<(k:Int))=true:=by simp;omega
       obtain ⟨a1,a2,a3,a4,a5,a6,a7,a8⟩:=HI.out
       have hldU:=HLD.out wr a7 j hjk
       have hBx:=Below.refl wr.heap.size wr
       have hcall:=HC.out wr a7 j hjk i hlt
       have hnl:=HG.out j hjk i hlt
       have i1:(0:Int)≤(j:Int):=by omega
       have i2:(j:Int)<(k:Int):=by omega
       have i3:(0:Int)≤(i:Int):=by omega
       have hwj:IntKind.i64.wrap ((j:Int)+1)=(j:Int)+1:=IntWalk.i64_in _ (by omega)
       clear a1 a2 a3 a4 a5 a6 hlt hdec hjk
       gi_wp2_with fail
       refine ⟨trivial,(callsIn_wide.2 hcall).mono ?_⟩
       rintro e w5 ⟨u,rfl,hu,hB5⟩
       have hX5:=below_in hBx hB5
       obtain ⟨ua,uc,eu,_⟩:=id hu
       rw [hnl] at eu
       subst eu
       obtain ⟨b1,b2,b3,b4,b5,b6,b7,b8⟩:=HI.out
       have t4:=b4.below hX5 b4.lt
       obtain ⟨old,hold⟩:∃ old,w5.cell? ⟨gt,j,none⟩=some old:=⟨_,by rw [t4.cell,List.getElem?_toArray,List.getElem?_eq_getElem (by omega)]⟩
       have hfz:=t4.frozen j
       clear b1 b2 b3 b4 b5 b6 b7 b8
       gi_wp2_with fail
       obtain ⟨b1,b2,b3,b4,b5,b6,b7,b8⟩:=HI.out
       have hO:Only (fun b=>b=gm∨b=gt) wr (w5.setCell ⟨gt,j,none⟩ (.slice ua n uc)):=(Only.below hX5).trans (Only.set (.inr rfl) _)
       have hOt:Only (fun b=>b=gt) wr (w5.setCell ⟨gt,j,none⟩ (.slice ua n uc)):=(Only.below hX5).trans (Only.set (A:=fun b=>b=gt) (p:=⟨gt,j,none⟩) rfl _)
       have hOs:Only (fun b=>b=gm∨b=gt) w5 (w5.setCell ⟨gt,j,none⟩ (.slice ua n uc)):=Only.set (.inr rfl) _
       have hsx:=hX5.size
       have hsb:=hBx.size
       have hlm:=b1.lt
       have hlg:=b4.lt
       have hfin:Blk (w5.setCell ⟨gt,j,none⟩ (.slice ua n uc)) gm 60 ms.toArray∧ms.length=Q∧ToldF V.heap.size (w5.setCell ⟨gt,j,none⟩ (.slice ua n uc)) (fun r=>xorOf ((List.range k).map fun i=>G i r)) i ms∧Blk (w5.setCell ⟨gt,j,none⟩ (.slice ua n uc)) gt 60 (ts'.set j (.slice ua n uc)).toArray∧(ts'.set j (.slice ua n uc)).length=k∧ToldA (fun b=>b=gm∨b=gt) (w5.setCell ⟨gt,j,none⟩ (.slice ua n uc)) (fun j=>G j i) (j+1) (ts'.set j (.slice ua n uc))∧Below w.heap.size w (w5.setCell ⟨gt,j,none⟩ (.slice ua n uc))∧V.heap.size≤(w5.setCell ⟨gt,j,none⟩ (.slice ua n uc)).heap.size:=by
        refine ⟨hOt.blk b1 hmt,b2,b3.only hOt (fun b e=>by have e:b=gt:=e;omega),?_,by rw [List.length_set];exact b5,(b6.only hO).next (by omega) ?_,(below_in b7 hX5).setCell (by show w.heap.size≤gt;omega) _,by simp;omega⟩
        · have:=t4.set_ j (.slice ua n uc)
          rwa [List.setIfInBounds_toArray] at this
        · exact (hu.less (fun b e=>by have e:b=gm∨b=gt:=e;omega)).only hOs
       have HF:=Lib.hid hfin
       clear hfin hO hOt hOs b1 b2 b3 b4 b5 b6 b7 b8 hu t4 hnl
       go_roundw
       case rel=>exact ⟨j+1,_,by omega,by go_num,HF⟩
       case measure=>simp [intOf];omega
     · obtain rfl:j=k:=by omega
       have hdecj:decide ((j:Int)<(j:Int))=false:=by simp
       obtain ⟨b1,b2,b3,b4,b5,b6,b7,b8⟩:=HI.out
       have HUP:=Lib.hid (upon_any _ _ wr (Nat.le_refl _) (b6.many b5 b4) (by rw [List.length_map,List.length_range];omega) (many_ok hk h1 h64 (fun x hx=>HG.out x hx i hlt)))
       have hxl:(xorOf ((List.range j).map fun x=>G x i)).length=n:=by
        rw [xorOf_len,List.getElem?_map,List.getElem?_range (by omega)]
        exact HG.out 0 (by omega) i hlt
       have i3:(0:Int)≤(i:Int):=by omega
       have hwi:IntKind.i64.wrap ((i:Int)+1)=(i:Int)+1:=IntWalk.i64_in _ (by have:=HQ.out;omega)
       have HXL:=Lib.hid hxl
       clear b1 b2 b3 b4 b5 b6 hxl
       gi_wp2_with fail
       refine ⟨trivial,(callsIn_wide.2 HUP.out).mono ?_⟩
       rintro e w5 ⟨u,rfl,hu,hB5⟩
       obtain ⟨ua,uc,eu⟩:=fresh_slice hu
       rw [HXL.out] at eu
       subst eu
       obtain ⟨b1,b2,b3,b4,b5,b6,_,_⟩:=HI.out
       have t1:=b1.below hB5 b1.lt
       obtain ⟨old,hold⟩:∃ old,w5.cell? ⟨gm,i,none⟩=some old:=⟨_,by rw [t1.cell,List.getElem?_toArray,List.getElem?_eq_getElem (by omega)]⟩
       have hfz:=t1.frozen i
       clear b1 b2 b3 b4 b5 b6
       gi_wp2_with fail
       obtain ⟨b1,b2,b3,b4,b5,b6,_,_⟩:=HI.out
       have hO:Only (fun b=>b=gm) wr (w5.setCell ⟨gm,i,none⟩ (.slice ua n uc)):=(Only.below hB5).trans (Only.set (A:=fun b=>b=gm) (p:=⟨gm,i,none⟩) rfl _)
       have hOs:Only (fun b=>b=gm) w5 (w5.setCell ⟨gm,i,none⟩ (.slice ua n uc)):=Only.set (A:=fun b=>b=gm) (p:=⟨gm,i,none⟩) rfl _
       have hsb:=hB5.size
       have hlm:=b1.lt
       have hfin:Blk (w5.setCell ⟨gm,i,none⟩ (.slice ua n uc)) gm 60 (ms.set i (.slice ua n uc)).toArray∧(ms.set i (.slice ua n uc)).length=Q∧ToldF V.heap.size (w5.setCell ⟨gm,i,none⟩ (.slice ua n uc)) (fun r=>xorOf ((List.range j).map fun i=>G i r)) (i+1) (ms.set i (.slice ua n uc))∧Blk (w5.setCell ⟨gm,i,none⟩ (.slice ua n uc)) gt 60 ts'.toArray∧ts'.length=j∧Below w.heap.size w (w5.setCell ⟨gm,i,none⟩ (.slice ua n uc))∧V.heap.size≤(w5.setCell ⟨gm,i,none⟩ (.slice ua n uc)).heap.size:=by
        refine ⟨?_,by rw [List.length_set];exact b2,(b3.only hO (fun b e=>by have e:b=gm:=e;omega)).next (by omega) ?_,hO.blk b4 (fun e=>hmt (Eq.symm e)),b5,(below_in b7 hB5).setCell (by show w.heap.size≤gm;omega) _,by simp;omega⟩
        · have:=t1.set_ i (.slice ua n uc)
          rwa [List.setIfInBounds_toArray] at this
        · exact fresh_only (fresh_more hu b8) hOs (fun b e=>by have e:b=gm:=e;omega)
       have HF:=Lib.hid hfin
       clear hfin hO hOs b1 b2 b3 b4 b5 b6 hu t1
       go_roundw
       case rel=>exact ⟨i+1,_,_,by omega,by go_num,HF⟩
       case measure=>simp [intOf];omega
  · obtain rfl:i=Q:=by omega
    have hdec:decide ((i:Int)<(i:Int))=false:=by simp
    obtain ⟨b1,b2,b3,b4,b5,b6,b7⟩:=HS.out
    have HFM:=Lib.hid ((b3.less (base':=w.heap.size) (by have:=hBV.size;omega)).many b2 b1 hgm)
    gi_wp2_with fail
    exact ⟨_,by simp [results,Tryz.results137,go_sem],_,rfl,⟨HFM.out,_,rfl⟩,b6⟩
end Go.Proofs.YtkllhjhkcipkoaaGreatDoor.Rg

namespace Go.Proofs.YtkllhjhkcipkoaaGreatDoor.Rg
open Go.RowKit Go.Shelf Go.Maps Go.Proofs.YtkllhjhkcipkoaaGreatDoor.C Go.Proofs.YtkllhjhkcipkoaaGreatDoor.E
attribute [local go_sem] Oper.semAt_some

theorem enter_settled:∀ args W,(callFunc 131 args).run Tryz.prog W = .ok (.enter 131 args) W:=enters_of Tryz.func131 (by kernel_rfl) rfl
def mvF (P:Nat) (by_:Int) (f:Nat→List UInt8) (r:Nat):List UInt8:=f (((r:Int) - by_) % P).toNat
def rowK (k Q:Nat) (G:Nat→Nat→List UInt8):List (List UInt8):=(List.range Q).map fun r=>xorOf ((List.range k).map fun i=>G i r)
theorem freshMany_more {a b:Nat} {W:World} {v:Value} {ls:List (List UInt8)} (h:FreshMany a W v ls) (hb:b≤a):FreshMany b W v ls:=by
 obtain ⟨A,cap,e,hc,hA⟩:=h
 refine ⟨A,cap,e,hc,fun hp=>?_⟩
 obtain ⟨b',off,e2,hb1,hb2,hcell⟩:=hA hp
 exact ⟨b',off,e2,by omega,hb2,fun j hj=>by obtain ⟨u,h1,h2⟩:=hcell j hj;exact ⟨u,h1,fresh_more h2 hb⟩⟩
theorem Tryz.infoK:(Tryz.prog.info? 146).map (fun i=>(i.zero,i.size,i.bytes))=some (some (.agg #[.int .i64 0,.slice none 0 0,.slice none 0 0,.slice none 0 0,.slice none 0 0,.slice none 0 0,.slice none 0 0,.slice none 0 0,.slice none 0 0,.slice none 0 0,.slice none 0 0,.slice none 0 0,.slice none 0 0,.slice none 0 0,.slice none 0 0,.slice none 0 0,.slice none 0 0,.slice none 0 0]),18,416):=by kernel_rfl
theorem run_aggs (vss:List (List Value)) (h:∀ vs∈vss,vs.length=18) (h0:0<vss.length) (h1:vss.length<1000) (w:World) (ps:Array (Nat×Value)) (hps:ps.toList=((vss.map fun vs=>Value.agg vs.toArray).zipIdx 0).map fun x=>(x.2,x.1)):(Instr.buildSlice 192 vss.length ps).run Tryz.prog w = .ok (.slice (some ⟨w.heap.size,0,none⟩) vss.length vss.length) (w.alloc (.cells vss.flatten.toArray 146)):=by
 obtain ⟨i0,hi0,hz0,hz1,hz2⟩:=info_parts Tryz.infoK
 refine run_buildSlice w _ 146 _ _ _ i0 _ Tryz.underlying192 hi0 hz0 (by rw [hz1];omega) (by rw [hz1];omega) ?_
 rw [hz1,hps,Great.fill_whole (by omega) (vss.map fun vs=>Value.agg vs.toArray) _ (fun v hv=>by
  obtain ⟨vs,hm,rfl⟩:=List.mem_map.1 hv
  show vs.toArray.size=18
  rw [List.size_toArray]
  exact h vs hm) (by simp)]
 congr 2
 rw [List.flatMap_map]
 induction vss with
 | nil=>rfl
 | cons v vs _=>simp [List.flatMap,Value.cells,List.map_congr_left]
theorem run_aggs1 (us:List Value) (h:us.length=18) (w:World):(Instr.buildSlice 192 1 #[(0,.agg us.toArray)]).run Tryz.prog w = .ok (.slice (some ⟨w.heap.size,0,none⟩) 1 1) (w.alloc (.cells us.toArray 146)):=by
 have:=run_aggs [us] (by simpa using h) (by simp) (by simp) w #[(0,.agg us.toArray)] rfl
 simpa using this
section
variable {F:Fence} {n:Nat} {P:Program} {o:Oper} {a:Act} {w w':World} {K:Act→World→Prop} {Q:Exit→Act→World→Prop} {t:TypeId} {v:Value}
theorem opIn_build {len:Nat} {parts:Array (Nat×Operand)} {ps:Array (Nat×Value)} (ho:o.op = .buildSlice t len parts) (hp:(parts.toList.map fun x=>(x.1,a.eval x.2))=ps.toList) (hr:(Instr.buildSlice t len ps).run P w = .ok v w') (h:K (a.put o.dst v) w'):Oper.wpIn F n P o a w K Q:=by
 refine ⟨fun f hf=>?_,?_⟩
 · simp [Oper.about,ho] at hf
 · rw [Oper.semAt_eq _ _ _ (by simp [ho])]
   unfold execOp
   have hp':(parts.map fun (i,x)=>(i,a.eval x))=ps:=Array.toList_inj.1 (by rw [Array.toList_map];exact hp)
   simp only [ho,hp',Sem.run_bind,Sem.run_pure,Result.andThen_ok,hr]
   exact h
end
theorem turned_any {B:Nat} (P Q n:Nat) (hQ:P=Q+1) (hp:(P:Int)∈prm) (h1:1≤n) (h64:n≤64) (f:Nat→List UInt8) (vs:List Value) (by_:Int) (y1:-9223372036854775808≤by_) (y2:by_≤9223372036854775807) (w:World) (hL:Laid w) (hB:B≤w.heap.size) (hV:ColV B w P n f vs) :
 Calls Tryz.prog 107 #[.agg vs.toArray,.int .i64 by_] w fun e w'=>∃ u,e = .returned u∧FreshMany w.heap.size w' u (rowK 1 Q (fun _ r=>xorOf [mvF P by_ f r,mvF P by_ f Q]))∧Below w.heap.size w w':=by
 have hpb:=prm_bounds hp
 have hP:P≤17:=by omega
 have hVB:=Lib.hid (fun (U:World) (hU:Below w.heap.size w U)=>hV.below (hU.mono hB))
 have HVL:=Lib.hid hV.1
 have hBz:=below_one w (.cells vs.toArray 146)
 have bz:=Blk.new w 146 vs.toArray
 obtain ⟨wb,hwb⟩:∃ x,w.alloc (.cells vs.toArray 146)=x:=⟨_,rfl⟩
 rw [hwb] at hBz bz
 have HMV:=Lib.hid (fun (U:World) (hU:Below w.heap.size w U)=>moved_any (B:=B) P Q n hQ hp f vs by_ y1 y2 U (hL.next hU) (Nat.le_trans hB hU.size) (hVB.out U hU))
 have HROW:=Lib.hid (fun (us:List Value) (U V:World) (hU:Below wb.heap.size wb U) (hus:ColV B U P n (mvF P by_ f) us) (hV:Below U.heap.size U V) (bE:Blk V U.heap.size 146 us.toArray)=>by
  have hUV:=below_in hBz (below_in hU hV)
  have hBU:B≤U.heap.size:=Nat.le_trans hB (below_in hBz hU).size
  have hVu:=hus.below (hV.mono hBU)
  exact rowsK_any P Q 1 n hQ hP (by omega) (by omega) h1 h64 U.heap.size 1 131 (fun _=>us) (fun _ r=>xorOf [mvF P by_ f r,mvF P by_ f Q]) V enter_settled
   (fun X hX i hi=>by
    have hb:=bE.below hX bE.lt
    obtain rfl:i=0:=by omega
    exact ⟨hVu.1,hVu.2.2.2,load_col0 hb hVu.1⟩)
   (fun i hi r hr=>by
    show (xorOf [mvF P by_ f r,mvF P by_ f Q]).length=n
    rw [xorOf_len]
    exact (hVu.2.2.1 r (by omega)).1)
   (fun X hX i hi r hr=>by
    refine (settled_any P Q n hQ hP (mvF P by_ f) us r (by omega) h1 h64 X (Nat.le_trans hB (below_in hUV hX).size) (hVu.below (hX.mono (Nat.le_trans hB hUV.size)))).mono ?_
    rintro e X' ⟨u,rfl,hu,hB'⟩
    exact ⟨u,rfl,BytesA.of_fresh hu (fun b hb=>hb.2),hB'⟩))
 have HSS:Hid (∀ U,Below wb.heap.size wb U→(fun U:World=>U.cell? ⟨w.heap.size,0,none⟩=some (.int .i64 (P:Int))∧LoadIs Tryz.prog 146 ⟨w.heap.size,0,none⟩ (.agg vs.toArray) U) U):=fun U hU=>by
  have b:=bz.below hU bz.lt
  refine ⟨?_,load_col0 b HVL.out⟩
  have:=b.cell 0
  rwa [List.getElem?_toArray,hV.2.1] at this
 have hBx:=(Below.refl wb.heap.size wb).drew
 have HF:=Lib.hid (hBz.size)
 clear hV bz hpb hP hQ hL hp
 refine (callsIn_wide (n:=9)).1 ?_
 refine callsIn_of_wp_marks Tryz.func107 rfl trivial ?_ rfl
 simp only [Tryz.ntmps107,List.size_toArray,List.length_cons,List.length_nil,Nat.reduceAdd,Nat.reduceSub,Array.replicate_succ,Array.replicate_zero,List.push_toArray,List.append_toArray,List.nil_append,List.cons_append]
 gi_wp2_with fail
 have hS:=HSS.out _ hBx
 refine wpIn_mono (region_HF (Q:=NoPanic _) (S:=(fun U:World=>U.cell? ⟨w.heap.size,0,none⟩=some (.int .i64 (P:Int))∧LoadIs Tryz.prog 146 ⟨w.heap.size,0,none⟩ (.agg vs.toArray) U)) (by kernel_rfl) ?_) NoPanic.imp
 refine tkF (i:=0) (d:=5) (v:=.pointer (some ⟨w.heap.size,0,none⟩)) (s:=hS) (c:=?_)
 simp only [ud9]
 refine tkF (i:=1) (d:=6) (v:=.int .i64 (P:Int)) (s:=hS) (c:=?_)
 simp only [ud9]
 refine anyHF_take (i:=2) (d:=7) (v:=.agg vs.toArray) (by kernel_rfl) rfl (by kernel_rfl) (by kernel_rfl) (by kernel_rfl) rfl (fun _ _ _ h=>h) ⟨Or.inl ⟨by rfl,fun w hS=>by obtain ⟨h0,h1⟩:=hS;exact exec_load rfl rfl (by first | exact h1)⟩,fun _=>rfl⟩ hS ?_
 simp only [ud9]
 refine tkF (i:=3) (d:=8) (v:=.int .i64 by_) (s:=hS) (c:=?_)
 simp only [ud9]
 refine oneF (i:=4) (c:=?_)
 gi_wp2_with fail
 refine ⟨trivial,(callsIn_wide.2 (HMV.out _ (below_in hBz hBx))).mono ?_⟩
 rintro e w1 ⟨us,rfl,hus,hB1⟩
 replace hBx:=below_in hBx hB1
 clear hS
 have hS:=HSS.out _ hBx
 gi_wp2
 try (refine ⟨hS,?_⟩)
 refine oneF (i:=5) (c:=?_)
 refine opIn_build (ps:=#[(0,.agg us.toArray)]) rfl rfl (run_aggs1 us hus.1 w1) ?_
 have hBe:Below w1.heap.size w1 (w1.alloc (.cells us.toArray 146)):=below_one w1 _
 have bE:Blk (w1.alloc (.cells us.toArray 146)) w1.heap.size 146 us.toArray:=Blk.new w1 _ _
 obtain ⟨w2,hew2⟩:∃ x,(w1.alloc (.cells us.toArray 146))=x:=⟨_,rfl⟩
 rw [hew2] at hBe bE
 rw [hew2]
 have hrow:=HROW.out us w1 w2 hBx hus hBe bE
 replace hBx:=below_in hBx hBe
 clear hS
 have hS:=HSS.out _ hBx
 clear hus bE
 gi_wp2
 try (refine ⟨hS,?_⟩)
 refine oneF (i:=6) (c:=?_)
 gi_wp2_with fail
 refine ⟨trivial,(callsIn_wide.2 (hrow)).mono ?_⟩
 rintro e w5 ⟨u,rfl,hF,hB5⟩
 obtain ⟨uA,un,uc,rfl⟩:∃ a b c,u = .slice a b c:=by obtain ⟨a,c,e,_⟩:=hF;exact ⟨a,_,c,e⟩
 have hsz:=hBx.size
 replace hBx:=below_in hBx hB5
 clear hS
 have hS:=HSS.out _ hBx
 gi_wp2
 try (refine ⟨hS,?_⟩)
 refine oneF (i:=7) (c:=?_)
 gi_wp2
 refine anyHF_done (by kernel_rfl) ?_ _
 refine NoPanic.normal ?_
 gi_wp2
 exact ⟨_,by simp [results,Tryz.results107,go_sem],_,rfl,freshMany_more hF (by have:=HF.out;omega),below_in hBz hBx⟩
end Go.Proofs.YtkllhjhkcipkoaaGreatDoor.Rg

namespace Go.Proofs.YtkllhjhkcipkoaaGreatDoor.T
open Go.RowKit Go.Shelf

def anyHG (F:Fence) (n:Nat) (P:Program) (md:Region.Mode) (ops:Array Oper) (Q:Exit→Act→World→Prop) (S:World→Prop) (m:Nat):Nat→Array Bool→Act→World→Prop
 | 0,listed,a,w=>Region.ready md ops listed = []∧Q .normal a w
 | k+1,listed,a,w=>(Region.ready md ops listed = []→Q .normal a w)∧∀ i∈Region.ready md ops listed,wpOpIn F n P ops Q i (fun a' w'=>(i=m∨S w')∧anyHG F n P md ops Q S m k (listed.setIfInBounds i true) a' w') a w
section
variable {F:Fence} {n:Nat} {P:Program} {md:Region.Mode} {ops:Array Oper} {Q:Exit→Act→World→Prop} {S:World→Prop} {m:Nat}
theorem anyHG.any:∀ (k:Nat) (listed:Array Bool) (a:Act) (w:World),anyHG F n P md ops Q S m k listed a w→wpAnyIn F n P md ops Q k listed a w
 | 0,_,_,_,h=>h
 | k+1,_,_,_,h=>⟨h.1,fun i hi=>wpOpIn_mono (fun a' w' h'=>anyHG.any k _ a' w' h'.2) (h.2 i hi)⟩
theorem anyHG_first {i:Nat} {oi:Oper} {v:Value} (hnd:∀ (i:Nat) (o:Oper),ops[i]?=some o→notDefer o.op=true) (hi:ops[i]?=some oi) (hsel:∀ (j:Nat) (o:Oper) cs b,ops[j]?=some o→o.op≠.select cs b)
 (hQ:∀ c a w,Q (.panic c) (a.put oi.dst v) w→Q (.panic c) a w) (hm:∀ om,ops[m]?=some om→(om.after.any fun e=>Region.binds md e && e.on == i)=true) :
 ∀ (k:Nat) (listed:Array Bool) (a:Act) (w:World),
  (∀ j oj,ops[j]?=some oj→j≠i→listed.getD j true=false→(∀ e∈oj.after,Region.binds md e=true→e.on≠i)→oi.apart ops oj=true) →
  i∈Region.ready md ops listed→Leaves P ops S oi v a→S w →
  anyHG F n P md ops Q S m k (listed.setIfInBounds i true) (a.put oi.dst v) w→anyHG F n P md ops Q S m (k+1) listed a w:=by
 intro k
 induction k with
 | zero =>
   intro listed a w _ hr hy hS H
   refine ⟨fun h=>(by rw [h] at hr;cases hr),fun j hj=>?_⟩
   by_cases hji:j=i
   · subst hji;exact hy.op (hnd _ _ hi) hi hS ⟨.inr hS,H⟩
   · have:=ready_mono hj hji
     rw [H.1] at this
     cases this
 | succ k ih =>
   intro listed a w hfree hr hy hS H
   refine ⟨fun h=>(by rw [h] at hr;cases hr),fun j hj=>?_⟩
   by_cases hji:j=i
   · subst hji;exact hy.op (hnd _ _ hi) hi hS ⟨.inr hS,H⟩
   · have h1:=H.2 j (ready_mono hj hji)
     obtain ⟨hjun,oj,hoj,hall⟩:=mem_ready.1 hj
     have hnot:∀ e∈oj.after,Region.binds md e=true→e.on≠i:=fun e he hb heq=>by
      have h1:=hall e he hb
      have h0:=(mem_ready.1 hr).1
      rw [heq] at h1
      rcases Nat.lt_or_ge i listed.size with h' | h'
      · simp [h'] at h0 h1;rw [h0] at h1;cases h1
      · simp [Array.getElem?_eq_none h'] at h1
     have h2:=Leaves.put (hnd _ _ hoj) hoj (hfree j oj hoj hji hjun hnot) (fun cs b=>hsel i oi cs b hi) (fun cs b=>hsel j oj cs b hoj) hQ hy h1
     have hjm:j≠m:=fun e=>by
      subst e
      have h1:=hm oj hoj
      rw [←Array.any_toList,List.any_eq_true] at h1
      obtain ⟨e,he,h2⟩:=h1
      rw [Bool.and_eq_true] at h2
      exact hnot e (Array.mem_toList_iff.1 he) h2.1 (by simpa using h2.2)
     refine wpOpIn_mono (fun a' w' h3=>⟨h3.2.1,ih (listed.setIfInBounds j true) a' w' (fun x ox hx hxi hun hno=>hfree x ox hx hxi ?_ hno) (ready_mono hr (Ne.symm hji)) h3.1 (h3.2.1.resolve_left hjm) ?_⟩) h2
     · by_cases hjx:j=x
       · subst hjx;exact hjun
       · rw [getD_set_ne true hjx] at hun;exact hun
     · rw [Array.setIfInBounds_comm _ _ hji]
       exact h3.2.2
theorem anyHG_take {i:Nat} {oi:Oper} {d:Tmp} {v:Value} {k:Nat} {listed:Array Bool} {a:Act} {w:World} (hnd:(ops.toList.all fun o=>notDefer o.op)=true) (hi:ops[i]?=some oi)
 (hs:Region.noSelect ops=true) (hf:Region.free md ops listed i=true) (hr:(Region.ready md ops listed).contains i=true) (hd:oi.dst=some d)
 (hm:(match ops[m]? with | some om=>om.after.any fun e=>Region.binds md e && e.on == i | none=>true)=true) (hQ:∀ c a w,Q (.panic c) (a.put oi.dst v) w→Q (.panic c) a w) (hy:Leaves P ops S oi v a) (hS:S w)
 (h:anyHG F n P md ops Q S m k (listed.setIfInBounds i true) { tmps:=a.tmps.setIfInBounds d v,defers:=a.defers } w):anyHG F n P md ops Q S m (k+1) listed a w :=
 anyHG_first (all_nd hnd) hi (Region.noSelect_spec hs) hQ (fun om h=>by rw [h] at hm;exact hm) k listed a w (Region.free_spec hi hf) (by simpa using hr) hy hS (by unfold Act.put;rw [hd];exact h)
theorem anyHG_one {i:Nat} {o:Oper} {k:Nat} {listed:Array Bool} {a:Act} {w:World} (hr:Region.ready md ops listed = [i]) (ho:ops[i]?=some o) (hnd:(ops.toList.all fun o=>notDefer o.op)=true) (hw:Region.wanted o (yielded ops a.tmps)=true)
 (h:Oper.wpIn F n P o a w (fun a' w'=>(i=m∨S w')∧anyHG F n P md ops Q S m k (listed.setIfInBounds i true) a' w') Q):anyHG F n P md ops Q S m (k+1) listed a w :=
 ⟨fun h0=>(by rw [hr] at h0;cases h0),fun j hj=>by
  rw [hr] at hj
  obtain rfl:=List.mem_singleton.1 hj
  unfold wpOpIn
  rw [ho]
  simp only [hw,if_true]
  exact h⟩
theorem anyHG_done {listed:Array Bool} {a:Act} {w:World} (hr:Region.ready md ops listed = []) (h:Q .normal a w):∀ k,anyHG F n P md ops Q S m k listed a w
 | 0=>⟨hr,h⟩
 | _+1=>⟨fun _=>h,by rw [hr];simp⟩
theorem region_HG {id:Nat} {a:Act} {w:World} (hm:P.follows .mixedOrders=true) (h:anyHG F n P .any ops Q S m ops.size (Array.replicate ops.size false) a w.drew):(Code.region id ops true).wpIn F n P Q a w :=
 wpIn_region_any hm (anyHG.any _ _ _ _ h)
end
end Go.Proofs.YtkllhjhkcipkoaaGreatDoor.T
