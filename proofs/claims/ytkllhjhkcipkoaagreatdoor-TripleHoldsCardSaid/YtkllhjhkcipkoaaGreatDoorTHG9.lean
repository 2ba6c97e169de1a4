/- -/
import Derived.Test.YtkllhjhkcipkoaaGreatDoorTHG8
set_option linter.unusedVariables false
set_option linter.unusedSimpArgs false
set_option maxRecDepth 100000
set_option maxHeartbeats 4000000
namespace Go.Proofs.YtkllhjhkcipkoaaGreatDoor.Rg
open Go.RowKit Go.Shelf Go.Maps Go.Proofs.YtkllhjhkcipkoaaGreatDoor.C Go.Proofs.YtkllhjhkcipkoaaGreatDoor.E
attribute [local go_sem] Oper.semAt_some

theorem not_yet_ {ops:Array Oper} {md:Region.Mode} {listed:Array Bool} {i:Nat} (h:i∈Region.ready md ops listed):listed.getD i false=false:=by
 have h1:=(mem_ready.1 h).1
 rcases Nat.lt_or_ge i listed.size with h' | h'
 · simp [h'] at h1 ⊢
   exact h1
 · simp [Array.getElem?_eq_none h'] at h1
theorem slackened_any {B:Nat} (P Q n:Nat) (hQ:P=Q+1) (hp:(P:Int)∈prm) (h1:1≤n) (h64:n≤64) (f:Nat→List UInt8) (vs:List Value) (by_:Int) (y1:-9223372036854775808≤by_) (y2:by_≤9223372036854775807) (hby:by_ % (P:Int)≠0) (w:World) (hL:Laid w) (hB:B≤w.heap.size) (hV:ColV B w P n f vs) :
 Calls Tryz.prog 145 #[.agg vs.toArray,.int .i64 by_] w fun e w'=>∃ u,e = .returned u∧FreshMany w.heap.size w' u (slackL P Q f by_)∧Below w.heap.size w w':=by
 have hpb:=prm_bounds hp
 have hVB:=Lib.hid (fun (U:World) (hU:Below w.heap.size w U)=>hV.below (hU.mono hB))
 obtain ⟨hl,h0,hr0,h1c⟩:=hV
 have hBz:=below_one w (.cells vs.toArray 146)
 have bz:=Blk.new w 146 vs.toArray
 obtain ⟨wb,hwb⟩:∃ x,w.alloc (.cells vs.toArray 146)=x:=⟨_,rfl⟩
 rw [hwb] at hBz bz
 obtain ⟨b0,hb0⟩:∃ x,w.heap.size=x:=⟨_,rfl⟩
 rw [hb0] at bz
 obtain ⟨pl,hpl⟩:∃ x,by_ % (P:Int)=x:=⟨_,rfl⟩
 have HPL:Hid (Calls Tryz.prog 151 #[.agg vs.toArray,.int .i64 by_] wb fun e w'=>e = .returned (.int .i64 pl)∧Below wb.heap.size wb w'):=by
  have:=place_any P vs hp h0 by_ y1 y2 wb (hL.next hBz)
  rwa [hpl] at this
 have hne:(pl != 0)=true:=by rw [←hpl];simpa using hby
 have hld:=load_col0 bz hl
 have HLA:=Lib.hid (fun U=>last_any P Q hQ vs (by omega) h0 U)
 obtain ⟨ws,hws⟩:∃ ws,(vs.drop 1).take 17=ws:=⟨_,rfl⟩
 have hwl:ws.length=17:=by rw [←hws,List.length_take,List.length_drop];omega
 obtain ⟨nQ,uQ,gQ,yQ⟩:=hr0 Q (by omega)
 obtain ⟨zA,zc,eQ,_,_⟩:=id yQ
 rw [nQ] at eQ
 subst eQ
 have HCL:=Lib.hid (fun U=>cell_any ws Q _ hwl (by rw [←hws,ws_get hl Q (by omega),gQ]) U)
 have HLW:=Lib.hid (fun (X:World) (hX:Blk X b0 146 vs.toArray)=>(by
  have:=load_whole hX 1 (by omega)
  rwa [hws] at this:LoadIs Tryz.prog 144 ⟨b0,1,none⟩ (.agg ws.toArray) X))
 obtain ⟨i0,hi0,hz0,hz1,hz2⟩:=info_parts Tryz.infoSlc
 have hmkQ:=fun W:World=>run_make (P:=Tryz.prog) W 41 60 i0 (.slice none 0 0) Tryz.underlying41 hi0 hz0 .i64 .i64 (Q:Int) (Q:Int) (by omega) (by omega) (by rw [hz2];omega) (by omega)
 simp only [hz1,Nat.mul_one,Int.toNat_natCast,show (Value.slice none 0 0).cells=#[.slice none 0 0] from rfl,made_nils] at hmkQ
 have HBY:=Lib.hid hby
 clear hz0 hz1 hz2 hi0 hpl hby nQ gQ
 have HQ:=Lib.hid hQ
 have HR:=Lib.hid hr0
 have H0:=Lib.hid h0
 have H1C:=Lib.hid h1c
 have HWS:=Lib.hid hws
 have HWL:=Lib.hid hwl
 have HLL:=Lib.hid hL
 have HP:=Lib.hid hp
 clear hQ hr0 h0 h1c hws hwl hL hp
 refine (callsIn_wide (n:=9)).1 ?_
 refine callsIn_of_wp_marks Tryz.func145 rfl trivial ?_ rfl
 simp only [Tryz.ntmps145,List.size_toArray,List.length_cons,List.length_nil,Nat.reduceAdd,Nat.reduceSub,Array.replicate_succ,Array.replicate_zero,List.push_toArray,List.append_toArray,List.nil_append,List.cons_append]
 rw [hb0]
 gi_wp2_with (refine wpListIn_loadS rfl rfl rfl hld ?_)
 refine ⟨trivial,(callsIn_wide.2 HPL.out).mono ?_⟩
 rintro e w1 ⟨rfl,hB1⟩
 gi_wp2_with fail
 refine ⟨trivial,(callsIn_wide.2 (need_yes w1)).mono ?_⟩
 rintro e w1' ⟨rfl,rfl⟩
 gi_wp2_with fail
 have bg:=bz.below hB1 bz.lt
 clear hld hwb
 refine wpIn_mono (Q:=(fun e a V=>e=Exit.normal∧∃ gm gh g5 g6,a=({ tmps:=#[.agg vs.toArray,.int .i64 by_,.pointer (some ⟨b0,0,none⟩),undef,.slice none 0 0,.pointer (some ⟨g5,0,none⟩),.pointer (some ⟨g6,0,none⟩),undef,undef,.agg vs.toArray,.int .i64 by_,.int .i64 pl,.bool true,.tuple #[],.agg vs.toArray,.int .i64 (Q:Int),.slice (some ⟨gm,0,none⟩) Q Q,.pointer (some ⟨b0,1,none⟩),.agg ws.toArray,.agg vs.toArray,.int .i64 (Q:Int),.slice zA n zc,.func (.func 163) #[] #[.pointer (some ⟨gh,0,none⟩)],undef,undef,undef,undef,undef,undef,undef,undef,undef,undef,undef,undef,undef,undef,undef,undef,undef,undef,undef,undef,undef,undef,undef],defers:=[] }:Act)∧Below w1.heap.size w1 V∧(w1.heap.size≤gm∧w1.heap.size≤gh∧w1.heap.size≤g5∧w1.heap.size≤g6)∧Blk V gm 60 (List.replicate Q (Value.slice none 0 0)).toArray∧Blk V gh 60 #[.slice zA n zc]∧Blk V g5 41 #[.slice (some ⟨gm,0,none⟩) Q Q]∧Blk V g6 199 #[.func (.func 163) #[] #[.pointer (some ⟨gh,0,none⟩)]])) (region_inv (by kernel_rfl) (by kernel_rfl) (SlI vs ws Q n b0 zA zc w1 by_ pl) ?start ?step ?fin) ?_
 case start =>
  exact ⟨undef,undef,undef,undef,undef,undef,undef,undef,undef,undef,undef,rfl,⟨(Below.refl _ _).drew,fun h=>by simp at h,fun h=>by simp at h,fun h=>by simp at h,fun h=>by simp at h,fun h=>by simp at h,fun h=>by simp at h,fun h=>by simp at h,fun h=>by simp at h,fun h=>by simp at h,fun h=>by simp at h,fun h=>by simp at h⟩,fun h=>by simp at h,fun h=>by simp at h,fun h=>by simp at h,fun h=>by simp at h⟩
 case step =>
  rintro i listed a V hi ⟨x5,x6,x14,x15,x16,x17,x18,x19,x20,x21,x22,rfl,hF,c11,c12,c13,c14⟩
  have hi9:i<13:=List.mem_range.1 (List.mem_filter.1 hi).1
  obtain rfl | rfl | rfl | rfl | rfl | rfl | rfl | rfl | rfl | rfl | rfl | rfl | rfl:i=0∨i=1∨i=2∨i=3∨i=4∨i=5∨i=6∨i=7∨i=8∨i=9∨i=10∨i=11∨i=12:=by omega
  · have en:=not_yet_ hi
    have hr:=ready_on hi rfl [] (by kernel_rfl)
    have hn2:=en
    refine wpOpIn_one rfl rfl ?_
    refine opIn_loadS rfl rfl (load_col0 (bg.below hF.hB bg.lt) hl) ?_
    have hF':=hF
    exact ⟨x5,x6,.agg vs.toArray,x15,x16,x17,x18,x19,x20,x21,x22,rfl,(hF'.n0 rfl).less listed_less,listed_c c11 en (by first | (intro h;exact absurd h (by decide)) | exact fun _=>hr 2 (by simp)) (by decide),listed_c c12 en (by first | (intro h;exact absurd h (by decide)) | exact fun _=>hr 8 (by simp)) (by decide),listed_c c13 en (by first | (intro h;exact absurd h (by decide)) | exact fun _=>hr 9 (by simp)) (by decide),listed_c c14 en (by first | (intro h;exact absurd h (by decide)) | exact fun _=>hr 10 (by simp)) (by decide)⟩
  · have en:=not_yet_ hi
    have hr:=ready_on hi rfl [0] (by kernel_rfl)
    have hn2:=en
    have e0:=hF.f0 (hr 0 (by simp))
    subst e0
    refine wpOpIn_one rfl rfl ?_
    gi_wp2_with fail
    refine ⟨trivial,(callsIn_wide.2 (HLA.out _)).mono ?_⟩
    rintro e w2 ⟨rfl,hB2⟩
    have hF':=hF.below hB2
    gi_wp2
    exact ⟨x5,x6,.agg vs.toArray,.int .i64 (Q:Int),x16,x17,x18,x19,x20,x21,x22,rfl,(hF'.n1 rfl).less listed_less,listed_c c11 en (by first | (intro h;exact absurd h (by decide)) | exact fun _=>hr 2 (by simp)) (by decide),listed_c c12 en (by first | (intro h;exact absurd h (by decide)) | exact fun _=>hr 8 (by simp)) (by decide),listed_c c13 en (by first | (intro h;exact absurd h (by decide)) | exact fun _=>hr 9 (by simp)) (by decide),listed_c c14 en (by first | (intro h;exact absurd h (by decide)) | exact fun _=>hr 10 (by simp)) (by decide)⟩
  · have en:=not_yet_ hi
    have hr:=ready_on hi rfl [1] (by kernel_rfl)
    have hn2:=en
    have e1:=hF.f1 (hr 1 (by simp))
    subst e1
    refine wpOpIn_one rfl rfl ?_
    gi_wp2
    have hB2:=below_one V (.cells (List.replicate Q (Value.slice none 0 0)).toArray 60)
    have b2:=Blk.new V 60 (List.replicate Q (Value.slice none 0 0)).toArray
    have hF':=hF.below hB2
    exact ⟨x5,x6,x14,.int .i64 (Q:Int),.slice (some ⟨V.heap.size,0,none⟩) Q Q,x17,x18,x19,x20,x21,x22,rfl,(hF'.n2 ⟨_,rfl,hF.hB.size,b2⟩ (Bool.eq_false_iff.2 fun hb=>by rw [c11 hb] at en;cases en)).less listed_less,listed_c c11 en (by first | (intro h;exact absurd h (by decide)) | exact fun _=>hr 2 (by simp)) (by decide),listed_c c12 en (by first | (intro h;exact absurd h (by decide)) | exact fun _=>hr 8 (by simp)) (by decide),listed_c c13 en (by first | (intro h;exact absurd h (by decide)) | exact fun _=>hr 9 (by simp)) (by decide),listed_c c14 en (by first | (intro h;exact absurd h (by decide)) | exact fun _=>hr 10 (by simp)) (by decide)⟩
  · have en:=not_yet_ hi
    have hr:=ready_on hi rfl [] (by kernel_rfl)
    have hn2:=en
    refine wpOpIn_one rfl rfl ?_
    gi_wp2
    have hF':=hF
    exact ⟨x5,x6,x14,x15,x16,.pointer (some ⟨b0,1,none⟩),x18,x19,x20,x21,x22,rfl,(hF'.n3 rfl).less listed_less,listed_c c11 en (by first | (intro h;exact absurd h (by decide)) | exact fun _=>hr 2 (by simp)) (by decide),listed_c c12 en (by first | (intro h;exact absurd h (by decide)) | exact fun _=>hr 8 (by simp)) (by decide),listed_c c13 en (by first | (intro h;exact absurd h (by decide)) | exact fun _=>hr 9 (by simp)) (by decide),listed_c c14 en (by first | (intro h;exact absurd h (by decide)) | exact fun _=>hr 10 (by simp)) (by decide)⟩
  · have en:=not_yet_ hi
    have hr:=ready_on hi rfl [3] (by kernel_rfl)
    have hn2:=en
    have e3:=hF.f3 (hr 3 (by simp))
    subst e3
    refine wpOpIn_one rfl rfl ?_
    refine opIn_loadS rfl rfl (HLW.out V (bg.below hF.hB bg.lt)) ?_
    have hF':=hF
    exact ⟨x5,x6,x14,x15,x16,.pointer (some ⟨b0,1,none⟩),.agg ws.toArray,x19,x20,x21,x22,rfl,(hF'.n4 rfl).less listed_less,listed_c c11 en (by first | (intro h;exact absurd h (by decide)) | exact fun _=>hr 2 (by simp)) (by decide),listed_c c12 en (by first | (intro h;exact absurd h (by decide)) | exact fun _=>hr 8 (by simp)) (by decide),listed_c c13 en (by first | (intro h;exact absurd h (by decide)) | exact fun _=>hr 9 (by simp)) (by decide),listed_c c14 en (by first | (intro h;exact absurd h (by decide)) | exact fun _=>hr 10 (by simp)) (by decide)⟩
  · have en:=not_yet_ hi
    have hr:=ready_on hi rfl [] (by kernel_rfl)
    have hn2:=en
    refine wpOpIn_one rfl rfl ?_
    refine opIn_loadS rfl rfl (load_col0 (bg.below hF.hB bg.lt) hl) ?_
    have hF':=hF
    exact ⟨x5,x6,x14,x15,x16,x17,x18,.agg vs.toArray,x20,x21,x22,rfl,(hF'.n5 rfl).less listed_less,listed_c c11 en (by first | (intro h;exact absurd h (by decide)) | exact fun _=>hr 2 (by simp)) (by decide),listed_c c12 en (by first | (intro h;exact absurd h (by decide)) | exact fun _=>hr 8 (by simp)) (by decide),listed_c c13 en (by first | (intro h;exact absurd h (by decide)) | exact fun _=>hr 9 (by simp)) (by decide),listed_c c14 en (by first | (intro h;exact absurd h (by decide)) | exact fun _=>hr 10 (by simp)) (by decide)⟩
  · have en:=not_yet_ hi
    have hr:=ready_on hi rfl [5] (by kernel_rfl)
    have hn2:=en
    have e5:=hF.f5 (hr 5 (by simp))
    subst e5
    refine wpOpIn_one rfl rfl ?_
    gi_wp2_with fail
    refine ⟨trivial,(callsIn_wide.2 (HLA.out _)).mono ?_⟩
    rintro e w2 ⟨rfl,hB2⟩
    have hF':=hF.below hB2
    gi_wp2
    exact ⟨x5,x6,x14,x15,x16,x17,x18,.agg vs.toArray,.int .i64 (Q:Int),x21,x22,rfl,(hF'.n6 rfl).less listed_less,listed_c c11 en (by first | (intro h;exact absurd h (by decide)) | exact fun _=>hr 2 (by simp)) (by decide),listed_c c12 en (by first | (intro h;exact absurd h (by decide)) | exact fun _=>hr 8 (by simp)) (by decide),listed_c c13 en (by first | (intro h;exact absurd h (by decide)) | exact fun _=>hr 9 (by simp)) (by decide),listed_c c14 en (by first | (intro h;exact absurd h (by decide)) | exact fun _=>hr 10 (by simp)) (by decide)⟩
  · have en:=not_yet_ hi
    have hr:=ready_on hi rfl [4,6] (by kernel_rfl)
    have hn2:=en
    have e4:=hF.f4 (hr 4 (by simp))
    have e6:=hF.f6 (hr 6 (by simp))
    subst e4 e6
    refine wpOpIn_one rfl rfl ?_
    gi_wp2_with fail
    refine ⟨trivial,(callsIn_wide.2 (HCL.out _)).mono ?_⟩
    rintro e w2 ⟨rfl,hB2⟩
    have hF':=hF.below hB2
    gi_wp2
    exact ⟨x5,x6,x14,x15,x16,x17,.agg ws.toArray,x19,.int .i64 (Q:Int),.slice zA n zc,x22,rfl,(hF'.n7 rfl).less listed_less,listed_c c11 en (by first | (intro h;exact absurd h (by decide)) | exact fun _=>hr 2 (by simp)) (by decide),listed_c c12 en (by first | (intro h;exact absurd h (by decide)) | exact fun _=>hr 8 (by simp)) (by decide),listed_c c13 en (by first | (intro h;exact absurd h (by decide)) | exact fun _=>hr 9 (by simp)) (by decide),listed_c c14 en (by first | (intro h;exact absurd h (by decide)) | exact fun _=>hr 10 (by simp)) (by decide)⟩
  · have en:=not_yet_ hi
    have hr:=ready_on hi rfl [7] (by kernel_rfl)
    have hn2:=en
    have e7:=hF.f7 (hr 7 (by simp))
    subst e7
    refine wpOpIn_one rfl rfl ?_
    gi_wp2_with fail
    refine ⟨trivial,(callsIn_wide.2 (heap_any zA n zc V)).mono ?_⟩
    rintro e w2 ⟨rfl,rfl⟩
    have hB2:=below_one V (.cells #[.slice zA n zc] 60)
    have hF':=hF.below hB2
    gi_wp2
    exact ⟨x5,x6,x14,x15,x16,x17,x18,x19,x20,.slice zA n zc,.func (.func 163) #[] #[.pointer (some ⟨V.heap.size,0,none⟩)],rfl,(hF'.n8 ⟨_,rfl,hF.hB.size,Blk.new V 60 #[.slice zA n zc]⟩ (Bool.eq_false_iff.2 fun hb=>by rw [c12 hb] at en;cases en)).less listed_less,listed_c c11 en (by first | (intro h;exact absurd h (by decide)) | exact fun _=>hr 2 (by simp)) (by decide),listed_c c12 en (by first | (intro h;exact absurd h (by decide)) | exact fun _=>hr 8 (by simp)) (by decide),listed_c c13 en (by first | (intro h;exact absurd h (by decide)) | exact fun _=>hr 9 (by simp)) (by decide),listed_c c14 en (by first | (intro h;exact absurd h (by decide)) | exact fun _=>hr 10 (by simp)) (by decide)⟩
  · have en:=not_yet_ hi
    have hr:=ready_on hi rfl [] (by kernel_rfl)
    have hn2:=en
    refine wpOpIn_one rfl rfl ?_
    gi_wp2
    have hB2:=below_one V (.cells #[.slice none 0 0] 41)
    have hF':=hF.below hB2
    exact ⟨.pointer (some ⟨V.heap.size,0,none⟩),x6,x14,x15,x16,x17,x18,x19,x20,x21,x22,rfl,(hF'.n9 ⟨_,_,rfl,hF.hB.size,Blk.new V 41 #[.slice none 0 0]⟩ (Bool.eq_false_iff.2 fun hb=>by rw [c13 hb] at en;cases en)).less listed_less,listed_c c11 en (by first | (intro h;exact absurd h (by decide)) | exact fun _=>hr 2 (by simp)) (by decide),listed_c c12 en (by first | (intro h;exact absurd h (by decide)) | exact fun _=>hr 8 (by simp)) (by decide),listed_c c13 en (by first | (intro h;exact absurd h (by decide)) | exact fun _=>hr 9 (by simp)) (by decide),listed_c c14 en (by first | (intro h;exact absurd h (by decide)) | exact fun _=>hr 10 (by simp)) (by decide)⟩
  · have en:=not_yet_ hi
    have hr:=ready_on hi rfl [] (by kernel_rfl)
    have hn2:=en
    refine wpOpIn_one rfl rfl ?_
    gi_wp2
    have hB2:=below_one V (.cells #[.nilFunc] 199)
    have hF':=hF.below hB2
    exact ⟨x5,.pointer (some ⟨V.heap.size,0,none⟩),x14,x15,x16,x17,x18,x19,x20,x21,x22,rfl,(hF'.n10 ⟨_,_,rfl,hF.hB.size,Blk.new V 199 #[.nilFunc]⟩ (Bool.eq_false_iff.2 fun hb=>by rw [c14 hb] at en;cases en)).less listed_less,listed_c c11 en (by first | (intro h;exact absurd h (by decide)) | exact fun _=>hr 2 (by simp)) (by decide),listed_c c12 en (by first | (intro h;exact absurd h (by decide)) | exact fun _=>hr 8 (by simp)) (by decide),listed_c c13 en (by first | (intro h;exact absurd h (by decide)) | exact fun _=>hr 9 (by simp)) (by decide),listed_c c14 en (by first | (intro h;exact absurd h (by decide)) | exact fun _=>hr 10 (by simp)) (by decide)⟩
  · have en:=not_yet_ hi
    have hr:=ready_on hi rfl [9,2,8] (by kernel_rfl)
    have hn2:=en
    obtain ⟨c,y,rfl,hc,hb,_⟩:=hF.f9 (hr 9 (by simp))
    obtain ⟨d,e2,_⟩:=hF.f2 (hr 2 (by simp))
    subst e2
    have k0:=hb.one
    have k1:=hb.frozen 0
    refine wpOpIn_one rfl rfl ?_
    gi_wp2
    have hF':=hF
    exact ⟨.pointer (some ⟨c,0,none⟩),x6,x14,x15,.slice (some ⟨d,0,none⟩) Q Q,x17,x18,x19,x20,x21,x22,rfl,(hF'.s11 hc hb).less listed_less,listed_c c11 en (by first | (intro h;exact absurd h (by decide)) | exact fun _=>hr 2 (by simp)) (by decide),listed_c c12 en (by first | (intro h;exact absurd h (by decide)) | exact fun _=>hr 8 (by simp)) (by decide),listed_c c13 en (by first | (intro h;exact absurd h (by decide)) | exact fun _=>hr 9 (by simp)) (by decide),listed_c c14 en (by first | (intro h;exact absurd h (by decide)) | exact fun _=>hr 10 (by simp)) (by decide)⟩
  · have en:=not_yet_ hi
    have hr:=ready_on hi rfl [10,8] (by kernel_rfl)
    have hn2:=en
    obtain ⟨c,y,rfl,hc,hb,_⟩:=hF.f10 (hr 10 (by simp))
    obtain ⟨d,e2,_⟩:=hF.f8 (hr 8 (by simp))
    subst e2
    have k0:=hb.one
    have k1:=hb.frozen 0
    refine wpOpIn_one rfl rfl ?_
    gi_wp2
    have hF':=hF
    exact ⟨x5,.pointer (some ⟨c,0,none⟩),x14,x15,x16,x17,x18,x19,x20,x21,.func (.func 163) #[] #[.pointer (some ⟨d,0,none⟩)],rfl,(hF'.s12 hc hb).less listed_less,listed_c c11 en (by first | (intro h;exact absurd h (by decide)) | exact fun _=>hr 2 (by simp)) (by decide),listed_c c12 en (by first | (intro h;exact absurd h (by decide)) | exact fun _=>hr 8 (by simp)) (by decide),listed_c c13 en (by first | (intro h;exact absurd h (by decide)) | exact fun _=>hr 9 (by simp)) (by decide),listed_c c14 en (by first | (intro h;exact absurd h (by decide)) | exact fun _=>hr 10 (by simp)) (by decide)⟩
 case fin =>
  rintro listed a V hall ⟨x5,x6,x14,x15,x16,x17,x18,x19,x20,x21,x22,rfl,hF,c11,c12,c13,c14⟩
  obtain rfl:=hF.f0 (hall 0 (by show 0<13;omega))
  obtain rfl:=hF.f1 (hall 1 (by show 1<13;omega))
  obtain ⟨gm,rfl,hgm,bM⟩:=hF.f2 (hall 2 (by show 2<13;omega))
  obtain rfl:=hF.f3 (hall 3 (by show 3<13;omega))
  obtain rfl:=hF.f4 (hall 4 (by show 4<13;omega))
  obtain rfl:=hF.f5 (hall 5 (by show 5<13;omega))
  obtain rfl:=hF.f6 (hall 6 (by show 6<13;omega))
  obtain rfl:=hF.f7 (hall 7 (by show 7<13;omega))
  obtain ⟨gh,rfl,hgh,bH⟩:=hF.f8 (hall 8 (by show 8<13;omega))
  obtain ⟨g5,y5,rfl,hg5,b5,hy5⟩:=hF.f9 (hall 9 (by show 9<13;omega))
  obtain ⟨g6,y6,rfl,hg6,b6,hy6⟩:=hF.f10 (hall 10 (by show 10<13;omega))
  obtain rfl:=hy5 (hall 11 (by show 11<13;omega))
  obtain rfl:=hy6 (hall 12 (by show 12<13;omega))
  exact ⟨rfl,gm,gh,g5,g6,rfl,hF.hB,⟨hgm,hgh,hg5,hg6⟩,bM,bH,b5,b6⟩
 rintro e a V ⟨rfl,gm,gh,g5,g6,rfl,hBV,⟨hgm,hgh,hg5,hg6⟩,bM,bH,b5,b6⟩
 clear hmkQ
 have hBwV:=below_in hBz (below_in hB1 hBV)
 have bgV:=bg.below hBV bg.lt
 have k0:=bgV.cell 0
 rw [List.getElem?_toArray,H0.out] at k0
 have hP17:P≤17:=by omega
 have j1:(0:Int)≤(P:Int):=by omega
 have j2:(P:Int)≤17:=by omega
 have HALL:=Lib.hid (fun (U:World) (hU:Below V.heap.size V U)=>upon_any (.slice (some ⟨b0,1,none⟩) P 17) ((List.range P).map f) U (Nat.le_refl _) (colMany (hVB.out U (below_in hBwV hU)) (bgV.below hU bgV.lt) (Nat.le_trans hB (below_in hBwV hU).size) (by omega)) (by rw [List.length_map,List.length_range];omega) (many_ok (by omega) h1 h64 (fun i hi=>(HR.out i hi).1)))
 have HALN:Hid ((xorOf ((List.range P).map f)).length=n):=by
  unfold Hid
  rw [xorOf_len,List.getElem?_map,List.getElem?_range (by omega)]
  exact (HR.out 0 (by omega)).1
 gi_wp2_with fail
 refine ⟨trivial,(callsIn_wide.2 (HALL.out V (Below.refl _ _))).mono ?_⟩
 rintro e w3 ⟨u,rfl,hu,hB3⟩
 obtain ⟨aA,ac,eu⟩:=fresh_slice hu
 rw [HALN.out] at eu
 subst eu
 obtain ⟨W4,hW4⟩:∃ x,w3.alloc (.cells #[.slice aA n ac] 60)=x:=⟨_,rfl⟩
 have hB4:Below w3.heap.size w3 W4:=by rw [←hW4];exact below_one w3 _
 have b7:Blk W4 w3.heap.size 60 #[.slice aA n ac]:=by rw [←hW4];exact Blk.new w3 _ _
 have hV4:Below V.heap.size V W4:=below_in hB3 hB4
 have k4:W4.cell? ⟨b0,0,none⟩=some (.int .i64 (P:Int)):=((hV4.cell (p:=⟨b0,0,none⟩) bgV.lt).trans k0)
 have HRO:=Lib.hid (T.rowsT_yes (P:Int) by_ HP.out y1 y2 W4 (HLL.out.next (below_in hBwV hV4)))
 clear k0
 gi_wp2_with fail
 refine ⟨trivial,(callsIn_wide.2 HRO.out).mono ?_⟩
 rintro e w5 ⟨v,rfl,⟨gf,lb,rfl,eg,eqn,hgo⟩,hB5⟩
 have hV5:Below V.heap.size V w5:=below_in hV4 hB5
 have hBw5:Below w.heap.size w w5:=below_in hBwV hV5
 have c0:=bgV.below hV5 bgV.lt
 have c5:=b5.below hV5 b5.lt
 have c6:=b6.below hV5 b6.lt
 have c7:=b7.below hB5 b7.lt
 have cm:=bM.below hV5 bM.lt
 have ch:=bH.below hV5 bH.lt
 have hs1:=hB1.size
 have hsz:=hBz.size
 have hsV:=hBV.size
 have hs3:=hB3.size
 have hs4:=hB4.size
 have hs5:=hB5.size
 have l0:=bz.lt
 have lm:=bM.lt
 have lh:=bH.lt
 have l5:=b5.lt
 have l6:=b6.lt
 have l7:=b7.lt
 have hmh:gm≠gh:=fun e=>by
  subst e
  have h1:=bM.symm.trans bH
  injection h1 with h1
  injection h1 with h1
  have h2:=congrArg Array.size h1
  simp at h2
  have:=HQ.out
  have:=prm_bounds HP.out
  omega
 have h5m:g5≠gm:=blk_ne b5 bM (by decide)
 have h5h:g5≠gh:=blk_ne b5 bH (by decide)
 have h6m:g6≠gm:=blk_ne b6 bM (by decide)
 have h6h:g6≠gh:=blk_ne b6 bH (by decide)
 have hall:BytesA (fun b=>b=gm∨b=gh) w5 (.slice aA n ac) (xorOf ((List.range P).map f)):=(BytesA.of_fresh hu (fun b e=>by omega)).only (Only.below (below_in hB4 hB5))
 have hz:Bytes B w (.slice zA n zc) (f Q):=yQ
 have hput:Put w5.heap.size gm gh Q f (f Q) (xorOf ((List.range P).map f)) n [] w5 (.slice zA n zc) (List.replicate Q (Value.slice none 0 0)):=by
  refine ⟨by omega,by omega,cm,ch,List.length_replicate,BytesA.of_bytes (hz.below (hBw5.mono hB)) (Nat.le_trans hB hBw5.size) (fun b e=>by omega),fun x hx=>(by cases hx),fun j x hj=>(by simp at hj),fun u hu b e=>?_⟩
  rcases List.mem_cons.1 hu with rfl | hu
  · obtain ⟨A',cap',e1,_,hh⟩:=hz.below (hBw5.mono hB)
    have hfl:=(HR.out Q (by have:=HQ.out;omega)).1
    rw [hfl] at hh
    obtain ⟨b',off,e2,_,hcell⟩:=hh (by omega)
    injection e1 with e1
    subst e1
    subst e2
    have eb:b'=b:=by simpa [vblk] using e
    subst eb
    have hc0:=hcell 0 (by omega)
    unfold World.cell? at hc0
    revert hc0
    cases hh:w5.heap[b']? with
    | none=>simp
    | some ob=>cases ob <;> simp
  · rw [(List.mem_replicate.1 hu).2] at e
    cases e
 have hrows:=slack_rows P Q HQ.out HP.out by_ HBY.out
 have hzl:(walkN (P:Int) ((P:Int) - 1) by_).length=P:=by rw [walkN_yes (fine_one.2 ⟨HP.out,by omega,by omega⟩),walkL_len,Int.toNat_natCast]
 have HPUT:=Lib.hid hput
 have HROWS:=Lib.hid hrows
 have HALA:=Lib.hid hall
 clear bgV bM bH b5 b6 b7 hu hall hput hrows k4 hW4 cm ch
 gi_wp2_with fail
 refine T.wpIn_rangeT rfl (by omega) (gf:=gf) (lb:=lb) rfl trivial eg (hgo _ (by omega)) (fun h h'=>h.trans h') (fun X l' ob hl' hlX _=>Keep.putFar X (by omega) ob) (Below.refl _ _) (fun _=>rfl)
  (fun pre o X=>(∃ hv ms,Put w5.heap.size gm gh Q f (f Q) (xorOf ((List.range P).map f)) n pre X hv ms∧o=ownV w5.heap.size (hv :: ms))∧Only (fun b=>b=gm∨b=gh) w5 X∧Below w.heap.size w X) (fun _ _ _ _=>False)
  ?hI (fun c s o X Y row hs _ _=>hs) (ownV w5.heap.size (.slice zA n zc :: List.replicate Q (Value.slice none 0 0))) ?ho ⟨⟨_,_,HPUT.out,rfl⟩,Only.refl _ _,hBw5⟩ (fun _ x o a' X=>a'=({ tmps:=#[.agg vs.toArray,.int .i64 by_,.pointer (some ⟨b0,0,none⟩),undef,.slice none 0 0,.pointer (some ⟨g5,0,none⟩),.pointer (some ⟨g6,0,none⟩),.pointer (some ⟨w3.heap.size,0,none⟩),.int .i64 x,.agg vs.toArray,.int .i64 by_,.int .i64 pl,.bool true,.tuple #[],.agg vs.toArray,.int .i64 (Q:Int),.slice (some ⟨gm,0,none⟩) Q Q,.pointer (some ⟨b0,1,none⟩),.agg ws.toArray,.agg vs.toArray,.int .i64 (Q:Int),.slice zA n zc,.func (.func 163) #[] #[.pointer (some ⟨gh,0,none⟩)],.pointer (some ⟨b0,1,none⟩),.pointer (some ⟨b0,0,none⟩),.int .i64 (P:Int),.slice (some ⟨b0,1,none⟩) P 17,.slice aA n ac,.pointer (some ⟨b0,0,none⟩),.int .i64 (P:Int),.int .i64 by_,.func (.func gf) #[] lb,.int .i64 x,undef,undef,undef,undef,undef,undef,undef,undef,undef,undef,undef,undef,undef],defers:=[] }:Act)∧0≤x∧x<(P:Int) - 1) ?hAx ?assign ?row1 (fun _ _ _ _ h=>h.elim) ?body ?done (fun D c pre o W _ _ _ h=>h.elim)
 case assign =>
  intro l' pre x o X K hsz' hol hI hok hK
  gi_wp2
  exact hK _ _ (T.SinceO.refl _ _ _) (Keep.refl _ _ _) hI ⟨rfl,hok.1⟩
 case hI =>
  rintro s o X Y row ⟨h1,h2,h3⟩ hgr hr
  exact ⟨farO_put s o X Y row h1 hgr hr,⟨Nat.le_trans h2.1 hgr.size,fun b hb hn=>(hgr.block b (Nat.lt_of_lt_of_le hb h2.1) (fun e=>by have:=(hr b e.symm).1;omega)).trans (h2.2 b hb hn)⟩,h3.grown hgr (Nat.le_trans (Nat.le_refl _) h3.size) (fun r e=>by have:=(hr r e).1;omega)⟩
 case ho =>
  intro b e
  exact T.RowO.lt (HPUT.out.rowO (B:=w5.heap.size)) b e
 case hAx=>exact fun _ _ _ _ _ _ _ _ _ _ _ h=>h
 case row1 =>
  rintro pre o X ⟨⟨hv,ms,hP,rfl⟩,_⟩
  exact hP.rowO
 case body =>
  rintro l' pre x o a' X hsz' ⟨⟨hv,ms,hPt,rfl⟩,hO,hbX⟩ ⟨rfl,x0,x1⟩ hln
  have hlQ:=HQ.out
  obtain ⟨r,rfl⟩:∃ r:Nat,x=(r:Int):=⟨x.toNat,by omega⟩
  have hrQ:r<Q:=by omega
  obtain ⟨nr,ur,gr,yr⟩:=HR.out r (by omega)
  obtain ⟨rA,rc,er,_,_⟩:=id yr
  rw [nr] at er
  subst er
  have HCR:=Lib.hid (fun U=>cell_any ws r _ HWL.out (by rw [←HWS.out,ws_get hl r (by omega),gr]) U)
  have hlen2:(hld f (f Q) (xorOf ((List.range P).map f)) pre).length=n:=hld_len (HR.out Q (by omega)).1 pre
  obtain ⟨hA,hc,eh,_⟩:=id hPt.held
  rw [hlen2] at eh
  subst eh
  have hXw:w.heap.size≤X.heap.size:=hbX.size
  have hBs:B≤X.heap.size:=Nat.le_trans hB hXw
  have hyr:Bytes B X (.slice rA n rc) (f r):=yr.below (hbX.mono hB)
  have hal:=HALA.out.only hO
  have HXR:Hid ((xorOf [f r,xorOf ((List.range P).map f)]).length=n):=by unfold Hid;rw [xorOf_len];exact nr
  have HUPR:=Lib.hid (fun (U V:World) (hU:Below X.heap.size X U) (hV:Below U.heap.size U V) (bE:Blk V U.heap.size 60 #[.slice rA n rc,.slice aA n ac])=>by
   have hUV:=below_in hU hV
   exact upon_any _ _ V (Nat.le_refl _) (two_many bE ((hyr.below (hUV.mono hBs)).more (Nat.le_trans hBs hUV.size)) ((hal.bytes.below hUV).more hUV.size) bE.lt) (by show 2≤1000;omega) (two_ok (by rw [HALN.out,nr]) (by omega) (by omega)))
  have HH1:=Lib.hid (fun (U:World) (hU:Below X.heap.size X U) (xA:Option Addr) (xc:Nat) (hx:Bytes U.heap.size U (.slice xA n xc) (xorOf [f r,xorOf ((List.range P).map f)]))=>heap1_any gh n hA hc xA xc _ _ U (hPt.bh.below hU hPt.bh.lt) (hPt.held.only (Only.below hU)).bytes hx hlen2 HXR.out h1 h64)
  have o0:=hO.blk c0 (by omega)
  have o5:=hO.blk c5 (fun e=>e.elim h5m h5h)
  have o6:=hO.blk c6 (fun e=>e.elim h6m h6h)
  have o7:=hO.blk c7 (by omega)
  have HSP:Hid (∀ U,Only (fun b=>b=gm∨b=gh) X U→(fun U:World=>U.cell? ⟨g5,0,none⟩=some (.slice (some ⟨gm,0,none⟩) Q Q)∧U.cell? ⟨g6,0,none⟩=some (.func (.func 163) #[] #[.pointer (some ⟨gh,0,none⟩)])∧U.cell? ⟨w3.heap.size,0,none⟩=some (.slice aA n ac)∧LoadIs Tryz.prog 144 ⟨b0,1,none⟩ (.agg ws.toArray) U) U):=fun U hU=>⟨(hU.blk o5 (fun e=>e.elim h5m h5h)).one,(hU.blk o6 (fun e=>e.elim h6m h6h)).one,(hU.blk o7 (by omega)).one,HLW.out U (hU.blk o0 (by omega))⟩
  have HSO:Hid (∀ U,Only (fun b=>b=gh) X U→(fun U:World=>U.cell? ⟨g5,0,none⟩=some (.slice (some ⟨gm,0,none⟩) Q Q)∧U.cell? ⟨g6,0,none⟩=some (.func (.func 163) #[] #[.pointer (some ⟨gh,0,none⟩)])∧U.cell? ⟨w3.heap.size,0,none⟩=some (.slice aA n ac)∧LoadIs Tryz.prog 144 ⟨b0,1,none⟩ (.agg ws.toArray) U) U):=fun U hU=>HSP.out U (Only.imp hU fun b e=>.inr e)
  have HSS:Hid (∀ U,Below X.heap.size X U→(fun U:World=>U.cell? ⟨g5,0,none⟩=some (.slice (some ⟨gm,0,none⟩) Q Q)∧U.cell? ⟨g6,0,none⟩=some (.func (.func 163) #[] #[.pointer (some ⟨gh,0,none⟩)])∧U.cell? ⟨w3.heap.size,0,none⟩=some (.slice aA n ac)∧LoadIs Tryz.prog 144 ⟨b0,1,none⟩ (.agg ws.toArray) U) U):=fun U hU=>HSP.out U (Only.below hU)
  have HOLD:Hid (∀ U,Only (fun b=>b=gh) X U→∃ old,U.cell? ⟨gm,r,none⟩=some old):=fun U hU=>⟨_,by rw [(hU.blk hPt.bm hmh).cell,List.getElem?_toArray,List.getElem?_eq_getElem (by rw [hPt.len];exact hrQ)]⟩
  have HFZ:Hid (∀ U,Only (fun b=>b=gh) X U→U.frozen? ⟨gm,r,none⟩=false):=fun U hU=>(hU.blk hPt.bm hmh).frozen r
  have i1:(0:Int)≤(r:Int):=by omega
  have i2:(r:Int)<(Q:Int):=by omega
  have HPT:=Lib.hid hPt
  have HHL:=Lib.hid hlen2
  have HQ2:=Lib.hid hlQ
  clear o0 o5 o6 o7 hPt hlen2 hlQ yr gr nr hyr hal x0 x1 hln
  gi_wp2_with fail
  have hS:(fun U:World=>U.cell? ⟨g5,0,none⟩=some (.slice (some ⟨gm,0,none⟩) Q Q)∧U.cell? ⟨g6,0,none⟩=some (.func (.func 163) #[] #[.pointer (some ⟨gh,0,none⟩)])∧U.cell? ⟨w3.heap.size,0,none⟩=some (.slice aA n ac)∧LoadIs Tryz.prog 144 ⟨b0,1,none⟩ (.agg ws.toArray) U) X.drew:=HSS.out _ (Below.refl _ _).drew
  refine region_HF (S:=(fun U:World=>U.cell? ⟨g5,0,none⟩=some (.slice (some ⟨gm,0,none⟩) Q Q)∧U.cell? ⟨g6,0,none⟩=some (.func (.func 163) #[] #[.pointer (some ⟨gh,0,none⟩)])∧U.cell? ⟨w3.heap.size,0,none⟩=some (.slice aA n ac)∧LoadIs Tryz.prog 144 ⟨b0,1,none⟩ (.agg ws.toArray) U)) (by kernel_rfl) ?_
  refine tkF (i:=0) (d:=33) (v:=.slice (some ⟨gm,0,none⟩) Q Q) (s:=hS) (c:=?_)
  simp only [ud9]
  refine tkF (i:=1) (d:=34) (v:=.int .i64 (r:Int)) (s:=hS) (c:=?_)
  simp only [ud9]
  refine tkF (i:=2) (d:=35) (v:=.func (.func 163) #[] #[.pointer (some ⟨gh,0,none⟩)]) (s:=hS) (c:=?_)
  simp only [ud9]
  refine tkF (i:=3) (d:=36) (v:=.pointer (some ⟨b0,1,none⟩)) (s:=hS) (c:=?_)
  simp only [ud9]
  refine anyHF_take (i:=4) (d:=37) (v:=.agg ws.toArray) (by kernel_rfl) rfl (by kernel_rfl) (by kernel_rfl) (by kernel_rfl) rfl (fun _ _ _ h=>h) ⟨Or.inl ⟨by rfl,fun w hS=>by obtain ⟨h0,h1,h2,h3⟩:=hS;exact exec_load rfl rfl (by first | exact h3)⟩,fun _=>rfl⟩ hS ?_
  simp only [ud9]
  refine tkF (i:=5) (d:=38) (v:=.int .i64 (r:Int)) (s:=hS) (c:=?_)
  simp only [ud9]
  refine tkF (i:=7) (d:=40) (v:=.slice aA n ac) (s:=hS) (c:=?_)
  simp only [ud9]
  refine oneF (i:=6) (c:=?_)
  gi_wp2_with fail
  refine ⟨trivial,(CallsIn.inRound l' (callsIn_wide.2 (HCR.out _))).mono ?_⟩
  rintro e w7 ⟨rfl,hB7⟩
  have hBx:=below_in (Below.refl X.heap.size X).drew hB7
  clear hS
  have hS:=HSS.out _ hBx
  gi_wp2
  try (refine ⟨hS,?_⟩)
  refine oneF (i:=8) (c:=?_)
  have hBe:Below w7.heap.size w7 (w7.alloc (.cells #[.slice rA n rc,.slice aA n ac] 60)):=below_one w7 _
  have bE:Blk (w7.alloc (.cells #[.slice rA n rc,.slice aA n ac] 60)) w7.heap.size 60 #[.slice rA n rc,.slice aA n ac]:=Blk.new w7 _ _
  obtain ⟨w8,hew8⟩:∃ x,(w7.alloc (.cells #[.slice rA n rc,.slice aA n ac] 60))=x:=⟨_,rfl⟩
  rw [hew8] at hBe bE
  have hup:=HUPR.out w7 w8 hBx hBe bE
  have hBx8:=below_in hBx hBe
  clear hS
  have hS:(fun U:World=>U.cell? ⟨g5,0,none⟩=some (.slice (some ⟨gm,0,none⟩) Q Q)∧U.cell? ⟨g6,0,none⟩=some (.func (.func 163) #[] #[.pointer (some ⟨gh,0,none⟩)])∧U.cell? ⟨w3.heap.size,0,none⟩=some (.slice aA n ac)∧LoadIs Tryz.prog 144 ⟨b0,1,none⟩ (.agg ws.toArray) U) w8:=HSS.out _ hBx8
  gi_wp2
  try rw [hew8]
  try (refine ⟨hS,?_⟩)
  refine oneF (i:=9) (c:=?_)
  gi_wp2_with fail
  refine ⟨trivial,(CallsIn.inRound l' (callsIn_wide.2 (hup))).mono ?_⟩
  rintro e w9 ⟨u,rfl,hu,hB9⟩
  obtain ⟨xA,xc,eu⟩:=fresh_slice hu
  rw [HXR.out] at eu
  subst eu
  have hBx9:=below_in hBx8 hB9
  clear hS
  have hS:(fun U:World=>U.cell? ⟨g5,0,none⟩=some (.slice (some ⟨gm,0,none⟩) Q Q)∧U.cell? ⟨g6,0,none⟩=some (.func (.func 163) #[] #[.pointer (some ⟨gh,0,none⟩)])∧U.cell? ⟨w3.heap.size,0,none⟩=some (.slice aA n ac)∧LoadIs Tryz.prog 144 ⟨b0,1,none⟩ (.agg ws.toArray) U) w9:=HSS.out _ hBx9
  have hcl:=HH1.out w9 hBx9 xA xc hu.bytes
  clear bE hup
  gi_wp2
  try (refine ⟨hS,?_⟩)
  refine oneF (i:=10) (c:=?_)
  gi_wp2_with fail
  refine ⟨trivial,(CallsIn.inRound l' (callsIn_wide.2 (hcl))).mono ?_⟩
  rintro e w10 ⟨ra,rc2,V2,rfl,hBV2,hfr,rfl⟩
  have hBx10:=below_in hBx9 hBV2
  have hOx:Only (fun b=>b=gh) X (V2.setCell ⟨gh,0,none⟩ (.slice ra n rc2)):=(Only.below hBx10).trans (Only.set (A:=fun b=>b=gh) (p:=⟨gh,0,none⟩) rfl _)
  clear hS
  have hS:(fun U:World=>U.cell? ⟨g5,0,none⟩=some (.slice (some ⟨gm,0,none⟩) Q Q)∧U.cell? ⟨g6,0,none⟩=some (.func (.func 163) #[] #[.pointer (some ⟨gh,0,none⟩)])∧U.cell? ⟨w3.heap.size,0,none⟩=some (.slice aA n ac)∧LoadIs Tryz.prog 144 ⟨b0,1,none⟩ (.agg ws.toArray) U) (V2.setCell ⟨gh,0,none⟩ (.slice ra n rc2)):=HSO.out _ hOx
  gi_wp2
  try (refine ⟨hS,?_⟩)
  refine tkF (i:=11) (d:=44) (v:=.pointer (some ⟨gm,r,none⟩)) (s:=hS) (c:=?_)
  simp only [ud9]
  refine oneF (i:=12) (c:=?_)
  have hOy:Only (fun b=>b=gm∨b=gh) X ((V2.setCell ⟨gh,0,none⟩ (.slice ra n rc2)).setCell ⟨gm,r,none⟩ (.slice ra n rc2)):=(Only.imp hOx fun b e=>.inr e).trans (Only.set (.inl rfl) _)
  have hSf:=HSP.out _ hOy
  obtain ⟨old,hold⟩:=HOLD.out _ hOx
  have hfz:=HFZ.out _ hOx
  obtain ⟨q0,q1,q2,q3⟩:=hS
  gi_wp2_with fail
  try (refine ⟨hSf,?_⟩)
  refine anyHF_done (by kernel_rfl) ?_ _
  have hfin:=HPT.out.next (x:=(r:Int)) i1 (by rw [Int.toNat_natCast];exact hrQ) hmh (below_in hBx9 hBV2) hfr hBx9.size hsz' (by rw [xorOf_len];show 0<(hld f (f Q) (xorOf ((List.range P).map f)) pre).length;rw [HHL.out];omega)
  rw [Int.toNat_natCast] at hfin
  have hl2:W4.heap.size+(w5.heap.size - W4.heap.size)≤X.heap.size:=by omega
  gi_wp2_with fail
  exact ⟨_,hfin.2,⟨hOy.1,fun b h2 h3 _=>hOy.2 b h3 (by omega)⟩,hOy.keep hl2 (fun b e=>by omega),⟨_,_,hfin.1,rfl⟩,hO.trans hOy,((below_in hbX hBx10).setCell (by show w.heap.size≤gh;omega) _).setCell (by show w.heap.size≤gm;omega) _⟩
 case done =>
  rintro D xs o X hD hfo rfl ⟨⟨hv,ms,hPt,rfl⟩,hO,hbX⟩ hK hne
  have o5:=(hO.blk c5 (fun e=>e.elim h5m h5h)).one
  have hfin:FreshMany w.heap.size X (.slice (some ⟨gm,0,none⟩) Q Q) (slackL P Q f by_):=by
   unfold slackL
   refine ToldF.many (F:=fun r=>hld f (f Q) (xorOf ((List.range P).map f)) ((rowsF P (walkN P ((P:Int) - 1) by_)).take ((rowsF P (walkN P ((P:Int) - 1) by_)).idxOf (r:Int)+1))) (fun r hr=>?_) hPt.len hPt.bm (by omega)
   obtain ⟨hi1,hi2⟩:=idx_fact HROWS.out.1 (HROWS.out.2.1 r hr)
   obtain ⟨u,h1,h2⟩:=hPt.made _ _ hi1 hi2
   rw [Int.toNat_natCast] at h1
   exact ⟨u,h1,fresh_more h2 (by omega)⟩
  have HFIN:=Lib.hid (⟨freshMany_put (ob:=.deferred none) hK hfin,hbX.trans (belowK_b (w:=w) (Nat.le_refl _) _ D _ _ (by omega) hK rfl rfl)⟩:FreshMany w.heap.size (X.putObj D (.deferred none)) _ _∧Below w.heap.size w (X.putObj D (.deferred none)))
  clear hfin hPt hO hbX
  gi_wp2_with fail
  refine ⟨by simp,.inl ⟨_,_,rfl,run_takeDeferred hK,?_⟩⟩
  exact ⟨.slice (some ⟨gm,0,none⟩) Q Q,by simp [results,Tryz.results145,go_sem],.slice (some ⟨gm,0,none⟩) Q Q,rfl,(by rw [←hb0];exact HFIN.out.1),(by rw [←hb0];exact HFIN.out.2)⟩
end Go.Proofs.YtkllhjhkcipkoaaGreatDoor.Rg

namespace Go.Proofs.YtkllhjhkcipkoaaGreatDoor.Rg
open Go.RowKit Go.Shelf Go.Maps Go.Proofs.YtkllhjhkcipkoaaGreatDoor.C Go.Proofs.YtkllhjhkcipkoaaGreatDoor.E
attribute [local go_sem] Oper.semAt_some

theorem enter_slacken1:∀ args W,(callFunc 144 args).run Tryz.prog W = .ok (.enter 144 args) W:=enters_of Tryz.func144 (by kernel_rfl) rfl
theorem slacken_yes {B:Nat} (P Q n:Nat) (hQ:P=Q+1) (c:List (List UInt8)) (v:Value) (by_:Int) (y1:-9223372036854775808≤by_) (y2:by_≤9223372036854775807) (hok:ColOk P n c) (hby:by_ % (P:Int)≠0) (w:World) (hL:Laid w) (hB:B≤w.heap.size) (hM:Many B w v c) :
 Calls Tryz.prog 124 #[.int .i64 (P:Int),v,.int .i64 by_] w fun e w'=>∃ u,e = .returned (.tuple #[u,.int .i64 0])∧FreshMany w.heap.size w' u (slackL P Q (wholeF Q n c) by_)∧Below w.heap.size w w':=by
 obtain ⟨A,cap,rfl,_,_⟩:=id hM
 obtain ⟨C,hC⟩:∃ C,c.length=C:=⟨_,rfl⟩
 rw [hC] at hM ⊢
 obtain ⟨W2,hW2⟩:∃ x,((w.alloc (.cells #[.int .i64 (P:Int)] 3)).alloc (.cells #[.slice A C cap] 41)).alloc (.cells #[.int .i64 by_] 3)=x:=⟨_,rfl⟩
 have b0:Blk W2 w.heap.size 3 #[.int .i64 (P:Int)]:=by rw [←hW2];exact ((Blk.new w _ _).alloc _).alloc _
 have b1:Blk W2 (w.heap.size+1) 41 #[.slice A C cap]:=by rw [←hW2];exact (Blk.second w _ _ _).alloc _
 have b2:Blk W2 (w.heap.size+1+1) 3 #[.int .i64 by_]:=by rw [←hW2];exact Blk.at_ (Blk.new _ _ _) (by simp)
 have hBW:Below w.heap.size w W2:=by rw [←hW2];exact (below_two w _ _).alloc (by simp;omega) _
 obtain ⟨W2b,hb⟩:∃ x,w.heap.size=x:=⟨_,rfl⟩
 obtain ⟨W2c,hc⟩:∃ x,w.heap.size+1=x:=⟨_,rfl⟩
 obtain ⟨W2d,hd⟩:∃ x,w.heap.size+1+1=x:=⟨_,rfl⟩
 have h1:=hok.2.2.1
 have h64:=hok.2.2.2
 have HA:=Lib.hid (ans_C_yes 144 #[.pointer (some ⟨w.heap.size,0,none⟩),.pointer (some ⟨w.heap.size+1,0,none⟩),.pointer (some ⟨w.heap.size+1+1,0,none⟩)] W2 (fun u W=>∃ a b c',u = .slice a b c'∧FreshMany (W2.heap.size+1) W u (slackL P Q (wholeF Q n c) by_)) (enter_slacken1 _) (fun U hU bU=>by
  have hBU:=below_in hBW hU
  have hltU:=bU.lt
  have HQ:=Lib.hid (fun (V:World) (hV:Below U.heap.size U V)=>asked_yes (B:=B) P Q n hQ c (.slice A C cap) hok V (hL.next (below_in hBU hV)) (Nat.le_trans hB (below_in hBU hV).size) (hM.below ((below_in hBU hV).mono hB)))
  have HE:=Lib.hid (fun (vs:List Value) (V:World) (hV:Below U.heap.size U V) (hvs:ColV V.heap.size V P n (wholeF Q n c) vs)=>slackened_any P Q n hQ hok.1 h1 h64 (wholeF Q n c) vs by_ y1 y2 hby V (hL.next (below_in hBU hV)) (Nat.le_refl _) hvs)
  have HSS:Hid (∀ V,Below U.heap.size U V→(fun U:World=>U.cell? ⟨W2b,0,none⟩=some (.int .i64 (P:Int))∧U.cell? ⟨W2c,0,none⟩=some (.slice A C cap)∧U.cell? ⟨W2d,0,none⟩=some (.int .i64 by_)) V):=by
   rw [←hb,←hc,←hd]
   exact fun V hV=>⟨((b0.below hU b0.lt).below hV (Nat.lt_of_lt_of_le b0.lt hU.size)).one,((b1.below hU b1.lt).below hV (Nat.lt_of_lt_of_le b1.lt hU.size)).one,((b2.below hU b2.lt).below hV (Nat.lt_of_lt_of_le b2.lt hU.size)).one⟩
  have hBx:=(Below.refl U.heap.size U).drew
  rw [hd,hc,hb]
  clear hM b0 b1 b2 hW2 hL hok hc hd hb hC bU hQ
  refine (callsIn_wide (n:=9)).1 ?_
  refine callsIn_of_wp_marks Tryz.func144 rfl trivial ?_ rfl
  simp only [Tryz.ntmps144,List.size_toArray,List.length_cons,List.length_nil,Nat.reduceAdd,Nat.reduceSub,Array.replicate_succ,Array.replicate_zero,List.push_toArray,List.append_toArray,List.nil_append,List.cons_append]
  gi_wp2_with fail
  have hS:(fun U:World=>U.cell? ⟨W2b,0,none⟩=some (.int .i64 (P:Int))∧U.cell? ⟨W2c,0,none⟩=some (.slice A C cap)∧U.cell? ⟨W2d,0,none⟩=some (.int .i64 by_)) U.drew:=HSS.out _ hBx
  refine wpIn_mono (region_HF (Q:=NoPanic _) (S:=(fun U:World=>U.cell? ⟨W2b,0,none⟩=some (.int .i64 (P:Int))∧U.cell? ⟨W2c,0,none⟩=some (.slice A C cap)∧U.cell? ⟨W2d,0,none⟩=some (.int .i64 by_))) (by kernel_rfl) ?_) NoPanic.imp
  refine tkF (i:=0) (d:=4) (v:=.int .i64 (P:Int)) (s:=hS) (c:=?_)
  simp only [ud9]
  refine tkF (i:=1) (d:=5) (v:=.slice A C cap) (s:=hS) (c:=?_)
  simp only [ud9]
  refine tkF (i:=3) (d:=7) (v:=.int .i64 by_) (s:=hS) (c:=?_)
  simp only [ud9]
  refine oneF (i:=2) (c:=?_)
  gi_wp2_with fail
  refine ⟨trivial,(callsIn_wide.2 (HQ.out _ hBx)).mono ?_⟩
  rintro e w1 ⟨vs,rfl,hvs,hB1⟩
  replace hBx:=below_in hBx hB1
  clear hS
  have hS:=HSS.out _ hBx
  gi_wp2
  try (refine ⟨hS,?_⟩)
  refine oneF (i:=4) (c:=?_)
  gi_wp2_with fail
  refine ⟨trivial,(callsIn_wide.2 (HE.out vs w1 hBx hvs)).mono ?_⟩
  rintro e w2 ⟨u,rfl,hu,hB2⟩
  have hs1:=hBx.size
  obtain ⟨uA,un,uc,rfl⟩:∃ a b c,u = .slice a b c:=by obtain ⟨a,c,e,_⟩:=hu;exact ⟨a,_,c,e⟩
  replace hBx:=below_in hBx hB2
  clear hS
  have hS:=HSS.out _ hBx
  gi_wp2
  try (refine ⟨hS,?_⟩)
  refine oneF (i:=5) (c:=?_)
  gi_wp2
  refine anyHF_done (by kernel_rfl) ?_ _
  refine NoPanic.normal ?_
  gi_wp2
  exact ⟨_,by simp [results,Tryz.results144,go_sem],_,rfl,⟨uA,un,uc,rfl,freshMany_more hu (by omega)⟩,hBx⟩))
 clear hM b0 b1 b2 hL hok hb hc hd hQ hC
 go_enter Tryz.func124,Tryz.ntmps124
 have hmf:∀ (fn:Fn) (first cap:Array Value) (w:World),(Instr.makeFunc fn first cap).run Tryz.prog w = .ok (.func fn first cap) w:=fun _ _ _ _=>rfl
 go_wp2_with (go_at_call 104;refine HA.out.mono ?_;rintro e w1 ⟨u,W,rfl,⟨uA,un,uc,rfl,hu⟩,bE,rfl,hB1⟩)
 go_ret2
 exact ⟨_,rfl,freshMany_more (freshMany_only hu (Only.set (A:=fun b=>b=W2.heap.size) (p:=⟨W2.heap.size,0,none⟩) rfl _) (fun b e=>by have e:b=W2.heap.size:=e;omega)) (by have:=hBW.size;omega),below_in hBW hB1⟩
end Go.Proofs.YtkllhjhkcipkoaaGreatDoor.Rg

namespace Go.Proofs.YtkllhjhkcipkoaaGreatDoor.E
open Go.RowKit Go.Shelf Go.Proofs.YtkllhjhkcipkoaaGreatDoor.C
attribute [local go_sem] Oper.semAt_some

theorem not_yet {ops:Array Oper} {md:Region.Mode} {listed:Array Bool} {i:Nat} (h:i∈Region.ready md ops listed):listed.getD i false=false:=by
 have h1:=(mem_ready.1 h).1
 rcases Nat.lt_or_ge i listed.size with h' | h'
 · simp [h'] at h1 ⊢
   exact h1
 · simp [Array.getElem?_eq_none h'] at h1

theorem Cols.more {B B':Nat} {W:World} {v:Value} {css:List (List (List UInt8))} (h:Cols B W v css) (hB:B≤B'):Cols B' W v css:=by
 obtain ⟨A,cap,e,hc,hA⟩:=h
 refine ⟨A,cap,e,hc,fun hp=>?_⟩
 obtain ⟨b,off,e2,hb,hcell⟩:=hA hp
 exact ⟨b,off,e2,by omega,fun j hj=>by obtain ⟨u,h1,h2⟩:=hcell j hj;exact ⟨u,h1,h2.more hB⟩⟩
end Go.Proofs.YtkllhjhkcipkoaaGreatDoor.E

namespace Go.Proofs.YtkllhjhkcipkoaaGreatDoor.E
open Go.RowKit Go.Shelf Go.Proofs.YtkllhjhkcipkoaaGreatDoor.C

def allocs (w:World) (os:List Obj):World:=os.foldl World.alloc w
theorem allocs_below (w:World) (os:List Obj):Below w.heap.size w (allocs w os):=by
 induction os generalizing w with
 | nil=>exact Below.refl _ _
 | cons o os ih=>exact below_in (below_one w o) (ih (w.alloc o))
theorem allocs_blk (w:World) (os:List Obj) (k:Nat) (t:TypeId) (cs:Array Value) (h:os[k]?=some (.cells cs t)):Blk (allocs w os) (w.heap.size+k) t cs:=by
 induction os generalizing w k with
 | nil=>cases h
 | cons o os ih =>
   cases k with
   | zero=>cases h;exact (Blk.new w t cs).below (allocs_below _ os) (by simp)
   | succ k =>
     have h2:=ih (w.alloc o) k h
     rw [World.size_alloc] at h2
     rw [show w.heap.size+(k+1)=w.heap.size+1+k by omega]
     exact h2
end Go.Proofs.YtkllhjhkcipkoaaGreatDoor.E

namespace Go.Proofs.YtkllhjhkcipkoaaGreatDoor.Ch
open Go.RowKit Go.Shelf Go.Proofs.YtkllhjhkcipkoaaGreatDoor.C Go.Proofs.YtkllhjhkcipkoaaGreatDoor.E

def gave (x:Int):List PanicEntry:=[{ v:=.iface 26 (.int .i64 x),recovered:=false }]
theorem assert_errnoX (x:Int) (w:World):(Instr.typeAssert (.iface 26 (.int .i64 x)) 20 26 false).run Tryz.prog w = .ok (.int .i64 x) w:=by kernel_rfl

end Go.Proofs.YtkllhjhkcipkoaaGreatDoor.Ch

namespace Go.Proofs.YtkllhjhkcipkoaaGreatDoor.Ch
open Go.RowKit Go.Shelf Go.Proofs.YtkllhjhkcipkoaaGreatDoor.C Go.Proofs.YtkllhjhkcipkoaaGreatDoor.E
attribute [local go_sem] Oper.semAt_some

theorem rightC1 {p:Int} (hp:p∈prm):RightC 1 p:=⟨by omega,hp⟩
end Go.Proofs.YtkllhjhkcipkoaaGreatDoor.Ch

namespace Go.Proofs.YtkllhjhkcipkoaaGreatDoor.T
open Go.RowKit Go.Shelf Go.Maps Go.Proofs.YtkllhjhkcipkoaaGreatDoor.C Go.Proofs.YtkllhjhkcipkoaaGreatDoor.E Go.Proofs.YtkllhjhkcipkoaaGreatDoor.Ch
attribute [local go_sem] Oper.semAt_some

def chn (a b:Int) (rs:List Int):List (Int×Int×Int):=(List.range (2 * rs.length)).map fun n:Nat=>((n:Int),(if n % 2=0 then b else a),rs[n / 2]?.getD 0)
def OkC (p a b:Int) (rs:List Int) (pre:List (Int×Int×Int)) (x:Int×Int×Int):Prop:=(0≤x.2.2∧x.2.2<p - 1)∧pre ++ [x] <+: chn a b rs
def encC (x:Int×Int×Int):Array Value:=#[.int .i64 x.1,.agg #[.int .i64 x.2.1,.int .i64 x.2.2]]
def ChainT (lo:Nat) (p a b:Int) (rs:List Int) (v:Value) (w:World):Prop :=
 ∃ gf lb,v = .func (.func gf) #[] lb∧(∀ args W,(callFunc gf args).run Tryz.prog W = .ok (.enter gf args) W) ∧
  ∀ n,6≤n→SeqT Fence.wide n Tryz.prog gf lb encC (fun pre x _=>OkC p a b rs pre x) (Keep lo (w.heap.size - lo)) (fun ys=>ys=chn a b rs) (fun pre=>pre <+: chn a b rs) (2 * rs.length) w
end Go.Proofs.YtkllhjhkcipkoaaGreatDoor.T

namespace Go.Proofs.YtkllhjhkcipkoaaGreatDoor.Ch
open Go.RowKit Go.Shelf Go.Proofs.YtkllhjhkcipkoaaGreatDoor.C Go.Proofs.YtkllhjhkcipkoaaGreatDoor.E
attribute [local go_sem] Oper.semAt_some

def OwnA (w:World) (base:Nat) (v:Value) (l:List (Int×Int)):Prop:=w.ownsRow base 91 2 v l.length (codeCells l)
theorem ownA_nil (w:World) (base:Nat):OwnA w base (.slice none 0 0) []:=World.ownsRow_nil w base _ 2
theorem OwnA.below {w w':World} {base:Nat} {v:Value} {l:List (Int×Int)} (h:OwnA w base v l) (hb:Below w.heap.size w w'):OwnA w' base v l:=by
 refine ⟨h.1,?_⟩
 rcases h.2 with h1 | ⟨g,cap,cur,e,h2,hg,rest⟩
 · exact .inl h1
 · exact .inr ⟨g,cap,cur,e,h2,(hb.block g (Array.getElem?_eq_some_iff.1 hg).1).trans hg,rest⟩
theorem OwnA.own_le {w:World} {base:Nat} {v:Value} {l:List (Int×Int)} (h:OwnA w base v l):∀ k,v.ownBlock=some k→base≤k:=fun k e=>(World.ownsRow.lt h k e).1
theorem OwnA.ne {w:World} {base:Nat} {v:Value} {l:List (Int×Int)} (h:OwnA w base v l) {g:Nat} (hb:g<base):some g≠v.ownBlock:=fun e=>by
 have:=h.own_le g e.symm
 omega
theorem OwnA.less {w:World} {base base':Nat} {v:Value} {l:List (Int×Int)} (h:OwnA w base v l) (hb:base'≤base):OwnA w base' v l:=⟨h.1,h.2.imp id fun ⟨g,cap,cur,h1,h2,h3⟩=>⟨g,cap,cur,h1,Nat.le_trans hb h2,h3⟩⟩
def ReadA (W:World) (v:Value) (l:List (Int×Int)):Prop :=
 ∃ (p:Option Addr) (cap:Nat),v = .slice p l.length cap∧∀ (j:Nat) (hj:j<l.length),∃ g,p=some ⟨g,0,none⟩∧g<W.heap.size∧W.cell? ⟨g,j * 2,none⟩=some (.int .i64 (l[j]).1)∧W.cell? ⟨g,j * 2+1,none⟩=some (.int .i64 (l[j]).2)
theorem ReadA.next {W W':World} {v:Value} {l:List (Int×Int)} (h:ReadA W v l) (hb:Below W.heap.size W W'):ReadA W' v l:=by
 obtain ⟨p,cap,e,hc⟩:=h
 refine ⟨p,cap,e,fun j hj=>?_⟩
 obtain ⟨g,h1,h2,h3,h4⟩:=hc j hj
 exact ⟨g,h1,Nat.lt_of_lt_of_le h2 hb.size,nextc h3 hb,nextc h4 hb⟩
theorem OwnA.readA {w:World} {base:Nat} {v:Value} {l:List (Int×Int)} (h:OwnA w base v l):ReadA w v l:=by
 by_cases hl:l = []
 · subst hl
   rcases h.2 with ⟨rfl,_⟩ | ⟨g,cap,cur,e,_⟩
   · exact ⟨none,0,rfl,fun j hj=>absurd hj (Nat.not_lt_zero _)⟩
   · exact ⟨some ⟨g,0,none⟩,cap,e,fun j hj=>absurd hj (Nat.not_lt_zero _)⟩
 · obtain ⟨g,cap,rfl,hg,hg1⟩:=World.ownsRow.form h (List.length_pos_iff.2 hl)
   refine ⟨some ⟨g,0,none⟩,cap,rfl,fun j hj=>⟨g,rfl,by omega,?_⟩⟩
   obtain ⟨k0,k1⟩:=codeCells_at l j hj
   rw [Nat.mul_comm 2 j] at k0 k1
   exact ⟨(World.ownsRow.cellAt h (j * 2) (by omega)).trans k0,(World.ownsRow.cellAt h (j * 2+1) (by omega)).trans k1⟩
theorem OwnA.push {w:World} {base:Nat} {v:Value} {l:List (Int×Int)} {x y:Int} (h:w.ownsRow base 91 2 v (l.length+1) (codeCells l ++ [.int .i64 x,.int .i64 y])):OwnA w base v (l ++ [(x,y)]):=by
 unfold OwnA
 rw [List.length_append]
 unfold codeCells at *
 rw [List.flatMap_append]
 exact h

theorem Tryz.infoAt:(Tryz.prog.info? 91).map (fun i=>(i.zero,i.size,i.bytes))=some (some (.agg #[.int .i64 0,.int .i64 0]),2,16):=by kernel_rfl
theorem OwnA.kept {w w':World} {base:Nat} {v:Value} {l:List (Int×Int)} (h:OwnA w base v l) {row:Option Nat} (hg:w.grownBy w' row) (hne:v.ownBlock=none∨v.ownBlock≠row):OwnA w' base v l:=World.ownsRow.kept h hg hne
theorem OwnA.form {w:World} {base:Nat} {v:Value} {l:List (Int×Int)} (h:OwnA w base v l):∃ A n c,v = .slice A n c:=by
 rcases h.2 with ⟨h1,_⟩ | ⟨g,cap,cur,h1,_⟩
 · exact ⟨_,_,_,h1⟩
 · exact ⟨_,_,_,h1⟩
theorem OwnA.far {w:World} {base:Nat} {v:Value} {l:List (Int×Int)} (h:OwnA w base v l) {p:Addr} (hp:some p.block≠v.ownBlock) (u:Value):OwnA (w.setCell p u) base v l:=by
 refine ⟨h.1,?_⟩
 rcases h.2 with h1 | ⟨g,cap,cur,e,h2,hg,rest⟩
 · exact .inl h1
 · exact .inr ⟨g,cap,cur,e,h2,(Below.heap_setCell w p u g (fun e2=>hp (by rw [e,←e2];rfl))).trans hg,rest⟩
end Go.Proofs.YtkllhjhkcipkoaaGreatDoor.Ch

namespace Go.Proofs.YtkllhjhkcipkoaaGreatDoor.T
open Go.RowKit Go.Shelf Go.Maps Go.Proofs.YtkllhjhkcipkoaaGreatDoor.C Go.Proofs.YtkllhjhkcipkoaaGreatDoor.E Go.Proofs.YtkllhjhkcipkoaaGreatDoor.Ch
attribute [local go_sem] Oper.semAt_some

theorem ChainT.less {lo lo':Nat} {p a b:Int} {rs:List Int} {v:Value} {w:World} (h:ChainT lo p a b rs v w) (hl:lo'≤lo) (hw:lo≤w.heap.size):ChainT lo' p a b rs v w:=by
 obtain ⟨gf,lb,e,eg,hg⟩:=h
 exact ⟨gf,lb,e,eg,fun n hn l J Jx W o₀ hW ho₀ hJ hJx hr1 hr2 hY h0=>hg n hn l J Jx W o₀ hW ho₀ hJ hJx hr1 hr2 (fun pre x o W1 hj hok hl' hs=>(hY pre x o W1 hj hok hl' hs).mono fun _ _ ⟨o',hf,hS,h⟩=>⟨o',hf,hS,h.imp (fun ⟨h1,h2,h3⟩=>⟨h1,h2,h3.less hl (by omega)⟩) (fun ⟨h1,h2,h3⟩=>⟨h1,h2,h3.less hl (by omega)⟩)⟩) h0⟩
end Go.Proofs.YtkllhjhkcipkoaaGreatDoor.T
