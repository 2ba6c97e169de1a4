/- -/
import Derived.Test.YtkllhjhkcipkoaaGreatDoorTHG13
set_option linter.unusedVariables false
set_option linter.unusedSimpArgs false
set_option maxRecDepth 100000
set_option maxHeartbeats 8000000
namespace Go.Proofs.YtkllhjhkcipkoaaGreatDoor.Tr
open Go.RowKit Go.Shelf Go.Maps Go.Proofs.YtkllhjhkcipkoaaGreatDoor.C Go.Proofs.YtkllhjhkcipkoaaGreatDoor.E Go.Proofs.YtkllhjhkcipkoaaGreatDoor.T Go.Proofs.YtkllhjhkcipkoaaGreatDoor.Rg
attribute [local go_sem] Oper.semAt_some

def shT (P Q n:Nat) (css:List (List (List UInt8))) (rcl:List (List UInt8)) (k:Int) (L:List Int):List (List UInt8):=sumC Q (rcl :: (keptL (P:Int) L).map fun x=>turnC P Q n (css[x.toNat]?.getD []) (k * x))
def RoleK (r k:Int):Prop:=(r=2∧k=0)∨(r=3∧k=1)∨(r=4∧k = -1)
theorem ix_role {r k:Int} (h:RoleK r k):∀ W:World,(Instr.index 108 (.agg #[.nilFunc,.nilFunc,byK 0,byK 1,byK (-1)]) (.int .i64 r)).run Tryz.prog W = .ok (byK k) W:=by
 intro W
 rcases h with ⟨rfl,rfl⟩ | ⟨rfl,rfl⟩ | ⟨rfl,rfl⟩
 · kernel_rfl
 · kernel_rfl
 · kernel_rfl
theorem kept_all {p:Int} {L:List Int} {x:Int} (hp:p∈prm) (h:x∈keptL p L):(0≤x∧x<p)∧x∉L:=by
 have hpb:=prm_bounds hp
 obtain ⟨P,rfl⟩:∃ P:Nat,p=(P:Int):=⟨p.toNat,by omega⟩
 unfold keptL keptF at h
 rw [List.mem_filter] at h
 refine ⟨?_,by simpa using h.2⟩
 have h1:=h.1
 rw [walkN_yes (fine_one.2 ⟨hp,by omega,by omega⟩)] at h1
 unfold walkL at h1
 obtain ⟨i,hi,rfl⟩:=List.mem_map.1 h1
 exact walkAt_lt _ (by rw [Int.toNat_natCast];omega) _ _ _
theorem kept_len {p:Int} {L:List Int} (hp:p∈prm):(keptL p L).length≤20:=by
 have hpb:=prm_bounds hp
 have h:=keptF_len L (walkN p 0 1)
 obtain ⟨P,rfl⟩:∃ P:Nat,p=(P:Int):=⟨p.toNat,by omega⟩
 rw [walkN_yes (fine_one.2 ⟨hp,by omega,by omega⟩),walkL_len] at h
 unfold keptL
 rw [walkN_yes (fine_one.2 ⟨hp,by omega,by omega⟩)]
 omega
theorem shares_good {P Q n:Nat} (d:Dims P Q n) {css:List (List (List UInt8))} {rcl:List (List UInt8)} {k:Int} {L:List Int} (hr:GoodC Q n rcl) (hg:∀ c:Nat,c<P→(c:Int)∉L→GoodC Q n (css[c]?.getD [])):∀ c∈rcl :: (keptL (P:Int) L).map fun x=>turnC P Q n (css[x.toNat]?.getD []) (k * x),GoodC Q n c:=by
 intro c hc
 rcases List.mem_cons.1 hc with rfl | hc
 · exact hr
 · obtain ⟨x,hx,rfl⟩:=List.mem_map.1 hc
   obtain ⟨h1,h2⟩:=kept_all d.hp hx
   exact turn_good d.h1 d.h64 (hg x.toNat (by omega) (by rwa [show ((x.toNat:Nat):Int)=x by omega])) _
theorem sh_good {P Q n:Nat} (d:Dims P Q n) {css:List (List (List UInt8))} {rcl:List (List UInt8)} {k:Int} {L:List Int} (hr:GoodC Q n rcl) (hg:∀ c:Nat,c<P→(c:Int)∉L→GoodC Q n (css[c]?.getD [])):GoodC Q n (shT P Q n css rcl k L):=sum_good d.h1 d.h64 (by simp) (shares_good d hr hg)
theorem cell_farK {W:World} {g o:Nat} {p:Addr} {u v:Value} (h:W.cell? ⟨g,o,none⟩=some v) (hne:g≠p.block):(W.setCell p u).cell? ⟨g,o,none⟩=some v:=(World.cell?_of_block (Below.heap_setCell W p u g hne)).trans h
theorem mem_get {α:Type} {d:α} {l:List α} {p:α→Prop} (h:∀ c∈l,p c):∀ j,j<l.length→p (l[j]?.getD d):=fun j hj=>by
 rw [List.getElem?_eq_getElem hj]
 exact h _ (List.getElem_mem hj)
theorem freshMany_put {base:Nat} {W:World} {v:Value} {ls:List (List UInt8)} {D:Nat} {o:Option (List Deferred)} {ob:Obj} (h:FreshMany base W v ls) (hp:∀ j,j<ls.length→0<(ls[j]?.getD []).length) (hD:W.heap[D]?=some (.deferred o)):FreshMany base (W.putObj D ob) v ls:=by
 obtain ⟨A,cap,e,hc,hA⟩:=h
 have hg:=grownBy_putObj' W D ob
 have hne:∀ {b:Nat} {off:Nat} {u:Value},W.cell? ⟨b,off,none⟩=some u→b≠D:=fun {b off u} hu e=>by
  subst e
  obtain ⟨cs,t,fr,hcs⟩:=cells_of hu
  have hcs:W.heap[b]?=some (.cells cs t fr):=hcs
  rw [hD] at hcs
  cases hcs
 have hkeep:∀ {b:Nat} {off:Nat} {u:Value},b<W.heap.size→W.cell? ⟨b,off,none⟩=some u→(W.putObj D ob).cell? ⟨b,off,none⟩=some u:=fun {b off u} hb hu =>
  (World.cell?_of_block (hg.block b hb (fun e=>hne hu (by injection e)))).trans hu
 refine ⟨A,cap,e,hc,fun hl=>?_⟩
 obtain ⟨b,off,e2,hb1,hb2,hcell⟩:=hA hl
 refine ⟨b,off,e2,hb1,Nat.lt_of_lt_of_le hb2 hg.size,fun j hj=>?_⟩
 obtain ⟨u,hu,hF⟩:=hcell j hj
 refine ⟨u,hkeep hb2 hu,?_⟩
 obtain ⟨A2,cap2,e3,hc2,hA2⟩:=hF
 refine ⟨A2,cap2,e3,hc2,fun hl2=>?_⟩
 obtain ⟨b2,off2,e4,hb3,hb4,hcell2⟩:=hA2 hl2
 exact ⟨b2,off2,e4,hb3,Nat.lt_of_lt_of_le hb4 hg.size,fun i hi=>hkeep hb4 (hcell2 i hi)⟩
theorem share_any {P Q n:Nat} (d:Dims P Q n) (r k:Int) (hrk:RoleK r k) (b1 off1 N cap:Nat) (hN:N=P+3) (rA:Option Addr) (rn rc:Nat) (L:List Int) (gl lo2 lc:Nat) (hls:L.length≤1000) (css:List (List (List UInt8))) (hcl:css.length=N) (hrole:GoodC Q n (css[P+(r - 2).toNat]?.getD [])) (hgood:∀ c:Nat,c<P→(c:Int)∉L→GoodC Q n (css[c]?.getD [])) (w:World) (hL:Laid w) (hgl:gl<w.heap.size) (hcell:∀ j,j<L.length→w.cell? ⟨gl,lo2+j,none⟩=some (.int .i64 (L[j]?.getD 0)))
 (hb1:b1<w.heap.size) (hC:∀ j,j<N→∃ u,w.cell? ⟨b1,off1+j,none⟩=some u∧Many w.heap.size w u (css[j]?.getD [])) :
 Calls Tryz.prog 51 #[.agg #[.int .i64 (P:Int),.slice (some ⟨b1,off1,none⟩) N cap,.slice rA rn rc,.slice (some ⟨gl,lo2,none⟩) L.length lc],.int .i64 r] w fun e w'=>∃ A c,e = .returned (.agg #[.slice A Q c,byK k])∧FreshMany w.heap.size w' (.slice A Q c) (shT P Q n css (css[P+(r - 2).toNat]?.getD []) k L)∧Below w.heap.size w w':=by
 have hpb:=prm_bounds d.hp
 have hk:k=0∨k=1∨k = -1:=by rcases hrk with ⟨_,rfl⟩ | ⟨_,rfl⟩ | ⟨_,rfl⟩ <;> simp
 have hr24:2≤r∧r≤4:=by rcases hrk with ⟨rfl,_⟩ | ⟨rfl,_⟩ | ⟨rfl,_⟩ <;> omega
 have hix:=ix_role hrk
 have hsg:=sh_good (k:=k) d hrole hgood
 have HPOS:=Lib.hid (good_pos hsg d.h1)
 have hcs2:=mem_get (d:=[]) (shares_good (k:=k) d hrole hgood)
 have hcs0:0<(css[P+(r - 2).toNat]?.getD [] :: (keptL (P:Int) L).map fun x=>turnC P Q n (css[x.toNat]?.getD []) (k * x)).length:=Nat.succ_pos _
 have hcs1:(css[P+(r - 2).toNat]?.getD [] :: (keptL (P:Int) L).map fun x=>turnC P Q n (css[x.toNat]?.getD []) (k * x)).length≤100:=by
  rw [List.length_cons,List.length_map]
  have:=kept_len (L:=L) d.hp
  omega
 have HUP0:∀ (CS:List (List (List UInt8))),0<CS.length→CS.length≤100→(∀ j,j<CS.length→GoodC Q n (CS[j]?.getD []))→∀ (V:World),Below w.heap.size w V→∀ v:Value,Cols V.heap.size V v CS→Calls Tryz.prog 73 #[.int .i64 (P:Int),v] V fun e w'=>∃ A k,e = .returned (.slice A Q k)∧FreshMany V.heap.size w' (.slice A Q k) (sumC Q CS)∧Below V.heap.size V w':=fun CS h0 h1 h2 V hV v hCv=>upon_any d CS h0 h1 h2 v V (hL.next hV) hCv
 have HUP:=Lib.hid (HUP0 _ hcs0 hcs1 hcs2)
 clear hcs0 hcs1 hcs2 HUP0
 obtain ⟨uR,hcR,hMR⟩:=hC (P+(r - 2).toNat) (by omega)
 obtain ⟨cA,cc,eR,_,_⟩:=id hMR
 obtain ⟨cn,hcn⟩:∃ x,(css[P+(r - 2).toNat]?.getD []).length=x:=⟨_,rfl⟩
 rw [hcn] at eR
 subst eR
 have HCO0:=fun (V:World) (hV:Below w.heap.size w V)=>column_any (B:=0) P (by omega) r hr24 b1 off1 N cap hN rA rn rc (some ⟨gl,lo2,none⟩) L.length lc (.slice cA cn cc) V (Nat.lt_of_lt_of_le hb1 hV.size) ((hV.cell (p:=⟨b1,off1+(P+(r - 2).toNat),none⟩) hb1).trans hcR)
 have HTR:=Lib.hid (fun V=>turns_any V)
 have HKE:=Lib.hid (fun (V:World) (hV:Below w.heap.size w V)=>kept_any gl lo2 lc (some ⟨b1,off1,none⟩) N cap rA rn rc (P:Int) d.hp L hls V (hL.next hV) (Nat.lt_of_lt_of_le hgl hV.size) (fun j hj=>(hV.cell (p:=⟨gl,lo2+j,none⟩) hgl).trans (hcell j hj)))
 obtain ⟨rcl,hrcl⟩:∃ x,css[P+(r - 2).toNat]?.getD []=x:=⟨_,rfl⟩
 rw [hrcl] at hMR HPOS HUP hrole ⊢
 unfold shT at HPOS ⊢
 have HPUT:=Lib.hid (fun (j:Nat) (hj:j<P) (hjL:(j:Int)∉L) (g2 g5 g6:Nat) (q:Nat→Prop) (vA:Option Addr) (vn vc:Nat) (xs:List (List (List UInt8))) (hxs:xs.length≤1000) (X:World) (hX:Below w.heap.size w X) b6 b2 b5 hrow hq hn6 hq6 h06 hn2 hn5 hnb (kA:Option Addr) (kn kc:Nat) cX hM=>put_any d k hk j hj w.heap.size w.heap.size g2 g5 g6 b1 off1 N cap rA rn rc L gl lo2 lc (by omega) (Nat.le_refl _) (css[j]?.getD []) (hgood j hj hjL) q vA vn vc xs hxs X (hL.next hX) hX.size b6 b2 b5 hrow hq hn6 hq6 h06 hn2 hn5 hnb (Nat.lt_of_lt_of_le hb1 hX.size) kA kn kc cX hM)
 obtain ⟨Fk,hFk⟩:∃ F:Int→List (List UInt8),(fun x=>turnC P Q n (css[x.toNat]?.getD []) (k * x))=F:=⟨_,rfl⟩
 have HFK:Hid (∀ j:Nat,turnC P Q n (css[j]?.getD []) (k * (j:Int))=Fk (j:Int)):=fun j=>by rw [←hFk];show _=turnC P Q n (css[((j:Int)).toNat]?.getD []) (k * (j:Int));rw [Int.toNat_natCast]
 rw [hFk] at HPOS HUP ⊢
 have HCOL:=Lib.hid (fun (j:Nat) (hj:j<P)=>hC j (by omega))
 have HB:=Lib.hid (And.intro d.hp (And.intro hpb (And.intro hb1 (And.intro hgl hMR))))
 have HLEN:=Lib.hid (kept_len (L:=L) d.hp)
 obtain ⟨w1,hw1⟩:∃ x,(w.alloc (.cells #[.int .i64 (P:Int),.slice (some ⟨b1,off1,none⟩) N cap,.slice rA rn rc,.slice (some ⟨gl,lo2,none⟩) L.length lc] 67)).alloc (.cells #[.slice none 0 0,.nilFunc] 94)=x:=⟨_,rfl⟩
 obtain ⟨g2,hg2⟩:∃ x,w.heap.size=x:=⟨_,rfl⟩
 obtain ⟨g4,hg4⟩:∃ x,g2+1=x:=⟨_,rfl⟩
 have b2:Blk w1 g2 67 #[.int .i64 (P:Int),.slice (some ⟨b1,off1,none⟩) N cap,.slice rA rn rc,.slice (some ⟨gl,lo2,none⟩) L.length lc]:=by rw [←hw1,←hg2];exact (Blk.new w _ _).alloc _
 have b4:Blk w1 g4 94 #[.slice none 0 0,.nilFunc]:=by rw [←hw1,←hg4,←hg2];exact Blk.second w _ _ _
 have hB1:Below w.heap.size w w1:=by rw [←hw1];exact below_two w _ _
 have HB1:=Lib.hid hB1
 have HW1:=Lib.hid (And.intro hw1 (And.intro hg2 hg4))
 have HCO:Hid (∀ V,Below w1.heap.size w1 V→Calls Tryz.prog 69 #[.agg #[.int .i64 (P:Int),.slice (some ⟨b1,off1,none⟩) N cap,.slice rA rn rc,.slice (some ⟨gl,lo2,none⟩) L.length lc],.int .i64 r] V fun e w'=>e = .returned (.slice cA cn cc)∧Below V.heap.size V w'):=fun V hV=>HCO0 V (below_in hB1 hV)
 obtain ⟨AG,hAG⟩:∃ x,(.agg #[.nilFunc,.nilFunc,byK 0,byK 1,byK (-1)]:Value)=x:=⟨_,rfl⟩
 rw [hAG] at hix HTR
 unfold byK at hix ⊢
 generalize fnK k=fk at *
 have HLB:Hid (∀ V,Below w1.heap.size w1 V→V.cell? ⟨g2,0,none⟩=some (.int .i64 (P:Int))∧V.cell? ⟨g2,1,none⟩=some (.slice (some ⟨b1,off1,none⟩) N cap)∧V.cell? ⟨g2,2,none⟩=some (.slice rA rn rc)∧V.cell? ⟨g2,3,none⟩=some (.slice (some ⟨gl,lo2,none⟩) L.length lc)):=fun V hV=>⟨(b2.below hV b2.lt).cell 0,(b2.below hV b2.lt).cell 1,(b2.below hV b2.lt).cell 2,(b2.below hV b2.lt).cell 3⟩
 have hmf:∀ (fn:Fn) (first cap:Array Value) (w:World),(Instr.makeFunc fn first cap).run Tryz.prog w = .ok (.func fn first cap) w:=fun _ _ _ _=>rfl
 clear HCO0 hk hrk hr24 hN hcl hgood hL hgl hcell hb1 hC hcR hcn hrcl hsg hrole hFk hls hMR hpb hw1 hg2 hg4 hB1 hAG d
 refine (callsIn_wide (n:=9)).1 ?_
 refine callsIn_of_wp_marks Tryz.func51 rfl trivial ?_ rfl
 simp only [Tryz.ntmps51,List.size_toArray,List.length_cons,List.length_nil,Nat.reduceAdd,Nat.reduceSub,Array.replicate_succ,Array.replicate_zero,List.push_toArray,List.append_toArray,List.nil_append,List.cons_append]
 gi_wp2_with fail
 (try rw [HW1.out.2.1]);(try rw [HW1.out.2.2])
 (try rw [HW1.out.1])
 refine wpIn_mono (Q:=(fun e a V=>e=Exit.normal∧∃ gd g5 g6,a=({ tmps:=#[.agg #[.int .i64 (P:Int),.slice (some ⟨b1,off1,none⟩) N cap,.slice rA rn rc,.slice (some ⟨gl,lo2,none⟩) L.length lc],.int .i64 r,.pointer (some ⟨g2,0,none⟩),undef,.pointer (some ⟨g4,0,none⟩),.pointer (some ⟨g5,0,none⟩),.pointer (some ⟨g6,0,none⟩),undef,undef,AG,.int .i64 r,.func (.func fk) #[] #[],.agg #[.int .i64 (P:Int),.slice (some ⟨b1,off1,none⟩) N cap,.slice rA rn rc,.slice (some ⟨gl,lo2,none⟩) L.length lc],.int .i64 r,.slice cA cn cc,.slice (some ⟨gd,0,none⟩) 1 1,undef,undef,undef,undef,undef,undef,undef,undef,undef,undef,undef,undef,undef],defers:=[] }:Act)∧Below w1.heap.size w1 V∧(w1.heap.size≤gd∧w1.heap.size≤g5∧w1.heap.size≤g6)∧Blk V gd 41 #[.slice cA cn cc]∧Blk V g5 92 #[.func (.func fk) #[] #[]]∧Blk V g6 22 #[.slice (some ⟨gd,0,none⟩) 1 1])) (region_inv (by kernel_rfl) (by kernel_rfl) (ShI (.agg #[.int .i64 (P:Int),.slice (some ⟨b1,off1,none⟩) N cap,.slice rA rn rc,.slice (some ⟨gl,lo2,none⟩) L.length lc]) AG r fk cA cn cc w1 g2 g4) ?start ?step ?fin) ?_
 case start =>
  exact ⟨undef,undef,undef,undef,undef,undef,undef,undef,undef,rfl,⟨(Below.refl _ _).drew,fun h=>by simp at h,fun h=>by simp at h,fun h=>by simp at h,fun h=>by simp at h,fun h=>by simp at h,fun h=>by simp at h,fun h=>by simp at h,fun h=>by simp at h,fun h=>by simp at h⟩,fun h=>by simp at h,fun h=>by simp at h,fun h=>by simp at h,fun h=>by simp at h⟩
 case step =>
  rintro i listed a V hi ⟨x5,x6,x9,x10,x11,x12,x13,x14,x15,rfl,hF,c11,c12,c13,c14⟩
  have hi9:i<11:=List.mem_range.1 (List.mem_filter.1 hi).1
  obtain rfl | rfl | rfl | rfl | rfl | rfl | rfl | rfl | rfl | rfl | rfl:i=0∨i=1∨i=2∨i=3∨i=4∨i=5∨i=6∨i=7∨i=8∨i=9∨i=10:=by omega
  · have en:=not_yet hi
    have hr:=ready_on hi rfl [] (by kernel_rfl)
    refine wpOpIn_one rfl rfl ?_
    gi_wp2_with fail
    refine ⟨trivial,(callsIn_wide.2 (HTR.out _)).mono ?_⟩
    rintro e w2 ⟨rfl,hB2⟩
    have hF':=hF.below hB2
    gi_wp2
    exact ⟨x5,x6,AG,x10,x11,x12,x13,x14,x15,rfl,(hF'.n0 rfl).less listed_less,listed_c c11 en (by first | (intro h;exact absurd h (by decide)) | exact fun _=>hr 2 (by simp)) (by decide),listed_c c12 en (by first | (intro h;exact absurd h (by decide)) | exact fun _=>hr 6 (by simp)) (by decide),listed_c c13 en (by first | (intro h;exact absurd h (by decide)) | exact fun _=>hr 7 (by simp)) (by decide),listed_c c14 en (by first | (intro h;exact absurd h (by decide)) | exact fun _=>hr 8 (by simp)) (by decide)⟩
  · have en:=not_yet hi
    have hr:=ready_on hi rfl [] (by kernel_rfl)
    refine wpOpIn_one rfl rfl ?_
    gi_wp2
    have hF':=hF
    exact ⟨x5,x6,x9,.int .i64 r,x11,x12,x13,x14,x15,rfl,(hF'.n1 rfl).less listed_less,listed_c c11 en (by first | (intro h;exact absurd h (by decide)) | exact fun _=>hr 2 (by simp)) (by decide),listed_c c12 en (by first | (intro h;exact absurd h (by decide)) | exact fun _=>hr 6 (by simp)) (by decide),listed_c c13 en (by first | (intro h;exact absurd h (by decide)) | exact fun _=>hr 7 (by simp)) (by decide),listed_c c14 en (by first | (intro h;exact absurd h (by decide)) | exact fun _=>hr 8 (by simp)) (by decide)⟩
  · have en:=not_yet hi
    have hr:=ready_on hi rfl [0,1] (by kernel_rfl)
    have e0:=(hF.f0 (hr 0 (by simp))).symm
    have e1:=hF.f1 (hr 1 (by simp))
    subst e0 e1
    refine wpOpIn_one rfl rfl ?_
    gi_wp2
    have hF':=hF
    exact ⟨x5,x6,AG,.int .i64 r,.func (.func fk) #[] #[],x12,x13,x14,x15,rfl,(hF'.n2 rfl (Bool.eq_false_iff.2 fun hb=>by rw [c11 hb] at en;cases en)).less listed_less,listed_c c11 en (by first | (intro h;exact absurd h (by decide)) | exact fun _=>hr 2 (by simp)) (by decide),listed_c c12 en (by first | (intro h;exact absurd h (by decide)) | exact fun _=>hr 6 (by simp)) (by decide),listed_c c13 en (by first | (intro h;exact absurd h (by decide)) | exact fun _=>hr 7 (by simp)) (by decide),listed_c c14 en (by first | (intro h;exact absurd h (by decide)) | exact fun _=>hr 8 (by simp)) (by decide)⟩
  · have en:=not_yet hi
    have hr:=ready_on hi rfl [] (by kernel_rfl)
    have k0:=HLB.out V hF.hB
    obtain ⟨k0,k1,k2,k3⟩:=k0
    refine wpOpIn_one rfl rfl ?_
    gi_wp2
    have hF':=hF
    exact ⟨x5,x6,x9,x10,x11,.agg #[.int .i64 (P:Int),.slice (some ⟨b1,off1,none⟩) N cap,.slice rA rn rc,.slice (some ⟨gl,lo2,none⟩) L.length lc],x13,x14,x15,rfl,(hF'.n3 rfl).less listed_less,listed_c c11 en (by first | (intro h;exact absurd h (by decide)) | exact fun _=>hr 2 (by simp)) (by decide),listed_c c12 en (by first | (intro h;exact absurd h (by decide)) | exact fun _=>hr 6 (by simp)) (by decide),listed_c c13 en (by first | (intro h;exact absurd h (by decide)) | exact fun _=>hr 7 (by simp)) (by decide),listed_c c14 en (by first | (intro h;exact absurd h (by decide)) | exact fun _=>hr 8 (by simp)) (by decide)⟩
  · have en:=not_yet hi
    have hr:=ready_on hi rfl [] (by kernel_rfl)
    refine wpOpIn_one rfl rfl ?_
    gi_wp2
    have hF':=hF
    exact ⟨x5,x6,x9,x10,x11,x12,.int .i64 r,x14,x15,rfl,(hF'.n4 rfl).less listed_less,listed_c c11 en (by first | (intro h;exact absurd h (by decide)) | exact fun _=>hr 2 (by simp)) (by decide),listed_c c12 en (by first | (intro h;exact absurd h (by decide)) | exact fun _=>hr 6 (by simp)) (by decide),listed_c c13 en (by first | (intro h;exact absurd h (by decide)) | exact fun _=>hr 7 (by simp)) (by decide),listed_c c14 en (by first | (intro h;exact absurd h (by decide)) | exact fun _=>hr 8 (by simp)) (by decide)⟩
  · have en:=not_yet hi
    have hr:=ready_on hi rfl [3,4] (by kernel_rfl)
    have e3:=hF.f3 (hr 3 (by simp))
    have e4:=hF.f4 (hr 4 (by simp))
    subst e3 e4
    refine wpOpIn_one rfl rfl ?_
    gi_wp2_with fail
    refine ⟨trivial,(callsIn_wide.2 (HCO.out V hF.hB)).mono ?_⟩
    rintro e w2 ⟨rfl,hB2⟩
    have hF':=hF.below hB2
    gi_wp2
    exact ⟨x5,x6,x9,x10,x11,.agg #[.int .i64 (P:Int),.slice (some ⟨b1,off1,none⟩) N cap,.slice rA rn rc,.slice (some ⟨gl,lo2,none⟩) L.length lc],.int .i64 r,.slice cA cn cc,x15,rfl,(hF'.n5 rfl).less listed_less,listed_c c11 en (by first | (intro h;exact absurd h (by decide)) | exact fun _=>hr 2 (by simp)) (by decide),listed_c c12 en (by first | (intro h;exact absurd h (by decide)) | exact fun _=>hr 6 (by simp)) (by decide),listed_c c13 en (by first | (intro h;exact absurd h (by decide)) | exact fun _=>hr 7 (by simp)) (by decide),listed_c c14 en (by first | (intro h;exact absurd h (by decide)) | exact fun _=>hr 8 (by simp)) (by decide)⟩
  · have en:=not_yet hi
    have hr:=ready_on hi rfl [5] (by kernel_rfl)
    have e5:=hF.f5 (hr 5 (by simp))
    subst e5
    refine wpOpIn_one rfl rfl ?_
    gi_wp2
    have hB2:=below_one V (.cells #[.slice cA cn cc] 41)
    have hF':=hF.below hB2
    exact ⟨x5,x6,x9,x10,x11,x12,x13,.slice cA cn cc,.slice (some ⟨V.heap.size,0,none⟩) 1 1,rfl,(hF'.n6 ⟨_,rfl,hF.hB.size,Blk.new V 41 #[.slice cA cn cc]⟩ (Bool.eq_false_iff.2 fun hb=>by rw [c12 hb] at en;cases en)).less listed_less,listed_c c11 en (by first | (intro h;exact absurd h (by decide)) | exact fun _=>hr 2 (by simp)) (by decide),listed_c c12 en (by first | (intro h;exact absurd h (by decide)) | exact fun _=>hr 6 (by simp)) (by decide),listed_c c13 en (by first | (intro h;exact absurd h (by decide)) | exact fun _=>hr 7 (by simp)) (by decide),listed_c c14 en (by first | (intro h;exact absurd h (by decide)) | exact fun _=>hr 8 (by simp)) (by decide)⟩
  · have en:=not_yet hi
    have hr:=ready_on hi rfl [] (by kernel_rfl)
    refine wpOpIn_one rfl rfl ?_
    gi_wp2
    have hB2:=below_one V (.cells #[.nilFunc] 92)
    have hF':=hF.below hB2
    exact ⟨.pointer (some ⟨V.heap.size,0,none⟩),x6,x9,x10,x11,x12,x13,x14,x15,rfl,(hF'.n7 ⟨_,_,rfl,hF.hB.size,Blk.new V 92 #[.nilFunc]⟩ (Bool.eq_false_iff.2 fun hb=>by rw [c13 hb] at en;cases en)).less listed_less,listed_c c11 en (by first | (intro h;exact absurd h (by decide)) | exact fun _=>hr 2 (by simp)) (by decide),listed_c c12 en (by first | (intro h;exact absurd h (by decide)) | exact fun _=>hr 6 (by simp)) (by decide),listed_c c13 en (by first | (intro h;exact absurd h (by decide)) | exact fun _=>hr 7 (by simp)) (by decide),listed_c c14 en (by first | (intro h;exact absurd h (by decide)) | exact fun _=>hr 8 (by simp)) (by decide)⟩
  · have en:=not_yet hi
    have hr:=ready_on hi rfl [] (by kernel_rfl)
    refine wpOpIn_one rfl rfl ?_
    gi_wp2
    have hB2:=below_one V (.cells #[.slice none 0 0] 22)
    have hF':=hF.below hB2
    exact ⟨x5,.pointer (some ⟨V.heap.size,0,none⟩),x9,x10,x11,x12,x13,x14,x15,rfl,(hF'.n8 ⟨_,_,rfl,hF.hB.size,Blk.new V 22 #[.slice none 0 0]⟩ (Bool.eq_false_iff.2 fun hb=>by rw [c14 hb] at en;cases en)).less listed_less,listed_c c11 en (by first | (intro h;exact absurd h (by decide)) | exact fun _=>hr 2 (by simp)) (by decide),listed_c c12 en (by first | (intro h;exact absurd h (by decide)) | exact fun _=>hr 6 (by simp)) (by decide),listed_c c13 en (by first | (intro h;exact absurd h (by decide)) | exact fun _=>hr 7 (by simp)) (by decide),listed_c c14 en (by first | (intro h;exact absurd h (by decide)) | exact fun _=>hr 8 (by simp)) (by decide)⟩
  · have en:=not_yet hi
    have hr:=ready_on hi rfl [7,2] (by kernel_rfl)
    obtain ⟨c,y,rfl,hc,hb,_⟩:=hF.f7 (hr 7 (by simp))
    have e2:=hF.f2 (hr 2 (by simp))
    subst e2
    have k0:=hb.one
    have k1:=hb.frozen 0
    refine wpOpIn_one rfl rfl ?_
    gi_wp2
    have hF':=hF
    exact ⟨.pointer (some ⟨c,0,none⟩),x6,x9,x10,.func (.func fk) #[] #[],x12,x13,x14,x15,rfl,(hF'.s9 hc hb).less listed_less,listed_c c11 en (by first | (intro h;exact absurd h (by decide)) | exact fun _=>hr 2 (by simp)) (by decide),listed_c c12 en (by first | (intro h;exact absurd h (by decide)) | exact fun _=>hr 6 (by simp)) (by decide),listed_c c13 en (by first | (intro h;exact absurd h (by decide)) | exact fun _=>hr 7 (by simp)) (by decide),listed_c c14 en (by first | (intro h;exact absurd h (by decide)) | exact fun _=>hr 8 (by simp)) (by decide)⟩
  · have en:=not_yet hi
    have hr:=ready_on hi rfl [8,6] (by kernel_rfl)
    obtain ⟨c,y,rfl,hc,hb,_⟩:=hF.f8 (hr 8 (by simp))
    obtain ⟨d,e2,_⟩:=hF.f6 (hr 6 (by simp))
    subst e2
    have k0:=hb.one
    have k1:=hb.frozen 0
    refine wpOpIn_one rfl rfl ?_
    gi_wp2
    have hF':=hF
    exact ⟨x5,.pointer (some ⟨c,0,none⟩),x9,x10,x11,x12,x13,x14,.slice (some ⟨d,0,none⟩) 1 1,rfl,(hF'.s10 hc hb).less listed_less,listed_c c11 en (by first | (intro h;exact absurd h (by decide)) | exact fun _=>hr 2 (by simp)) (by decide),listed_c c12 en (by first | (intro h;exact absurd h (by decide)) | exact fun _=>hr 6 (by simp)) (by decide),listed_c c13 en (by first | (intro h;exact absurd h (by decide)) | exact fun _=>hr 7 (by simp)) (by decide),listed_c c14 en (by first | (intro h;exact absurd h (by decide)) | exact fun _=>hr 8 (by simp)) (by decide)⟩
 case fin =>
  rintro listed a V hall ⟨x5,x6,x9,x10,x11,x12,x13,x14,x15,rfl,hF,c11,c12,c13,c14⟩
  obtain rfl:=(hF.f0 (hall 0 (by show 0<11;omega))).symm
  obtain rfl:=hF.f1 (hall 1 (by show 1<11;omega))
  obtain rfl:=hF.f2 (hall 2 (by show 2<11;omega))
  obtain rfl:=hF.f3 (hall 3 (by show 3<11;omega))
  obtain rfl:=hF.f4 (hall 4 (by show 4<11;omega))
  obtain rfl:=hF.f5 (hall 5 (by show 5<11;omega))
  obtain ⟨gd,rfl,hgd,bD⟩:=hF.f6 (hall 6 (by show 6<11;omega))
  obtain ⟨g5,y5,rfl,hg5,b5,hy5⟩:=hF.f7 (hall 7 (by show 7<11;omega))
  obtain ⟨g6,y6,rfl,hg6,b6,hy6⟩:=hF.f8 (hall 8 (by show 8<11;omega))
  obtain rfl:=hy5 (hall 9 (by show 9<11;omega))
  obtain rfl:=hy6 (hall 10 (by show 10<11;omega))
  exact ⟨rfl,gd,g5,g6,rfl,hF.hB,⟨hgd,hg5,hg6⟩,bD,b5,b6⟩
 rintro e a V ⟨rfl,gd,g5,g6,rfl,hBV,⟨hgd,hg5,hg6⟩,bD,b5,b6⟩
 have l2:=b2.lt
 have l4:=b4.lt
 replace b2:=b2.below hBV b2.lt
 replace b4:=b4.below hBV b4.lt
 have n56:g5≠g6:=blk_ne b5 b6 (by decide)
 have nd6:gd≠g6:=blk_ne bD b6 (by decide)
 have nd5:gd≠g5:=blk_ne bD b5 (by decide)
 have hwV:=below_in HB1.out hBV
 have k0:=(b2.alloc (.cells #[.func (.func 70) #[] #[.pointer (some ⟨g6,0,none⟩),.pointer (some ⟨g2,0,none⟩),.pointer (some ⟨g5,0,none⟩)]] 112)).cell 0
 have k1:=(b2.alloc (.cells #[.func (.func 70) #[] #[.pointer (some ⟨g6,0,none⟩),.pointer (some ⟨g2,0,none⟩),.pointer (some ⟨g5,0,none⟩)]] 112)).cell 1
 have k2:=(b2.alloc (.cells #[.func (.func 70) #[] #[.pointer (some ⟨g6,0,none⟩),.pointer (some ⟨g2,0,none⟩),.pointer (some ⟨g5,0,none⟩)]] 112)).cell 2
 have k3:=(b2.alloc (.cells #[.func (.func 70) #[] #[.pointer (some ⟨g6,0,none⟩),.pointer (some ⟨g2,0,none⟩),.pointer (some ⟨g5,0,none⟩)]] 112)).cell 3
 simp only [gz9] at k0 k1 k2 k3
 obtain ⟨w6,hw6⟩:∃ x,V.alloc (.cells #[.func (.func 70) #[] #[.pointer (some ⟨g6,0,none⟩),.pointer (some ⟨g2,0,none⟩),.pointer (some ⟨g5,0,none⟩)]] 112)=x:=⟨_,rfl⟩
 obtain ⟨g7,hg7⟩:∃ x,V.heap.size=x:=⟨_,rfl⟩
 have hB6:Below V.heap.size V w6:=by rw [←hw6];exact below_one V _
 have b7:Blk w6 g7 112 #[.func (.func 70) #[] #[.pointer (some ⟨g6,0,none⟩),.pointer (some ⟨g2,0,none⟩),.pointer (some ⟨g5,0,none⟩)]]:=by rw [←hw6,←hg7];exact Blk.new V _ _
 have l5:=b5.lt
 have l6:=b6.lt
 have ld:=bD.lt
 have z6:w6.heap.size=g7+1:=by rw [←hw6,←hg7];simp
 replace b2:=b2.below hB6 b2.lt
 replace b4:=b4.below hB6 b4.lt
 replace b5:=b5.below hB6 b5.lt
 replace b6:=b6.below hB6 b6.lt
 replace bD:=bD.below hB6 bD.lt
 have hw6B:=below_in hwV hB6
 have kq:=HKE.out w6 hw6B
 have HW6:=Lib.hid (And.intro hw6 hg7)
 have hsv:=hBV.size
 have HO0:=Lib.hid (show w.heap.size=g2∧g2+1=g4∧g4<w1.heap.size∧w1.heap.size≤gd∧w1.heap.size≤g5∧w1.heap.size≤g6∧g5≠g6∧gd≠g6∧gd≠g5∧gd<g7∧g5<g7∧g6<g7∧w6.heap.size=g7+1 from ⟨HW1.out.2.1,HW1.out.2.2,l4,hgd,hg5,hg6,n56,nd6,nd5,by omega,by omega,by omega,z6⟩)
 clear l2 l4 l5 l6 ld n56 nd6 nd5 hgd hg5 hg6 hB6 hwV hBV hw6 z6 hsv
 gi_wp2_with fail
 (try rw [hg7]);(try rw [HW6.out.1])
 refine ⟨trivial,(callsIn_wide.2 kq).mono ?_⟩
 rintro e w7 ⟨v,rfl,⟨g,gf,lb,hgg1,hgg2,hgl7,rfl,eg,hgo⟩,hB7⟩
 clear kq k0 k1 k2 k3 hg7
 replace b2:=b2.below hB7 b2.lt
 replace b4:=b4.below hB7 b4.lt
 replace b5:=b5.below hB7 b5.lt
 replace b6:=b6.below hB7 b6.lt
 replace b7:=b7.below hB7 b7.lt
 replace bD:=bD.below hB7 bD.lt
 have hw7B:=below_in hw6B hB7
 have hs7:=hB7.size
 have HO:=Lib.hid (show w.heap.size=g2∧g2+1=g4∧g4<g5∧g4<g6∧g4<gd∧g5≠g6∧gd≠g6∧gd≠g5∧gd<g7∧g5<g7∧g6<g7∧g7<w6.heap.size∧w6.heap.size≤g∧g<w7.heap.size∧gl<w.heap.size∧w6.heap.size≤w7.heap.size from by
  have h:=HO0.out
  exact ⟨h.1,h.2.1,by omega,by omega,by omega,h.2.2.2.2.2.2.1,h.2.2.2.2.2.2.2.1,h.2.2.2.2.2.2.2.2.1,by omega,by omega,by omega,by omega,hgg1,hgg2,HB.out.2.2.2.1,hs7⟩)
 have hI0:(fun pre o X=>∃ (q:Nat→Prop) (vA:Option Addr) (vn vc:Nat),Blk X g6 22 #[.slice vA vn vc]∧RowC (fun b=>b<w.heap.size∨q b) X w.heap.size (Value.slice vA vn vc) (rcl :: pre.map Fk)∧(o=fun b=>((Value.slice vA vn vc).ownBlock=some b∧w7.heap.size≤b)∨q b)∧(∀ b,q b→(Value.slice vA vn vc).ownBlock≠some b∧w7.heap.size≤b∧isC X b)∧Blk X g2 67 #[.int .i64 (P:Int),.slice (some ⟨b1,off1,none⟩) N cap,.slice rA rn rc,.slice (some ⟨gl,lo2,none⟩) L.length lc]∧Blk X g5 92 #[.func (.func fk) #[] #[]]∧Blk X g7 112 #[.func (.func 70) #[] #[.pointer (some ⟨g6,0,none⟩),.pointer (some ⟨g2,0,none⟩),.pointer (some ⟨g5,0,none⟩)]]∧Blk X g4 94 #[.slice none 0 0,.nilFunc]∧Below w.heap.size w X∧w7.heap.size≤X.heap.size∧(∀ r,(Value.slice vA vn vc).ownBlock=some r→r<w6.heap.size∨w7.heap.size≤r)) [] (fun _=>False) w7:=by
  have h:=HO.out
  refine ⟨fun _=>False,some ⟨gd,0,none⟩,1,1,b6,?_,?_,fun b h=>h.elim,b2,b5,b7,b4,hw7B,Nat.le_refl _,fun r e=>?_⟩
  · refine RowG.one bD (by omega) ?_
    have h2:=(HB.out.2.2.2.2.below hw7B)
    exact manyR.imp h2 fun b hb=>⟨Nat.lt_of_lt_of_le hb hw7B.size,fun e=>by have hb:b<w.heap.size:=hb;injection e with e;omega,.inl hb⟩
  · funext b
    refine propext ⟨fun h=>h.elim,fun h2=>h2.elim (fun h3=>?_) id⟩
    have e:some gd=some b:=h3.1
    injection e with e
    have:=h3.2
    omega
  · have e:some gd=some r:=e
    injection e with e
    exact .inl (by omega)
 clear b2 b4 b5 b6 b7 bD hgg1 hgg2 hgl7 hs7 HO0
 gi_wp2_with fail
 refine wpIn_rangeT rfl (by omega) (gf:=gf) (lb:=lb) rfl trivial eg (hgo _ (by omega)) (fun h h'=>h.trans h') (fun X l' ob hl' hlX _=>Kp2.putFar X (by have:=HO.out;omega) (by have:=HO.out;omega) hlX ob) (Below.refl _ _) (fun _=>rfl)
  (fun pre o X=>∃ (q:Nat→Prop) (vA:Option Addr) (vn vc:Nat),Blk X g6 22 #[.slice vA vn vc]∧RowC (fun b=>b<w.heap.size∨q b) X w.heap.size (Value.slice vA vn vc) (rcl :: pre.map Fk)∧(o=fun b=>((Value.slice vA vn vc).ownBlock=some b∧w7.heap.size≤b)∨q b)∧(∀ b,q b→(Value.slice vA vn vc).ownBlock≠some b∧w7.heap.size≤b∧isC X b)∧Blk X g2 67 #[.int .i64 (P:Int),.slice (some ⟨b1,off1,none⟩) N cap,.slice rA rn rc,.slice (some ⟨gl,lo2,none⟩) L.length lc]∧Blk X g5 92 #[.func (.func fk) #[] #[]]∧Blk X g7 112 #[.func (.func 70) #[] #[.pointer (some ⟨g6,0,none⟩),.pointer (some ⟨g2,0,none⟩),.pointer (some ⟨g5,0,none⟩)]]∧Blk X g4 94 #[.slice none 0 0,.nilFunc]∧Below w.heap.size w X∧w7.heap.size≤X.heap.size∧(∀ r,(Value.slice vA vn vc).ownBlock=some r→r<w6.heap.size∨w7.heap.size≤r)) (fun _ _ _ _=>False) ?hI (fun c s o X Y row hs _ _=>hs) (fun _=>False) (fun b e=>e.elim) hI0 (fun pre x o a' X=>a'=({ tmps:=#[.agg #[.int .i64 (P:Int),.slice (some ⟨b1,off1,none⟩) N cap,.slice rA rn rc,.slice (some ⟨gl,lo2,none⟩) L.length lc],.int .i64 r,.pointer (some ⟨g2,0,none⟩),undef,.pointer (some ⟨g4,0,none⟩),.pointer (some ⟨g5,0,none⟩),.pointer (some ⟨g6,0,none⟩),.pointer (some ⟨g7,0,none⟩),.int .i64 x,AG,.int .i64 r,.func (.func fk) #[] #[],.agg #[.int .i64 (P:Int),.slice (some ⟨b1,off1,none⟩) N cap,.slice rA rn rc,.slice (some ⟨gl,lo2,none⟩) L.length lc],.int .i64 r,.slice cA cn cc,.slice (some ⟨gd,0,none⟩) 1 1,.func (.func 70) #[] #[.pointer (some ⟨g6,0,none⟩),.pointer (some ⟨g2,0,none⟩),.pointer (some ⟨g5,0,none⟩)],.agg #[.int .i64 (P:Int),.slice (some ⟨b1,off1,none⟩) N cap,.slice rA rn rc,.slice (some ⟨gl,lo2,none⟩) L.length lc],.func (.func gf) #[] lb,.int .i64 x,undef,undef,undef,undef,undef,undef,undef,undef,undef],defers:=[] }:Act)∧OkK (P:Int) L pre x) ?hAx ?assign ?row1 (fun c pre o X h=>h.elim) ?body ?done (fun D c pre o X _ _ _ h=>h.elim)
 case assign =>
  intro l' pre x o X K hsz ho hI hok hK
  gi_wp2
  exact hK _ _ (T.SinceO.refl _ _ _) (Kp2.refl _ _ _) hI ⟨rfl,hok⟩
 case hAx=>exact fun _ _ _ _ _ _ _ _ _ _ _ h=>h
 case row1 =>
  rintro pre o X ⟨q,vA,vn,vc,b6,hrow,rfl,hq,_⟩ b (hb | hb)
  · exact T.RowG.ownCells hrow hb.1
  · exact (hq b hb).2.2
 case hI =>
  rintro s o X Y row ⟨q,vA,vn,vc,b6,hrow,rfl,hq,b2,b5,b7,b4,hbX,hsX,hown⟩ hgr hr
  have hoo:=HO.out
  have hne:∀ g',g'<w7.heap.size→some g'≠row:=fun g' hg' e=>by have:=(hr g' e.symm).1;omega
  have hneq:∀ b,q b→some b≠row:=fun b hb e=>(hr b e.symm).2 (.inr hb)
  refine ⟨q,vA,vn,vc,b6.grown hgr (hne _ (by omega)),hrow.kept hgr ?_ (fun b hb=>hb.elim (fun hb=>hne b (by omega)) (hneq b)),rfl,fun b hb=>⟨(hq b hb).1,(hq b hb).2.1,?_⟩,b2.grown hgr (hne _ (by omega)),b5.grown hgr (hne _ (by omega)),b7.grown hgr (hne _ (by omega)),b4.grown hgr (hne _ (by omega)),below_grown hbX hgr hbX.size (fun r e=>by have:=(hr r e).1;omega),Nat.le_trans hsX hgr.size,hown⟩
  · cases hrw:row with
    | none=>exact (Option.eq_none_or_eq_some (Value.slice vA vn vc).ownBlock).imp id (fun ⟨x,hx⟩=>by rw [hx];simp)
    | some r=>exact .inr (fun e=>(hr r hrw).2 (.inl ⟨e,(hr r hrw).1⟩))
  · obtain ⟨cs,t,fr,hc⟩:=(hq b hb).2.2
    exact ⟨cs,t,fr,(hgr.block b (Array.getElem?_eq_some_iff.1 hc).1 (hneq b hb)).trans hc⟩
 case body =>
  rintro l' pre x o a' X hsz ⟨q,vA,vn,vc,b6,hrow,rfl,hq,b2,b5,b7,b4,hbX,hsX,hown⟩ ⟨rfl,⟨⟨x0,x1⟩,hxL⟩,hpx⟩ hln
  have hoo:=HO.out
  obtain ⟨j,rfl⟩:∃ j:Nat,x=(j:Int):=⟨x.toNat,by omega⟩
  obtain ⟨u,hcu,hMu⟩:=HCOL.out j (by omega)
  obtain ⟨kA,kc,eu,_,_⟩:=id hMu
  subst eu
  have hqX:∀ b,q b→b<X.heap.size:=fun b hb=>by
   obtain ⟨cs,t,fr,hc⟩:=(hq b hb).2.2
   exact (Array.getElem?_eq_some_iff.1 hc).1
  have hownX:∀ r,(Value.slice vA vn vc).ownBlock=some r→w.heap.size≤r∧r<X.heap.size:=fun r e=>⟨RowG.own_le hrow r e,by
   obtain ⟨cs,t,fr,hcs⟩:=T.RowG.ownCells hrow e
   exact (Array.getElem?_eq_some_iff.1 hcs).1⟩
  have hnT:∀ {g':Nat} {t:TypeId} {cs:Array Value},Blk X g' t cs→t≠41→(Value.slice vA vn vc).ownBlock≠some g':=fun {g' t cs} hb ht e=>by
   obtain ⟨us,ho,_⟩:=hrow
   rcases ho.2 with ⟨e2,_⟩ | ⟨g3,cap3,cur,e2,_,hg3,_⟩
   · rw [e2] at e;cases e
   · rw [e2] at e
     injection e with e
     have e:g3=g':=e
     subst e
     exact blk_ne hb hg3 ht rfl
  have HPU:=Lib.hid (HPUT.out j (by omega) hxL g2 g5 g6 q vA vn vc _ (by rw [List.length_cons,List.length_map];omega) X hbX b6 b2 b5 hrow hqX (hnT b6 (by decide)) (fun h=>by have:=(hq _ h).2.1;omega) (by omega) (hnT b2 (by decide)) (hnT b5 (by decide)) (fun e=>by have:=(hownX _ e).1;have:=HB.out.2.2.1;omega) kA _ kc ((hbX.cell (p:=⟨b1,off1+j,none⟩) HB.out.2.2.1).trans hcu) ((hMu.below hbX).more hbX.size))
  rw [HFK.out] at HPU
  have c7:=b7.one
  have HN:=Lib.hid (And.intro (hnT b2 (by decide)) (And.intro (hnT b5 (by decide)) (And.intro (hnT b7 (by decide)) (hnT b4 (by decide)))))
  have HQ:=Lib.hid (And.intro hq (And.intro hqX (And.intro hownX (And.intro hown (And.intro b2 (And.intro b5 (And.intro b7 (And.intro b4 (And.intro hbX hsX)))))))))
  clear hrow hq hqX hownX hnT hown b2 b5 b4 hbX hsX b6 hcu hMu hoo x1 x0 hxL hpx
  gi_wp2_with fail
  refine ⟨trivial,(CallsIn.inRound l' (callsIn_wide.2 HPU.out)).mono ?_⟩
  rintro e W' ⟨rfl,v',q',b6',hrow',hq1,hq2,hov,hq3,hon,hbel⟩
  obtain ⟨vA',vn',vc',rfl⟩:=T.RowG.formR hrow'
  clear c7
  gi_wp2_with fail
  obtain ⟨hq,hqX,hownX,hown,b2,b5,b7,b4,hbX,hsX⟩:=HQ.out
  have hoo:=HO.out
  have hsW:=hon.1
  have hnot:∀ g',g'<w7.heap.size→g'≠g6→(∀ r,(Value.slice vA vn vc).ownBlock=some r→r≠g')→¬ (g'=g6∨(Value.slice vA vn vc).ownBlock=some g'):=fun g' h1 h2 h3 h4=>h4.elim h2 (fun e=>h3 _ e rfl)
  have hoT:∀ {g':Nat} {t:TypeId} {cs:Array Value},Blk X g' t cs→g'≠g6→(Value.slice vA vn vc).ownBlock≠some g'→Blk W' g' t cs:=fun hb h1 h2=>hon.blk hb (fun h=>h.elim h1 h2)
  refine ⟨fun b=>((Value.slice vA' vn' vc').ownBlock=some b∧w7.heap.size≤b)∨q' b,?_,⟨hsW,fun b h1 h2 h3=>hon.2 b h2 (fun h=>h.elim (fun e=>by omega) (fun e=>h3 (.inl ⟨e,h1⟩)))⟩,⟨hsW,hon.2 g (by omega) (fun h=>h.elim (fun e=>by omega) (fun e=>by have:=hown _ e;omega)),hon.2 gl (by omega) (fun h=>h.elim (fun e=>by omega) (fun e=>by have:=(hownX _ e).1;omega))⟩,q',vA',vn',vc',b6',?_,rfl,?_,?_,?_,?_,?_,?_,by omega,?_⟩
  · rintro b (⟨h1,h2⟩ | h1)
    · rcases hov with h3 | ⟨r2,h3,h4⟩
      · exact .inl (.inl ⟨h3▸h1,h2⟩)
      · rw [h3] at h1;injection h1 with h1;exact .inr (by omega)
    · exact (hq1 b h1).imp .inr (fun h=>h.1)
  · rw [List.map_append,List.map_cons,List.map_nil,←List.cons_append]
    exact hrow'
  · intro b hb
    rcases hq1 b hb with h1 | ⟨h1,h2,h3⟩
    · refine ⟨fun e=>?_,(hq b h1).2.1,?_⟩
      · rcases hov with h3 | ⟨r2,h3,h4⟩
        · exact (hq b h1).1 (h3▸e)
        · rw [h3] at e;injection e with e;have:=hqX b h1;omega
      · obtain ⟨cs,t,fr,hc⟩:=(hq b h1).2.2
        exact ⟨cs,t,fr,(hon.2 b (hqX b h1) (fun h=>h.elim (fun e=>by have:=(hq b h1).2.1;omega) (hq b h1).1)).trans hc⟩
    · refine ⟨(hq3 b hb).elim (fun h4=>by have:=hqX b h4;omega) id,by omega,h3⟩
  · exact hoT b2 (by omega) HN.out.1
  · exact hoT b5 (by omega) HN.out.2.1
  · exact hoT b7 (by omega) HN.out.2.2.1
  · exact hoT b4 (by omega) HN.out.2.2.2
  · exact hbX.trans hbel
  · intro r2 e
    rcases hov with h3 | ⟨r3,h3,h4⟩
    · exact hown r2 (h3▸e)
    · rw [h3] at e;injection e with e;exact .inr (by omega)
 case done =>
  rintro D xs o X hD _ rfl ⟨q,vA,vn,vc,b6,hrow,rfl,hq,b2,b5,b7,p4,hbX,hsX,hown⟩ hKD hneD
  have HCC:=Lib.hid (fun (V:World) (hV:Below X.heap.size X V)=>((RowC.cols hrow).below hV).more hV.size)
  have HSS:Hid (∀ V,Below X.heap.size X V→(fun U:World=>U.cell? ⟨g2,0,none⟩=some (.int .i64 (P:Int))∧U.cell? ⟨g6,0,none⟩=some (.slice vA vn vc)∧U.cell? ⟨g5,0,none⟩=some (.func (.func fk) #[] #[])) V):=fun V hV=>⟨(b2.below hV b2.lt).cell 0,(b6.below hV b6.lt).one,(b5.below hV b5.lt).one⟩
  have hge:=hsX
  have hBx:=Below.refl X.heap.size X
  clear hrow hq b2 b5 b6 b7 hsX hown
  gi_wp2_with fail
  have hd:Below X.heap.size X X.drew:=(Below.refl _ _).drew
  replace p4:=p4.below hd p4.lt
  replace hBx:=below_in hBx hd
  clear hd
  have hS:(fun U:World=>U.cell? ⟨g2,0,none⟩=some (.int .i64 (P:Int))∧U.cell? ⟨g6,0,none⟩=some (.slice vA vn vc)∧U.cell? ⟨g5,0,none⟩=some (.func (.func fk) #[] #[])) X.drew:=HSS.out _ hBx
  refine wpIn_mono (region_HF (Q:=NoPanic _) (S:=(fun U:World=>U.cell? ⟨g2,0,none⟩=some (.int .i64 (P:Int))∧U.cell? ⟨g6,0,none⟩=some (.slice vA vn vc)∧U.cell? ⟨g5,0,none⟩=some (.func (.func fk) #[] #[]))) (by kernel_rfl) ?_) NoPanic.imp
  refine tkF (i:=0) (d:=23) (v:=.pointer (some ⟨g2,0,none⟩)) (s:=hS) (c:=?_)
  simp only [ud9]
  refine tkF (i:=1) (d:=24) (v:=.int .i64 (P:Int)) (s:=hS) (c:=?_)
  simp only [ud9]
  refine tkF (i:=2) (d:=25) (v:=.slice vA vn vc) (s:=hS) (c:=?_)
  simp only [ud9]
  refine tkF (i:=4) (d:=27) (v:=.func (.func fk) #[] #[]) (s:=hS) (c:=?_)
  simp only [ud9]
  refine oneF (i:=3) (c:=?_)
  have hb9:=hBx.size
  gi_wp2_with fail
  refine ⟨trivial,(callsIn_wide.2 (HUP.out _ (below_in hbX hBx) _ (HCC.out _ hBx))).mono ?_⟩
  rintro e v1 ⟨A9,c9,rfl,M9,hB⟩
  replace M9:=M9.less hb9
  clear hb9
  replace p4:=p4.below hB p4.lt
  replace hBx:=below_in hBx hB
  clear hS
  have hS:(fun U:World=>U.cell? ⟨g2,0,none⟩=some (.int .i64 (P:Int))∧U.cell? ⟨g6,0,none⟩=some (.slice vA vn vc)∧U.cell? ⟨g5,0,none⟩=some (.func (.func fk) #[] #[])) v1:=HSS.out _ hBx
  clear hB
  gi_wp2
  try (refine ⟨hS,?_⟩)
  refine tkF (i:=5) (d:=28) (v:=.agg #[.slice A9 Q c9,.func (.func fk) #[] #[]]) (s:=hS) (c:=?_)
  simp only [ud9]
  refine oneF (i:=6) (c:=?_)
  have kA:=p4.cell 0
  have kB:=p4.cell 1
  have fA:=p4.frozen 0
  have fB:=p4.frozen 1
  simp only [gz9] at kA kB
  have hoo:=HO.out
  have bZ:Blk ((v1.setCell ⟨g4,0,none⟩ (.slice A9 Q c9)).setCell ⟨g4,1,none⟩ (.func (.func fk) #[] #[])) g4 94 #[.slice A9 Q c9,.func (.func fk) #[] #[]]:=(p4.set_ 0 _).set_ 1 _
  have hSB:(fun U:World=>U.cell? ⟨g2,0,none⟩=some (.int .i64 (P:Int))∧U.cell? ⟨g6,0,none⟩=some (.slice vA vn vc)∧U.cell? ⟨g5,0,none⟩=some (.func (.func fk) #[] #[])) ((v1.setCell ⟨g4,0,none⟩ (.slice A9 Q c9)).setCell ⟨g4,1,none⟩ (.func (.func fk) #[] #[])):=by
   obtain ⟨h0,h1,h2⟩:=hS
   exact ⟨cell_farK (cell_farK h0 (by show g2≠g4;omega)) (by show g2≠g4;omega),cell_farK (cell_farK h1 (by show g6≠g4;omega)) (by show g6≠g4;omega),cell_farK (cell_farK h2 (by show g5≠g4;omega)) (by show g5≠g4;omega)⟩
  replace M9:FreshMany w7.heap.size ((v1.setCell ⟨g4,0,none⟩ (.slice A9 Q c9)).setCell ⟨g4,1,none⟩ (.func (.func fk) #[] #[])) _ _:=(FreshMany.set_ (p:=⟨g4,0,none⟩) (M9.less hge) (by show g4<w7.heap.size;omega) (.slice A9 Q c9)).set_ (p:=⟨g4,1,none⟩) (by show g4<w7.heap.size;omega) (.func (.func fk) #[] #[])
  have hDZ:((v1.setCell ⟨g4,0,none⟩ (.slice A9 Q c9)).setCell ⟨g4,1,none⟩ (.func (.func fk) #[] #[])).heap[D]?=some (.deferred (some [])):=(Below.heap_setCell _ _ _ D (by show D≠g4;omega)).trans ((Below.heap_setCell _ _ _ D (by show D≠g4;omega)).trans ((hBx.block D (Array.getElem?_eq_some_iff.1 hKD).1).trans hKD))
  have hBZ:Below w.heap.size w ((v1.setCell ⟨g4,0,none⟩ (.slice A9 Q c9)).setCell ⟨g4,1,none⟩ (.func (.func fk) #[] #[])):=((below_in hbX hBx).setCell (p:=⟨g4,0,none⟩) (by show w.heap.size≤g4;omega) (.slice A9 Q c9)).setCell (p:=⟨g4,1,none⟩) (by show w.heap.size≤g4;omega) (.func (.func fk) #[] #[])
  obtain ⟨wz,he⟩:∃ z,((v1.setCell ⟨g4,0,none⟩ (.slice A9 Q c9)).setCell ⟨g4,1,none⟩ (.func (.func fk) #[] #[]))=z:=⟨_,rfl⟩
  rw [he] at bZ hSB M9 hDZ hBZ
  gi_wp2
  (try rw [he])
  clear hS
  have hS:=hSB
  try (refine ⟨hS,?_⟩)
  clear he kA kB fA fB
  refine anyHF_done (by kernel_rfl) ?_ _
  refine NoPanic.normal ?_
  have hgr:=grownBy_putObj' wz D (.deferred none)
  have hoo:=HO.out
  have bF:=bZ.grown hgr (fun e=>by injection e;omega)
  have MF:=freshMany_put (ob:=.deferred none) M9 HPOS.out hDZ
  have hBF:Below w.heap.size w (wz.putObj D (.deferred none)):=hBZ.grown hgr hBZ.size (fun r e=>by injection e with e;omega)
  have r0:=bF.cell 0
  have r1:=bF.cell 1
  simp only [gz9] at r0 r1
  gi_wp2_with fail
  refine ⟨by simp,.inl ⟨_,_,rfl,run_takeDeferred hDZ,?_⟩⟩
  exact ⟨.agg #[.slice A9 Q c9,.func (.func fk) #[] #[]],by simp [results,Tryz.results51,go_sem,r0,r1],A9,c9,rfl,MF.less (by omega),hBF⟩
end Go.Proofs.YtkllhjhkcipkoaaGreatDoor.Tr
