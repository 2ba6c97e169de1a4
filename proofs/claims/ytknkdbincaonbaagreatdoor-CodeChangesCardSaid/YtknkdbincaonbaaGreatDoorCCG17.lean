/- -/
import Derived.Test.YtknkdbincaonbaaGreatDoorCCG16
import Derived.Test.YtknkdbincaonbaaGreatDoorCCG6
import Derived.Test.YtknkdbincaonbaaGreatDoorCCG12
set_option linter.unusedVariables false
set_option linter.unusedSimpArgs false
set_option maxRecDepth 100000
set_option maxHeartbeats 8000000
namespace Go.Proofs.YtknkdbincaonbaaGreatDoor.T
open Go.RowKit Go.Shelf Go.Proofs.YtknkdbincaonbaaGreatDoor.C Go.Proofs.YtknkdbincaonbaaGreatDoor.E
attribute [local go_sem] Oper.semAt_some

theorem enter_slant:∀ args W,(callFunc 284 args).run Tryz.prog W = .ok (.enter 284 args) W:=enters_of Tryz.func284 (by kernel_rfl) rfl
theorem spanL_len (P:Nat):(spanL 0 (P:Int)).length=P:=by unfold spanL;simp
theorem spanL_get (P:Nat) (i:Nat) (hi:i<P):(spanL 0 (P:Int))[i]?=some (i:Int):=by
 unfold spanL
 rw [List.getElem?_map,List.getElem?_range (by omega)]
 simp
theorem spanL_at (P:Nat) (i:Nat) (hi:i<(spanL 0 (P:Int)).length):(spanL 0 (P:Int))[i]=(i:Int):=by
 have h:=spanL_get P i (by rwa [spanL_len] at hi)
 rw [List.getElem?_eq_getElem hi] at h
 injection h
def downC (x:Int) (ys:List Int):List (Int×Int):=ys.map fun y=>(x,y)
theorem downC_snoc (l:List (Int×Int)) (x:Int) (ys:List Int) (y:Int):l ++ downC x ys ++ [(x,y)]=l ++ downC x (ys ++ [y]):=by unfold downC;simp
theorem RowG.form {α:Type} {r:Rep α} {t:TypeId} {d:α} {Q:Nat→Prop} {W:World} {base:Nat} {v:Value} {xs:List α} (h:RowG r t d Q W base v xs):∃ A n c,v = .slice A n c:=by
 obtain ⟨us,ho,_⟩:=h
 rcases ho.2 with ⟨h1,_⟩ | ⟨g,cap,cur,h1,_⟩
 · exact ⟨_,_,_,h1⟩
 · exact ⟨_,_,_,h1⟩
theorem list17 (ws:List Value) (h:ws.length=17):ws=(List.range 17).map (slotV ws):=by
 refine List.ext_getElem (by simp [h]) fun j h1 h2=>?_
 rw [List.getElem_map,List.getElem_range]
 unfold slotV
 rw [List.getElem?_eq_getElem h1]
 rfl
theorem gathered_any {B:Nat} (p:Int) (v:Value) (css:List (List (List UInt8))) (w:World) (hL:Laid w) (hB:B≤w.heap.size) (hC:Cols B w v css) (hok:DataOk p css) :
 Calls Tryz.prog 283 #[.agg #[.int .i64 3,.int .i64 p,v],.func (.func 284) #[] #[]] w fun e w'=>∃ vs:List Value,e = .returned (.agg vs.toArray)∧vs.length=17 ∧
  (∀ n,n<17→RowM (·<B) w' w.heap.size (slotV vs n) ((bySl p n (flatC p (spanL 0 p))).map (cellI css)))∧Below w.heap.size w w':=by
 have hd:=dataOk_n hok
 have hpr:p∈prm:=hok.1.2
 have hg:=togOk_grid hok.2.2
 obtain ⟨b1,off1,cap,rfl,hcap,hb1,_⟩:=hC.at_ hok.2.2.1
 obtain ⟨N,hN⟩:∃ N,css.length=N:=⟨_,rfl⟩
 have hpN:p=(N:Int):=by omega
 have hN17:N≤17:=by omega
 obtain ⟨w0,hw0⟩:∃ w0,(((w.alloc (.cells #[.int .i64 3,.int .i64 p,.slice (some ⟨b1,off1,none⟩) N cap] 223)).alloc (.cells #[.func (.func 284) #[] #[]] 302)).alloc (.cells #[.slice none 0 0,.slice none 0 0,.slice none 0 0,.slice none 0 0,.slice none 0 0,.slice none 0 0,.slice none 0 0,.slice none 0 0,.slice none 0 0,.slice none 0 0,.slice none 0 0,.slice none 0 0,.slice none 0 0,.slice none 0 0,.slice none 0 0,.slice none 0 0,.slice none 0 0] 300)).alloc (.cells #[.slice none 0 0,.slice none 0 0,.slice none 0 0,.slice none 0 0,.slice none 0 0,.slice none 0 0,.slice none 0 0,.slice none 0 0,.slice none 0 0,.slice none 0 0,.slice none 0 0,.slice none 0 0,.slice none 0 0,.slice none 0 0,.slice none 0 0,.slice none 0 0,.slice none 0 0] 300)=w0:=⟨_,rfl⟩
 have hB0:Below w.heap.size w w0:=by rw [←hw0];exact (((below_one w _).alloc (by simp) _).alloc (by simp;omega) _).alloc (by simp;omega) _
 have s0:w0.heap.size=w.heap.size+4:=by rw [←hw0];simp
 have q0:Blk w0 w.heap.size 223 #[.int .i64 3,.int .i64 p,.slice (some ⟨b1,off1,none⟩) N cap]:=by rw [←hw0];exact (((Blk.new w _ _).alloc _).alloc _).alloc _
 have q1:Blk w0 (w.heap.size+1) 302 #[.func (.func 284) #[] #[]]:=by rw [←hw0];exact ((Blk.second w _ _ _).alloc _).alloc _
 have q2:Blk w0 (w.heap.size+2) 300 #[.slice none 0 0,.slice none 0 0,.slice none 0 0,.slice none 0 0,.slice none 0 0,.slice none 0 0,.slice none 0 0,.slice none 0 0,.slice none 0 0,.slice none 0 0,.slice none 0 0,.slice none 0 0,.slice none 0 0,.slice none 0 0,.slice none 0 0,.slice none 0 0,.slice none 0 0]:=by
  rw [←hw0]
  have h:=Blk.new ((w.alloc (.cells #[.int .i64 3,.int .i64 p,.slice (some ⟨b1,off1,none⟩) N cap] 223)).alloc (.cells #[.func (.func 284) #[] #[]] 302)) 300 #[.slice none 0 0,.slice none 0 0,.slice none 0 0,.slice none 0 0,.slice none 0 0,.slice none 0 0,.slice none 0 0,.slice none 0 0,.slice none 0 0,.slice none 0 0,.slice none 0 0,.slice none 0 0,.slice none 0 0,.slice none 0 0,.slice none 0 0,.slice none 0 0,.slice none 0 0]
  simp only [World.size_alloc] at h
  exact h.alloc _
 have q3:Blk w0 (w.heap.size+3) 300 (List.replicate 17 (.slice none 0 0)).toArray:=by
  rw [←hw0]
  have h:=Blk.new (((w.alloc (.cells #[.int .i64 3,.int .i64 p,.slice (some ⟨b1,off1,none⟩) N cap] 223)).alloc (.cells #[.func (.func 284) #[] #[]] 302)).alloc (.cells #[.slice none 0 0,.slice none 0 0,.slice none 0 0,.slice none 0 0,.slice none 0 0,.slice none 0 0,.slice none 0 0,.slice none 0 0,.slice none 0 0,.slice none 0 0,.slice none 0 0,.slice none 0 0,.slice none 0 0,.slice none 0 0,.slice none 0 0,.slice none 0 0,.slice none 0 0] 300)) 300 #[.slice none 0 0,.slice none 0 0,.slice none 0 0,.slice none 0 0,.slice none 0 0,.slice none 0 0,.slice none 0 0,.slice none 0 0,.slice none 0 0,.slice none 0 0,.slice none 0 0,.slice none 0 0,.slice none 0 0,.slice none 0 0,.slice none 0 0,.slice none 0 0,.slice none 0 0]
  simp only [World.size_alloc] at h
  exact h
 have HG0:Hid (∀ w1,Below w0.heap.size w0 w1→Gat B (w.heap.size+4) p css (w.heap.size+3) [] w1 (List.replicate 17 (.slice none 0 0))):=fun w1 h=>(gat_none B (w.heap.size+4) p css (w.heap.size+3) w0 q3).below h
 have HCEL:=Lib.hid (fun (i y:Nat) (hi:i<N) (hy:y<(p - 1).toNat) (U:World) (hU:Below w.heap.size w U)=>cell_any (B:=B) (.slice (some ⟨b1,off1,none⟩) N cap) css (p - 1).toNat (firstC css).length i y U (Nat.le_trans hB hU.size) (by have h:=hC.below (hU.mono hB);rwa [hN] at h) hg (by omega) hy)
 have HSL:=Lib.hid (fun (i y:Nat) (hi:i<N) (hy:y<(p - 1).toNat) (U:World) (hU:Below w.heap.size w U)=>slant_any p (i:Int) (y:Int) (some ⟨b1,off1,none⟩) N cap hpr (by unfold HasCell;rw [show shortN 3=0 from rfl,show madeN 3=3 from rfl];omega) U (hL.next hU))
 have HCE:=Lib.hid (fun (i:Nat) (U:World) (hU:Below w.heap.size w U)=>shapeCells_anyO 3 p (i:Int) U (hL.next hU))
 have HHC:Hid (∀ i:Nat,i<N→HasCol 3 p (i:Int)∧RightC 3 p):=fun i hi=>⟨by unfold HasCol;rw [show shortN 3=0 from rfl,show madeN 3=3 from rfl];omega,rightC3 hpr⟩
 have hent:=enter_slant
 rw [hN]
 rw [hN] at hcap
 have HLL:=Lib.hid hL
 have HPP:=Lib.hid hpN
 have HPR:=Lib.hid hpr
 have HPB:=Lib.hid hd.2
 clear hC hok hd hg hL hN hpr hcap q3 hpN
 have k0:=q0.cell 0;have k1:=q0.cell 1;have k2:=q0.cell 2;simp only [gz9] at k0 k1 k2
 refine (callsIn_wide (n:=9)).1 ?_
 refine callsIn_of_wp_marks Tryz.func283 rfl trivial ?_ rfl
 simp only [Tryz.ntmps283,List.size_toArray,List.length_cons,List.length_nil,Nat.reduceAdd,Nat.reduceSub,Array.replicate_succ,Array.replicate_zero,List.push_toArray,List.append_toArray,List.nil_append,List.cons_append]
 gi_wp2_with fail
 clear hw0 k0 k1 k2
 rw [show w.heap.size+1+1+1=w.heap.size+3 from rfl,show w.heap.size+1+1=w.heap.size+2 from rfl]
 refine loop_left [12,6,13,14,15,16,17,18,35] (fun m vs Ds U=>∃ (i:Nat) (y6 y13 y14 y15 y16 y17 y18 y35:Value) (ws:List Value),vs = [.int .i64 (i:Int),y6,y13,y14,y15,y16,y17,y18,y35]∧i+m=N∧Gat B (w.heap.size+4) p css (w.heap.size+3) (flatC p ((spanL 0 p).take i)) U ws∧Below w.heap.size w U∧Blk U w.heap.size 223 #[.int .i64 3,.int .i64 p,.slice (some ⟨b1,off1,none⟩) N cap]∧Blk U (w.heap.size+1) 302 #[.func (.func 284) #[] #[]]∧Blk U (w.heap.size+2) 300 #[.slice none 0 0,.slice none 0 0,.slice none 0 0,.slice none 0 0,.slice none 0 0,.slice none 0 0,.slice none 0 0,.slice none 0 0,.slice none 0 0,.slice none 0 0,.slice none 0 0,.slice none 0 0,.slice none 0 0,.slice none 0 0,.slice none 0 0,.slice none 0 0,.slice none 0 0]∧Left (w.heap.size+4) U Ds) N
  [.int .i64 0,undef,undef,undef,undef,undef,undef,undef,undef] (by kernel_rfl) ⟨0,undef,undef,undef,undef,undef,undef,undef,undef,_,by kernel_rfl,by omega,HG0.out _ (Below.refl _ _),hB0,q0,q1,q2,Left.nil _ _⟩ ?_
 clear q0 q1 q2
 rintro m vs Ds U ⟨i,y6,y13,y14,y15,y16,y17,y18,y35,ws,rfl,him,hG,hBU,q0,q1,q2,hLe⟩ K hK
 simp only [sets,List.setIfInBounds_toArray,List.set_cons_zero,List.set_cons_succ]
 have hro:=hG.rowO
 have hgbl:=hG.blk.lt
 by_cases hlt:i<N
 · have hdec:decide ((i:Int)<(N:Int))=true:=by simp;omega
   have HN1:Hid (flatC p ((spanL 0 p).take i) ++ downC (i:Int) (rowsL p)=flatC p ((spanL 0 p).take (i+1))):=by
    unfold Hid downC
    rw [HPP.out,flatC_next (N:Int) (spanL 0 (N:Int)) i (by rw [spanL_len];exact hlt),spanL_at]
   have hpl:(flatC p ((spanL 0 p).take i)).length≤320:=by have:=flatC_len p HPR.out ((spanL 0 p).take i);rw [List.length_take] at this;omega
   have k0:=q0.cell 0;have k1:=q0.cell 1;have k2:=q0.cell 2;simp only [gz9] at k0 k1 k2
   have hce:=HCE.out i U hBU
   gi_wp2_with fail
   refine ⟨trivial,(callsIn_wide.2 hce).mono ?_⟩
   rintro e w7 ⟨v7,rfl,⟨zs,hcol2,gf,lb,rfl,eg,eq,hgo⟩,hB7⟩
   have hzs:zs=rowsL p:=hcol2.elim (fun h=>h.2.2) (fun h=>absurd ⟨(HHC.out i hlt).2,(HHC.out i hlt).1⟩ h.1)
   have HZ:=Lib.hid hzs
   have hs7:=hB7.size
   have hBw7:=below_in hBU hB7
   have hG7:=hG.below hB7
   have r0:=q0.below hB7 q0.lt
   have r1:=q1.below hB7 q1.lt
   have r2:=q2.below hB7 q2.lt
   have hown:∀ b,ownsB ws b→b<U.heap.size:=hro.lt
   clear hzs hcol2 hce eq k0 k1 k2 q0 q1 q2
   gi_wp2_with fail
   refine wpIn_rangeBoxT rfl (by omega) (gf:=gf) (lb:=lb) rfl trivial eg (hgo _ (by omega)) (fun h h'=>h.trans h') (fun W l o hl _ _=>Keep.putFar W (by omega) o) (Below.refl _ _) (fun _=>rfl)
    (fun pre oX X=>(∃ ws',Gat B (w.heap.size+4) p css (w.heap.size+3) (flatC p ((spanL 0 p).take i) ++ downC (i:Int) pre) X ws'∧oX=ownsB ws')∧FreshO (ownsB ws) oX w7∧Below w.heap.size w X∧Blk X w.heap.size 223 #[.int .i64 3,.int .i64 p,.slice (some ⟨b1,off1,none⟩) N cap]∧Blk X (w.heap.size+1) 302 #[.func (.func 284) #[] #[]]∧Blk X (w.heap.size+2) 300 #[.slice none 0 0,.slice none 0 0,.slice none 0 0,.slice none 0 0,.slice none 0 0,.slice none 0 0,.slice none 0 0,.slice none 0 0,.slice none 0 0,.slice none 0 0,.slice none 0 0,.slice none 0 0,.slice none 0 0,.slice none 0 0,.slice none 0 0,.slice none 0 0,.slice none 0 0]∧SinceO (w.heap.size+4) (ownsB ws) w7 X)
    (fun _ _ _ _=>False)
    ?hI (fun c s o X Y row hs _ _=>hs) (ownsB ws) (fun b e=>by have:=hown b e;omega) ⟨⟨ws,by show Gat _ _ _ _ _ (_ ++ []) _ _;rw [List.append_nil];exact hG7,rfl⟩,FreshO.refl _ _,hBw7,r0,r1,r2,SinceO.refl _ _ _⟩
    (fun z=>z∈zs) (fun _ _ _ h=>h) 53 (fun z:Int=>#[.int .i64 (i:Int),.int .i64 z]) ?a1
    ?assign (fun pre o X h=>by obtain ⟨⟨ws',hg',rfl⟩,_⟩:=h;exact hg'.rowO) (fun c pre o X h=>h.elim) ?body ?done (fun D c pre o X _ _ _ h=>h.elim)
   case hI =>
    exact FarO.and (Gat.far (by omega) (by omega) _) (FarO.and (farO_pure _ _) (FarO.and (farO_below (Nat.le_refl _) (by omega)) (FarO.and (farO_blk (by omega) _ _) (FarO.and (farO_blk (by omega) _ _) (FarO.and (farO_blk (by omega) _ _) (farO_since w7 _ (Nat.le_refl _)))))))
   case assign =>
    rintro l' pre z oX X KK hsz holX ⟨⟨ws',hg',rfl⟩,hfX,hbX,p0,p1,p2,hst⟩ _ hKK
    gi_wp2
    have hbx:=Blk.new X 53 #[.int .i64 (i:Int),.int .i64 z]
    have hBz:=below_one X (.cells #[.int .i64 (i:Int),.int .i64 z] 53)
    have hSi:SinceO w7.heap.size (ownsB ws') X (X.alloc (.cells #[.int .i64 (i:Int),.int .i64 z] 53)):=SinceO.below hBz
    have hKe:Keep U.heap.size (w7.heap.size - U.heap.size) X (X.alloc (.cells #[.int .i64 (i:Int),.int .i64 z] 53)):=Keep.alloc (by omega) _
    have hI2:=And.intro (⟨ws',hg'.below hBz,rfl⟩:∃ ws'',Gat B (w.heap.size+4) p css (w.heap.size+3) (flatC p ((spanL 0 p).take i) ++ downC (i:Int) pre) (X.alloc (.cells #[.int .i64 (i:Int),.int .i64 z] 53)) ws''∧ownsB ws'=ownsB ws'') (⟨hfX,below_in hbX hBz,p0.below hBz p0.lt,p1.below hBz p1.lt,p2.below hBz p2.lt,hst.trans hfX (SinceO.below hBz)⟩:_∧_∧_∧_∧_∧_)
    have hne:¬ ownsB ws' X.heap.size:=fun e=>by have:=holX _ e;omega
    clear hBz holX
    generalize X.alloc (.cells #[.int .i64 (i:Int),.int .i64 z] 53)=X' at *
    generalize X.heap.size=Bx at *
    exact hKK Bx _ hSi hKe hI2 hbx hne hsz
   case body =>
    rintro l' pre z oX Bx X hsz ⟨⟨ws',hg',rfl⟩,hfX,hbX,p0,p1,p2,hst⟩ hbx hnBx hBx7 hzm hlz
    obtain ⟨y,rfl,hy⟩:∃ y:Nat,z=(y:Int)∧y<(p - 1).toNat:=by
     rw [HZ.out] at hzm
     unfold rowsL at hzm
     obtain ⟨y,hy,rfl⟩:=List.mem_map.1 hzm
     exact ⟨y,rfl,List.mem_range.1 hy⟩
    obtain ⟨k,hk,hk17⟩:∃ k:Nat,((y:Int) - (i:Int)) % p=(k:Int)∧k<17:=by
     have hp3:=HPB.out
     have h0:=Int.emod_nonneg ((y:Int) - (i:Int)) (b:=p) (by omega)
     have h1:=Int.emod_lt_of_pos ((y:Int) - (i:Int)) (b:=p) (by omega)
     exact ⟨(((y:Int) - (i:Int)) % p).toNat,by omega,by omega⟩
    have HK:=Lib.hid hk
    have HSLK:Hid (∀ V,Below w.heap.size w V→Calls Tryz.prog 284 #[.agg #[.int .i64 3,.int .i64 p,.slice (some ⟨b1,off1,none⟩) N cap],.agg #[.int .i64 (i:Int),.int .i64 (y:Int)]] V fun e w'=>e = .returned (.int .i64 (k:Int))∧Below V.heap.size V w'):=fun V hV=>by
     have h:=HSL.out i y hlt hy V hV
     rw [HK.out] at h
     exact h
    have HCELL:Hid (∀ V,Below X.heap.size X V→Calls Tryz.prog 312 #[.slice (some ⟨b1,off1,none⟩) N cap,.agg #[.int .i64 (i:Int),.int .i64 (y:Int)]] V fun e w'=>∃ u,e = .returned u∧Bytes B w' u (cellI css ((i:Int),(y:Int)))∧Below V.heap.size V w'):=fun V hV=>HCEL.out i y hlt hy V (below_in hbX hV)
    obtain ⟨vA,vn,vc,hsv⟩:=RowG.form (hg'.row k hk17)
    have hX0:w.heap.size+3<X.heap.size:=hg'.blk.lt
    have HSV:=Lib.hid hsv
    have HG:=Lib.hid hg'
    have HOG:Hid (∀ b,(Value.slice vA vn vc).ownBlock=some b→ownsB ws' b∧w.heap.size+4≤b):=fun b e=>⟨⟨k,hk17,by rw [HSV.out];exact e⟩,RowG.own_le (HSV.out▸HG.out.row k hk17) b e⟩
    have HROW:Hid (∀ V,Below X.heap.size X V→RowM (·<B) V (w.heap.size+4) (.slice vA vn vc) ((bySl p k (flatC p ((spanL 0 p).take i) ++ downC (i:Int) pre)).map (cellI css))):=fun V hV=>by
     have h:=RowG.below (HG.out.row k hk17) hV
     rwa [HSV.out] at h
    have HUU:Hid (∀ (u:Value) (V V':World),Bytes B V u (cellI css ((i:Int),(y:Int)))→Below X.heap.size X V→Below V.heap.size V V'→BytesP (fun b=>b<V'.heap.size∧some b≠(Value.slice vA vn vc).ownBlock∧b<B) V' u (cellI css ((i:Int),(y:Int)))):=fun u V V' hu h1 h2=>by
     have hs1:=h1.size
     have hs2:=h2.size
     exact BytesP.imp (P:=(·<B)) (hu.below (h2.mono (by omega))) fun b hb=>⟨by omega,fun e=>by have:=(HOG.out b e.symm).2;omega,hb⟩
    have HLEN:Hid (((bySl p k (flatC p ((spanL 0 p).take i) ++ downC (i:Int) pre)).map (cellI css)).length≤100000):=by
     unfold Hid
     rw [List.length_map]
     refine Nat.le_trans (bySl_len _ _ _) ?_
     have hp3:=HPB.out
     rw [List.length_append]
     unfold downC
     rw [List.length_map]
     omega
    have HBS:Hid (∀ n,X.heap.size≤n→w.heap.size+4≤n):=fun n h=>by omega
    have HSS:Hid (∀ V,Below X.heap.size X V→(fun U:World=>U.cell? ⟨w.heap.size+3,k,none⟩=some (.slice vA vn vc)∧U.cell? ⟨w.heap.size,2,none⟩=some (.slice (some ⟨b1,off1,none⟩) N cap)∧U.cell? ⟨Bx,0,none⟩=some (.int .i64 (i:Int))∧U.cell? ⟨Bx,1,none⟩=some (.int .i64 (y:Int))) V):=fun V hV=>by
     have h1:=slot_cell (HG.out.below hV) hk17
     rw [HSV.out] at h1
     exact ⟨h1,(p0.below hV p0.lt).cell 2,(hbx.below hV hbx.lt).cell 0,(hbx.below hV hbx.lt).cell 1⟩
    have HNR:Hid (∀ (V V':World),V.grownBy V' (Value.slice vA vn vc).ownBlock→∀ b,b<V.heap.size→¬ ownsB ws' b→V'.heap[b]?=V.heap[b]?):=fun V V' h b hb hn=>h.block b hb fun e=>hn (HOG.out b e.symm).1
    have hn0:∀ b,b<w.heap.size+4→¬ ownsB ws' b:=fun b hb e=>by have:=HG.out.base_le e;omega
    have HSB:Hid (∀ (V V':World),Below X.heap.size X V→V.grownBy V' (Value.slice vA vn vc).ownBlock→(fun U:World=>U.cell? ⟨w.heap.size+3,k,none⟩=some (.slice vA vn vc)∧U.cell? ⟨w.heap.size,2,none⟩=some (.slice (some ⟨b1,off1,none⟩) N cap)∧U.cell? ⟨Bx,0,none⟩=some (.int .i64 (i:Int))∧U.cell? ⟨Bx,1,none⟩=some (.int .i64 (y:Int))) V'):=fun V V' hV hgr=>by
     have hs:=hV.size
     have hbl:=hbx.lt
     obtain ⟨h1,h2,h3,h4⟩:=HSS.out V hV
     have hb:=HNR.out V V' hgr
     exact ⟨(World.cell?_of_block (hb _ (by show w.heap.size+3 < _;omega) (hn0 _ (by show w.heap.size+3 < _;omega)))).trans h1,(World.cell?_of_block (hb _ (by show w.heap.size < _;omega) (hn0 _ (by show w.heap.size < _;omega)))).trans h2,(World.cell?_of_block (hb _ (by show Bx < _;omega) hnBx)).trans h3,(World.cell?_of_block (hb _ (by show Bx < _;omega) hnBx)).trans h4⟩
    have HFZ:Hid (∀ (V V':World),Below X.heap.size X V→V.grownBy V' (Value.slice vA vn vc).ownBlock→V'.frozen? ⟨w.heap.size+3,k,none⟩=false):=fun V V' hV hgr=>by
     have h1:Blk V' (w.heap.size+3) 300 ws'.toArray:=(HNR.out V V' hgr _ (by have:=hV.size;omega) (hn0 _ (by omega))).trans (HG.out.below hV).blk
     exact h1.frozen k
    have j1:=p1.one
    have j2:=p0.cell 0;have j3:=p0.cell 1;have j4:=p0.cell 2;have j5:=hbx.cell 0;have j6:=hbx.cell 1
    simp only [gz9] at j2 j3 j4 j5 j6
    have hn3:1≤9 - 1 - 1:=by omega
    have i1:(0:Int)≤(k:Int):=by omega
    have i2:(k:Int)<17:=by omega
    have HP0:=Lib.hid p0
    have HP1:=Lib.hid p1
    have HP2:=Lib.hid p2
    have HFX:=Lib.hid hfX
    have HST:=Lib.hid hst
    clear hsv hk hg' p0 p1 p2 hfX hst
    gi_wp2_with fail
    refine ⟨trivial,(CallsIn.inRound l' (callsIn_wide.2 (HSLK.out _ hbX))).mono ?_⟩
    rintro e w8 ⟨rfl,hX8⟩
    clear j1 j2 j3 j4 j5 j6
    gi_wp2_with fail
    have hS:(fun U:World=>U.cell? ⟨w.heap.size+3,k,none⟩=some (.slice vA vn vc)∧U.cell? ⟨w.heap.size,2,none⟩=some (.slice (some ⟨b1,off1,none⟩) N cap)∧U.cell? ⟨Bx,0,none⟩=some (.int .i64 (i:Int))∧U.cell? ⟨Bx,1,none⟩=some (.int .i64 (y:Int))) w8.drew:=HSS.out _ hX8.drew
    refine wpIn_mono (region_HG (Q:=NoPanic _) (S:=(fun U:World=>U.cell? ⟨w.heap.size+3,k,none⟩=some (.slice vA vn vc)∧U.cell? ⟨w.heap.size,2,none⟩=some (.slice (some ⟨b1,off1,none⟩) N cap)∧U.cell? ⟨Bx,0,none⟩=some (.int .i64 (i:Int))∧U.cell? ⟨Bx,1,none⟩=some (.int .i64 (y:Int)))) (m:=11) (by kernel_rfl) ?_) NoPanic.imp
    refine anyHG_take (i:=0) (d:=24) (v:=.int .i64 (k:Int)) (by kernel_rfl) rfl (by kernel_rfl) (by kernel_rfl) (by kernel_rfl) rfl (by kernel_rfl) (fun _ _ _ h=>h) ⟨Or.inl ⟨by rfl,fun w hS=>by obtain ⟨h0,h1,h2,h3⟩:=hS;go_simp⟩,fun _=>rfl⟩ hS ?_
    simp only [ud9]
    refine anyHG_take (i:=1) (d:=25) (v:=.int .i64 (k:Int)) (by kernel_rfl) rfl (by kernel_rfl) (by kernel_rfl) (by kernel_rfl) rfl (by kernel_rfl) (fun _ _ _ h=>h) ⟨Or.inl ⟨by rfl,fun w hS=>by obtain ⟨h0,h1,h2,h3⟩:=hS;go_simp⟩,fun _=>rfl⟩ hS ?_
    simp only [ud9]
    refine anyHG_take (i:=2) (d:=26) (v:=.pointer (some ⟨w.heap.size+3,k,none⟩)) (by kernel_rfl) rfl (by kernel_rfl) (by kernel_rfl) (by kernel_rfl) rfl (by kernel_rfl) (fun _ _ _ h=>h) ⟨Or.inl ⟨by rfl,fun w hS=>by obtain ⟨h0,h1,h2,h3⟩:=hS;go_simp⟩,fun _=>rfl⟩ hS ?_
    simp only [ud9]
    refine anyHG_take (i:=3) (d:=27) (v:=.slice vA vn vc) (by kernel_rfl) rfl (by kernel_rfl) (by kernel_rfl) (by kernel_rfl) rfl (by kernel_rfl) (fun _ _ _ h=>h) ⟨Or.inl ⟨by rfl,fun w hS=>by obtain ⟨h0,h1,h2,h3⟩:=hS;go_simp⟩,fun _=>rfl⟩ hS ?_
    simp only [ud9]
    refine anyHG_take (i:=4) (d:=28) (v:=.pointer (some ⟨w.heap.size,2,none⟩)) (by kernel_rfl) rfl (by kernel_rfl) (by kernel_rfl) (by kernel_rfl) rfl (by kernel_rfl) (fun _ _ _ h=>h) ⟨Or.inl ⟨by rfl,fun w hS=>by obtain ⟨h0,h1,h2,h3⟩:=hS;go_simp⟩,fun _=>rfl⟩ hS ?_
    simp only [ud9]
    refine anyHG_take (i:=5) (d:=29) (v:=.slice (some ⟨b1,off1,none⟩) N cap) (by kernel_rfl) rfl (by kernel_rfl) (by kernel_rfl) (by kernel_rfl) rfl (by kernel_rfl) (fun _ _ _ h=>h) ⟨Or.inl ⟨by rfl,fun w hS=>by obtain ⟨h0,h1,h2,h3⟩:=hS;go_simp⟩,fun _=>rfl⟩ hS ?_
    simp only [ud9]
    refine anyHG_take (i:=6) (d:=30) (v:=.agg #[.int .i64 (i:Int),.int .i64 (y:Int)]) (by kernel_rfl) rfl (by kernel_rfl) (by kernel_rfl) (by kernel_rfl) rfl (by kernel_rfl) (fun _ _ _ h=>h) ⟨Or.inl ⟨by rfl,fun w hS=>by obtain ⟨h0,h1,h2,h3⟩:=hS;go_simp⟩,fun _=>rfl⟩ hS ?_
    simp only [ud9]
    refine anyHG_one (i:=7) (by kernel_rfl) rfl (by kernel_rfl) (by rfl) ?_
    gi_wp2_with fail
    refine ⟨trivial,(CallsIn.inRound l' (callsIn_wide.2 (HCELL.out _ hX8.drew))).mono ?_⟩
    rintro e w9 ⟨u,rfl,hu,hB9⟩
    replace hB9:=below_undrew hB9
    obtain ⟨uA,uc,rfl,_⟩:=id hu
    have hX9:=below_in hX8 hB9
    have hS9:=HSS.out _ hX9
    clear hS
    have hS:(fun U:World=>U.cell? ⟨w.heap.size+3,k,none⟩=some (.slice vA vn vc)∧U.cell? ⟨w.heap.size,2,none⟩=some (.slice (some ⟨b1,off1,none⟩) N cap)∧U.cell? ⟨Bx,0,none⟩=some (.int .i64 (i:Int))∧U.cell? ⟨Bx,1,none⟩=some (.int .i64 (y:Int))) w9:=hS9
    clear hS9
    gi_wp2
    try (refine ⟨.inr hS,?_⟩)
    refine anyHG_one (i:=8) (by kernel_rfl) rfl (by kernel_rfl) (by rfl) ?_
    have hBa:Below w9.heap.size w9 (w9.alloc (.cells #[.slice uA (cellI css ((i:Int),(y:Int))).length uc] 32)):=below_one w9 _
    have bE:Blk (w9.alloc (.cells #[.slice uA (cellI css ((i:Int),(y:Int))).length uc] 32)) w9.heap.size 32 #[.slice uA (cellI css ((i:Int),(y:Int))).length uc]:=Blk.new w9 _ _
    have hXa:=below_in hX9 hBa
    obtain ⟨wa,hwa⟩:∃ wa,(w9.alloc (.cells #[.slice uA (cellI css ((i:Int),(y:Int))).length uc] 32))=wa:=⟨_,rfl⟩
    rw [hwa] at hBa bE hXa
    clear hS
    have hS:(fun U:World=>U.cell? ⟨w.heap.size+3,k,none⟩=some (.slice vA vn vc)∧U.cell? ⟨w.heap.size,2,none⟩=some (.slice (some ⟨b1,off1,none⟩) N cap)∧U.cell? ⟨Bx,0,none⟩=some (.int .i64 (i:Int))∧U.cell? ⟨Bx,1,none⟩=some (.int .i64 (y:Int))) wa:=HSS.out _ hXa
    gi_wp2
    try rw [hwa]
    try (refine ⟨.inr hS,?_⟩)
    refine anyHG_one (i:=9) (by kernel_rfl) rfl (by kernel_rfl) (by rfl) ?_
    refine opIn_pushM (base:=w.heap.size+4) (Q:=(·<B)) (v:=.slice vA vn vc) wa _ _ rfl Tryz.underlying57 _ rfl (HROW.out _ hXa) w9.heap.size _ _ _ rfl bE (HUU.out _ _ _ hu hX9 hBa) HLEN.out (HBS.out _ hXa.size) ?_
    intro v' wb hrow hgr hor
    obtain ⟨vA2,vn2,vc2,rfl⟩:=RowG.form hrow
    clear hS
    have hS:(fun U:World=>U.cell? ⟨w.heap.size+3,k,none⟩=some (.slice vA vn vc)∧U.cell? ⟨w.heap.size,2,none⟩=some (.slice (some ⟨b1,off1,none⟩) N cap)∧U.cell? ⟨Bx,0,none⟩=some (.int .i64 (i:Int))∧U.cell? ⟨Bx,1,none⟩=some (.int .i64 (y:Int))) wb:=HSB.out _ _ hXa hgr
    gi_wp2_with fail
    try (refine ⟨.inr hS,?_⟩)
    refine anyHG_take (i:=10) (d:=34) (v:=.pointer (some ⟨w.heap.size+3,k,none⟩)) (by kernel_rfl) rfl (by kernel_rfl) (by kernel_rfl) (by kernel_rfl) rfl (by kernel_rfl) (fun _ _ _ h=>h) ⟨Or.inl ⟨by rfl,fun w hS=>by obtain ⟨h0,h1,h2,h3⟩:=hS;go_simp⟩,fun _=>rfl⟩ hS ?_
    simp only [ud9]
    refine anyHG_one (i:=11) (by kernel_rfl) rfl (by kernel_rfl) (by rfl) ?_
    have f0:=HFZ.out _ _ hXa hgr
    obtain ⟨h0,h1,h2,h3⟩:=hS
    gi_wp2
    try (refine ⟨.inl rfl,?_⟩)
    refine anyHG_done (by kernel_rfl) ?_ _
    refine NoPanic.normal ?_
    have hwbs:=hgr.size
    have hwas:=hXa.size
    have hblk:∀ b,b<X.heap.size→b≠w.heap.size+3→¬ ownsB ws' b→(wb.setCell ⟨w.heap.size+3,k,none⟩ (.slice vA2 vn2 vc2)).heap[b]?=X.heap[b]?:=fun b q1 q2 q3 =>
     ((Below.heap_setCell wb _ _ b q2).trans (HNR.out wa wb hgr b (by omega) q3)).trans (hXa.block b q1)
    have hsz2:X.heap.size≤(wb.setCell ⟨w.heap.size+3,k,none⟩ (.slice vA2 vn2 vc2)).heap.size:=by simp;omega
    obtain ⟨hGf,hFf⟩:=Gat.push (HG.out.below hXa) (by omega) (by omega) (z:=((i:Int),(y:Int))) hk17 HK.out hrow (by rw [HSV.out];exact hgr) (by rw [HSV.out];exact hor)
    have hFf2:=hFf.later hwas
    have hBf:Below w.heap.size w (wb.setCell ⟨w.heap.size+3,k,none⟩ (.slice vA2 vn2 vc2)):=(below_grown (below_in hbX hXa) hgr (by omega) (fun b e=>by have:=(HOG.out b e).2;omega)).setCell (by show w.heap.size≤w.heap.size+3;omega) _
    have hold:∀ b,ownsB ws' b→b<U.heap.size∨w7.heap.size≤b:=fun b e=>(HFX.out b e).imp (hown b) id
    have hsi:∀ n,w.heap.size+4≤n→SinceO n (ownsB ws') X (wb.setCell ⟨w.heap.size+3,k,none⟩ (.slice vA2 vn2 vc2)):=fun n hn=>⟨hsz2,fun b q1 q2 q3=>hblk b q2 (by omega) q3⟩
    have P0:=(hblk _ HP0.out.lt (by omega) (hn0 _ (by omega))).trans HP0.out
    have P1:=(hblk _ HP1.out.lt (by omega) (hn0 _ (by omega))).trans HP1.out
    have P2:=(hblk _ HP2.out.lt (by omega) (hn0 _ (by omega))).trans HP2.out
    rw [downC_snoc] at hGf
    generalize wb.setCell ⟨w.heap.size+3,k,none⟩ (.slice vA2 vn2 vc2)=wf at *
    exact ⟨ownsB (ws'.set k (.slice vA2 vn2 vc2)),hFf2,hsi _ (by omega),⟨hsz2,fun b q1 q2=>hblk b (by omega) (by omega) (fun e=>by have:=hold b e;omega)⟩,⟨⟨_,hGf,rfl⟩,HFX.out.trans hsz hFf2,hBf,P0,P1,P2,HST.out.trans HFX.out (hsi _ (Nat.le_refl _))⟩⟩
   case done =>
    rintro D xs oX X hD _ rfl ⟨⟨ws',hg',rfl⟩,hfX,hbX,p0,p1,p2,hst⟩ hKD _
    rw [HZ.out,HN1.out] at hg'
    have hLe2:=hLe.moreT (Y:=X) ((SinceO.below hB7).trans_ hst) (Nat.le_refl _) hro (D:=D) (by omega) (by omega) hKD
    clear hst hfX hG7 r0 r1 r2 hgo
    gi_wp2_with fail
    have hz:=fun (y6 y13 y14 y15 y16 y17 y18 y35:Value) hr=>hK (m - 1) [.int .i64 ((i:Int)+1),y6,y13,y14,y15,y16,y17,y18,y35] (D :: Ds) X (by omega) hr
    simp only [sets,List.setIfInBounds_toArray,List.set_cons_zero,List.set_cons_succ] at hz
    refine hz _ _ _ _ _ _ _ _ ⟨i+1,_,_,_,_,_,_,_,_,ws',congrArg (fun x:Int=>Value.int .i64 x :: _) (by push_cast;rfl),by omega,hg',hbX,p0,p1,p2,hLe2⟩
 · obtain rfl:i=N:=by omega
   have hdec:decide ((i:Int)<(i:Int))=false:=by simp
   have htk:(spanL 0 p).take i=spanL 0 p:=List.take_of_length_le (by rw [HPP.out,spanL_len];exact Nat.le_refl _)
   rw [htk] at hG
   have HWL:=Lib.hid hG.len
   obtain ⟨a0,n0,m0,e0⟩:=RowG.form (hG.row 0 (by omega))
   have d0:=slot_cell hG (n:=0) (by omega)
   rw [e0] at d0
   have x0:=q2.cell 0
   have z0:=q2.frozen 0
   obtain ⟨a1,n1,m1,e1⟩:=RowG.form (hG.row 1 (by omega))
   have d1:=slot_cell hG (n:=1) (by omega)
   rw [e1] at d1
   have x1:=q2.cell 1
   have z1:=q2.frozen 1
   obtain ⟨a2,n2,m2,e2⟩:=RowG.form (hG.row 2 (by omega))
   have d2:=slot_cell hG (n:=2) (by omega)
   rw [e2] at d2
   have x2:=q2.cell 2
   have z2:=q2.frozen 2
   obtain ⟨a3,n3,m3,e3⟩:=RowG.form (hG.row 3 (by omega))
   have d3:=slot_cell hG (n:=3) (by omega)
   rw [e3] at d3
   have x3:=q2.cell 3
   have z3:=q2.frozen 3
   obtain ⟨a4,n4,m4,e4⟩:=RowG.form (hG.row 4 (by omega))
   have d4:=slot_cell hG (n:=4) (by omega)
   rw [e4] at d4
   have x4:=q2.cell 4
   have z4:=q2.frozen 4
   obtain ⟨a5,n5,m5,e5⟩:=RowG.form (hG.row 5 (by omega))
   have d5:=slot_cell hG (n:=5) (by omega)
   rw [e5] at d5
   have x5:=q2.cell 5
   have z5:=q2.frozen 5
   obtain ⟨a6,n6,m6,e6⟩:=RowG.form (hG.row 6 (by omega))
   have d6:=slot_cell hG (n:=6) (by omega)
   rw [e6] at d6
   have x6:=q2.cell 6
   have z6:=q2.frozen 6
   obtain ⟨a7,n7,m7,e7⟩:=RowG.form (hG.row 7 (by omega))
   have d7:=slot_cell hG (n:=7) (by omega)
   rw [e7] at d7
   have x7:=q2.cell 7
   have z7:=q2.frozen 7
   obtain ⟨a8,n8,m8,e8⟩:=RowG.form (hG.row 8 (by omega))
   have d8:=slot_cell hG (n:=8) (by omega)
   rw [e8] at d8
   have x8:=q2.cell 8
   have z8:=q2.frozen 8
   obtain ⟨a9,n9,m9,e9⟩:=RowG.form (hG.row 9 (by omega))
   have d9:=slot_cell hG (n:=9) (by omega)
   rw [e9] at d9
   have x9:=q2.cell 9
   have z9:=q2.frozen 9
   obtain ⟨a10,n10,m10,e10⟩:=RowG.form (hG.row 10 (by omega))
   have d10:=slot_cell hG (n:=10) (by omega)
   rw [e10] at d10
   have x10:=q2.cell 10
   have z10:=q2.frozen 10
   obtain ⟨a11,n11,m11,e11⟩:=RowG.form (hG.row 11 (by omega))
   have d11:=slot_cell hG (n:=11) (by omega)
   rw [e11] at d11
   have x11:=q2.cell 11
   have z11:=q2.frozen 11
   obtain ⟨a12,n12,m12,e12⟩:=RowG.form (hG.row 12 (by omega))
   have d12:=slot_cell hG (n:=12) (by omega)
   rw [e12] at d12
   have x12:=q2.cell 12
   have z12:=q2.frozen 12
   obtain ⟨a13,n13,m13,e13⟩:=RowG.form (hG.row 13 (by omega))
   have d13:=slot_cell hG (n:=13) (by omega)
   rw [e13] at d13
   have x13:=q2.cell 13
   have z13:=q2.frozen 13
   obtain ⟨a14,n14,m14,e14⟩:=RowG.form (hG.row 14 (by omega))
   have d14:=slot_cell hG (n:=14) (by omega)
   rw [e14] at d14
   have x14:=q2.cell 14
   have z14:=q2.frozen 14
   obtain ⟨a15,n15,m15,e15⟩:=RowG.form (hG.row 15 (by omega))
   have d15:=slot_cell hG (n:=15) (by omega)
   rw [e15] at d15
   have x15:=q2.cell 15
   have z15:=q2.frozen 15
   obtain ⟨a16,n16,m16,e16⟩:=RowG.form (hG.row 16 (by omega))
   have d16:=slot_cell hG (n:=16) (by omega)
   rw [e16] at d16
   have x16:=q2.cell 16
   have z16:=q2.frozen 16
   simp only [gz9] at x0 x1 x2 x3 x4 x5 x6 x7 x8 x9 x10 x11 x12 x13 x14 x15 x16
   have hlit:ws = [.slice a0 n0 m0,.slice a1 n1 m1,.slice a2 n2 m2,.slice a3 n3 m3,.slice a4 n4 m4,.slice a5 n5 m5,.slice a6 n6 m6,.slice a7 n7 m7,.slice a8 n8 m8,.slice a9 n9 m9,.slice a10 n10 m10,.slice a11 n11 m11,.slice a12 n12 m12,.slice a13 n13 m13,.slice a14 n14 m14,.slice a15 n15 m15,.slice a16 n16 m16]:=by
    have h:=list17 ws HWL.out
    rw [show (List.range 17).map (slotV ws) = [slotV ws 0,slotV ws 1,slotV ws 2,slotV ws 3,slotV ws 4,slotV ws 5,slotV ws 6,slotV ws 7,slotV ws 8,slotV ws 9,slotV ws 10,slotV ws 11,slotV ws 12,slotV ws 13,slotV ws 14,slotV ws 15,slotV ws 16] from rfl,e0,e1,e2,e3,e4,e5,e6,e7,e8,e9,e10,e11,e12,e13,e14,e15,e16] at h
    exact h
   have hgs:∀ (V:World) (j:Nat) (u:Value),V.grownBy (V.setCell ⟨w.heap.size+2,j,none⟩ u) (some (w.heap.size+2)):=fun V j u=>⟨rfl,rfl,rfl,by simp,fun k _ hk=>Below.heap_setCell V _ _ k (fun e=>hk (by rw [e]))⟩
   have hgrow:U.grownBy (((((((((((((((((U.setCell ⟨w.heap.size+2,0,none⟩ (.slice a0 n0 m0)).setCell ⟨w.heap.size+2,1,none⟩ (.slice a1 n1 m1)).setCell ⟨w.heap.size+2,2,none⟩ (.slice a2 n2 m2)).setCell ⟨w.heap.size+2,3,none⟩ (.slice a3 n3 m3)).setCell ⟨w.heap.size+2,4,none⟩ (.slice a4 n4 m4)).setCell ⟨w.heap.size+2,5,none⟩ (.slice a5 n5 m5)).setCell ⟨w.heap.size+2,6,none⟩ (.slice a6 n6 m6)).setCell ⟨w.heap.size+2,7,none⟩ (.slice a7 n7 m7)).setCell ⟨w.heap.size+2,8,none⟩ (.slice a8 n8 m8)).setCell ⟨w.heap.size+2,9,none⟩ (.slice a9 n9 m9)).setCell ⟨w.heap.size+2,10,none⟩ (.slice a10 n10 m10)).setCell ⟨w.heap.size+2,11,none⟩ (.slice a11 n11 m11)).setCell ⟨w.heap.size+2,12,none⟩ (.slice a12 n12 m12)).setCell ⟨w.heap.size+2,13,none⟩ (.slice a13 n13 m13)).setCell ⟨w.heap.size+2,14,none⟩ (.slice a14 n14 m14)).setCell ⟨w.heap.size+2,15,none⟩ (.slice a15 n15 m15)).setCell ⟨w.heap.size+2,16,none⟩ (.slice a16 n16 m16)) (some (w.heap.size+2)):=(World.grownBy.trans (World.grownBy.trans (World.grownBy.trans (World.grownBy.trans (World.grownBy.trans (World.grownBy.trans (World.grownBy.trans (World.grownBy.trans (World.grownBy.trans (World.grownBy.trans (World.grownBy.trans (World.grownBy.trans (World.grownBy.trans (World.grownBy.trans (World.grownBy.trans (World.grownBy.trans (hgs _ 0 _) (hgs _ 1 _)) (hgs _ 2 _)) (hgs _ 3 _)) (hgs _ 4 _)) (hgs _ 5 _)) (hgs _ 6 _)) (hgs _ 7 _)) (hgs _ 8 _)) (hgs _ 9 _)) (hgs _ 10 _)) (hgs _ 11 _)) (hgs _ 12 _)) (hgs _ 13 _)) (hgs _ 14 _)) (hgs _ 15 _)) (hgs _ 16 _))
   have hblk:=(((((((((((((((((q2.set_ 0 (.slice a0 n0 m0)).set_ 1 (.slice a1 n1 m1)).set_ 2 (.slice a2 n2 m2)).set_ 3 (.slice a3 n3 m3)).set_ 4 (.slice a4 n4 m4)).set_ 5 (.slice a5 n5 m5)).set_ 6 (.slice a6 n6 m6)).set_ 7 (.slice a7 n7 m7)).set_ 8 (.slice a8 n8 m8)).set_ 9 (.slice a9 n9 m9)).set_ 10 (.slice a10 n10 m10)).set_ 11 (.slice a11 n11 m11)).set_ 12 (.slice a12 n12 m12)).set_ 13 (.slice a13 n13 m13)).set_ 14 (.slice a14 n14 m14)).set_ 15 (.slice a15 n15 m15)).set_ 16 (.slice a16 n16 m16))
   simp only [ud9] at hblk
   gi_wp2
   generalize (((((((((((((((((U.setCell ⟨w.heap.size+2,0,none⟩ (.slice a0 n0 m0)).setCell ⟨w.heap.size+2,1,none⟩ (.slice a1 n1 m1)).setCell ⟨w.heap.size+2,2,none⟩ (.slice a2 n2 m2)).setCell ⟨w.heap.size+2,3,none⟩ (.slice a3 n3 m3)).setCell ⟨w.heap.size+2,4,none⟩ (.slice a4 n4 m4)).setCell ⟨w.heap.size+2,5,none⟩ (.slice a5 n5 m5)).setCell ⟨w.heap.size+2,6,none⟩ (.slice a6 n6 m6)).setCell ⟨w.heap.size+2,7,none⟩ (.slice a7 n7 m7)).setCell ⟨w.heap.size+2,8,none⟩ (.slice a8 n8 m8)).setCell ⟨w.heap.size+2,9,none⟩ (.slice a9 n9 m9)).setCell ⟨w.heap.size+2,10,none⟩ (.slice a10 n10 m10)).setCell ⟨w.heap.size+2,11,none⟩ (.slice a11 n11 m11)).setCell ⟨w.heap.size+2,12,none⟩ (.slice a12 n12 m12)).setCell ⟨w.heap.size+2,13,none⟩ (.slice a13 n13 m13)).setCell ⟨w.heap.size+2,14,none⟩ (.slice a14 n14 m14)).setCell ⟨w.heap.size+2,15,none⟩ (.slice a15 n15 m15)).setCell ⟨w.heap.size+2,16,none⟩ (.slice a16 n16 m16))=Uf at *
   have hn0:∀ b,b<w.heap.size+4→¬ ownsB ws b:=fun b hb e=>by have:=hG.base_le e;omega
   have hGf:Gat B (w.heap.size+4) p css (w.heap.size+3) (flatC p (spanL 0 p)) Uf ws:=hG.kept hgrow (fun r e=>by injection e with e;subst e;exact ⟨by omega,hn0 _ (by omega),by omega⟩)
   have hBf:Below w.heap.size w Uf:=below_grown hBU hgrow (by omega) (fun b e=>by injection e with e;omega)
   have hLf:Left (w.heap.size+4) Uf Ds:=hLe.sinceT (B:=w.heap.size+4) (o:=fun _=>False) ⟨hgrow.size,fun b h1 h2 _=>hgrow.block b h2 (fun e=>by injection e with e;omega)⟩ (Nat.le_refl _) (rowO_none _)
   refine leaves_farT (B:=w.heap.size+4) (I:=fun (_:Unit) o X=>Gat B (w.heap.size+4) p css (w.heap.size+3) (flatC p (spanL 0 p)) X ws∧o=ownsB ws∧Below w.heap.size w X∧Blk X (w.heap.size+2) 300 #[.slice a0 n0 m0,.slice a1 n1 m1,.slice a2 n2 m2,.slice a3 n3 m3,.slice a4 n4 m4,.slice a5 n5 m5,.slice a6 n6 m6,.slice a7 n7 m7,.slice a8 n8 m8,.slice a9 n9 m9,.slice a10 n10 m10,.slice a11 n11 m11,.slice a12 n12 m12,.slice a13 n13 m13,.slice a14 n14 m14,.slice a15 n15 m15,.slice a16 n16 m16]) ?_ () (ownsB ws) (fun X h=>h.1.rowO) Ds _ hLf ⟨hGf,rfl,hBf,hblk⟩ ?_
   · rintro s o X Y row ⟨h1,rfl,h3,h4⟩ hg hr
     exact ⟨h1.kept hg (fun r e=>⟨by have:=(hr r e).1;omega,(hr r e).2,by have:=(hr r e).1;omega⟩),rfl,h3.grown hg h3.size (fun r e=>by have:=(hr r e).1;omega),h4.grown hg (fun e=>by have:=(hr _ e.symm).1;omega)⟩
   · rintro W' ⟨h1,_,h3,h4⟩
     refine ⟨_,results_cell_row (ty:=300) rfl _ W' (w.heap.size+2) 300 #[.slice a0 n0 m0,.slice a1 n1 m1,.slice a2 n2 m2,.slice a3 n3 m3,.slice a4 n4 m4,.slice a5 n5 m5,.slice a6 n6 m6,.slice a7 n7 m7,.slice a8 n8 m8,.slice a9 n9 m9,.slice a10 n10 m10,.slice a11 n11 m11,.slice a12 n12 m12,.slice a13 n13 m13,.slice a14 n14 m14,.slice a15 n15 m15,.slice a16 n16 m16] (0,0) _ rfl h4 Tryz.underlying300 rfl (by kernel_rfl),?_⟩
     exact ⟨ws,by rw [hlit],HWL.out,fun n hn=>by
      obtain ⟨us,q1,q2,q3⟩:=h1.row n hn
      exact ⟨us,⟨q1.1,q1.2.imp id fun ⟨g,cap,cur,e,h2,rest⟩=>⟨g,cap,cur,e,by omega,rest⟩⟩,q2,q3⟩,h3⟩
end Go.Proofs.YtknkdbincaonbaaGreatDoor.T

namespace Go.Proofs.YtknkdbincaonbaaGreatDoor.T
open Go.RowKit Go.Shelf Go.Proofs.YtknkdbincaonbaaGreatDoor.C Go.Proofs.YtknkdbincaonbaaGreatDoor.E

def Held (lo:Nat) (p:Int) (css:List (List (List UInt8))) (hb:Nat) (W:World):Prop :=
 lo≤hb∧∃ cs:List Value,Blk W hb 299 cs.toArray∧cs.length=17∧∀ s:Nat,(s:Int)<p→BytesP (fun b=>lo≤b∧b<W.heap.size∧b≠hb) W (slotV cs s) (slOf p css (s:Int))
theorem Held.lt {lo:Nat} {p:Int} {css:List (List (List UInt8))} {hb:Nat} {W:World} (h:Held lo p css hb W):hb<W.heap.size:=by
 obtain ⟨_,cs,h1,_⟩:=h
 exact h1.lt
theorem Held.keep {lo mm:Nat} {p:Int} {css:List (List (List UInt8))} {hb:Nat} {W W1 W':World} (h:Held lo p css hb W) (hW:Below W.heap.size W W1) (hm:W.heap.size≤lo+mm) (hk:Keep lo mm W1 W'):Held lo p css hb W':=by
 obtain ⟨h0,cs,h1,h2,h3⟩:=h
 have hl:=h1.lt
 have key:∀ b,lo≤b→b<W.heap.size→W'.heap[b]?=W.heap[b]?:=fun b q1 q2=>(hk.2 b q1 (by omega)).trans (hW.block b q2)
 exact ⟨h0,cs,(key hb h0 hl).trans h1,h2,fun s hs=>BytesP.imp (BytesP.keep (h3 s hs) (fun b hb=>key b hb.1 hb.2.1)) fun b hb=>⟨hb.1,Nat.lt_of_lt_of_le hb.2.1 (Nat.le_trans hW.size hk.1),hb.2.2⟩⟩
theorem Held.below {lo:Nat} {p:Int} {css:List (List (List UInt8))} {hb:Nat} {W W':World} (h:Held lo p css hb W) (hB:Below W.heap.size W W'):Held lo p css hb W' :=
 h.keep (mm:=W.heap.size) hB (by omega) (Keep.refl _ _ _)
theorem sl_xorOk {p:Int} {css:List (List (List UInt8))} (hok:DataOk p css) {s:Int} (h0:0≤s) (h1:s<p):XorOk ((lineS p p s).map (cellI css))∧xorOf ((lineS p p s).map (cellI css))=slOf p css s∧((lineS p p s).map (cellI css)).length≤1000:=by
 have hd:=dataOk_n hok
 have hin:=(sl_in hok.1.2 h0 h1).cells (togOk_grid hok.2.2) (by omega)
 have hpos:=sl_pos hok.1.2 h0 h1
 have hf1:=togOk_first hok.2.2
 have hl:∀ x∈(lineS p p s).map (cellI css),x.length=(firstC css).length:=fun x hx=>by
  obtain ⟨z,hz,rfl⟩:=List.mem_map.1 hx
  exact hin z hz
 have hp0:0<((lineS p p s).map (cellI css)).length:=by rw [List.length_map];exact hpos
 have h00:(((lineS p p s).map (cellI css))[0]?.getD []).length=(firstC css).length:=first_len hp0 hl
 refine ⟨⟨hp0,by unfold Cell;omega,fun j hj=>?_⟩,R.xorOf_uponL hpos hin,?_⟩
 · rw [h00,List.getElem?_eq_getElem hj]
   exact hl _ (List.getElem_mem hj)
 · rw [List.length_map]
   unfold lineS
   refine Nat.le_trans (List.length_filter_le _ _) (Nat.le_trans (flatC_len p hok.1.2 _) ?_)
   unfold spanL
   rw [List.length_map,List.length_range]
   omega
theorem sums1_any (p:Int) (css:List (List (List UInt8))) (hn:(firstC css).length≤1000) (hp17:p≤17) (hb s:Nat) (hs:(s:Int)<p) (lo:Nat) (w:World) (hH:Held lo p css hb w) :
 Calls Tryz.prog 285 #[.int .i64 (s:Int),.pointer (some ⟨hb,0,none⟩)] w fun e w'=>∃ u,e = .returned u∧Fresh w.heap.size w' u (slOf p css (s:Int))∧Below w.heap.size w w':=by
 obtain ⟨_,cs,h1,h2,h3⟩:=hH
 have hb3:=h3 s hs
 have hc:w.cell? ⟨hb,s,none⟩=some (slotV cs s):=by
  rw [h1.cell s,List.getElem?_toArray]
  unfold slotV
  rw [List.getElem?_eq_getElem (by omega)]
  rfl
 have HCL:=Lib.hid (clone_any (slotV cs s) (slOf p css (s:Int)) (by rw [slOf_len];omega) w (BytesP.imp hb3 fun b hb=>hb.2.1))
 obtain ⟨A,c,e,_⟩:=hb3
 rw [e] at hc HCL
 have i1:(0:Int)≤(s:Int):=by omega
 have i2:(s:Int)<17:=by omega
 clear h1 h2 h3 e hn hp17
 generalize slOf p css (s:Int)=sl at *
 go_enter Tryz.func285,Tryz.ntmps285
 go_wp2_with (go_at_call 109;refine HCL.out.mono ?_;rintro e w1 ⟨u,rfl,hF,hB1⟩)
 go_ret
 exact ⟨_,rfl,hF,hB1⟩
theorem sums_any {B:Nat} (p:Int) (v:Value) (css:List (List (List UInt8))) (w:World) (hL:Laid w) (hB:B≤w.heap.size) (hC:Cols B w v css) (hok:DataOk p css) :
 Calls Tryz.prog 265 #[.agg #[.int .i64 3,.int .i64 p,v]] w fun e w'=>∃ hb,e = .returned (.func (.func 285) #[] #[.pointer (some ⟨hb,0,none⟩)])∧Held w.heap.size p css hb w'∧Below w.heap.size w w':=by
 have hd:=dataOk_n hok
 have hmf:∀ (fn:Fn) (first cap:Array Value) (w:World),(Instr.makeFunc fn first cap).run Tryz.prog w = .ok (.func fn first cap) w:=fun _ _ _ _=>rfl
 obtain ⟨b1,off1,cap,rfl,hcap,hb1,_⟩:=hC.at_ hok.2.2.1
 obtain ⟨N,hN⟩:∃ N,css.length=N:=⟨_,rfl⟩
 have HOK:=Lib.hid hok
 have hpN:p=(N:Int):=by omega
 have hN17:N≤17:=by omega
 obtain ⟨w0,hw0⟩:∃ w0,(w.alloc (.cells #[.int .i64 3,.int .i64 p,.slice (some ⟨b1,off1,none⟩) N cap] 223)).alloc (.cells #[.slice none 0 0,.slice none 0 0,.slice none 0 0,.slice none 0 0,.slice none 0 0,.slice none 0 0,.slice none 0 0,.slice none 0 0,.slice none 0 0,.slice none 0 0,.slice none 0 0,.slice none 0 0,.slice none 0 0,.slice none 0 0,.slice none 0 0,.slice none 0 0,.slice none 0 0] 299)=w0:=⟨_,rfl⟩
 have hB0:Below w.heap.size w w0:=by rw [←hw0];exact below_two w _ _
 have s0:w0.heap.size=w.heap.size+2:=by rw [←hw0];simp
 have q0:Blk w0 w.heap.size 223 #[.int .i64 3,.int .i64 p,.slice (some ⟨b1,off1,none⟩) N cap]:=by rw [←hw0];exact (Blk.new w _ _).alloc _
 have q1:Blk w0 (w.heap.size+1) 299 (List.replicate 17 (.slice none 0 0)).toArray:=by rw [←hw0];exact Blk.second w _ _ _
 have HGA:=Lib.hid (gathered_any (B:=B) p (.slice (some ⟨b1,off1,none⟩) N cap) css w0 (hL.next hB0) (Nat.le_trans hB hB0.size) (by have h:=hC.below (hB0.mono hB);rwa [hN] at h) hok)
 rw [hN]
 rw [hN] at hcap
 have HPP:=Lib.hid hpN
 have HPR:=Lib.hid hok.1.2
 clear hC hok hd hN hcap hpN
 have k0:=q0.cell 0;have k1:=q0.cell 1;have k2:=q0.cell 2;simp only [gz9] at k0 k1 k2
 go_enter Tryz.func265,Tryz.ntmps265
 go_wp2_with fail
 refine HGA.out.mono ?_
 rintro e w1 ⟨vs,rfl,hvl,hrow,hB1⟩
 have hs1:=hB1.size
 obtain ⟨a0,n0,m0,e0⟩:=RowG.form (hrow 0 (by omega))
 obtain ⟨a1,n1,m1,e1⟩:=RowG.form (hrow 1 (by omega))
 obtain ⟨a2,n2,m2,e2⟩:=RowG.form (hrow 2 (by omega))
 obtain ⟨a3,n3,m3,e3⟩:=RowG.form (hrow 3 (by omega))
 obtain ⟨a4,n4,m4,e4⟩:=RowG.form (hrow 4 (by omega))
 obtain ⟨a5,n5,m5,e5⟩:=RowG.form (hrow 5 (by omega))
 obtain ⟨a6,n6,m6,e6⟩:=RowG.form (hrow 6 (by omega))
 obtain ⟨a7,n7,m7,e7⟩:=RowG.form (hrow 7 (by omega))
 obtain ⟨a8,n8,m8,e8⟩:=RowG.form (hrow 8 (by omega))
 obtain ⟨a9,n9,m9,e9⟩:=RowG.form (hrow 9 (by omega))
 obtain ⟨a10,n10,m10,e10⟩:=RowG.form (hrow 10 (by omega))
 obtain ⟨a11,n11,m11,e11⟩:=RowG.form (hrow 11 (by omega))
 obtain ⟨a12,n12,m12,e12⟩:=RowG.form (hrow 12 (by omega))
 obtain ⟨a13,n13,m13,e13⟩:=RowG.form (hrow 13 (by omega))
 obtain ⟨a14,n14,m14,e14⟩:=RowG.form (hrow 14 (by omega))
 obtain ⟨a15,n15,m15,e15⟩:=RowG.form (hrow 15 (by omega))
 obtain ⟨a16,n16,m16,e16⟩:=RowG.form (hrow 16 (by omega))
 have hlit:vs = [.slice a0 n0 m0,.slice a1 n1 m1,.slice a2 n2 m2,.slice a3 n3 m3,.slice a4 n4 m4,.slice a5 n5 m5,.slice a6 n6 m6,.slice a7 n7 m7,.slice a8 n8 m8,.slice a9 n9 m9,.slice a10 n10 m10,.slice a11 n11 m11,.slice a12 n12 m12,.slice a13 n13 m13,.slice a14 n14 m14,.slice a15 n15 m15,.slice a16 n16 m16]:=by
  have h:=list17 vs hvl
  rw [show (List.range 17).map (slotV vs) = [slotV vs 0,slotV vs 1,slotV vs 2,slotV vs 3,slotV vs 4,slotV vs 5,slotV vs 6,slotV vs 7,slotV vs 8,slotV vs 9,slotV vs 10,slotV vs 11,slotV vs 12,slotV vs 13,slotV vs 14,slotV vs 15,slotV vs 16] from rfl,e0,e1,e2,e3,e4,e5,e6,e7,e8,e9,e10,e11,e12,e13,e14,e15,e16] at h
  exact h
 obtain ⟨w2,hw2⟩:∃ w2,w1.alloc (.cells #[.slice a0 n0 m0,.slice a1 n1 m1,.slice a2 n2 m2,.slice a3 n3 m3,.slice a4 n4 m4,.slice a5 n5 m5,.slice a6 n6 m6,.slice a7 n7 m7,.slice a8 n8 m8,.slice a9 n9 m9,.slice a10 n10 m10,.slice a11 n11 m11,.slice a12 n12 m12,.slice a13 n13 m13,.slice a14 n14 m14,.slice a15 n15 m15,.slice a16 n16 m16] 300)=w2:=⟨_,rfl⟩
 have hB2:Below w1.heap.size w1 w2:=by rw [←hw2];exact below_one w1 _
 have q3:Blk w2 w1.heap.size 300 vs.toArray:=by rw [←hw2,hlit];exact Blk.new w1 _ _
 have hBw2:Below w.heap.size w w2:=below_in (below_in hB0 hB1) hB2
 have q0b:=(q0.below hB1 q0.lt).below hB2 (by omega)
 have q1b:=(q1.below hB1 q1.lt).below hB2 (by omega)
 have hs2:w2.heap.size=w1.heap.size+1:=by rw [←hw2];simp
 have HROW:Hid (∀ k,k<17→RowM (·<B) w2 w0.heap.size (slotV vs k) ((bySl p k (flatC p (spanL 0 p))).map (cellI css))):=fun k hk=>RowG.below (hrow k hk) hB2
 have HSX:=Lib.hid (fun (k:Nat) (hk:(k:Int)<p)=>sl_xorOk HOK.out (s:=(k:Int)) (by omega) hk)
 have HVS:Hid (∀ k,k<17→∃ A n c,slotV vs k = .slice A n c):=fun k hk=>RowG.form (hrow k hk)
 have HSLOT:Hid (∀ (U:World) (k:Nat),k<17→Blk U w1.heap.size 300 vs.toArray→U.cell? ⟨w1.heap.size,k,none⟩=some (slotV vs k)):=fun U k hk hb=>by
  rw [hb.cell k,List.getElem?_toArray]
  unfold slotV
  rw [List.getElem?_eq_getElem (by omega)]
  rfl
 rw [hlit]
 clear hrow hvl e0 e1 e2 e3 e4 e5 e6 e7 e8 e9 e10 e11 e12 e13 e14 e15 e16 k0 k1 k2
 have k1:=q0b.cell 1;simp only [gz9] at k1
 go_wp2_with fail
 clear hw2 hw0
 go_loopw [11] (fun i wr=>∃ (k:Nat) (cs:List Value),k≤N∧i = .int .i64 k∧Blk wr (w.heap.size+1) 299 cs.toArray∧Hid (cs.length=17∧(∀ j,j<k→BytesP (fun b=>w.heap.size≤b∧b<wr.heap.size∧b≠w.heap.size+1) wr (slotV cs j) (slOf p css (j:Int))))∧w2.grownBy wr (some (w.heap.size+1))) (fun i _=>N - (intOf i).toNat)
 case atStart=>exact ⟨0,List.replicate 17 (.slice none 0 0),by omega,rfl,q1b,Lib.hid ⟨by simp,fun j hj=>absurd hj (by omega)⟩,World.grownBy.refl _ _⟩
 case round =>
  obtain ⟨k,cs,hk,rfl,bh,HJ,hgr⟩:=hrel
  by_cases hlt:k<N
  · have hkp:(k:Int)<p:=by rw [HPP.out];omega
    have hdec:decide ((k:Int)<p)=true:=by simpa using hkp
    have hk17:k<17:=by omega
    obtain ⟨A,n,c,hsv⟩:=HVS.out k hk17
    have cv:=HSLOT.out wr k hk17 (q3.grown hgr (fun e=>by injection e with e;omega))
    have hrow':RowM (·<B) wr w0.heap.size (slotV vs k) ((bySl p k (flatC p (spanL 0 p))).map (cellI css)):=RowG.kept (HROW.out k hk17) hgr (by
     cases hc:(slotV vs k).ownBlock with
     | none=>exact .inl rfl
     | some x=>exact .inr (fun e=>by injection e with e;have:=RowG.own_le (HROW.out k hk17) x hc;omega)) (fun b hb e=>by injection e with e;omega)
    have hM:Many wr.heap.size wr (slotV vs k) ((lineS p p (k:Int)).map (cellI css)):=RowM.many hrow' (fun b hb _=>hb)
    obtain ⟨x1,x2,x3⟩:=HSX.out k hkp
    rw [hsv] at hM cv
    have HU:=Lib.hid (upon_any _ _ wr (Nat.le_refl _) hM x3 x1)
    rw [x2] at HU
    have hbl:=bh.lt
    have i1:(0:Int)≤(k:Int):=by omega
    have i2:(k:Int)<17:=by omega
    have HLN:Hid (cs.length=17):=HJ.out.1
    clear hM x1 x2 x3 hrow' hsv
    generalize (lineS p p (k:Int)).map (cellI css)=lx at *
    go_wp2_with fail
    refine HU.out.mono ?_
    rintro e w4 ⟨u,rfl,hu,hB4⟩
    have hs4:=hB4.size
    have bh4:=bh.below hB4 bh.lt
    have c0:w4.cell? ⟨w.heap.size+1,k,none⟩=some (slotV cs k):=by
     rw [bh4.cell k,List.getElem?_toArray]
     unfold slotV
     rw [List.getElem?_eq_getElem (by rw [HLN.out];exact hk17)]
     rfl
    have f0:=bh4.frozen k
    have HST:Hid (∀ V,V=w4.setCell ⟨w.heap.size+1,k,none⟩ u→Blk V (w.heap.size+1) 299 (cs.set k u).toArray∧Hid ((cs.set k u).length=17∧(∀ j,j<k+1→BytesP (fun b=>w.heap.size≤b∧b<V.heap.size∧b≠w.heap.size+1) V (slotV (cs.set k u) j) (slOf p css (j:Int))))∧w2.grownBy V (some (w.heap.size+1))):=fun V hV=>by
     have hVs:V.heap.size=w4.heap.size:=by rw [hV];simp
     have hKe:Keeps (fun b=>b≠w.heap.size+1) w4 V:=fun b hb=>by rw [hV];exact Below.heap_setCell w4 _ _ b (by simpa using hb)
     refine ⟨?_,⟨by rw [List.length_set];exact HLN.out,fun j hj=>?_⟩,?_⟩
     · have:=bh4.set_ k u
       rw [List.setIfInBounds_toArray] at this
       rw [hV]
       exact this
     · rw [slot_set cs k u (by rw [HLN.out];exact hk17)]
       by_cases hjk:j=k
       · subst hjk
         rw [if_pos rfl]
         obtain ⟨A5,c5,e5,h5,h6⟩:=hu
         refine ⟨A5,c5,e5,h5,fun hp=>?_⟩
         obtain ⟨b,off,e6,h7,h8,h9⟩:=h6 hp
         exact ⟨b,off,e6,⟨by omega,by rw [hVs];exact h8,by omega⟩,fun i hi=>(hKe.cell (p:=⟨b,off+i,none⟩) (show b≠w.heap.size+1 by omega)).trans (h9 i hi)⟩
       · rw [if_neg hjk]
         have h2:=HJ.out.2 j (by omega)
         have h3:=BytesP.below h2 (N:=wr.heap.size) (fun b hb=>hb.2.1) hB4
         exact (BytesP.imp h3 (Q:=fun b=>w.heap.size≤b∧b<V.heap.size∧b≠w.heap.size+1) (fun b hb=>⟨hb.1,by rw [hVs];omega,hb.2.2⟩)).keep (fun b hb=>hKe b hb.2.2)
     · refine World.grownBy.trans hgr (World.grownBy.trans (b:=w4) (grown_below hB4) ?_)
       rw [hV]
       exact ⟨rfl,rfl,rfl,by simp,fun b _ hb=>Below.heap_setCell w4 _ _ b (fun e=>hb (by rw [e]))⟩
    obtain ⟨Au,cu,rfl,_⟩:=id hu
    generalize slotV cs k=o0 at c0
    generalize slOf p css (k:Int)=sk at *
    clear hu HU hB4 HJ cv bh4
    go_wp2
    go_roundw
    case rel=>exact ⟨k+1,_,hlt,by go_num,(HST.out _ rfl).1,(HST.out _ rfl).2.1,(HST.out _ rfl).2.2⟩
    case measure=>simp [intOf];omega
  · obtain rfl:k=N:=by omega
    have hdec:decide ((k:Int)<p)=false:=by rw [HPP.out];simp
    go_wp2
    go_ret
    exact ⟨w.heap.size+1,rfl,⟨by omega,cs,bh,HJ.out.1,fun s hs=>HJ.out.2 s (by rw [HPP.out] at hs;omega)⟩,below_grown hBw2 hgr (by omega) (fun b e=>by injection e with e;omega)⟩
end Go.Proofs.YtknkdbincaonbaaGreatDoor.T
