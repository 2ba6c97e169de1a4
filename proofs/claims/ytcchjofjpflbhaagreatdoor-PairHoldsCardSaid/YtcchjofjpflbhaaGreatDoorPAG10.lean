/- -/
import Derived.Test.YtcchjofjpflbhaaGreatDoorPAG9
set_option linter.unusedVariables false
set_option linter.unusedSimpArgs false
set_option maxRecDepth 100000
set_option maxHeartbeats 8000000
namespace Go.Proofs.YtcchjofjpflbhaaGreatDoor.T
open Go.RowKit Go.Shelf Go.Maps Go.Proofs.YtcchjofjpflbhaaGreatDoor.C Go.Proofs.YtcchjofjpflbhaaGreatDoor.E Go.Proofs.YtcchjofjpflbhaaGreatDoor.Pr
attribute [local go_sem] Oper.semAt_some

def armTwo (q x y r:Int):List (Int×Int):=if r=q then [] else [(y,r),(x,r)]
def armOut (q x y:Int) (rs:List Int):List (Int×Int):=rs.flatMap (armTwo q x y)
def armTo (p x:Int):List Int→List Int
 | []=>[]
 | r :: t=>if (x+r) % p=p - 1 then [r] else r :: armTo p x t
def armL (p x y:Int) (zs:List Int):List (Int×Int):=armOut (p - 1) x y (armTo p x zs)
theorem armOut_snoc (q x y:Int) (rs:List Int) (r:Int):armOut q x y (rs ++ [r])=armOut q x y rs ++ armTwo q x y r:=by unfold armOut;rw [List.flatMap_append];simp
theorem armOut_app (q x y:Int) (rs t:List Int):armOut q x y rs <+: armOut q x y (rs ++ t):=by unfold armOut;rw [List.flatMap_append];exact List.prefix_append _ _
theorem armTo_go (p x:Int):∀ (pre t:List Int),(∀ r∈pre,(x+r) % p≠p - 1)→armTo p x (pre ++ t)=pre ++ armTo p x t
 | [],t,_=>rfl
 | r :: pre,t,h=>by
   show (if (x+r) % p=p - 1 then [r] else r :: armTo p x (pre ++ t)) = _
   rw [if_neg (h r (List.mem_cons_self ..)),armTo_go p x pre t (fun r hr=>h r (List.mem_cons_of_mem _ hr))]
   rfl
theorem armTo_all (p x:Int) (zs:List Int) (h:∀ r∈zs,(x+r) % p≠p - 1):armTo p x zs=zs:=by
 have:=armTo_go p x zs [] h
 rw [List.append_nil] at this
 rw [this]
 exact List.append_nil _
theorem armTo_pre (p x:Int) {pre zs:List Int} {r:Int} (h:∀ r∈pre,(x+r) % p≠p - 1) (hz:pre ++ [r] <+: zs):pre ++ [r] <+: armTo p x zs:=by
 obtain ⟨t,rfl⟩:=hz
 rw [List.append_assoc,armTo_go p x pre _ h]
 refine (List.prefix_append_right_inj _).2 ?_
 show [r] <+: (if (x+r) % p=p - 1 then [r] else r :: armTo p x t)
 by_cases h2:(x+r) % p=p - 1
 · rw [if_pos h2];exact List.prefix_refl _
 · rw [if_neg h2];exact List.prefix_append [r] _
theorem armTo_stop (p x:Int) {pre zs:List Int} {r:Int} (h:∀ r∈pre,(x+r) % p≠p - 1) (hr:(x+r) % p=p - 1) (hz:pre ++ [r] <+: zs):armTo p x zs=pre ++ [r]:=by
 obtain ⟨t,rfl⟩:=hz
 rw [List.append_assoc,armTo_go p x pre _ h]
 show pre ++ (if (x+r) % p=p - 1 then [r] else r :: armTo p x t) = _
 rw [if_pos hr]
theorem armOut_pre (q x y:Int) {l m:List Int} (h:l <+: m):armOut q x y l <+: armOut q x y m:=by
 obtain ⟨t,rfl⟩:=h
 exact armOut_app q x y l t
theorem armTo_is (p x:Int):∀ zs:List Int,armTo p x zs <+: zs
 | []=>List.prefix_refl _
 | r :: t=>by
   show (if (x+r) % p=p - 1 then [r] else r :: armTo p x t) <+: _
   by_cases h2:(x+r) % p=p - 1
   · rw [if_pos h2];exact List.prefix_append [r] _
   · rw [if_neg h2];exact (List.prefix_append_right_inj [r]).2 (armTo_is p x t)
theorem armOut_len (q x y:Int) (rs:List Int):(armOut q x y rs).length≤2 * rs.length:=by
 unfold armOut
 induction rs with
 | nil=>simp
 | cons r t ih=>rw [List.flatMap_cons,List.length_append,List.length_cons];have:(armTwo q x y r).length≤2:=by { unfold armTwo;split <;> simp };omega
theorem laid_grownG {W0 X Y:World} {row:Option Nat} (hL:Laid W0) (h:Laid X) (hg:X.grownBy Y row) (hr:∀ r,row=some r→W0.heap.size≤r):Laid Y :=
 ⟨h.1.grown hg (fun e=>by have:=hr _ e.symm;have:=hL.1.lt;omega),h.2.grown hg (fun e=>by have:=hr _ e.symm;have:=hL.2.lt;omega)⟩
def KeepG (lo k:Nat) (X Y:World):Prop:=Keep lo k X Y∧(Laid X→Laid Y)
theorem KeepG.trans {lo k:Nat} {X Y Z:World} (h:KeepG lo k X Y) (h':KeepG lo k Y Z):KeepG lo k X Z:=⟨h.1.trans h'.1,fun hL=>h'.2 (h.2 hL)⟩
def OkA (p x y:Int) (zs:List Int) (pre:List (Int×Int)) (e:Int×Int):Prop:=((e.1=y∨e.1=x)∧0≤e.2∧e.2<p - 1)∧pre ++ [e] <+: armL p x y zs
def encA (e:Int×Int):Array Value:=#[.agg #[.int .i64 e.1,.int .i64 e.2]]
theorem enter_arm1:∀ args W,(callFunc 101 args).run Tryz.prog W = .ok (.enter 101 args) W:=enters_of Tryz.func101 (by kernel_rfl) rfl
theorem arm1_in (n:Nat) (hn:6≤n) (l gl ga gb lo N P Q:Nat) (x y:Int) (A:Option Addr) (k c:Nat) (hQ:P=Q+1) (hp:(P:Int)∈prm) (hx:0≤x∧x<(P:Int)) (hy:0≤y∧y<(P:Int))
 (W:World) (hL:Laid W) (hgl:lo≤gl∧gl<N) (hga:lo≤ga∧ga<N) (hgb:lo≤gb∧gb<N) (hNW:N≤W.heap.size)
 (J Jx:List (Int×Int)→(Nat→Prop)→World→Prop) (o₀:(Nat→Prop)) (ho₀:∀ b,o₀ b→b<W.heap.size)
 (hJ:FarO W.heap.size J) (hJx:FarO W.heap.size Jx) (hr1:∀ s o X,J s o X→RowO o X) (hr2:∀ s o X,Jx s o X→RowO o X)
 (hY:∀ pre e o W1,J pre o W1→OkA (P:Int) x y (walkN (P:Int) ((P:Int) - 1) (x - y)) pre e→W.heap.size≤W1.heap.size→YieldAt Fence.wide (n - 1) Tryz.prog l (encA e) W1 fun e' W'=>∃ o',FreshO o o' W1∧SinceO W.heap.size o W1 W'∧((e' = .returned (.bool true)∧J (pre ++ [e]) o' W'∧KeepG lo (N - lo) W1 W')∨(e' = .returned (.bool false)∧Jx (pre ++ [e]) o' W'∧KeepG lo (N - lo) W1 W')))
 (bl:Blk W gl 90 #[.int .i64 2,.int .i64 (P:Int),.slice A k c]) (ba:Blk W ga 3 #[.int .i64 x]) (bb:Blk W gb 3 #[.int .i64 y]) (h0:J [] o₀ W) :
 CallsIn Fence.wide n Tryz.prog 101 #[.func (.yield l) #[] #[],.pointer (some ⟨gl,0,none⟩),.pointer (some ⟨ga,0,none⟩),.pointer (some ⟨gb,0,none⟩)] W fun e W'=>(∃ v,e = .returned v)∧∃ o',FreshO o₀ o' W∧((∃ ys,ys=armL (P:Int) x y (walkN (P:Int) ((P:Int) - 1) (x - y))∧J ys o' W')∨(∃ pre,pre <+: armL (P:Int) x y (walkN (P:Int) ((P:Int) - 1) (x - y))∧Jx pre o' W')):=by
 have hpb:=prm_bounds hp
 have hqe:(P:Int) - 1=(Q:Int):=by omega
 obtain ⟨d,hd⟩:∃ d,x - y=d:=⟨_,rfl⟩
 have hwd:IntKind.i64.wrap (x - y)=d:=by rw [hd];exact IntWalk.i64_in _ (by omega)
 rw [hd] at hY ⊢
 have HR:=Lib.hid (fun (V:World) (hV:Below W.heap.size W V)=>modWalk_anyT (P:Int) (Q:Int) d (fine_one.2 ⟨hp,by omega,by omega⟩) V (hL.next hV) (by omega) (by omega))
 have HLA:=Lib.hid (fun V=>Pr.last_any P Q hQ (by omega) A k c V)
 have HDI:=Lib.hid (fun (r:Int) (hr:0≤r∧r<(P:Int)) (V:World) (hV:Laid V)=>Pr.diagonal_any (P:Int) x r hp (by omega) A k c V hV)
 obtain ⟨zs,hzs⟩:∃ zs,walkN (P:Int) ((P:Int) - 1) d=zs:=⟨_,rfl⟩
 have hzl2:zs.length≤100:=by rw [←hzs,hqe,walkN_yes (fine_one.2 ⟨hp,by omega,by omega⟩),walkL_len];omega
 have HZ:=Lib.hid (show walkN (P:Int) (Q:Int) d=zs by rw [←hqe];exact hzs)
 rw [hzs] at hY ⊢
 have HP:=Lib.hid (And.intro hp (And.intro hQ (And.intro hpb (And.intro hx (And.intro hy hqe)))))
 clear hd hzs hpb hx hy hp hQ
 refine callsIn_of_wp_marks Tryz.func101 rfl trivial ?_ rfl
 simp only [Tryz.ntmps101,List.size_toArray,List.length_cons,List.length_nil,Nat.reduceAdd,Nat.reduceSub,Array.replicate_succ,Array.replicate_zero,List.push_toArray,List.append_toArray,List.nil_append,List.cons_append]
 obtain ⟨Wc,hWc⟩:∃ z,W.alloc (.cells #[.func (.yield l) #[] #[]] 94)=z:=⟨_,rfl⟩
 have hBc:Below W.heap.size W Wc:=by rw [←hWc];exact below_one W _
 have bY:Blk Wc W.heap.size 94 #[.func (.yield l) #[] #[]]:=by rw [←hWc];exact Blk.new W _ _
 have s1:Wc.heap.size=W.heap.size+1:=by rw [←hWc];simp
 have S0:=Lib.hid s1
 have bl0:=bl.below hBc bl.lt
 have ba0:=ba.below hBc ba.lt
 have bb0:=bb.below hBc bb.lt
 have hJ0:=hJ.below h0 hBc
 have hL0:=hL.next hBc
 have HSS:Hid (∀ V,Below Wc.heap.size Wc V→(fun U:World=>U.cell? ⟨gl,0,none⟩=some (.int .i64 2)∧U.cell? ⟨gl,1,none⟩=some (.int .i64 (P:Int))∧U.cell? ⟨gl,2,none⟩=some (.slice A k c)∧U.cell? ⟨ga,0,none⟩=some (.int .i64 x)∧U.cell? ⟨gb,0,none⟩=some (.int .i64 y)) V):=fun V hV=>⟨(bl0.below hV bl0.lt).cell 0,(bl0.below hV bl0.lt).cell 1,(bl0.below hV bl0.lt).cell 2,(ba0.below hV ba0.lt).cell 0,(bb0.below hV bb0.lt).cell 0⟩
 have HBC:=Lib.hid hBc
 replace HR:Hid (∀ V,Below Wc.heap.size Wc V→_):=fun V hV=>HR.out V (below_in HBC.out hV)
 clear s1 bl ba bb hL
 gi_wp2_with fail
 refine wpIn_scope_wide ?_
 gi_wp2_with fail
 (try rw [hWc])
 refine wpIn_label ?_
 have hBx:=(Below.refl Wc.heap.size Wc).drew
 have hS:(fun U:World=>U.cell? ⟨gl,0,none⟩=some (.int .i64 2)∧U.cell? ⟨gl,1,none⟩=some (.int .i64 (P:Int))∧U.cell? ⟨gl,2,none⟩=some (.slice A k c)∧U.cell? ⟨ga,0,none⟩=some (.int .i64 x)∧U.cell? ⟨gb,0,none⟩=some (.int .i64 y)) Wc.drew:=HSS.out _ hBx
 clear hWc hBc
 gi_wp2_with fail
 refine wpIn_mono (region_HF (Q:=NoPanic _) (S:=(fun U:World=>U.cell? ⟨gl,0,none⟩=some (.int .i64 2)∧U.cell? ⟨gl,1,none⟩=some (.int .i64 (P:Int))∧U.cell? ⟨gl,2,none⟩=some (.slice A k c)∧U.cell? ⟨ga,0,none⟩=some (.int .i64 x)∧U.cell? ⟨gb,0,none⟩=some (.int .i64 y))) (by kernel_rfl) ?_) NoPanic.imp
 refine tkF (i:=0) (d:=10) (v:=.pointer (some ⟨gl,0,none⟩)) (s:=hS) (c:=?_)
 simp only [ud9]
 refine tkF (i:=1) (d:=11) (v:=.pointer (some ⟨gl,1,none⟩)) (s:=hS) (c:=?_)
 simp only [ud9]
 refine tkF (i:=2) (d:=12) (v:=.int .i64 (P:Int)) (s:=hS) (c:=?_)
 simp only [ud9]
 refine tkF (i:=3) (d:=13) (v:=.agg #[.int .i64 2,.int .i64 (P:Int),.slice A k c]) (s:=hS) (c:=?_)
 simp only [ud9]
 refine tkF (i:=5) (d:=15) (v:=.int .i64 x) (s:=hS) (c:=?_)
 simp only [ud9]
 refine tkF (i:=6) (d:=16) (v:=.int .i64 y) (s:=hS) (c:=?_)
 simp only [ud9]
 refine tkF (i:=7) (d:=17) (v:=.int .i64 d) (s:=hS) (c:=?_)
 simp only [ud9]
 refine oneF (i:=4) (c:=?_)
 gi_wp2_with fail
 refine ⟨trivial,fun _=>by omega,(callsIn_wide.2 (HLA.out _)).mono ?_⟩
 rintro e v1 ⟨rfl,hB⟩
 replace hBx:=below_in hBx hB
 clear hS
 have hS:(fun U:World=>U.cell? ⟨gl,0,none⟩=some (.int .i64 2)∧U.cell? ⟨gl,1,none⟩=some (.int .i64 (P:Int))∧U.cell? ⟨gl,2,none⟩=some (.slice A k c)∧U.cell? ⟨ga,0,none⟩=some (.int .i64 x)∧U.cell? ⟨gb,0,none⟩=some (.int .i64 y)) v1:=HSS.out _ hBx
 clear hB
 gi_wp2
 try (refine ⟨hS,?_⟩)
 refine oneF (i:=8) (c:=?_)
 gi_wp2_with fail
 refine ⟨trivial,fun _=>by omega,(callsIn_wide.2 (HR.out _ hBx)).mono ?_⟩
 rintro e v2 ⟨v,rfl,hWT,hB⟩
 have hXW:=hB
 rw [HZ.out] at hWT
 have HBW:=Lib.hid hBx
 obtain ⟨gf,lb,rfl,eg,hgo⟩:=hWT
 replace hBx:=below_in hBx hB
 clear hS
 have hS:(fun U:World=>U.cell? ⟨gl,0,none⟩=some (.int .i64 2)∧U.cell? ⟨gl,1,none⟩=some (.int .i64 (P:Int))∧U.cell? ⟨gl,2,none⟩=some (.slice A k c)∧U.cell? ⟨ga,0,none⟩=some (.int .i64 x)∧U.cell? ⟨gb,0,none⟩=some (.int .i64 y)) v2:=HSS.out _ hBx
 clear hB
 gi_wp2
 try (refine ⟨hS,?_⟩)
 refine anyHF_done (by kernel_rfl) ?_ _
 refine NoPanic.normal ?_
 clear hS
 have bY1:=bY.below hBx bY.lt
 have bl1:=bl0.below hBx bl0.lt
 have ba1:=ba0.below hBx ba0.lt
 have bb1:=bb0.below hBx bb0.lt
 have hL1:=hL0.next hBx
 have hs1:=hBx.size
 have hs0:=HBW.out.size
 have hJ1:J [] o₀ v2:=hJ.below hJ0 (hBx.mono (by have:=S0.out;omega))
 have hs2:=hXW.size
 clear hBx bY bl0 ba0 bb0 hL0 hJ0 HSS HR h0
 gi_wp2_with fail
 refine wpIn_rangeT rfl (by omega) (gf:=gf) (lb:=lb) rfl trivial eg (hgo _ (by omega)) (fun h h'=>h.trans h') (fun X l' ob hl' hlX _=>Keep.putFar X (by omega) ob) (Below.refl _ _) (fun _=>rfl)
  (fun pre o X=>J (armOut (Q:Int) x y pre) o X∧FreshO o₀ o v2∧Blk X W.heap.size 94 #[.func (.yield l) #[] #[]]∧Blk X gl 90 #[.int .i64 2,.int .i64 (P:Int),.slice A k c]∧Blk X ga 3 #[.int .i64 x]∧Blk X gb 3 #[.int .i64 y]∧v2.heap.size≤X.heap.size∧(∀ r∈pre,(x+r) % (P:Int)≠(P:Int) - 1)∧Laid X)
  (fun c pre o X=>c = .exit 0∧FreshO o₀ o v2∧((∃ m,m <+: armL (P:Int) x y zs∧Jx m o X)∨J (armL (P:Int) x y zs) o X))
  ?hI ?hIx o₀ (fun b e=>by have:=ho₀ b e;have:=S0.out;omega) ⟨hJ1,FreshO.refl _ _,bY1,bl1,ba1,bb1,Nat.le_refl _,(by simp),hL1⟩ (fun pre r o a' X=>a'=({ tmps:=#[.func (.yield l) #[] #[],.pointer (some ⟨gl,0,none⟩),.pointer (some ⟨ga,0,none⟩),.pointer (some ⟨gb,0,none⟩),.pointer (some ⟨W.heap.size,0,none⟩),.int .i64 r,undef,undef,undef,undef,.pointer (some ⟨gl,0,none⟩),.pointer (some ⟨gl,1,none⟩),.int .i64 (P:Int),.agg #[.int .i64 2,.int .i64 (P:Int),.slice A k c],.int .i64 (Q:Int),.int .i64 x,.int .i64 y,.int .i64 d,.func (.func gf) #[] lb,.int .i64 r,undef,undef,undef,undef,undef,undef,undef,undef,undef,undef,undef,undef,undef,undef,undef,undef,undef,undef,undef,undef,undef,undef,undef,undef,undef,undef,undef,undef,undef],defers:=[] }:Act)∧(0≤r∧r<(P:Int))∧pre ++ [r] <+: zs) ?hAx ?assign ?row1 ?row2 ?body ?done ?stop
 case assign =>
  intro l' pre r o X K hsz ho hI hok hK
  gi_wp2
  exact hK _ _ (SinceO.refl _ _ _) (Keep.refl _ _ _) hI ⟨rfl,hok⟩
 case hI =>
  rintro s o X Y row ⟨h1,h2,h3,h4,h5,h6,h7,h8,h9⟩ hgr hr
  have s0:=S0.out
  exact ⟨hJ _ o X Y row h1 hgr (fun r e=>⟨by have:=(hr r e).1;omega,(hr r e).2⟩),h2,h3.grown hgr (fun e=>by have:=(hr _ e.symm).1;omega),h4.grown hgr (fun e=>by have:=(hr _ e.symm).1;omega),h5.grown hgr (fun e=>by have:=(hr _ e.symm).1;omega),h6.grown hgr (fun e=>by have:=(hr _ e.symm).1;omega),Nat.le_trans h7 hgr.size,h8,laid_grownG hL1 h9 hgr (fun r e=>(hr r e).1)⟩
 case hIx =>
  rintro c s o X Y row ⟨h1,h2,h3⟩ hgr hr
  have s0:=S0.out
  exact ⟨h1,h2,h3.imp (fun ⟨m,e2,h3⟩=>⟨m,e2,hJx _ o X Y row h3 hgr (fun r e=>⟨by have:=(hr r e).1;omega,(hr r e).2⟩)⟩) (fun h3=>hJ _ o X Y row h3 hgr (fun r e=>⟨by have:=(hr r e).1;omega,(hr r e).2⟩))⟩
 case hAx=>exact fun _ _ _ _ _ _ _ _ _ _ _ h=>h
 case row1=>exact fun _ _ _ h=>hr1 _ _ _ h.1
 case row2=>exact fun _ _ _ _ h=>h.2.2.elim (fun ⟨_,_,h⟩=>hr2 _ _ _ h) (fun h=>hr1 _ _ _ h)
 case body =>
  rintro l' pre r o a' X hsz ⟨hj,hfo,bY,bl,ba,bb,hge,hne,hLX⟩ ⟨rfl,⟨r0,r1⟩,hpx⟩ hln
  have s0:=S0.out
  have HRB:=Lib.hid (And.intro r0 r1)
  have HSS:Hid (∀ V,Below X.heap.size X V→(fun U:World=>U.cell? ⟨ga,0,none⟩=some (.int .i64 x)∧U.cell? ⟨gb,0,none⟩=some (.int .i64 y)) V):=fun V hV=>⟨(ba.below hV ba.lt).cell 0,(bb.below hV bb.lt).cell 0⟩
  have hBx:=(Below.refl X.heap.size X).drew
  have hS:(fun U:World=>U.cell? ⟨ga,0,none⟩=some (.int .i64 x)∧U.cell? ⟨gb,0,none⟩=some (.int .i64 y)) X.drew:=HSS.out _ hBx
  gi_wp2_with fail
  refine wpIn_mono (Q:=NoPanic (fun e a V=>e=Exit.normal∧∃ g6 g7,a=({ tmps:=#[.func (.yield l) #[] #[],.pointer (some ⟨gl,0,none⟩),.pointer (some ⟨ga,0,none⟩),.pointer (some ⟨gb,0,none⟩),.pointer (some ⟨W.heap.size,0,none⟩),.int .i64 r,.pointer (some ⟨g6,0,none⟩),.pointer (some ⟨g7,0,none⟩),undef,undef,.pointer (some ⟨gl,0,none⟩),.pointer (some ⟨gl,1,none⟩),.int .i64 (P:Int),.agg #[.int .i64 2,.int .i64 (P:Int),.slice A k c],.int .i64 (Q:Int),.int .i64 x,.int .i64 y,.int .i64 d,.func (.func gf) #[] lb,.int .i64 r,.int .i64 y,.int .i64 r,.agg #[.int .i64 y,.int .i64 r],.int .i64 x,.int .i64 r,.agg #[.int .i64 x,.int .i64 r],undef,undef,undef,undef,undef,undef,undef,undef,undef,undef,undef,undef,undef,undef,undef,undef,undef,undef,undef,undef,undef,undef,undef],defers:=[] }:Act)∧Below X.heap.size X V∧X.heap.size≤g6∧X.heap.size≤g7∧g6≠g7∧Blk V g6 31 #[.int .i64 y,.int .i64 r]∧Blk V g7 31 #[.int .i64 x,.int .i64 r])) (region_HF (S:=(fun U:World=>U.cell? ⟨ga,0,none⟩=some (.int .i64 x)∧U.cell? ⟨gb,0,none⟩=some (.int .i64 y))) (by kernel_rfl) ?_) ?_
  · skip
    refine tkF (i:=0) (d:=20) (v:=.int .i64 y) (s:=hS) (c:=?_)
    simp only [ud9]
    refine tkF (i:=1) (d:=21) (v:=.int .i64 r) (s:=hS) (c:=?_)
    simp only [ud9]
    refine tkF (i:=2) (d:=22) (v:=.agg #[.int .i64 y,.int .i64 r]) (s:=hS) (c:=?_)
    simp only [ud9]
    refine tkF (i:=3) (d:=23) (v:=.int .i64 x) (s:=hS) (c:=?_)
    simp only [ud9]
    refine tkF (i:=4) (d:=24) (v:=.int .i64 r) (s:=hS) (c:=?_)
    simp only [ud9]
    refine tkF (i:=5) (d:=25) (v:=.agg #[.int .i64 x,.int .i64 r]) (s:=hS) (c:=?_)
    simp only [ud9]
    refine Rg.anyHF_both (i:=6) (j:=7) (by kernel_rfl) rfl rfl (by rfl) (by rfl) ?c1a ?c1b
    case c1a =>
     have hB:Below X.drew.heap.size X.drew (X.drew.alloc (.cells #[.int .i64 0,.int .i64 0] 31)):=below_one X.drew _
     have b6:Blk (X.drew.alloc (.cells #[.int .i64 0,.int .i64 0] 31)) X.drew.heap.size 31 #[.int .i64 0,.int .i64 0]:=Blk.new X.drew _ _
     have g6A:X.heap.size≤X.drew.heap.size:=hBx.size
     obtain ⟨v2,he⟩:∃ z,(X.drew.alloc (.cells #[.int .i64 0,.int .i64 0] 31))=z:=⟨_,rfl⟩
     obtain ⟨g6,hg⟩:∃ z,X.drew.heap.size=z:=⟨_,rfl⟩
     rw [he] at hB b6
     rw [hg] at b6 g6A
     replace hBx:=below_in hBx hB
     clear hS
     have hS:(fun U:World=>U.cell? ⟨ga,0,none⟩=some (.int .i64 x)∧U.cell? ⟨gb,0,none⟩=some (.int .i64 y)) v2:=HSS.out _ hBx
     gi_wp2
     (try rw [hg]);(try rw [he])
     try (refine ⟨hS,?_⟩)
     clear hB he hg
     refine oneF (i:=7) (c:=?_)
     have hB:Below v2.heap.size v2 (v2.alloc (.cells #[.int .i64 0,.int .i64 0] 31)):=below_one v2 _
     have b7:Blk (v2.alloc (.cells #[.int .i64 0,.int .i64 0] 31)) v2.heap.size 31 #[.int .i64 0,.int .i64 0]:=Blk.new v2 _ _
     have g7A:X.heap.size≤v2.heap.size:=hBx.size
     obtain ⟨v3,he⟩:∃ z,(v2.alloc (.cells #[.int .i64 0,.int .i64 0] 31))=z:=⟨_,rfl⟩
     have hNE0:=b6.lt
     obtain ⟨g7,hg⟩:∃ z,v2.heap.size=z:=⟨_,rfl⟩
     rw [he] at hB b7
     rw [hg] at b7 g7A
     rw [hg] at hNE0
     have hNE:g6≠g7:=by omega
     replace b6:=b6.below hB b6.lt
     replace hBx:=below_in hBx hB
     clear hS
     have hS:(fun U:World=>U.cell? ⟨ga,0,none⟩=some (.int .i64 x)∧U.cell? ⟨gb,0,none⟩=some (.int .i64 y)) v3:=HSS.out _ hBx
     gi_wp2
     (try rw [hg]);(try rw [he])
     try (refine ⟨hS,?_⟩)
     clear hB he hg
     refine oneF (i:=8) (c:=?_)
     have k0:=b6.cell 0
     have k1:=b6.cell 1
     have f0:=b6.frozen 0
     have f1_:=b6.frozen 1
     simp only [gz9] at k0 k1
     replace b6:Blk ((v3.setCell ⟨g6,0,none⟩ (.int .i64 y)).setCell ⟨g6,1,none⟩ (.int .i64 r)) g6 31 #[.int .i64 y,.int .i64 r]:=(b6.set_ 0 _).set_ 1 _
     replace b7:Blk ((v3.setCell ⟨g6,0,none⟩ (.int .i64 y)).setCell ⟨g6,1,none⟩ (.int .i64 r)) g7 31 _:=(Blk.far (Blk.far b7 (by show g7≠g6;omega) _) (by show g7≠g6;omega) _)
     replace hBx:Below X.heap.size X ((v3.setCell ⟨g6,0,none⟩ (.int .i64 y)).setCell ⟨g6,1,none⟩ (.int .i64 r)):=(hBx.setCell (by show X.heap.size≤g6;omega) _).setCell (by show X.heap.size≤g6;omega) _
     obtain ⟨v4,he⟩:∃ z,((v3.setCell ⟨g6,0,none⟩ (.int .i64 y)).setCell ⟨g6,1,none⟩ (.int .i64 r))=z:=⟨_,rfl⟩
     rw [he] at b6 b7 hBx
     gi_wp2
     (try rw [he])
     clear he k0 k1 f0 f1_
     clear hS
     have hS:(fun U:World=>U.cell? ⟨ga,0,none⟩=some (.int .i64 x)∧U.cell? ⟨gb,0,none⟩=some (.int .i64 y)) v4:=HSS.out _ hBx
     try (refine ⟨hS,?_⟩)
     refine oneF (i:=9) (c:=?_)
     have k0:=b7.cell 0
     have k1:=b7.cell 1
     have f0:=b7.frozen 0
     have f1_:=b7.frozen 1
     simp only [gz9] at k0 k1
     replace b7:Blk ((v4.setCell ⟨g7,0,none⟩ (.int .i64 x)).setCell ⟨g7,1,none⟩ (.int .i64 r)) g7 31 #[.int .i64 x,.int .i64 r]:=(b7.set_ 0 _).set_ 1 _
     replace b6:Blk ((v4.setCell ⟨g7,0,none⟩ (.int .i64 x)).setCell ⟨g7,1,none⟩ (.int .i64 r)) g6 31 _:=(Blk.far (Blk.far b6 (by show g6≠g7;omega) _) (by show g6≠g7;omega) _)
     replace hBx:Below X.heap.size X ((v4.setCell ⟨g7,0,none⟩ (.int .i64 x)).setCell ⟨g7,1,none⟩ (.int .i64 r)):=(hBx.setCell (by show X.heap.size≤g7;omega) _).setCell (by show X.heap.size≤g7;omega) _
     obtain ⟨v5,he⟩:∃ z,((v4.setCell ⟨g7,0,none⟩ (.int .i64 x)).setCell ⟨g7,1,none⟩ (.int .i64 r))=z:=⟨_,rfl⟩
     rw [he] at b6 b7 hBx
     gi_wp2
     (try rw [he])
     clear he k0 k1 f0 f1_
     clear hS
     have hS:(fun U:World=>U.cell? ⟨ga,0,none⟩=some (.int .i64 x)∧U.cell? ⟨gb,0,none⟩=some (.int .i64 y)) v5:=HSS.out _ hBx
     try (refine ⟨hS,?_⟩)
     refine anyHF_done (by kernel_rfl) ?_ _
     refine NoPanic.normal ?_
     exact ⟨rfl,_,_,rfl,hBx,g6A,g7A,hNE,b6,b7⟩
    case c1b =>
     have hB:Below X.drew.heap.size X.drew (X.drew.alloc (.cells #[.int .i64 0,.int .i64 0] 31)):=below_one X.drew _
     have b7:Blk (X.drew.alloc (.cells #[.int .i64 0,.int .i64 0] 31)) X.drew.heap.size 31 #[.int .i64 0,.int .i64 0]:=Blk.new X.drew _ _
     have g7A:X.heap.size≤X.drew.heap.size:=hBx.size
     obtain ⟨v6,he⟩:∃ z,(X.drew.alloc (.cells #[.int .i64 0,.int .i64 0] 31))=z:=⟨_,rfl⟩
     obtain ⟨g7,hg⟩:∃ z,X.drew.heap.size=z:=⟨_,rfl⟩
     rw [he] at hB b7
     rw [hg] at b7 g7A
     replace hBx:=below_in hBx hB
     clear hS
     have hS:(fun U:World=>U.cell? ⟨ga,0,none⟩=some (.int .i64 x)∧U.cell? ⟨gb,0,none⟩=some (.int .i64 y)) v6:=HSS.out _ hBx
     gi_wp2
     (try rw [hg]);(try rw [he])
     try (refine ⟨hS,?_⟩)
     clear hB he hg
     refine oneF (i:=6) (c:=?_)
     have hB:Below v6.heap.size v6 (v6.alloc (.cells #[.int .i64 0,.int .i64 0] 31)):=below_one v6 _
     have b6:Blk (v6.alloc (.cells #[.int .i64 0,.int .i64 0] 31)) v6.heap.size 31 #[.int .i64 0,.int .i64 0]:=Blk.new v6 _ _
     have g6A:X.heap.size≤v6.heap.size:=hBx.size
     obtain ⟨v7,he⟩:∃ z,(v6.alloc (.cells #[.int .i64 0,.int .i64 0] 31))=z:=⟨_,rfl⟩
     have hNE0:=b7.lt
     obtain ⟨g6,hg⟩:∃ z,v6.heap.size=z:=⟨_,rfl⟩
     rw [he] at hB b6
     rw [hg] at b6 g6A
     rw [hg] at hNE0
     have hNE:g6≠g7:=by omega
     replace b7:=b7.below hB b7.lt
     replace hBx:=below_in hBx hB
     clear hS
     have hS:(fun U:World=>U.cell? ⟨ga,0,none⟩=some (.int .i64 x)∧U.cell? ⟨gb,0,none⟩=some (.int .i64 y)) v7:=HSS.out _ hBx
     gi_wp2
     (try rw [hg]);(try rw [he])
     try (refine ⟨hS,?_⟩)
     clear hB he hg
     refine oneF (i:=8) (c:=?_)
     have k0:=b6.cell 0
     have k1:=b6.cell 1
     have f0:=b6.frozen 0
     have f1_:=b6.frozen 1
     simp only [gz9] at k0 k1
     replace b6:Blk ((v7.setCell ⟨g6,0,none⟩ (.int .i64 y)).setCell ⟨g6,1,none⟩ (.int .i64 r)) g6 31 #[.int .i64 y,.int .i64 r]:=(b6.set_ 0 _).set_ 1 _
     replace b7:Blk ((v7.setCell ⟨g6,0,none⟩ (.int .i64 y)).setCell ⟨g6,1,none⟩ (.int .i64 r)) g7 31 _:=(Blk.far (Blk.far b7 (by show g7≠g6;omega) _) (by show g7≠g6;omega) _)
     replace hBx:Below X.heap.size X ((v7.setCell ⟨g6,0,none⟩ (.int .i64 y)).setCell ⟨g6,1,none⟩ (.int .i64 r)):=(hBx.setCell (by show X.heap.size≤g6;omega) _).setCell (by show X.heap.size≤g6;omega) _
     obtain ⟨v8,he⟩:∃ z,((v7.setCell ⟨g6,0,none⟩ (.int .i64 y)).setCell ⟨g6,1,none⟩ (.int .i64 r))=z:=⟨_,rfl⟩
     rw [he] at b6 b7 hBx
     gi_wp2
     (try rw [he])
     clear he k0 k1 f0 f1_
     clear hS
     have hS:(fun U:World=>U.cell? ⟨ga,0,none⟩=some (.int .i64 x)∧U.cell? ⟨gb,0,none⟩=some (.int .i64 y)) v8:=HSS.out _ hBx
     try (refine ⟨hS,?_⟩)
     refine oneF (i:=9) (c:=?_)
     have k0:=b7.cell 0
     have k1:=b7.cell 1
     have f0:=b7.frozen 0
     have f1_:=b7.frozen 1
     simp only [gz9] at k0 k1
     replace b7:Blk ((v8.setCell ⟨g7,0,none⟩ (.int .i64 x)).setCell ⟨g7,1,none⟩ (.int .i64 r)) g7 31 #[.int .i64 x,.int .i64 r]:=(b7.set_ 0 _).set_ 1 _
     replace b6:Blk ((v8.setCell ⟨g7,0,none⟩ (.int .i64 x)).setCell ⟨g7,1,none⟩ (.int .i64 r)) g6 31 _:=(Blk.far (Blk.far b6 (by show g6≠g7;omega) _) (by show g6≠g7;omega) _)
     replace hBx:Below X.heap.size X ((v8.setCell ⟨g7,0,none⟩ (.int .i64 x)).setCell ⟨g7,1,none⟩ (.int .i64 r)):=(hBx.setCell (by show X.heap.size≤g7;omega) _).setCell (by show X.heap.size≤g7;omega) _
     obtain ⟨v9,he⟩:∃ z,((v8.setCell ⟨g7,0,none⟩ (.int .i64 x)).setCell ⟨g7,1,none⟩ (.int .i64 r))=z:=⟨_,rfl⟩
     rw [he] at b6 b7 hBx
     gi_wp2
     (try rw [he])
     clear he k0 k1 f0 f1_
     clear hS
     have hS:(fun U:World=>U.cell? ⟨ga,0,none⟩=some (.int .i64 x)∧U.cell? ⟨gb,0,none⟩=some (.int .i64 y)) v9:=HSS.out _ hBx
     try (refine ⟨hS,?_⟩)
     refine anyHF_done (by kernel_rfl) ?_ _
     refine NoPanic.normal ?_
     exact ⟨rfl,_,_,rfl,hBx,g6A,g7A,hNE,b6,b7⟩

  intro e a V hpost
  replace hpost:=NoPanic.imp _ _ _ hpost
  revert hpost
  rintro ⟨rfl,g6,g7,rfl,hBV,g6A,g7A,hNE,b6,b7⟩
  have hLV:=hLX.next hBV
  have bYV:=bY.below hBV bY.lt
  have blV:=bl.below hBV bl.lt
  have baV:=ba.below hBV ba.lt
  have bbV:=bb.below hBV bb.lt
  have hJV:=hJ.below hj (hBV.mono (by omega))
  have hsV:=hBV.size
  have hSV:SinceO v2.heap.size o X V:=SinceO.below (hBV.mono (by omega))
  have hKV:Keep v1.heap.size (v2.heap.size - v1.heap.size) X V:=Keep.below hBV (by omega)
  have hix0:∀ W:World,(Instr.index 140 (.agg #[.int .i64 y,.int .i64 r,.int .i64 x,.int .i64 r]) (.int .i64 0)).run Tryz.prog W = .ok (.agg #[.int .i64 y,.int .i64 r]) W:=fun _=>by kernel_rfl
  have hix1:∀ W:World,(Instr.index 140 (.agg #[.int .i64 y,.int .i64 r,.int .i64 x,.int .i64 r]) (.int .i64 1)).run Tryz.prog W = .ok (.agg #[.int .i64 x,.int .i64 r]) W:=fun _=>by kernel_rfl
  have hsn:=armOut_snoc (Q:Int) x y pre r
  have h6lt:=b6.lt
  have h7lt:=b7.lt
  by_cases hrq:r=(Q:Int)
  · rw [armTwo,if_pos hrq,List.append_nil] at hsn
    have hneq:(r != (Q:Int))=false:=by simp [hrq]
    have HRQ:=Lib.hid hrq
    clear hrq
    have c60:=b6.cell 0
    have c61:=b6.cell 1
    have c70:=b7.cell 0
    have c71:=b7.cell 1
    have cl0:=blV.cell 0
    have cl1:=blV.cell 1
    have cl2:=blV.cell 2
    simp only [gz9] at c60 c61 c70 c71 cl0 cl1 cl2
    have hllt:=blV.lt
    have HFA:=Lib.hid (And.intro (And.intro blV (And.intro baV (And.intro bbV (And.intro bYV b7)))) (And.intro hLV hJV))
    clear blV baV bbV bYV b7 b6 hLV hJV
    gi_wp2_with fail
    refine wpIn_loop_rounds 3 ?_
    rw [roundsIn_succ]
    gi_wp2_with fail
    refine ⟨trivial,fun _=>by omega,(CallsIn.inRound l' (callsIn_wide.2 (HLA.out _))).mono ?_⟩
    rintro e U1 ⟨rfl,hB1⟩
    replace hB1:=below_in (below_one V (.cells #[.int .i64 y,.int .i64 r] 31)) hB1
    have bl1_:=HFA.out.1.1.below hB1 hllt
    have cl0:=bl1_.cell 0
    have cl1:=bl1_.cell 1
    have cl2:=bl1_.cell 2
    have hllt1:=bl1_.lt
    simp only [gz9] at cl0 cl1 cl2
    clear bl1_
    gi_wp2_with fail
    refine ⟨by simp,?_⟩
    gi_wp2_with fail
    rw [roundsIn_succ]
    gi_wp2_with fail
    refine ⟨trivial,fun _=>by omega,(CallsIn.inRound l' (callsIn_wide.2 (HLA.out _))).mono ?_⟩
    rintro e U2 ⟨rfl,hB2⟩
    replace hB2:=below_in (below_one U1 (.cells #[.int .i64 x,.int .i64 r] 31)) hB2
    have hBU:=below_in hB1 hB2
    clear cl0 cl1 cl2
    gi_wp2_with fail
    refine ⟨by simp,?_⟩
    gi_wp2_with fail
    rw [roundsIn_succ]
    gi_wp2_with fail
    have blU:=HFA.out.1.1.below hBU HFA.out.1.1.lt
    have baU:=HFA.out.1.2.1.below hBU HFA.out.1.2.1.lt
    have bbU:=HFA.out.1.2.2.1.below hBU HFA.out.1.2.2.1.lt
    have bYU:=HFA.out.1.2.2.2.1.below hBU HFA.out.1.2.2.2.1.lt
    have b7U:=HFA.out.1.2.2.2.2.below hBU HFA.out.1.2.2.2.2.lt
    have hLU:=HFA.out.2.1.next hBU
    have hJU:J (armOut (Q:Int) x y (pre ++ [r])) o U2:=by rw [hsn];exact hJ.below HFA.out.2.2 (hBU.mono (by omega))
    have hSU:SinceO v2.heap.size o X U2:=hSV.trans (FreshO.refl _ _) (SinceO.below (hBU.mono (by omega)))
    have hKU:Keep v1.heap.size (v2.heap.size - v1.heap.size) X U2:=hKV.trans (Keep.below hBU (by omega))
    have hff:FreshO o o X:=FreshO.refl _ _
    have hfoU:=hfo
    have hsU:=hBU.size
    clear HFA c60 c61 c70 c71 hSV hKV hj hfo bY bl ba bb HSS hB1 hB2
    have HSS:Hid (∀ V,Below U2.heap.size U2 V→(fun U:World=>U.cell? ⟨gl,0,none⟩=some (.int .i64 2)∧U.cell? ⟨gl,1,none⟩=some (.int .i64 (P:Int))∧U.cell? ⟨gl,2,none⟩=some (.slice A k c)∧U.cell? ⟨g7,0,none⟩=some (.int .i64 x)∧U.cell? ⟨g7,1,none⟩=some (.int .i64 r)) V):=fun V hV=>⟨(blU.below hV blU.lt).cell 0,(blU.below hV blU.lt).cell 1,(blU.below hV blU.lt).cell 2,(b7U.below hV b7U.lt).cell 0,(b7U.below hV b7U.lt).cell 1⟩
    have hBx:=(Below.refl U2.heap.size U2).drew
    have hS:(fun U:World=>U.cell? ⟨gl,0,none⟩=some (.int .i64 2)∧U.cell? ⟨gl,1,none⟩=some (.int .i64 (P:Int))∧U.cell? ⟨gl,2,none⟩=some (.slice A k c)∧U.cell? ⟨g7,0,none⟩=some (.int .i64 x)∧U.cell? ⟨g7,1,none⟩=some (.int .i64 r)) U2.drew:=HSS.out _ hBx
    refine wpIn_mono (region_HF (Q:=NoPanic _) (S:=(fun U:World=>U.cell? ⟨gl,0,none⟩=some (.int .i64 2)∧U.cell? ⟨gl,1,none⟩=some (.int .i64 (P:Int))∧U.cell? ⟨gl,2,none⟩=some (.slice A k c)∧U.cell? ⟨g7,0,none⟩=some (.int .i64 x)∧U.cell? ⟨g7,1,none⟩=some (.int .i64 r))) (by kernel_rfl) ?_) NoPanic.imp
    refine tkF (i:=0) (d:=43) (v:=.agg #[.int .i64 2,.int .i64 (P:Int),.slice A k c]) (s:=hS) (c:=?_)
    simp only [ud9]
    refine tkF (i:=1) (d:=44) (v:=.agg #[.int .i64 x,.int .i64 r]) (s:=hS) (c:=?_)
    simp only [ud9]
    refine tkF (i:=3) (d:=46) (v:=.agg #[.int .i64 2,.int .i64 (P:Int),.slice A k c]) (s:=hS) (c:=?_)
    simp only [ud9]
    refine oneF (i:=2) (c:=?_)
    gi_wp2_with fail
    refine ⟨trivial,fun _=>by omega,(CallsIn.inRound l' (callsIn_wide.2 (HDI.out r HRB.out _ (hLU.next (hBx.mono (by omega)))))).mono ?_⟩
    rintro e v901 ⟨rfl,hB⟩
    replace hBx:=below_in hBx hB
    clear hS
    have hS:(fun U:World=>U.cell? ⟨gl,0,none⟩=some (.int .i64 2)∧U.cell? ⟨gl,1,none⟩=some (.int .i64 (P:Int))∧U.cell? ⟨gl,2,none⟩=some (.slice A k c)∧U.cell? ⟨g7,0,none⟩=some (.int .i64 x)∧U.cell? ⟨g7,1,none⟩=some (.int .i64 r)) v901:=HSS.out _ hBx
    clear hB
    gi_wp2
    try (refine ⟨hS,?_⟩)
    refine oneF (i:=4) (c:=?_)
    gi_wp2_with fail
    refine ⟨trivial,fun _=>by omega,(CallsIn.inRound l' (callsIn_wide.2 (HLA.out _))).mono ?_⟩
    rintro e v902 ⟨rfl,hB⟩
    replace hBx:=below_in hBx hB
    clear hS
    have hS:(fun U:World=>U.cell? ⟨gl,0,none⟩=some (.int .i64 2)∧U.cell? ⟨gl,1,none⟩=some (.int .i64 (P:Int))∧U.cell? ⟨gl,2,none⟩=some (.slice A k c)∧U.cell? ⟨g7,0,none⟩=some (.int .i64 x)∧U.cell? ⟨g7,1,none⟩=some (.int .i64 r)) v902:=HSS.out _ hBx
    clear hB
    gi_wp2
    try (refine ⟨hS,?_⟩)
    refine tkF (i:=5) (d:=48) (v:=.bool (((x+r) % (P:Int)) == (Q:Int))) (s:=hS) (c:=?_)
    simp only [ud9]
    refine anyHF_done (by kernel_rfl) ?_ _
    refine NoPanic.normal ?_
    clear hS
    by_cases hz:(x+r) % (P:Int)=(Q:Int)
    · have hzb:(((x+r) % (P:Int)) == (Q:Int))=true:=beq_iff_eq.2 hz
      have hJ9:=hJ.below hJU (hBx.mono (by omega))
      have hS9:SinceO v2.heap.size o X v902:=hSU.trans hff (SinceO.below hBx)
      have hK9:Keep v1.heap.size (v2.heap.size - v1.heap.size) X v902:=hKU.trans (Keep.below hBx (by omega))
      gi_wp2_with fail
      exact ⟨o,hff,hS9,hK9,rfl,hfoU,.inr (by rw [show armL (P:Int) x y zs=armOut (Q:Int) x y (pre ++ [r]) by (unfold armL;rw [armTo_stop _ _ hne (by rw [hz];exact HP.out.2.2.2.2.2.symm) hpx,HP.out.2.2.2.2.2])];exact hJ9)⟩
    · have hzb:(((x+r) % (P:Int)) == (Q:Int))=false:=beq_eq_false_iff_ne.2 hz
      have hJ9:=hJ.below hJU (hBx.mono (by omega))
      have hS9:SinceO v2.heap.size o X v902:=hSU.trans hff (SinceO.below hBx)
      have hK9:Keep v1.heap.size (v2.heap.size - v1.heap.size) X v902:=hKU.trans (Keep.below hBx (by omega))
      have bY9:=bYU.below hBx bYU.lt
      have bl9:=blU.below hBx blU.lt
      have ba9:=baU.below hBx baU.lt
      have bb9:=bbU.below hBx bbU.lt
      have hL9:=hLU.next hBx
      have hs9:=hBx.size
      gi_wp2_with fail
      exact ⟨o,hff,hS9,hK9,hJ9,hfoU,bY9,bl9,ba9,bb9,by omega,fun s hs=>(List.mem_append.1 hs).elim (hne s) (fun hs=>by obtain rfl:=List.mem_singleton.1 hs;rw [HP.out.2.2.2.2.2];exact hz),hL9⟩
  · rw [armTwo,if_neg hrq] at hsn
    have hneq:(r != (Q:Int))=true:=by simpa using hrq
    have hrb:0≤r∧r<(P:Int) - 1:=⟨r0,by omega⟩
    have hpc:armOut (Q:Int) x y pre ++ [(y,r),(x,r)] <+: armL (P:Int) x y zs:=by
     rw [←hsn]
     unfold armL
     rw [HP.out.2.2.2.2.2]
     exact armOut_pre _ _ _ (armTo_pre _ _ hne hpx)
    have hp1:armOut (Q:Int) x y pre ++ [(y,r)] <+: armL (P:Int) x y zs:=List.IsPrefix.trans ⟨[(x,r)],by simp⟩ hpc
    have hp2:(armOut (Q:Int) x y pre ++ [(y,r)]) ++ [(x,r)] <+: armL (P:Int) x y zs:=by rw [List.append_assoc];exact hpc
    have hsn2:armOut (Q:Int) x y (pre ++ [r])=(armOut (Q:Int) x y pre ++ [(y,r)]) ++ [(x,r)]:=by rw [hsn,List.append_assoc];rfl
    have hoX:∀ b,X.heap.size≤b→¬ o b:=fun b hb e=>by have:=(hr1 _ _ _ hj).lt b e;omega
    have hYn:¬ o W.heap.size:=hfo.ne (by have:=bY.lt;omega) (fun e=>by have:=ho₀ _ e;omega)
    have hKo:∀ r,o r→r<v1.heap.size∨v1.heap.size+(v2.heap.size - v1.heap.size)≤r:=fun r e=>(hfo r e).elim (fun e=>.inl (by have:=ho₀ _ e;omega)) (fun e=>.inr (by omega))
    have hY1:=fun (U:World) (hU:J (armOut (Q:Int) x y pre) o U) (hs:W.heap.size≤U.heap.size)=>hY _ (y,r) o U hU ⟨⟨.inl rfl,hrb⟩,hp1⟩ hs
    have hY2:=fun (o':Nat→Prop) (U:World) (hU:J (armOut (Q:Int) x y pre ++ [(y,r)]) o' U) (hs:W.heap.size≤U.heap.size)=>hY _ (x,r) o' U hU ⟨⟨.inr rfl,hrb⟩,hp2⟩ hs
    simp only [encA] at hY1 hY2
    have HY1:=Lib.hid hY1
    have HY2:=Lib.hid hY2
    have HPF:=Lib.hid (And.intro hp1 (And.intro hp2 hsn2))
    clear hsn hpc hp1 hp2 hsn2 hY1 hY2 hY
    have c60:=b6.cell 0
    have c61:=b6.cell 1
    have c70:=b7.cell 0
    have c71:=b7.cell 1
    have cl0:=blV.cell 0
    have cl1:=blV.cell 1
    have cl2:=blV.cell 2
    simp only [gz9] at c60 c61 c70 c71 cl0 cl1 cl2
    have hllt:=blV.lt
    have HFA:=Lib.hid (And.intro (And.intro blV (And.intro baV (And.intro bbV (And.intro bYV b7)))) (And.intro hLV hJV))
    have HSK:=Lib.hid (And.intro hSV hKV)
    have HRB2:=Lib.hid hrb
    clear blV baV bbV bYV b7 b6 hLV hJV hSV hKV hrb
    gi_wp2_with fail
    refine wpIn_loop_rounds 3 ?_
    rw [roundsIn_succ]
    gi_wp2_with fail
    refine ⟨trivial,fun _=>by omega,(CallsIn.inRound l' (callsIn_wide.2 (HLA.out _))).mono ?_⟩
    rintro e U1 ⟨rfl,hB1⟩
    have b9:=(Blk.new V 31 #[.int .i64 y,.int .i64 r]).below hB1 (by simp)
    replace hB1:=below_in (below_one V (.cells #[.int .i64 y,.int .i64 r] 31)) hB1
    have bl1_:=HFA.out.1.1.below hB1 HFA.out.1.1.lt
    have ba1_:=HFA.out.1.2.1.below hB1 HFA.out.1.2.1.lt
    have bb1_:=HFA.out.1.2.2.1.below hB1 HFA.out.1.2.2.1.lt
    have bY1_:=HFA.out.1.2.2.2.1.below hB1 HFA.out.1.2.2.2.1.lt
    have b71_:=HFA.out.1.2.2.2.2.below hB1 HFA.out.1.2.2.2.2.lt
    have hLU1:=HFA.out.2.1.next hB1
    have hJU1:=hJ.below HFA.out.2.2 (hB1.mono (by omega))
    have hsU1:=hB1.size
    have hSU1:SinceO v2.heap.size o X U1:=HSK.out.1.trans (FreshO.refl _ _) (SinceO.below (hB1.mono (by omega)))
    have hKU1:Keep v1.heap.size (v2.heap.size - v1.heap.size) X U1:=HSK.out.2.trans (Keep.below hB1 (by omega))
    obtain ⟨fn,tmps,asg,bdy,hy,hRr⟩:=YieldAt.deep (m:=n - 1 - 1 - 1) (HY1.out U1 hJU1 (by omega))
    have hn3:1≤n - 1 - 1:=by omega
    have cY:=bY1_.one
    have c90:=b9.cell 0
    have c91:=b9.cell 1
    simp only [gz9] at c90 c91
    clear cl0 cl1 cl2
    gi_wp2_with fail
    refine hRr.mono ?_
    rintro e W3 ⟨o',hf3,hS3,hres⟩
    have hfo':=hfo.trans (show v2.heap.size≤U1.heap.size by omega) hf3
    have hff':FreshO o o' X:=hf3.later (by omega)
    have hs3:=hS3.1
    have hSW3:SinceO v2.heap.size o X W3:=hSU1.trans (FreshO.refl _ _) (hS3.less (by omega))
    have hKW3:Keep v1.heap.size (v2.heap.size - v1.heap.size) X W3:=hKU1.trans (hS3.keep (by omega) (by omega) hKo)
    rcases hres with ⟨rfl,hJ3,hk3⟩ | ⟨rfl,hJx3,hk3⟩
    · have blW:=hk3.1.blk bl1_ hgl.1 (by omega)
      have baW:=hk3.1.blk ba1_ hga.1 (by omega)
      have bbW:=hk3.1.blk bb1_ hgb.1 (by omega)
      have bYW:=hS3.blk bY1_ (Nat.le_refl _) hYn
      have b7W:=hS3.blk b71_ (by omega) (hoX _ g7A)
      have hLW:=hk3.2 hLU1
      have cl0:=blW.cell 0
      have cl1:=blW.cell 1
      have cl2:=blW.cell 2
      simp only [gz9] at cl0 cl1 cl2
      have hllt2:=blW.lt
      have HFB:=Lib.hid (And.intro (And.intro blW (And.intro baW (And.intro bbW (And.intro bYW b7W)))) (And.intro hLW hJ3))
      have HSK2:=Lib.hid (And.intro hSW3 hKW3)
      have hYn':¬ o' W.heap.size:=hf3.ne (by have:=bY1_.lt;omega) hYn
      have h7n':¬ o' g7:=hf3.ne (by have:=b71_.lt;omega) (hoX _ g7A)
      clear hy hRr cY c90 c91 b9 bl1_ ba1_ bb1_ bY1_ b71_ hLU1 hJU1 hSU1 hKU1 blW baW bbW bYW b7W hLW hJ3 hSW3 hKW3 hS3 hk3
      gi_wp2_with fail
      rw [roundsIn_succ]
      gi_wp2_with fail
      refine ⟨trivial,(CallsIn.inRound l' (callsIn_wide.2 (HLA.out _))).mono ?_⟩
      rintro e U3 ⟨rfl,hB3⟩
      have b9:=(Blk.new W3 31 #[.int .i64 x,.int .i64 r]).below hB3 (by simp)
      replace hB3:=below_in (below_one W3 (.cells #[.int .i64 x,.int .i64 r] 31)) hB3
      have bl3_:=HFB.out.1.1.below hB3 HFB.out.1.1.lt
      have ba3_:=HFB.out.1.2.1.below hB3 HFB.out.1.2.1.lt
      have bb3_:=HFB.out.1.2.2.1.below hB3 HFB.out.1.2.2.1.lt
      have bY3_:=HFB.out.1.2.2.2.1.below hB3 HFB.out.1.2.2.2.1.lt
      have b73_:=HFB.out.1.2.2.2.2.below hB3 HFB.out.1.2.2.2.2.lt
      have hLU3:=HFB.out.2.1.next hB3
      have hJU3:=hJ.below HFB.out.2.2 (hB3.mono (by omega))
      have hsU3:=hB3.size
      have hSU3:SinceO v2.heap.size o X U3:=HSK2.out.1.trans hff' (SinceO.below (hB3.mono (by omega)))
      have hKU3:Keep v1.heap.size (v2.heap.size - v1.heap.size) X U3:=HSK2.out.2.trans (Keep.below hB3 (by omega))
      have hKo':∀ r,o' r→r<v1.heap.size∨v1.heap.size+(v2.heap.size - v1.heap.size)≤r:=fun r e=>(hfo' r e).elim (fun e=>.inl (by have:=ho₀ _ e;omega)) (fun e=>.inr (by omega))
      obtain ⟨fn',tmps',asg',bdy',hy',hRr'⟩:=YieldAt.deep (m:=n - 1 - 1 - 1) (HY2.out o' U3 hJU3 (by omega))
      have cY:=bY3_.one
      have c90:=b9.cell 0
      have c91:=b9.cell 1
      simp only [gz9] at c90 c91
      clear cl0 cl1 cl2
      gi_wp2_with fail
      refine hRr'.mono ?_
      rintro e W5 ⟨o5,hf5,hS5,hres⟩
      have hfoU:=hfo'.trans (show v2.heap.size≤U3.heap.size by omega) hf5
      have hff:FreshO o o5 X:=hf3.trans (show U1.heap.size≤U3.heap.size by omega) hf5 |>.later (by omega)
      have hs5:=hS5.1
      have hSU:SinceO v2.heap.size o X W5:=hSU3.trans hff' (hS5.less (by omega))
      have hKU:Keep v1.heap.size (v2.heap.size - v1.heap.size) X W5:=hKU3.trans (hS5.keep (by omega) (by omega) hKo')
      rcases hres with ⟨rfl,hJ5,hk5⟩ | ⟨rfl,hJx5,hk5⟩
      · have blU:=hk5.1.blk bl3_ hgl.1 (by omega)
        have baU:=hk5.1.blk ba3_ hga.1 (by omega)
        have bbU:=hk5.1.blk bb3_ hgb.1 (by omega)
        have bYU:=hS5.blk bY3_ (Nat.le_refl _) hYn'
        have b7U:=hS5.blk b73_ (by omega) h7n'
        have hLU:=hk5.2 hLU3
        have hJU:J (armOut (Q:Int) x y (pre ++ [r])) o5 W5:=by rw [HPF.out.2.2];exact hJ5
        clear hy' hRr' cY c90 c91 b9 bl3_ ba3_ bb3_ bY3_ b73_ hLU3 hJU3 hSU3 hKU3 hS5 hk5 hJ5 HFA HFB HSK HSK2 bY bl ba bb HSS hj
        gi_wp2_with fail
        rw [roundsIn_succ]
        gi_wp2_with fail
        clear hn3
        have HSS:Hid (∀ V,Below W5.heap.size W5 V→(fun U:World=>U.cell? ⟨gl,0,none⟩=some (.int .i64 2)∧U.cell? ⟨gl,1,none⟩=some (.int .i64 (P:Int))∧U.cell? ⟨gl,2,none⟩=some (.slice A k c)∧U.cell? ⟨g7,0,none⟩=some (.int .i64 x)∧U.cell? ⟨g7,1,none⟩=some (.int .i64 r)) V):=fun V hV=>⟨(blU.below hV blU.lt).cell 0,(blU.below hV blU.lt).cell 1,(blU.below hV blU.lt).cell 2,(b7U.below hV b7U.lt).cell 0,(b7U.below hV b7U.lt).cell 1⟩
        have hBx:=(Below.refl W5.heap.size W5).drew
        have hS:(fun U:World=>U.cell? ⟨gl,0,none⟩=some (.int .i64 2)∧U.cell? ⟨gl,1,none⟩=some (.int .i64 (P:Int))∧U.cell? ⟨gl,2,none⟩=some (.slice A k c)∧U.cell? ⟨g7,0,none⟩=some (.int .i64 x)∧U.cell? ⟨g7,1,none⟩=some (.int .i64 r)) W5.drew:=HSS.out _ hBx
        refine wpIn_mono (region_HF (Q:=NoPanic _) (S:=(fun U:World=>U.cell? ⟨gl,0,none⟩=some (.int .i64 2)∧U.cell? ⟨gl,1,none⟩=some (.int .i64 (P:Int))∧U.cell? ⟨gl,2,none⟩=some (.slice A k c)∧U.cell? ⟨g7,0,none⟩=some (.int .i64 x)∧U.cell? ⟨g7,1,none⟩=some (.int .i64 r))) (by kernel_rfl) ?_) NoPanic.imp
        refine tkF (i:=0) (d:=43) (v:=.agg #[.int .i64 2,.int .i64 (P:Int),.slice A k c]) (s:=hS) (c:=?_)
        simp only [ud9]
        refine tkF (i:=1) (d:=44) (v:=.agg #[.int .i64 x,.int .i64 r]) (s:=hS) (c:=?_)
        simp only [ud9]
        refine tkF (i:=3) (d:=46) (v:=.agg #[.int .i64 2,.int .i64 (P:Int),.slice A k c]) (s:=hS) (c:=?_)
        simp only [ud9]
        refine oneF (i:=2) (c:=?_)
        gi_wp2_with fail
        refine ⟨trivial,fun _=>by omega,(CallsIn.inRound l' (callsIn_wide.2 (HDI.out r HRB.out _ (hLU.next (hBx.mono (by omega)))))).mono ?_⟩
        rintro e v951 ⟨rfl,hB⟩
        replace hBx:=below_in hBx hB
        clear hS
        have hS:(fun U:World=>U.cell? ⟨gl,0,none⟩=some (.int .i64 2)∧U.cell? ⟨gl,1,none⟩=some (.int .i64 (P:Int))∧U.cell? ⟨gl,2,none⟩=some (.slice A k c)∧U.cell? ⟨g7,0,none⟩=some (.int .i64 x)∧U.cell? ⟨g7,1,none⟩=some (.int .i64 r)) v951:=HSS.out _ hBx
        clear hB
        gi_wp2
        try (refine ⟨hS,?_⟩)
        refine oneF (i:=4) (c:=?_)
        gi_wp2_with fail
        refine ⟨trivial,fun _=>by omega,(CallsIn.inRound l' (callsIn_wide.2 (HLA.out _))).mono ?_⟩
        rintro e v952 ⟨rfl,hB⟩
        replace hBx:=below_in hBx hB
        clear hS
        have hS:(fun U:World=>U.cell? ⟨gl,0,none⟩=some (.int .i64 2)∧U.cell? ⟨gl,1,none⟩=some (.int .i64 (P:Int))∧U.cell? ⟨gl,2,none⟩=some (.slice A k c)∧U.cell? ⟨g7,0,none⟩=some (.int .i64 x)∧U.cell? ⟨g7,1,none⟩=some (.int .i64 r)) v952:=HSS.out _ hBx
        clear hB
        gi_wp2
        try (refine ⟨hS,?_⟩)
        refine tkF (i:=5) (d:=48) (v:=.bool (((x+r) % (P:Int)) == (Q:Int))) (s:=hS) (c:=?_)
        simp only [ud9]
        refine anyHF_done (by kernel_rfl) ?_ _
        refine NoPanic.normal ?_
        clear hS
        by_cases hz:(x+r) % (P:Int)=(Q:Int)
        · have hzb:(((x+r) % (P:Int)) == (Q:Int))=true:=beq_iff_eq.2 hz
          have hJ9:=hJ.below hJU (hBx.mono (by omega))
          have hS9:SinceO v2.heap.size o X v952:=hSU.trans hff (SinceO.below hBx)
          have hK9:Keep v1.heap.size (v2.heap.size - v1.heap.size) X v952:=hKU.trans (Keep.below hBx (by omega))
          gi_wp2_with fail
          exact ⟨o5,hff,hS9,hK9,rfl,hfoU,.inr (by rw [show armL (P:Int) x y zs=armOut (Q:Int) x y (pre ++ [r]) by (unfold armL;rw [armTo_stop _ _ hne (by rw [hz];exact HP.out.2.2.2.2.2.symm) hpx,HP.out.2.2.2.2.2])];exact hJ9)⟩
        · have hzb:(((x+r) % (P:Int)) == (Q:Int))=false:=beq_eq_false_iff_ne.2 hz
          have hJ9:=hJ.below hJU (hBx.mono (by omega))
          have hS9:SinceO v2.heap.size o X v952:=hSU.trans hff (SinceO.below hBx)
          have hK9:Keep v1.heap.size (v2.heap.size - v1.heap.size) X v952:=hKU.trans (Keep.below hBx (by omega))
          have bY9:=bYU.below hBx bYU.lt
          have bl9:=blU.below hBx blU.lt
          have ba9:=baU.below hBx baU.lt
          have bb9:=bbU.below hBx bbU.lt
          have hL9:=hLU.next hBx
          have hs9:=hBx.size
          gi_wp2_with fail
          exact ⟨o5,hff,hS9,hK9,hJ9,hfoU,bY9,bl9,ba9,bb9,by omega,fun s hs=>(List.mem_append.1 hs).elim (hne s) (fun hs=>by obtain rfl:=List.mem_singleton.1 hs;rw [HP.out.2.2.2.2.2];exact hz),hL9⟩
      · have HFIN:=Lib.hid (And.intro hSU (And.intro hKU hJx5))
        clear hy' hRr' cY c90 c91 b9 bl3_ ba3_ bb3_ bY3_ b73_ hLU3 hJU3 hSU3 hKU3 hS5 hk5 hJx5 hSU hKU
        gi_wp2_with fail
        exact ⟨o5,hff,HFIN.out.1,HFIN.out.2.1,rfl,hfoU,.inl ⟨_,HPF.out.2.1,HFIN.out.2.2⟩⟩
    · have HFIN:=Lib.hid (And.intro hSW3 (And.intro hKW3 hJx3))
      clear hy hRr cY c90 c91 b9 bl1_ ba1_ bb1_ bY1_ b71_ hLU1 hJU1 hSU1 hKU1 hS3 hk3 hJx3 hSW3 hKW3
      gi_wp2_with fail
      exact ⟨o',hff',HFIN.out.1,HFIN.out.2.1,rfl,hfo',.inl ⟨_,HPF.out.1,HFIN.out.2.2⟩⟩
 case done =>
  rintro D xs o X hD hfo rfl ⟨hj,_,_,_,_,_,_,hne,_⟩ hK hne2
  gi_wp2
  rw [Exit.noGoto_normal]
  refine ⟨by simp,.inl ⟨_,_,rfl,run_takeDeferred hK,?_⟩⟩
  exact ⟨_,results_none rfl _ _ _,⟨_,rfl⟩,o,hfo.later (by have:=S0.out;omega),.inl ⟨_,rfl,by rw [show armL (P:Int) x y xs=armOut (Q:Int) x y xs by (unfold armL;rw [armTo_all _ _ _ hne,HP.out.2.2.2.2.2])];exact hJ.put hj (by have:=S0.out;omega) hne2 _⟩⟩
 case stop =>
  rintro D c pre o X hD hfo hSp ⟨rfl,_,hst⟩ hK hne
  gi_wp2
  rw [Exit.noGoto_normal]
  refine ⟨by simp,.inl ⟨_,_,rfl,run_takeDeferred hK,?_⟩⟩
  exact ⟨_,results_none rfl _ _ _,⟨_,rfl⟩,o,hfo.later (by have:=S0.out;omega),hst.symm.imp (fun hjx=>⟨_,rfl,hJ.put hjx (by have:=S0.out;omega) hne _⟩) (fun ⟨m,hm,hjx⟩=>⟨_,hm,hJx.put hjx (by have:=S0.out;omega) hne _⟩)⟩
end Go.Proofs.YtcchjofjpflbhaaGreatDoor.T
