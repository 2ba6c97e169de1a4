/- -/
import Derived.Test.YtknkdbincaonbaaGreatDoorCCG8
import Derived.Test.YtknkdbincaonbaaGreatDoorCCMA
import Derived.Deep.AppendLies
import Derived.RangeFuncNested
import Derived.Test.YtknkdbincaonbaaGreatDoorCCG7
set_option linter.unusedVariables false
set_option linter.unusedSimpArgs false
set_option maxRecDepth 100000
set_option maxHeartbeats 4000000
namespace Go.Proofs.YtknkdbincaonbaaGreatDoor
open Go.RowKit Go.Shelf

theorem Tryz.infoPlace:(Tryz.prog.info? 207).map (fun i=>(i.zero,i.size,i.bytes))=some (some (.agg #[.int .i64 0,.int .i64 0]),2,16):=by kernel_rfl
theorem ahead_of_not {a b:Int×Int} (hne:a≠b) (h:aheadB b a=false):aheadB a b=true:=by
 obtain ⟨a1,a2⟩:=a
 obtain ⟨b1,b2⟩:=b
 unfold aheadB at *
 simp at *
 omega
theorem strict_of {s:List (Int×Int)} (hn:s.Nodup) (h:s.Pairwise (fun a b=>aheadB b a=false)):s.Pairwise (fun a b=>aheadB a b=true) :=
 (List.pairwise_and_iff.2 ⟨hn,h⟩).imp fun ⟨h1,h2⟩=>ahead_of_not h1 h2
theorem OwnP.take_next {w:World} {base:Nat} {v:Value} {s:List (Int×Int)} {j:Nat} (hj:j<s.length) (h:w.ownsRow base 207 2 v ((s.take j).length+1) (codeCells (s.take j) ++ [.int .i64 (s[j]).1,.int .i64 (s[j]).2])):OwnP w base v (s.take (j+1)):=by
 unfold OwnP
 rw [List.take_succ_eq_append_getElem hj,List.length_append]
 unfold codeCells at *
 rw [List.flatMap_append]
 exact h
theorem OwnP.below {w w':World} {base:Nat} {v:Value} {l:List (Int×Int)} (h:OwnP w base v l) (hb:Below w.heap.size w w'):OwnP w' base v l:=by
 refine ⟨h.1,?_⟩
 rcases h.2 with h1 | ⟨g,cap,cur,e,h2,hg,rest⟩
 · exact .inl h1
 · exact .inr ⟨g,cap,cur,e,h2,(hb.block g (Array.getElem?_eq_some_iff.1 hg).1).trans hg,rest⟩
theorem OwnP.own_le {w:World} {base:Nat} {v:Value} {l:List (Int×Int)} (h:OwnP w base v l):∀ k,v.ownBlock=some k→base≤k:=fun k e=>(World.ownsRow.lt h k e).1
theorem OwnP.less {w:World} {base base':Nat} {v:Value} {l:List (Int×Int)} (h:OwnP w base v l) (hb:base'≤base):OwnP w base' v l:=⟨h.1,h.2.imp id fun ⟨g,cap,cur,h1,h2,h3⟩=>⟨g,cap,cur,h1,Nat.le_trans hb h2,h3⟩⟩

theorem odd_any (W:World) (base:Nat) (v:Value) (l:List (Int×Int)) (hne:l≠[]) (hnd:l.Nodup) (hlen:l.length≤1000) (hbase:base≤W.heap.size) (hown:OwnP W base v l) :
 Calls Tryz.prog 214 #[.func (.func 215) #[] #[],v] W fun e w'=>∃ u s,e = .returned u∧s.Perm l∧s.Pairwise (fun a b=>aheadB a b=true)∧OwnP w' W.heap.size u s∧Below base W w':=by
 have hmf:=make_func
 have hB0:=below_one W (.cells #[.func (.func 215) #[] #[]] 238)
 have bF:=Blk.new W 238 #[.func (.func 215) #[] #[]]
 have hdiff:some W.heap.size≠v.ownBlock:=fun e=>by have:=(World.ownsRow.lt hown _ e.symm).2;omega
 have HS:=Lib.hid (sort_any _ W.heap.size base v l hne hlen (hown.below hB0) bF.one hdiff)
 have HL:=Lib.hid hlen
 have HN:=Lib.hid hnd
 clear hown hne hdiff hnd hlen
 go_enter Tryz.func214,Tryz.ntmps214
 go_wp2_with (go_at_call 247;refine HS.out.mono ?_;rintro e w1 ⟨rfl,s,g,cap,rfl,hcap,hbg,hgl,hgh,hperm,hsort,hcells,hgr⟩)
 have hN:s.length=l.length:=hperm.length_eq
 have hns:s.Nodup:=hperm.nodup_iff.2 HN.out
 have HP:=Lib.hid hperm
 have HT:=Lib.hid (strict_of hns hsort)
 have hW1:W.heap.size<w1.heap.size:=by have:=hgr.size;simp at this;omega
 have hg1:g<w1.heap.size:=by simp at hgl;omega
 have bF1:Blk w1 W.heap.size 238 #[.func (.func 215) #[] #[]]:=bF.grown hgr (fun e=>by injection e with e;omega)
 have hB1:Below base W w1:=below_grown (hB0.mono hbase) hgr (by simp;omega) (fun k e=>by injection e with e;omega)
 have HC:Hid (∀ (j:Nat) (hj:j<s.length),w1.cell? ⟨g,j * 2,none⟩=some (.int .i64 (s[j]).1)∧w1.cell? ⟨g,j * 2+1,none⟩=some (.int .i64 (s[j]).2)):=fun j hj=>by rw [Nat.mul_comm];exact hcells j hj
 clear HS hsort hperm hcells hgr hgl bF hB0
 obtain ⟨n,hn⟩:∃ n,l.length=n:=⟨_,rfl⟩
 rw [hn] at hN hcap HL
 rw [hn]
 have hL:=HL.out
 clear hn HL
 have HSL:=Lib.hid hN
 clear hN
 go_loopw [5,14] (fun v i wr=>∃ j:Nat,j≤n∧i = .int .i64 j∧(j=0→v = .slice none 0 0)∧OwnP wr w1.heap.size v (s.take j)∧Below w1.heap.size w1 wr) (fun _ i _=>n - (intOf i).toNat)
 case atStart=>exact ⟨0,by omega,rfl,fun _=>rfl,ownP_nil _ _,Below.refl _ _⟩
 case round =>
  obtain ⟨j,hj,rfl,h0,hown,hB⟩:=hrel
  by_cases hlt:j<n
  · have hdec:decide ((j:Int)<(n:Int))=true:=by simp;omega
    have hjs:j<s.length:=by rw [HSL.out];exact hlt
    obtain ⟨x0,x1⟩:=HC.out j hjs
    replace x0:=nextc x0 hB
    replace x1:=nextc x1 hB
    have HNX:=Lib.hid (fun W v2 h=>OwnP.take_next (w:=W) (base:=w1.heap.size) (v:=v2) hjs h)
    have hlen:(s.take j).length=j:=by rw [List.length_take];omega
    have HLT:=Lib.hid hlen
    have HA:Hid (∀ (i:Nat) (hi:i<s.length),i<j→aheadB s[i] s[j]=true):=fun i hi hij=>(List.pairwise_iff_getElem.1 HT.out) i j hi hjs hij
    generalize hx:s[j]=x at *
    obtain ⟨px,py⟩:=x
    have bX:=Blk.new wr 207 #[.int .i64 px,.int .i64 py]
    have hBx:=below_one wr (.cells #[.int .i64 px,.int .i64 py] 207)
    have bF2:=(bF1.below hB hW1).below hBx (by have:=hB.size;omega)
    have hownx:=hown.below hBx
    have HO:Hid (OwnP ((wr.alloc (.cells #[.int .i64 px,.int .i64 py] 207)).alloc (.cells #[.int .i64 px,.int .i64 py] 207)).drew w1.heap.size u5 (s.take j)):=hownx.below (below_one _ _).drew
    have HU:Hid (Blk ((wr.alloc (.cells #[.int .i64 px,.int .i64 py] 207)).alloc (.cells #[.int .i64 px,.int .i64 py] 207)).drew (wr.heap.size+1) 207 #[.int .i64 px,.int .i64 py]):=Blk.second wr _ _ _
    have HBB:Hid (Below w1.heap.size w1 ((wr.alloc (.cells #[.int .i64 px,.int .i64 py] 207)).alloc (.cells #[.int .i64 px,.int .i64 py] 207)).drew):=(below_in hB (below_two wr _ _)).drew
    have HOL:=Lib.hid hown.own_le
    rcases Nat.eq_zero_or_pos j with hj0 | hj0
    · subst hj0
      obtain rfl:=h0 rfl
      have hd0:decide ((0:Int)<0)=false:=by decide
      clear HA
      go_upto_region 7 with fail
      go_region
      go_wp2_with (at_builtin;refine wpList_code _ rfl _ _ 209 207 (.agg #[.int .i64 0,.int .i64 0]) 16 rfl Tryz.underlying209 Tryz.infoPlace rfl w1.heap.size _ _ rfl _ HO.out _ 1 _ _ rfl HU.out (by rw [HLT.out];omega) (by omega) (by have:=hB.size;simp;omega) ?_;intro v2 w2 hown2 hgrow2)
      go_roundw
      case rel=>exact ⟨_,hlt,by go_num,fun h=>by omega,HNX.out _ _ hown2,below_grown HBB.out hgrow2 (by have:=hB.size;simp;omega) HOL.out⟩
      case measure=>simp [intOf];omega
    · have hform:∃ g2 cap2,u5 = .slice (some ⟨g2,0,none⟩) j cap2∧w1.heap.size≤g2∧g2<wr.heap.size:=by
       have:=World.ownsRow.form hown (by rw [hlen];exact hj0)
       rwa [hlen] at this
      obtain ⟨g2,cap2,rfl,hg2,hgl2⟩:=hform
      obtain ⟨m,hm⟩:∃ m:Nat,j=m+1:=⟨j - 1,by omega⟩
      have hms:m<s.length:=by omega
      have hba:=HA.out m hms (by omega)
      have hown':=hown
      unfold OwnP at hown'
      rw [hlen] at hown'
      have hl0:=World.ownsRow.cellAt hown' (m * 2) (by omega)
      have hl1:=World.ownsRow.cellAt hown' (m * 2+1) (by omega)
      obtain ⟨k0,k1⟩:=codeCells_at (s.take j) m (by rw [hlen];omega)
      rw [Nat.mul_comm 2 m,List.getElem_take] at k0 k1
      rw [k0] at hl0
      rw [k1] at hl1
      generalize s[m]=q at hba hl0 hl1
      obtain ⟨lx,ly⟩:=q
      have HBE:=Lib.hid (fun W=>before_any lx ly px py W)
      rw [hba] at HBE
      have hwr:IntKind.i64.wrap ((j:Int) - 1)=(m:Int):=by rw [IntKind.wrap_i64];omega
      have hwr2:wrap64 ((j:Int) - 1)=(m:Int):=by unfold wrap64;omega
      have i1:(0:Int)≤(m:Int):=by omega
      have i2:(m:Int)<(j:Int):=by omega
      have hd0:decide (0<(j:Int))=true:=by simp;omega
      clear k0 k1 hown' hm hba HA hms h0 HO HU HBB
      have y0:=bF2.one
      have y1:=bX.cell 0
      have y2:=bX.cell 1
      have y3:=nextc hl0 hBx
      have y4:=nextc hl1 hBx
      simp only [gz9] at y1 y2
      have HB3:Hid (∀ V,V=((wr.alloc (.cells #[.int .i64 px,.int .i64 py] 207)).drew.alloc (.cells #[.int .i64 lx,.int .i64 ly] 207)).alloc (.cells #[.int .i64 px,.int .i64 py] 207)→Below (wr.alloc (.cells #[.int .i64 px,.int .i64 py] 207)).heap.size (wr.alloc (.cells #[.int .i64 px,.int .i64 py] 207)) V):=fun V h=>by rw [h];exact below_in (Below.refl _ _).drew (below_two _ _ _)
      go_upto_region 7 with fail
      have hBy:Below (wr.alloc (.cells #[.int .i64 px,.int .i64 py] 207)).heap.size (wr.alloc (.cells #[.int .i64 px,.int .i64 py] 207)) (wr.alloc (.cells #[.int .i64 px,.int .i64 py] 207)):=Below.refl _ _
      go_region_held3 (fun V=>V.cell? ⟨W.heap.size,0,none⟩=some (.func (.func 215) #[] #[])∧V.cell? ⟨wr.heap.size,0,none⟩=some (.int .i64 px)∧V.cell? ⟨wr.heap.size,1,none⟩=some (.int .i64 py)∧V.cell? ⟨g2,m * 2,none⟩=some (.int .i64 lx)∧V.cell? ⟨g2,m * 2+1,none⟩=some (.int .i64 ly))
       (exact ⟨y0,y1,y2,y3,y4⟩) (first | (go_at_call 215;refine (HBE.out _).mono ?_;rintro e w2 ⟨rfl,hw2⟩;have hB3:=HB3.out _ hw2;clear hw2;replace hBy:=hB3;replace y0:=nextc y0 hB3;replace y1:=nextc y1 hB3;replace y2:=nextc y2 hB3;replace y3:=nextc y3 hB3;replace y4:=nextc y4 hB3))
      have HO2:=Lib.hid ((hownx.below hBy).below (below_one w2 (.cells #[.int .i64 px,.int .i64 py] 207)))
      have HU2:=Lib.hid (Blk.new w2 207 #[.int .i64 px,.int .i64 py])
      have HBB2:=Lib.hid (below_in (below_in (below_in hB hBx) hBy) (below_one w2 (.cells #[.int .i64 px,.int .i64 py] 207)))
      go_wp2_with (at_builtin;refine wpList_code _ rfl _ _ 209 207 (.agg #[.int .i64 0,.int .i64 0]) 16 rfl Tryz.underlying209 Tryz.infoPlace rfl w1.heap.size _ _ rfl _ HO2.out _ 1 _ _ rfl HU2.out (by rw [HLT.out];omega) (by omega) (by have:=hB.size;have:=hBy.size;simp at *;omega) ?_;intro v2 w3 hown2 hgrow2)
      go_roundw
      case rel=>exact ⟨j+1,hlt,by go_num,fun h=>by omega,HNX.out _ _ hown2,below_grown HBB2.out hgrow2 (by have:=hB.size;have:=hBy.size;simp at *;omega) HOL.out⟩
      case measure=>simp [intOf];omega
  · obtain rfl:j=n:=by omega
    have hdec:decide ((j:Int)<(j:Int))=false:=by simp
    rw [List.take_of_length_le (by rw [HSL.out];exact Nat.le_refl _)] at hown
    have hWl:=hW1
    go_wp2
    go_ret
    exact ⟨_,s,rfl,HP.out,HT.out,hown.less (by omega),hB1.trans (hB.mono (by have:=hB1.size;omega))⟩
end Go.Proofs.YtknkdbincaonbaaGreatDoor

namespace Go.Proofs.YtknkdbincaonbaaGreatDoor
open Go.RowKit Go.Shelf
attribute [local go_sem] Oper.semAt_some

theorem OwnI.less {w:World} {base base':Nat} {v:Value} {l:List Int} (h:OwnI w base v l) (hb:base'≤base):OwnI w base' v l:=⟨h.1,h.2.imp id fun ⟨g,cap,cur,h1,h2,h3⟩=>⟨g,cap,cur,h1,Nat.le_trans hb h2,h3⟩⟩
def Seqs (lo:Nat) (zs:List (Int×Int)) (v:Value) (w:World):Prop :=
 ∃ gf lb,v = .func (.func gf) #[] lb∧(∀ args W,(callFunc gf args).run Tryz.prog W = .ok (.enter gf args) W) ∧
  ∀ n,6≤n→SeqO Fence.wide n Tryz.prog gf lb (fun x:Int×Int=>#[.agg #[.int .i64 x.1,.int .i64 x.2]]) (fun x _=>x∈zs) (KeepL lo (w.heap.size - lo)) (fun ys=>ys=zs) (fun pre=>pre <+: zs) 1000 w
theorem KeepL.less {lo lo' k k':Nat} {X Y:World} (h:KeepL lo k X Y) (h1:lo≤lo') (h2:lo'+k'≤lo+k):KeepL lo' k' X Y:=⟨h.1.less h1 h2,h.2⟩
theorem Seqs.less {lo lo':Nat} {zs:List (Int×Int)} {v:Value} {w:World} (h:Seqs lo zs v w) (hl:lo'≤lo) (hw:lo≤w.heap.size):Seqs lo' zs v w:=by
 obtain ⟨gf,lb,e,eg,hg⟩:=h
 exact ⟨gf,lb,e,eg,fun n hn l J Jx W o₀ hW ho₀ hJ hJx hr1 hr2 hY h0=>hg n hn l J Jx W o₀ hW ho₀ hJ hJx hr1 hr2 (fun pre x o W1 hj hok hl' hs=>(hY pre x o W1 hj hok hl' hs).mono fun _ _ ⟨o',hf,hS,h⟩=>⟨o',hf,hS,h.imp (fun ⟨h1,h2,h3⟩=>⟨h1,h2,h3.less hl (by omega)⟩) id⟩) h0⟩
theorem enter_setsDown1:∀ args W,(callFunc 277 args).run Tryz.prog W = .ok (.enter 277 args) W:=enters_of Tryz.func277 (by kernel_rfl) rfl

theorem setsDown_any (k p d c:Int) (hR:RightC k p) (cs:List Int) (hne:cs≠[]) (hcs:∀ x∈cs,HasCol k p x) (hcl:cs.length≤20) (w:World) (hL:Laid w) (base:Nat) (v:Value) (hb:base≤w.heap.size) (ho:OwnI w base v cs) :
 Calls Tryz.prog 253 #[.agg #[.int .i64 k,.int .i64 p,.int .i64 d,.int .i64 c],v] w fun e w'=>∃ u,e = .returned u∧Seqs base (flatC p cs) u w'∧Below w.heap.size w w':=by
 have hmf:=make_func
 have hlen:0<cs.length:=List.length_pos_iff.2 hne
 obtain ⟨bq,cap,rfl,hq1,hq2⟩:=World.ownsRow.form ho hlen
 have hcc:∀ (j:Nat) (hj:j<cs.length),w.cell? ⟨bq,j,none⟩=some (.int .i64 cs[j]):=fun j hj=>by
  rw [World.ownsRow.cellAt ho j (by omega),List.getElem?_map,List.getElem?_eq_getElem hj];rfl
 have HC:=Lib.hid hcc
 clear hcc ho
 have bg:=(Blk.new w 177 #[.int .i64 k,.int .i64 p,.int .i64 d,.int .i64 c]).alloc (.cells #[.slice (some ⟨bq,0,none⟩) cs.length cap] 124)
 have bh:=Blk.second w (.cells #[.int .i64 k,.int .i64 p,.int .i64 d,.int .i64 c] 177) 124 #[.slice (some ⟨bq,0,none⟩) cs.length cap]
 have hB:=below_two w (.cells #[.int .i64 k,.int .i64 p,.int .i64 d,.int .i64 c] 177) (.cells #[.slice (some ⟨bq,0,none⟩) cs.length cap] 124)
 go_enter Tryz.func253,Tryz.ntmps253
 go_wp2
 go_ret
 have hL2:=hL.next hB
 refine ⟨_,rfl,⟨_,_,rfl,enter_setsDown1,?_⟩,hB⟩
 intro n hn l J Jx W o₀ hW ho₀ hJ hJx hr1 hr2 hY h0
 have hsz:=hW.size
 simp at hsz
 exact setsDown_in n hn l w.heap.size (w.heap.size+1) base _ bq cap k p d c hR cs hcs hcl ⟨hb,by simp;omega⟩ ⟨by omega,by simp;omega⟩ ⟨hq1,by simp;omega⟩ W (by simp;omega) (hL2.next hW) J Jx o₀ ho₀ hJ hJx hr1 hr2 hY
  (bg.below hW bg.lt) (bh.below hW bh.lt) (fun j hj=>nextc (nextc (HC.out j hj) hB) hW) h0

theorem ahead_any (k p d c mx my:Int) (hR:RightC k p) (h1:1≤mx) (h2:mx≤20) (hcs:∀ x∈spanL 0 mx,HasCol k p x) (w:World) (hL:Laid w) :
 Calls Tryz.prog 331 #[.agg #[.int .i64 k,.int .i64 p,.int .i64 d,.int .i64 c],.agg #[.int .i64 mx,.int .i64 my]] w fun e w'=>∃ u,e = .returned u∧Seqs w.heap.size (flatC p (spanL 0 mx)) u w'∧Below w.heap.size w w':=by
 have HS:=Lib.hid (fun W=>span_any 0 mx (by omega) (by omega) (by omega) W)
 have hne:spanL 0 mx≠[]:=fun e=>by have:=spanL_len 0 mx;rw [e] at this;simp at this;omega
 have hsl:(spanL 0 mx).length≤20:=by rw [spanL_len];omega
 have HDn:=Lib.hid (fun W hL base v hb ho=>setsDown_any k p d c hR (spanL 0 mx) hne hcs hsl W hL base v hb ho)
 obtain ⟨W0,hW0⟩:∃ W0,(w.alloc (.cells #[.int .i64 k,.int .i64 p,.int .i64 d,.int .i64 c] 177)).alloc (.cells #[.int .i64 mx,.int .i64 my] 207)=W0:=⟨_,rfl⟩
 have b0:Blk W0 w.heap.size 177 #[.int .i64 k,.int .i64 p,.int .i64 d,.int .i64 c]:=by rw [←hW0];exact (Blk.new w _ _).alloc _
 have b1:Blk W0 (w.heap.size+1) 207 #[.int .i64 mx,.int .i64 my]:=by rw [←hW0];exact Blk.second w _ _ _
 have hB:Below w.heap.size w W0:=by rw [←hW0];exact below_two w _ _
 have hL0:=hL.next hB
 have hs0:=hB.size
 clear hcs hne hsl hR
 generalize spanL 0 mx=cs at *
 go_enter Tryz.func331,Tryz.ntmps331
 go_wp2_with fail
 clear hW0
 go_region_held3 (fun W=>W.cell? ⟨w.heap.size,0,none⟩=some (.int .i64 k)∧W.cell? ⟨w.heap.size,1,none⟩=some (.int .i64 p)∧W.cell? ⟨w.heap.size,2,none⟩=some (.int .i64 d)∧W.cell? ⟨w.heap.size,3,none⟩=some (.int .i64 c)∧W.cell? ⟨w.heap.size+1,0,none⟩=some (.int .i64 mx))
  (exact ⟨b0.cell 0,b0.cell 1,b0.cell 2,b0.cell 3,b1.cell 0⟩) (first
  | (go_at_call 254;refine (HS.out _).mono ?_;rintro e w1 ⟨u1,rfl,ho1,hB1⟩;(first | replace b0:=b0.below hB1 b0.lt | replace b0:=b0.nextd hB1);(first | replace b1:=b1.below hB1 b1.lt | replace b1:=b1.nextd hB1);(first | replace hB:=below_in hB hB1 | replace hB:=below_in hB.drew hB1);have hL1:=(by first | exact Laid.next (w:=W0.drew) hL0 hB1 | exact Laid.next (w:=W0) hL0 hB1:Laid w1))
  | (go_at_call 253;refine (HDn.out _ hL1 w.heap.size _ (by have:=hB.size;omega) (OwnI.less ho1 hs0)).mono ?_;rintro e w2 ⟨u2,rfl,hsq,hB2⟩;replace b0:=b0.below hB2 b0.lt;replace b1:=b1.below hB2 b1.lt;replace hB:=below_in hB hB2))
 all_goals go_wp2
 all_goals go_ret
 all_goals exact ⟨_,rfl,hsq,hB⟩
end Go.Proofs.YtknkdbincaonbaaGreatDoor

namespace Go.Proofs.YtknkdbincaonbaaGreatDoor
open Go.RowKit Go.Shelf
attribute [local go_sem] Oper.semAt_some

theorem codeCells_one (l:List (Int×Int)) (x y:Int):codeCells (l ++ [(x,y)])=codeCells l ++ [.int .i64 x,.int .i64 y]:=by unfold codeCells;rw [List.flatMap_append];rfl
theorem wpListIn_place {F:Fence} {nF:Nat} (w:World) {ops:Array Oper} {rest:List Oper} {o:Oper} {a:Act} {Q:Exit→Act→World→Prop} (hgd:o.guard=none) (s x:Operand)
 (ho:o.op = .call { callee:=.builtin .append,args:=#[s,x],argTypes:=#[209,209] })
 (base:Nat) (v:Value) (l:List (Int×Int)) (hs:a.eval s=v) (hown:OwnP w base v l) (g:Nat) (p1 p2:Int) (hx:a.eval x = .slice (some ⟨g,0,none⟩) 1 1) (hu:Blk w g 207 #[.int .i64 p1,.int .i64 p2])
 (hlen:l.length≤1000000000) (hbase:base≤w.heap.size)
 (h:∀ v' w',OwnP w' base v' (l ++ [(p1,p2)])→w.grownBy w' v.ownBlock→(v'.ownBlock=v.ownBlock∨v'.ownBlock=some w.heap.size)→wpListIn F nF Tryz.prog ops Q rest (a.put o.dst v') w'):wpListIn F nF Tryz.prog ops Q (o :: rest) a w:=by
 obtain ⟨i,hi,hz0,hz1,hz2⟩:=info_parts Tryz.infoPlace
 refine wpListIn_append_own_at w hgd s x 209 ho base 207 i (.agg #[.int .i64 0,.int .i64 0]) 2 16 Tryz.underlying209 hi hz0 hz1 hz2 rfl (by omega) v l.length (codeCells l) hs hown ⟨g,0,none⟩ 1 1 [.int .i64 p1,.int .i64 p2] hx rfl
  (by intro j y hy
      rw [addr_add,Nat.zero_add,hu.cell j,List.getElem?_toArray]
      exact hy)
  (by intro y hy;simp only [List.mem_cons,List.not_mem_nil,or_false] at hy;rcases hy with rfl | rfl <;> rfl) (by unfold maxLen;omega) (by omega) hbase ?_
 intro v' w' h1 h2 h4 h3
 refine h v' w' ?_ h2 h3
 unfold OwnP
 rw [codeCells_one,List.length_append]
 exact h1
theorem OwnP.far {w:World} {base:Nat} {v:Value} {l:List (Int×Int)} (h:OwnP w base v l) {p:Addr} (hp:some p.block≠v.ownBlock) (u:Value):OwnP (w.setCell p u) base v l:=by
 refine ⟨h.1,?_⟩
 rcases h.2 with h1 | ⟨g,cap,cur,e,h2,hg,rest⟩
 · exact .inl h1
 · exact .inr ⟨g,cap,cur,e,h2,(Below.heap_setCell w p u g (fun e2=>hp (by rw [e,←e2];rfl))).trans hg,rest⟩
theorem OwnP.kept {w w':World} {base:Nat} {v:Value} {l:List (Int×Int)} (h:OwnP w base v l) {row:Option Nat} (hg:w.grownBy w' row) (hne:v.ownBlock=none∨v.ownBlock≠row):OwnP w' base v l:=World.ownsRow.kept h hg hne
theorem OwnP.blks {w w':World} {base:Nat} {v:Value} {l:List (Int×Int)} (h:OwnP w base v l) (hk:∀ g t cs,Blk w g t cs→Blk w' g t cs):OwnP w' base v l :=
 ⟨h.1,h.2.imp id fun ⟨g,cap,cur,e,h2,hg,rest⟩=>⟨g,cap,cur,e,h2,hk _ _ _ hg,rest⟩⟩
theorem OwnP.rowO {w:World} {base:Nat} {v:Value} {l:List (Int×Int)} (h:OwnP w base v l):RowO v.ownBlock w:=fun b e=>by
 rcases h.2 with ⟨rfl,_⟩ | ⟨g,cap,cur,rfl,_,hg,_⟩
 · cases e
 · injection e with e
   subst e
   exact ⟨_,_,_,hg⟩
theorem laid_put {W:World} (h:Laid W) {l:Nat} (hl:∃ r,W.heap[l]?=some (.loop r)) (ob:Obj):Laid (W.putObj l ob):=by
 obtain ⟨r,hr⟩:=hl
 have h1:∀ {g:Nat} {cs:Array Value},LaidAt g cs W→LaidAt g cs (W.putObj l ob):=fun {g cs} ⟨t,fr,hg⟩=>⟨t,fr,(World.putObj_heap_other (fun e=>by rw [e,hr] at hg;cases hg)).trans hg⟩
 exact ⟨h1 h.1,h1 h.2⟩

theorem gathered_any (q:Int→Int→Bool) (zs:List (Int×Int)) (hzl:zs.length≤1000) (lo:Nat) (v1 v2:Value) (W:World) (hL:Laid W) (hlo:lo≤W.heap.size) (h1:Asks q v1 W) (h2:Seqs lo zs v2 W) :
 Calls Tryz.prog 330 #[v1,v2] W fun e w'=>∃ u,e = .returned u∧OwnP w' W.heap.size u (zs.filter fun x=>q x.1 x.2)∧Below W.heap.size W w':=by
 obtain ⟨gf,lb,rfl,eg,hg⟩:=h2
 obtain ⟨qf,qb,rfl,eqf,hq⟩:=h1
 obtain ⟨w7,hw7⟩:∃ w7,(W.alloc (.cells #[.func (.func qf) #[] qb] 175)).alloc (.cells #[.slice none 0 0] 209)=w7:=⟨_,rfl⟩
 have b0:Blk w7 W.heap.size 175 #[.func (.func qf) #[] qb]:=by rw [←hw7];exact (Blk.new W _ _).alloc _
 have b1:Blk w7 (W.heap.size+1) 209 #[.slice none 0 0]:=by rw [←hw7];exact Blk.second W _ _ _
 have hB:Below W.heap.size W w7:=by rw [←hw7];exact below_two W _ _
 have s7:w7.heap.size=W.heap.size+2:=by rw [←hw7];simp
 have hL7:=hL.next hB
 refine (callsIn_wide (n:=9)).1 ?_
 refine callsIn_of_wp_marks Tryz.func330 rfl trivial ?_ rfl
 simp only [Tryz.ntmps330,List.size_toArray,List.length_cons,List.length_nil,Nat.reduceAdd,Nat.reduceSub,Array.replicate_succ,Array.replicate_zero,List.push_toArray,List.append_toArray,List.nil_append,List.cons_append]
 gi_wp2_with fail
 clear hw7
 refine wpIn_rangeBoxO rfl (by omega) (gf:=gf) (lb:=lb) rfl trivial eg (hg _ (by omega)) (fun h h'=>h.trans h') (fun V l ob hl _ hlp=>⟨Keep.putFar V (by omega) ob,fun h=>laid_put h hlp ob⟩) hB (fun _=>rfl)
  (fun pre o X=>∃ v,Blk X (W.heap.size+1) 209 #[v]∧OwnP X (W.heap.size+2) v (pre.filter fun x=>q x.1 x.2)∧v.ownBlock=o∧Blk X W.heap.size 175 #[.func (.func qf) #[] qb]∧Below W.heap.size W X)
  (fun _ _ _ _=>False) ?hI (fun c s o X Y row hs _ _=>hs) none (fun b e=>by cases e) ⟨_,b1,ownP_nil _ _,rfl,b0,hB⟩
  (fun _=>True) (fun _ _ _=>trivial) 207 (fun z:Int×Int=>#[.int .i64 z.1,.int .i64 z.2]) ?a1
  ?assign (fun pre o X h=>by obtain ⟨v,_,ho,rfl,_⟩:=h;exact ho.rowO) (fun c pre o X h=>h.elim) ?body ?done (fun D c pre o X _ _ _ h=>h.elim)
 case hI =>
  rintro s o X Y row ⟨v,hb1,ho,rfl,hb0,hBX⟩ hgr hr
  have hne:∀ g,g<w7.heap.size→some g≠row:=fun g hg e=>by have:=(hr g e.symm).1;omega
  refine ⟨v,hb1.grown hgr (hne _ (by omega)),ho.kept hgr ?_,rfl,hb0.grown hgr (hne _ (by omega)),hBX.grown hgr hBX.size (fun r e=>by have:=(hr r e).1;omega)⟩
  cases hrow:row with
  | none=>exact (Option.eq_none_or_eq_some v.ownBlock).imp id (fun ⟨x,hx⟩=>by rw [hx];simp)
  | some r=>exact .inr (fun e=>(hr r hrow).2 e.symm)
 case assign =>
  rintro l' pre z o X KK hsz hol ⟨v,hb1,ho,rfl,hb0,hBX⟩ _ hKK
  gi_wp2
  have hbx:=Blk.new X 207 #[.int .i64 z.1,.int .i64 z.2]
  have hBz:=below_one X (.cells #[.int .i64 z.1,.int .i64 z.2] 207)
  have hSi:SinceO w7.heap.size v.ownBlock X (X.alloc (.cells #[.int .i64 z.1,.int .i64 z.2] 207)):=SinceO.below hBz
  have hKe:KeepL lo (W.heap.size - lo) X (X.alloc (.cells #[.int .i64 z.1,.int .i64 z.2] 207)):=⟨Keep.alloc (by omega) _,fun h=>h.next hBz⟩
  have h1':=hb1.below hBz hb1.lt
  have h2':=ho.below hBz
  have h3':=hb0.below hBz hb0.lt
  have h4':=below_in hBX hBz
  have hne:some X.heap.size≠v.ownBlock:=fun e=>by have:=hol _ e.symm;omega
  clear hBz hol hb1 ho hb0 hBX
  generalize X.alloc (.cells #[.int .i64 z.1,.int .i64 z.2] 207)=X' at *
  generalize X.heap.size=Bx at *
  exact hKK Bx _ hSi hKe ⟨v,h1',h2',rfl,h3',h4'⟩ hbx hne hsz
 case body =>
  rintro l' pre z o Bx X hsz ⟨v,hb1,ho,rfl,hb0,hBX⟩ hbx hne hle _ hlz
  have c0:=hb0.one
  have z0:=hbx.cell 0
  have z1:=hbx.cell 1
  simp only [gz9] at z0 z1
  have HA:=Lib.hid (hq z.1 z.2 X (Sub.below hBX))
  have hol:=ho.rowO.lt
  cases hqz:q z.1 z.2 with
  | false =>
    rw [hqz] at HA
    have hfl:(pre ++ [z]).filter (fun x=>q x.1 x.2)=pre.filter fun x=>q x.1 x.2:=by simp [List.filter_append,hqz]
    gi_wp2_with fail
    refine ⟨trivial,(CallsIn.inRound l' (callsIn_wide.2 HA.out)).mono ?_⟩
    rintro e Xa ⟨rfl,hBa⟩
    gi_wp2
    exact ⟨v.ownBlock,.inl rfl,SinceO.below hBa,⟨Keep.below hBa (by omega),fun h=>h.next hBa⟩,v,hb1.below hBa hb1.lt,by rw [hfl];exact ho.below hBa,rfl,hb0.below hBa hb0.lt,below_in hBX hBa⟩
  | true =>
    rw [hqz] at HA
    have hfl:(pre ++ [z]).filter (fun x=>q x.1 x.2)=(pre.filter fun x=>q x.1 x.2) ++ [z]:=by simp [List.filter_append,hqz]
    have hfn:(pre.filter fun x=>q x.1 x.2).length≤1000:=by have:=List.length_filter_le (fun x:Int×Int=>q x.1 x.2) pre;omega
    have HF:=Lib.hid hfl
    clear hfl
    generalize (pre.filter fun x=>q x.1 x.2)=fl at *
    gi_wp2_with fail
    refine ⟨trivial,(CallsIn.inRound l' (callsIn_wide.2 HA.out)).mono ?_⟩
    rintro e Xa ⟨rfl,hBa⟩
    clear HA hq hqz c0 z0 z1
    have hbxa:=hbx.below hBa hbx.lt
    have hb1a:=hb1.below hBa hb1.lt
    have z0:=hbxa.cell 0
    have z1:=hbxa.cell 1
    have c1:=hb1a.one
    simp only [gz9] at z0 z1
    have hBb:=below_one Xa (.cells #[.int .i64 z.1,.int .i64 z.2] 207)
    have HO:=Lib.hid ((ho.below hBa).below hBb)
    have HU:=Lib.hid (Blk.new Xa 207 #[.int .i64 z.1,.int .i64 z.2])
    have hb1b:=hb1a.below hBb hb1a.lt
    have hb0b:=(hb0.below hBa hb0.lt).below hBb (by have:=hBa.size;have:=hb0.lt;omega)
    have hBab:=below_in hBa hBb
    have hn1:some (W.heap.size+1)≠v.ownBlock:=fun e=>by have:=ho.own_le _ e.symm;omega
    have hn0:some W.heap.size≠v.ownBlock:=fun e=>by have:=ho.own_le _ e.symm;omega
    have hva:=ho.own_le
    have hsa:=hBa.size
    have hsb:=hBb.size
    gi_wp2_with (gi_at_builtin;refine wpListIn_place _ rfl _ _ rfl (W.heap.size+2) v _ rfl HO.out Xa.heap.size z.1 z.2 rfl HU.out (by omega) (by simp;omega) ?_;intro v2 w3 ho2 hg2 hd2;(have hfm:=World.ownsRow.form ho2 (by simp));(obtain ⟨g2,cap2,hv2,_,_⟩:=hfm);(generalize (fl ++ [(z.1,z.2)]).length=N at hv2);subst hv2;have hb3:=hb1b.grown hg2 hn1;have hb30:=hb0b.grown hg2 hn0;have c3:=hb3.one;have f3:=hb3.frozen 0)
    have hs3:=hg2.size
    have hn2:some (W.heap.size+1)≠(Value.slice (some ⟨g2,0,none⟩) N cap2).ownBlock:=fun e=>by have:=ho2.own_le _ e.symm;omega
    have hfr:FreshO v.ownBlock (Value.slice (some ⟨g2,0,none⟩) N cap2).ownBlock X:=by
     rcases hd2 with h | h
     · exact .inl h
     · exact .inr ⟨_,h,by simp;omega⟩
    have hsi:SinceO w7.heap.size v.ownBlock X (w3.setCell ⟨W.heap.size+1,0,none⟩ (Value.slice (some ⟨g2,0,none⟩) N cap2)) :=
     (SinceO.below hBab).trans_ ⟨by simpa using hs3,fun b h1 h2 h3=>(Below.heap_setCell w3 _ (Value.slice (some ⟨g2,0,none⟩) N cap2) b (by simp;omega)).trans (hg2.block b h2 h3)⟩
    have hke:Keep lo (W.heap.size - lo) X (w3.setCell ⟨W.heap.size+1,0,none⟩ (Value.slice (some ⟨g2,0,none⟩) N cap2)) :=
     ((Keep.below hBab (by omega)).trans (Keep.grown hg2 (by omega) (fun r e=>.inr (by have:=hva r e;omega)))).trans (Keep.setFar w3 (by simp;omega) (Value.slice (some ⟨g2,0,none⟩) N cap2))
    have hla:Laid X→Laid (w3.setCell ⟨W.heap.size+1,0,none⟩ (Value.slice (some ⟨g2,0,none⟩) N cap2)):=fun _=>hL.next (((below_in hBX hBab).grown hg2 (by have:=hBX.size;have:=hBab.size;omega) (fun r e=>by have:=hva r e;omega)).setCell (by simp) (Value.slice (some ⟨g2,0,none⟩) N cap2))
    have hbe:Below W.heap.size W (w3.setCell ⟨W.heap.size+1,0,none⟩ (Value.slice (some ⟨g2,0,none⟩) N cap2)):=((below_in hBX hBab).grown hg2 (by have:=hBX.size;have:=hBab.size;omega) (fun r e=>by have:=hva r e;omega)).setCell (by simp) (Value.slice (some ⟨g2,0,none⟩) N cap2)
    exact ⟨(Value.slice (some ⟨g2,0,none⟩) N cap2).ownBlock,hfr,hsi,⟨hke,hla⟩,(Value.slice (some ⟨g2,0,none⟩) N cap2),hb3.set_ 0 (Value.slice (some ⟨g2,0,none⟩) N cap2),by rw [HF.out];exact ho2.far hn2 (Value.slice (some ⟨g2,0,none⟩) N cap2),rfl,hb30.far (by simp) (Value.slice (some ⟨g2,0,none⟩) N cap2),hbe⟩
 case done =>
  rintro D xs o X hD hf rfl ⟨v,hb1,ho,rfl,hb0,hBX⟩ hKD hne
  have c1:=hb1.one
  gi_wp2
  refine leaves_blks W [D] X ⟨by simp,fun E hE=>?_⟩ hBX (fun W' hB' hk=>?_)
  · obtain rfl:=List.mem_singleton.1 hE
    exact ⟨by omega,hKD⟩
  · exact ⟨v,by simp [results,Tryz.results330,go_sem],v,rfl,(ho.blks hk).less (by omega),hB'⟩
end Go.Proofs.YtknkdbincaonbaaGreatDoor

namespace Go.Proofs.YtknkdbincaonbaaGreatDoor
open Go.RowKit Go.Shelf

theorem Seqs.next {lo:Nat} {zs:List (Int×Int)} {v:Value} {w w':World} (h:Seqs lo zs v w) (hB:Below w.heap.size w w'):Seqs lo zs v w':=by
 obtain ⟨gf,lb,e,eg,hg⟩:=h
 have hs:=hB.size
 exact ⟨gf,lb,e,eg,fun n hn l J Jx W o₀ hW ho₀ hJ hJx hr1 hr2 hY h0=>hg n hn l J Jx W o₀ (below_in hB hW) ho₀ hJ hJx hr1 hr2 (fun pre x o W1 hj hok hl' hs'=>(hY pre x o W1 hj hok hl' hs').mono fun _ _ ⟨o',hf,hS,h⟩=>⟨o',hf,hS,h.imp (fun ⟨h1,h2,h3⟩=>⟨h1,h2,h3.less (Nat.le_refl _) (by omega)⟩) id⟩) h0⟩
def memB (k p mx my x y:Int):Bool:=wayB k p (p - shortN k) my (roleN (p - shortN k) mx) x y
def memL (k p mx my:Int):List (Int×Int):=(flatC p (spanL 0 mx)).filter fun x=>memB k p mx my x.1 x.2
theorem Laid.drew {W:World} (h:Laid W):Laid W.drew:=h
theorem role_made {k p mx my d:Int} (hR:RightC k p) (hc:HasCell k p mx my) (hd:d=p - shortN k) (hx:d≤mx):roleN d mx=2∨roleN d mx=3∨roleN d mx=4:=by
 obtain ⟨⟨h1,h2⟩,_⟩:=hc
 have hu:=hR.und
 have m2:=hu.m2
 unfold roleN
 split
 · exact .inl rfl
 · split
   · exact .inr (.inl rfl)
   · split
     · exact .inr (.inr rfl)
     · exfalso;omega
theorem spanL_mem {a b x:Int} (h:x∈spanL a b):a≤x∧x<b:=by
 unfold spanL at h
 obtain ⟨i,hi,rfl⟩:=List.mem_map.1 h
 have:=List.mem_range.1 hi
 omega

theorem members_any (k p d c mx my:Int) (hR:RightC k p) (hd:d=p - shortN k) (hc:HasCell k p mx my) (hx:d≤mx) (w:World) (hL:Laid w) :
 Calls Tryz.prog 328 #[.agg #[.int .i64 k,.int .i64 p,.int .i64 d,.int .i64 c],.agg #[.int .i64 mx,.int .i64 my]] w fun e w'=>∃ u,e = .returned u∧OwnP w' w.heap.size u (memL k p mx my)∧Below w.heap.size w w':=by
 have hu:=hR.und
 obtain ⟨p1,p2,s1,s2,m1,m2⟩:=hu
 have hc0:=hc
 obtain ⟨⟨x1,x2⟩,y1,y2⟩:=hc0
 have HAs:=Lib.hid (fun W hL=>asker_any k p d c mx my _ hR hd ⟨x1,x2⟩ rfl (role_made hR hc hd hx) W hL)
 have HAh:=Lib.hid (fun W hL=>ahead_any k p d c mx my hR (by omega) (by omega) (fun x hm=>⟨(spanL_mem hm).1,by have:=(spanL_mem hm).2;omega⟩) W hL)
 have hzl:(flatC p (spanL 0 mx)).length≤1000:=by have:=flatC_len p hR.2 (spanL 0 mx);rw [spanL_len] at this;omega
 have HQ:Hid (memL k p mx my=(flatC p (spanL 0 mx)).filter fun x=>wayB k p d my (roleN d mx) x.1 x.2):=by rw [hd];rfl
 have HGa:=Lib.hid (fun lo v1 v2 W hL hlo h1 h2=>gathered_any (wayB k p d my (roleN d mx)) _ hzl lo v1 v2 W hL hlo h1 h2)
 obtain ⟨W0,hW0⟩:∃ W0,(w.alloc (.cells #[.int .i64 k,.int .i64 p,.int .i64 d,.int .i64 c] 177)).alloc (.cells #[.int .i64 mx,.int .i64 my] 207)=W0:=⟨_,rfl⟩
 have b0:Blk W0 w.heap.size 177 #[.int .i64 k,.int .i64 p,.int .i64 d,.int .i64 c]:=by rw [←hW0];exact (Blk.new w _ _).alloc _
 have b1:Blk W0 (w.heap.size+1) 207 #[.int .i64 mx,.int .i64 my]:=by rw [←hW0];exact Blk.second w _ _ _
 have hB:Below w.heap.size w W0:=by rw [←hW0];exact below_two w _ _
 have hL0:=hL.next hB
 have hs0:=hB.size
 clear hc hx hR hd x1 x2 y1 y2 p1 p2 s1 s2 m1 m2 hzl
 generalize wayB k p d my (roleN d mx)=q at *
 generalize flatC p (spanL 0 mx)=zs at *
 go_enter Tryz.func328,Tryz.ntmps328
 go_wp2_with fail
 clear hW0
 go_region_held3 (fun W=>W.cell? ⟨w.heap.size,0,none⟩=some (.int .i64 k)∧W.cell? ⟨w.heap.size,1,none⟩=some (.int .i64 p)∧W.cell? ⟨w.heap.size,2,none⟩=some (.int .i64 d)∧W.cell? ⟨w.heap.size,3,none⟩=some (.int .i64 c)∧W.cell? ⟨w.heap.size+1,0,none⟩=some (.int .i64 mx)∧W.cell? ⟨w.heap.size+1,1,none⟩=some (.int .i64 my))
  (exact ⟨b0.cell 0,b0.cell 1,b0.cell 2,b0.cell 3,b1.cell 0,b1.cell 1⟩) (first
  | (go_at_call 255;refine (HAs.out _ (by first | exact hL0 | exact Laid.drew hL0)).mono ?_;rintro e w1 ⟨u1,rfl,hA,hB1⟩;(first | replace b0:=b0.below hB1 b0.lt | replace b0:=b0.nextd hB1);(first | replace b1:=b1.below hB1 b1.lt | replace b1:=b1.nextd hB1);(try replace hSq:=hSq.next hB1);(first | replace hB:=below_in hB hB1 | replace hB:=below_in hB.drew hB1);(first | replace hL0:=Laid.next hL0 hB1 | replace hL0:=Laid.next (Laid.drew hL0) hB1))
  | (go_at_call 331;refine (HAh.out _ (by first | exact hL0 | exact Laid.drew hL0)).mono ?_;rintro e w1 ⟨u2,rfl,hSq0,hB1⟩;(have hSq:=hSq0.less (lo':=w.heap.size) (by first | exact hB.size | exact hB.drew.size) (by exact hB1.size));clear hSq0;(first | replace b0:=b0.below hB1 b0.lt | replace b0:=b0.nextd hB1);(first | replace b1:=b1.below hB1 b1.lt | replace b1:=b1.nextd hB1);(try replace hA:=hA.next hB1);(first | replace hB:=below_in hB hB1 | replace hB:=below_in hB.drew hB1);(first | replace hL0:=Laid.next hL0 hB1 | replace hL0:=Laid.next (Laid.drew hL0) hB1))
  | (go_at_call 330;refine (HGa.out w.heap.size _ _ _ hL0 hB.size hA hSq).mono ?_;rintro e w3 ⟨u3,rfl,ho,hB3⟩;replace b0:=b0.below hB3 b0.lt;replace b1:=b1.below hB3 b1.lt))
 all_goals go_wp2
 all_goals go_ret
 all_goals exact ⟨_,rfl,by rw [HQ.out];exact ho.less (by have:=hB.size;omega),below_in hB hB3⟩
end Go.Proofs.YtknkdbincaonbaaGreatDoor

namespace Go.Proofs.YtknkdbincaonbaaGreatDoor
open Go.RowKit Go.Shelf

theorem setsAsked_yes (k p:Int) (hR:RightC k p) (w:World) (hL:Laid w):Calls Tryz.prog 175 #[.agg #[.int .i64 k,.int .i64 p]] w fun e w' =>
 e = .returned (.tuple #[.agg #[.int .i64 k,.int .i64 p,.int .i64 (p - shortN k),.int .i64 (p - shortN k+madeN k)],.int .i64 0])∧Below w.heap.size w w':=by
 have HD:=Lib.hid (fun W hL=>(shapeData_any k p W hL).mono fun _ _ h=>tells_yes hR h)
 have HC:=Lib.hid (fun W hL=>(shapeCols_any k p W hL).mono fun _ _ h=>tells_yes hR h)
 generalize p - shortN k+madeN k=c at *
 generalize p - shortN k=d at *
 clear hR
 obtain ⟨W0,hW0⟩:∃ W0,(w.alloc (.cells #[.int .i64 k,.int .i64 p] 24)).alloc (.cells #[.int .i64 0,.int .i64 0,.int .i64 0,.int .i64 0] 177)=W0:=⟨_,rfl⟩
 have b0:Blk W0 w.heap.size 24 #[.int .i64 k,.int .i64 p]:=by rw [←hW0];exact (Blk.new w _ _).alloc _
 have b1:Blk W0 (w.heap.size+1) 177 #[.int .i64 0,.int .i64 0,.int .i64 0,.int .i64 0]:=by rw [←hW0];exact Blk.second w _ _ _
 have hB:Below w.heap.size w W0:=by rw [←hW0];exact below_two w _ _
 have hL0:=hL.next hB
 have c0:=b0.cell 0
 have c1:=b0.cell 1
 simp only [gz9] at c0 c1
 go_enter Tryz.func175,Tryz.ntmps175
 go_wp2_with fail
 clear hW0
 go_wp2_with (first
  | (go_at_call 39;refine (HD.out _ hL0).mono ?_;rintro e w1 ⟨rfl,hB1⟩;replace b0:=b0.below hB1 b0.lt;replace b1:=b1.below hB1 b1.lt;replace hB:=below_in hB hB1;replace hL0:=hL0.next hB1;have c0:=b0.cell 0;have c1:=b0.cell 1;simp only [gz9] at c0 c1;have d0:=b1.cell 0;have d1:=b1.cell 1;have d2:=b1.cell 2;have d3:=b1.cell 3;have f0:=b1.frozen 0;have f1:=b1.frozen 1;have f2:=b1.frozen 2;have f3:=b1.frozen 3;simp only [gz9] at d0 d1 d2 d3)
  | (go_at_call 43;refine (HC.out _ hL0).mono ?_;rintro e w1 ⟨rfl,hB1⟩;replace b0:=b0.below hB1 b0.lt;replace b1:=b1.below hB1 b1.lt;replace hB:=below_in hB hB1;replace hL0:=hL0.next hB1;have c0:=b0.cell 0;have c1:=b0.cell 1;simp only [gz9] at c0 c1;have d0:=b1.cell 0;have d1:=b1.cell 1;have d2:=b1.cell 2;have d3:=b1.cell 3;have f0:=b1.frozen 0;have f1:=b1.frozen 1;have f2:=b1.frozen 2;have f3:=b1.frozen 3;simp only [gz9] at d0 d1 d2 d3))
 have r:=((((b1.set_ 0 (.int .i64 k)).set_ 1 (.int .i64 p)).set_ 2 (.int .i64 d)).set_ 3 (.int .i64 c))
 have r0:=r.cell 0
 have r1:=r.cell 1
 have r2:=r.cell 2
 have r3:=r.cell 3
 simp only [List.setIfInBounds_toArray,List.set_cons_zero,List.set_cons_succ,List.getElem?_toArray,List.getElem?_cons_zero,List.getElem?_cons_succ] at r0 r1 r2 r3
 exact bodyPost_ret (v:=.tuple #[.agg #[.int .i64 k,.int .i64 p,.int .i64 d,.int .i64 c],.int .i64 0]) (by simp [results,Tryz.results175,go_sem,r0,r1,r2,r3]) rfl ⟨rfl,(((hB.setCell (by simp) _).setCell (by simp) _).setCell (by simp) _).setCell (by simp) _⟩

theorem setsAsked_no (k p:Int) (hR:¬ RightC k p) (w:World) (hL:Laid w):Calls Tryz.prog 175 #[.agg #[.int .i64 k,.int .i64 p]] w fun e w' =>
 e = .returned (.tuple #[.agg #[.int .i64 0,.int .i64 0,.int .i64 0,.int .i64 0],.int .i64 2])∧Below w.heap.size w w':=by
 have HD:=Lib.hid (fun W hL=>(shapeData_any k p W hL).mono fun _ _ h=>tells_no hR h)
 clear hR
 obtain ⟨W0,hW0⟩:∃ W0,(w.alloc (.cells #[.int .i64 k,.int .i64 p] 24)).alloc (.cells #[.int .i64 0,.int .i64 0,.int .i64 0,.int .i64 0] 177)=W0:=⟨_,rfl⟩
 have b0:Blk W0 w.heap.size 24 #[.int .i64 k,.int .i64 p]:=by rw [←hW0];exact (Blk.new w _ _).alloc _
 have b1:Blk W0 (w.heap.size+1) 177 #[.int .i64 0,.int .i64 0,.int .i64 0,.int .i64 0]:=by rw [←hW0];exact Blk.second w _ _ _
 have hB:Below w.heap.size w W0:=by rw [←hW0];exact below_two w _ _
 have hL0:=hL.next hB
 have c0:=b0.cell 0
 have c1:=b0.cell 1
 simp only [gz9] at c0 c1
 go_enter Tryz.func175,Tryz.ntmps175
 go_wp2_with fail
 clear hW0
 go_wp2_with (go_at_call 39;refine (HD.out _ hL0).mono ?_;rintro e w1 ⟨rfl,hB1⟩;replace b0:=b0.below hB1 b0.lt;replace b1:=b1.below hB1 b1.lt;replace hB:=below_in hB hB1;replace hL0:=hL0.next hB1;have c0:=b0.cell 0;have c1:=b0.cell 1;simp only [gz9] at c0 c1;have d0:=b1.cell 0;have d1:=b1.cell 1;have d2:=b1.cell 2;have d3:=b1.cell 3;have f0:=b1.frozen 0;have f1:=b1.frozen 1;have f2:=b1.frozen 2;have f3:=b1.frozen 3;simp only [gz9] at d0 d1 d2 d3)
 have r:=((((b1.set_ 0 (.int .i64 0)).set_ 1 (.int .i64 0)).set_ 2 (.int .i64 0)).set_ 3 (.int .i64 0))
 have r0:=r.cell 0
 have r1:=r.cell 1
 have r2:=r.cell 2
 have r3:=r.cell 3
 simp only [List.setIfInBounds_toArray,List.set_cons_zero,List.set_cons_succ,List.getElem?_toArray,List.getElem?_cons_zero,List.getElem?_cons_succ] at r0 r1 r2 r3
 exact bodyPost_ret (v:=.tuple #[.agg #[.int .i64 0,.int .i64 0,.int .i64 0,.int .i64 0],.int .i64 2]) (by simp [results,Tryz.results175,go_sem,r0,r1,r2,r3]) rfl ⟨rfl,(((hB.setCell (by simp) _).setCell (by simp) _).setCell (by simp) _).setCell (by simp) _⟩
end Go.Proofs.YtknkdbincaonbaaGreatDoor

namespace Go.Proofs.YtknkdbincaonbaaGreatDoor
open Go.RowKit Go.Shelf

theorem Tryz.infoAt:(Tryz.prog.info? 53).map (fun i=>(i.zero,i.size,i.bytes))=some (some (.agg #[.int .i64 0,.int .i64 0]),2,16):=by kernel_rfl
def Bears (cs:Array Value) (s:List (Int×Int)) (j:Nat):Prop:=cs.size=s.length * 2∧∀ (i:Nat) (hi:i<s.length),i<j→cs[i * 2]?=some (.int .i64 (s[i]).1)∧cs[i * 2+1]?=some (.int .i64 (s[i]).2)
theorem Bears.next {cs:Array Value} {s:List (Int×Int)} {j:Nat} (h:Bears cs s j) (hj:j<s.length) {x y:Int} (hx:s[j]=(x,y)):Bears ((cs.setIfInBounds (j * 2) (.int .i64 x)).setIfInBounds (j * 2+1) (.int .i64 y)) s (j+1):=by
 refine ⟨by simp [h.1],fun i hi hij=>?_⟩
 have hs:=h.1
 by_cases e:i=j
 · subst e
   rw [hx]
   exact ⟨by rw [Array.getElem?_setIfInBounds_ne (by omega),Array.getElem?_setIfInBounds_self_of_lt (by omega)],by rw [Array.getElem?_setIfInBounds_self_of_lt (by simp;omega)]⟩
 · obtain ⟨h1,h2⟩:=h.2 i hi (by omega)
   exact ⟨by rw [Array.getElem?_setIfInBounds_ne (by omega),Array.getElem?_setIfInBounds_ne (by omega)];exact h1,by rw [Array.getElem?_setIfInBounds_ne (by omega),Array.getElem?_setIfInBounds_ne (by omega)];exact h2⟩
def ReadP (B:Nat) (W:World) (v:Value) (s:List (Int×Int)):Prop :=
 ∃ g cap,v = .slice (some ⟨g,0,none⟩) s.length cap∧g<B∧∀ (j:Nat) (hj:j<s.length),W.cell? ⟨g,j * 2,none⟩=some (.int .i64 (s[j]).1)∧W.cell? ⟨g,j * 2+1,none⟩=some (.int .i64 (s[j]).2)
theorem ReadP.below {B:Nat} {W W':World} {v:Value} {s:List (Int×Int)} (h:ReadP B W v s) (hb:Below B W W'):ReadP B W' v s:=by
 obtain ⟨g,cap,e,hg,hc⟩:=h
 exact ⟨g,cap,e,hg,fun j hj=>⟨(hb.cell (p:=⟨g,j * 2,none⟩) hg).trans (hc j hj).1,(hb.cell (p:=⟨g,j * 2+1,none⟩) hg).trans (hc j hj).2⟩⟩
theorem ReadP.next {W W':World} {v:Value} {s:List (Int×Int)} (h:ReadP W.heap.size W v s) (hb:Below W.heap.size W W'):ReadP W'.heap.size W' v s:=by
 obtain ⟨g,cap,e,hg,hc⟩:=h.below hb
 exact ⟨g,cap,e,Nat.lt_of_lt_of_le hg hb.size,hc⟩

theorem told_any (W:World) (base:Nat) (v:Value) (l:List (Int×Int)) (hne:l≠[]) (hnd:l.Nodup) (hlen:l.length≤1000) (hbase:base≤W.heap.size) (hown:OwnP W base v l) :
 Calls Tryz.prog 176 #[v] W fun e w'=>∃ u s,e = .returned u∧s.Perm l∧s.Pairwise (fun a b=>aheadB a b=true)∧ReadP w'.heap.size w' u s∧Below base W w':=by
 have HS:=Lib.hid (odd_any W base v l hne hnd hlen hbase hown)
 have HL:=Lib.hid hlen
 have HNE:=Lib.hid hne
 obtain ⟨i0,hi,hz0,hz1,hz2⟩:=info_parts Tryz.infoAt
 have hmk:=fun (W:World) (N:Nat) (hN:N≤1000)=>run_make (P:=Tryz.prog) W 47 53 i0 (.agg #[.int .i64 0,.int .i64 0]) Tryz.underlying47 hi hz0 .i64 .i64 (N:Int) (N:Int) (by omega) (by omega) (by rw [hz2];omega) (by omega)
 simp only [hz1,Int.toNat_natCast] at hmk
 have HMK:=Lib.hid hmk
 clear hown hne hnd hlen hmk hi hz0 hz1 hz2
 go_enter Tryz.func176,Tryz.ntmps176
 go_wp2_with fail
 refine HS.out.mono ?_
 rintro e w1 ⟨u,s,rfl,hperm,hst,ho,hB1⟩
 clear HS
 have hN:=hperm.length_eq
 have HP:=Lib.hid hperm
 have HT:=Lib.hid hst
 have hs0:0<s.length:=by rw [hN];exact List.length_pos_iff.2 HNE.out
 have hsl:s.length≤1000:=by rw [hN];exact HL.out
 obtain ⟨g,cap,rfl,hg,hg1⟩:=World.ownsRow.form ho hs0
 have HC:Hid (∀ (j:Nat) (hj:j<s.length),w1.cell? ⟨g,j * 2,none⟩=some (.int .i64 (s[j]).1)∧w1.cell? ⟨g,j * 2+1,none⟩=some (.int .i64 (s[j]).2)):=fun j hj=>by
  obtain ⟨k0,k1⟩:=codeCells_at s j hj
  rw [Nat.mul_comm 2 j] at k0 k1
  exact ⟨(World.ownsRow.cellAt ho (j * 2) (by omega)).trans k0,(World.ownsRow.cellAt ho (j * 2+1) (by omega)).trans k1⟩
 clear hperm hst ho hN
 obtain ⟨n,hn⟩:∃ n,s.length=n:=⟨_,rfl⟩
 have HSL:=Lib.hid hn
 rw [hn] at hs0 hsl
 rw [hn]
 clear hn
 have hmk:=HMK.out w1 n hsl
 clear HMK
 have bA:=Blk.new w1 53 (madeCells (Value.agg #[.int .i64 0,.int .i64 0]).cells (n * 2))
 have hBA:=below_one w1 (.cells (madeCells (Value.agg #[.int .i64 0,.int .i64 0]).cells (n * 2)) 53)
 have hbz:(madeCells (Value.agg #[.int .i64 0,.int .i64 0]).cells (n * 2)).size=n * 2:=size_madeCells _ _
 obtain ⟨wA,hwA⟩:∃ wA,w1.alloc (.cells (madeCells (Value.agg #[.int .i64 0,.int .i64 0]).cells (n * 2)) 53)=wA:=⟨_,rfl⟩
 rw [hwA] at hmk bA hBA
 generalize madeCells (Value.agg #[.int .i64 0,.int .i64 0]).cells (n * 2)=csA at bA hbz
 clear hwA
 go_wp2_with fail
 go_loopw [14] (fun i wr=>∃ (j:Nat) (cs:Array Value),j≤n∧i = .int .i64 j∧Blk wr w1.heap.size 53 cs∧Bears cs s j∧Below w1.heap.size w1 wr) (fun i _=>n - (intOf i).toNat)
 case atStart=>exact ⟨0,csA,by omega,rfl,bA,⟨by rw [hbz,HSL.out],fun i _ h=>absurd h (by omega)⟩,hBA⟩
 case round =>
  clear bA hbz hBA hmk
  obtain ⟨j,cs,hj,rfl,bA,hbe,hB⟩:=hrel
  by_cases hlt:j<n
  · have hdec:decide ((j:Int)<(n:Int))=true:=by simp;omega
    have hjs:j<s.length:=by rw [HSL.out];exact hlt
    obtain ⟨x0,x1⟩:=HC.out j hjs
    replace x0:=nextc x0 hB
    replace x1:=nextc x1 hB
    have hsz:cs.size=n * 2:=by rw [hbe.1,HSL.out]
    have HNX:=Lib.hid (fun x y (h:s[j]=(x,y))=>hbe.next hjs h)
    generalize hx:s[j]=x at *
    obtain ⟨px,py⟩:=x
    replace HNX:=Lib.hid (HNX.out _ _ rfl)
    have hBx:=below_one wr (.cells #[.int .i64 px,.int .i64 py] 207)
    have bX:=Blk.new wr 207 #[.int .i64 px,.int .i64 py]
    have bA2:=bA.below hBx bA.lt
    have c0:=bA2.cell (j * 2)
    have c1:=bA2.cell (j * 2+1)
    rw [Array.getElem?_eq_getElem (show j * 2<cs.size by omega)] at c0
    rw [Array.getElem?_eq_getElem (show j * 2+1<cs.size by omega)] at c1
    have f0:=bA2.frozen (j * 2)
    have f1:=bA2.frozen (j * 2+1)
    have i1:(0:Int)≤(j:Int):=by omega
    have i2:(j:Int)<(n:Int):=by omega
    generalize cs[j * 2]'_=o0 at c0
    generalize cs[j * 2+1]'_=o1 at c1
    clear hx hbe hsz
    have HBX:Hid (∀ V,V=((wr.alloc (.cells #[.int .i64 px,.int .i64 py] 207)).setCell ⟨w1.heap.size,j * 2,none⟩ (.int .i64 px)).setCell ⟨w1.heap.size,j * 2+1,none⟩ (.int .i64 py) →
     Blk V w1.heap.size 53 ((cs.setIfInBounds (j * 2) (.int .i64 px)).setIfInBounds (j * 2+1) (.int .i64 py))∧Below w1.heap.size w1 V):=fun V h=>by
     rw [h]
     exact ⟨(bA2.set_ (j * 2) _).set_ (j * 2+1) _,(((below_in hB hBx)).setCell (Nat.le_refl _) _).setCell (Nat.le_refl _) _⟩
    go_wp2_with fail
    go_roundw
    case rel=>exact ⟨j+1,_,hlt,by go_num,(HBX.out _ rfl).1,HNX.out,(HBX.out _ rfl).2⟩
    case measure=>simp [intOf];omega
  · obtain rfl:j=n:=by omega
    have hdec:decide ((j:Int)<(j:Int))=false:=by simp
    go_wp2
    go_ret
    refine ⟨_,s,rfl,HP.out,HT.out,⟨w1.heap.size,j,by rw [HSL.out];rfl,bA.lt,fun i hi=>?_⟩,hB1.trans (hB.mono (by have:=hB1.size;omega))⟩
    rw [bA.cell (i * 2),bA.cell (i * 2+1)]
    exact hbe.2 i hi (by rw [←HSL.out];exact hi)
end Go.Proofs.YtknkdbincaonbaaGreatDoor
