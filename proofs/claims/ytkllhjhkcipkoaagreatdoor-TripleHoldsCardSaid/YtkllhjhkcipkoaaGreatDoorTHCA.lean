/- -/
import Derived.Test.YtkllhjhkcipkoaaGreatDoorRows
import Derived.WalkKit
import Derived.WalkSpells
import Derived.WalkLawsBesides
import Derived.Laws.BitsAllLaws
import Derived.Lib.Hide
import Derived.Below
import Derived.Laws.OwnMore
import Derived.Deep.Draws
import Derived.Laws.Rows
import Derived.RangeFuncNested
import Derived.Maps.AppendAt
import Derived.Deep.AppendLies
import Derived.Laws.BytesArg
import Derived.ProofKit
import Derived.OpenShut
import Derived.Deep.DeepCutAuto
import Derived.Deep.RegionHeld3
import Derived.BigRegion
import Derived.Deep.QuietTactic
import Derived.BigQuiet
import Derived.Deep.RegionWith
import Derived.Outline
import Derived.Recover
import Derived.Defers
import Derived.Shelf.Abstract
import Derived.Lib.BitFns
import Derived.WalkMore
import Derived.RangeFuncBound
import Derived.RangeFuncCalls
import Derived.RangeFuncLeaves
import Derived.Shelf.RegionOpen
import Derived.OwnWalkIn
import Derived.TacticsInMore
import Derived.LoopNIn
import Derived.LoopIn
import Derived.Lib.Walk
import Derived.Lib.Small
import Derived.Laws.ShiftsVarLaws
import Derived.Lib.SliceRun
import Derived.ArgAppend
import Derived.Laws.IdiomCopy
import Derived.Lib.AppendZeros
import Derived.Deep.RegionLaw
import Derived.Test.YtkllhjhkcipkoaaGreatDoorTHSA
set_option linter.unusedVariables false
set_option linter.unusedSimpArgs false
set_option maxRecDepth 100000
set_option maxHeartbeats 1000000
namespace Go.Proofs.YtkllhjhkcipkoaaGreatDoor.C
open Go.RowKit

section
variable {w w':World} {g:Nat} {t:TypeId} {cs:Array Value}
theorem _root_.Go.Proofs.YtkllhjhkcipkoaaGreatDoor.Blk.setRow (h:Blk w g t cs) (cs':Array Value):Blk (w.setRow g cs') g t cs':=setRow_heap w g cs _ t _ h
theorem _root_.Go.Proofs.YtkllhjhkcipkoaaGreatDoor.Blk.farRow (h:Blk w g t cs) {g':Nat} (hg:g≠g') (cs':Array Value):Blk (w.setRow g' cs') g t cs:=(setRow_other w g' g cs' hg).trans h
theorem below_setRow {B g:Nat} {a w:World} (h:Below B a w) (hg:B≤g) (cs:Array Value):Below B a (w.setRow g cs) :=
 ⟨h.os,h.tape,h.output,by simpa using h.size,fun i hi=>(setRow_other w g i cs (by omega)).trans (h.block i hi)⟩
end

def Bytes (B:Nat) (W:World) (v:Value) (l:List UInt8):Prop :=
 ∃ A cap,v = .slice A l.length cap∧l.length≤cap∧(0<l.length→∃ b off,A=some ⟨b,off,none⟩∧b<B∧∀ j,j<l.length→W.cell? ⟨b,off+j,none⟩=some (.int .u8 ((l[j]?.getD 0).toNat:Int)))

section
variable {W W':World} {B B':Nat} {v:Value} {l:List UInt8}
theorem Bytes.keep (h:Bytes B W v l) (hk:∀ p:Addr,p.block<B→W'.cell? p=W.cell? p):Bytes B W' v l:=by
 obtain ⟨A,cap,e,hc,hA⟩:=h
 refine ⟨A,cap,e,hc,fun hp=>?_⟩
 obtain ⟨b,off,e2,hb,hcell⟩:=hA hp
 exact ⟨b,off,e2,hb,fun j hj=>(hk ⟨b,off+j,none⟩ hb).trans (hcell j hj)⟩
theorem Bytes.below (h:Bytes B W v l) (hb:Below B W W'):Bytes B W' v l:=h.keep fun _ hp=>hb.cell hp
theorem Bytes.more (h:Bytes B W v l) (hB:B≤B'):Bytes B' W v l:=by
 obtain ⟨A,cap,e,hc,hA⟩:=h
 refine ⟨A,cap,e,hc,fun hp=>?_⟩
 obtain ⟨b,off,e2,hb,hcell⟩:=hA hp
 exact ⟨b,off,e2,by omega,hcell⟩
theorem Bytes.nil_ (B:Nat) (W:World) (A:Option Addr) (cap:Nat):Bytes B W (.slice A 0 cap) []:=⟨A,cap,rfl,Nat.zero_le _,fun h=>absurd h (by simp)⟩
end

def Lists (B:Nat) (W:World) (vs:List Value) (ls:List (List UInt8)):Prop :=
 vs.length=ls.length∧∀ j,j<ls.length→Bytes B W (vs[j]?.getD undef) (ls[j]?.getD [])

def Many (B:Nat) (W:World) (v:Value) (ls:List (List UInt8)):Prop :=
 ∃ A cap,v = .slice A ls.length cap∧ls.length≤cap∧(0<ls.length→∃ b off,A=some ⟨b,off,none⟩∧b<B ∧
  ∀ j,j<ls.length→∃ u,W.cell? ⟨b,off+j,none⟩=some u∧Bytes B W u (ls[j]?.getD []))

section
variable {W W':World} {B B':Nat} {v:Value} {ls:List (List UInt8)}
theorem Many.keep (h:Many B W v ls) (hk:∀ p:Addr,p.block<B→W'.cell? p=W.cell? p):Many B W' v ls:=by
 obtain ⟨A,cap,e,hc,hA⟩:=h
 refine ⟨A,cap,e,hc,fun hp=>?_⟩
 obtain ⟨b,off,e2,hb,hcell⟩:=hA hp
 refine ⟨b,off,e2,hb,fun j hj=>?_⟩
 obtain ⟨u,hu,hb'⟩:=hcell j hj
 exact ⟨u,(hk ⟨b,off+j,none⟩ hb).trans hu,hb'.keep hk⟩
theorem Many.below (h:Many B W v ls) (hb:Below B W W'):Many B W' v ls:=h.keep fun _ hp=>hb.cell hp
theorem Many.more (h:Many B W v ls) (hB:B≤B'):Many B' W v ls:=by
 obtain ⟨A,cap,e,hc,hA⟩:=h
 refine ⟨A,cap,e,hc,fun hp=>?_⟩
 obtain ⟨b,off,e2,hb,hcell⟩:=hA hp
 refine ⟨b,off,e2,by omega,fun j hj=>?_⟩
 obtain ⟨u,hu,hb'⟩:=hcell j hj
 exact ⟨u,hu,hb'.more hB⟩
theorem Many.nil_ (B:Nat) (W:World) (A:Option Addr) (cap:Nat):Many B W (.slice A 0 cap) []:=⟨A,cap,rfl,Nat.zero_le _,fun h=>absurd h (by simp)⟩
end

theorem Tryz.infoByte:(Tryz.prog.info? 5).map (fun i=>(i.zero,i.size,i.bytes))=some (some (.int .u8 0),1,1):=by kernel_rfl

def enc (c:UInt8):Value:=.int .u8 (c.toNat:Int)
def OwnB (w:World) (base:Nat) (v:Value) (l:List UInt8):Prop:=w.ownsRow base 5 1 v l.length (l.map enc)

theorem OwnB.bytes {w:World} {base:Nat} {v:Value} {l:List UInt8} (h:OwnB w base v l):Bytes w.heap.size w v l:=by
 rcases h.2 with ⟨rfl,h0⟩ | ⟨g,cap,cur,rfl,_,hg,hn,_,hsz,ht⟩
 · have:l = []:=List.eq_nil_of_length_eq_zero h0
   subst this
   exact Bytes.nil_ _ _ _ _
 · refine ⟨_,cap,rfl,hn,fun hp=>⟨g,0,rfl,?_,fun j hj=>?_⟩⟩
   · exact (Array.getElem?_eq_some_iff.1 hg).1
   · rw [Nat.zero_add,cell_of_row w g j cur _ (0,0) hg]
     have e:(l.map enc)[j]?=some (enc (l[j]?.getD 0)):=by
      rw [List.getElem?_map,List.getElem?_eq_getElem hj];rfl
     rw [←ht,List.getElem?_take_of_lt (by omega)] at e
     rw [Array.getElem?_toList] at e
     exact e

theorem run_app {P:Program} (w:World) (base:Nat) (ty:TypeId) (i:TypeInfo) (ht:P.underlying 60=some (.slice 5)) (hi:P.info? 5=some i) (hz:i.zero=some (.int .u8 0)) (hsize:i.size=1) (hby:i.bytes=1)
 (v:Value) (xs:List UInt8) (hown:OwnB w base v xs) (B:Nat) (sv:Value) (ys:List UInt8) (hb:Bytes B w sv ys) (hlen:xs.length+ys.length≤140737488355328) (hbase:base≤w.heap.size) :
 ∃ v' w',(Builtin.append_ #[60,60] ty #[v,sv]).run P w = .ok v' w'∧OwnB w' base v' (xs ++ ys)∧w.grownBy w' v.ownBlock∧(v'.ownBlock=v.ownBlock∨v'.ownBlock=some w.heap.size):=by
 obtain ⟨A,cap,rfl,_,hA⟩:=hb
 rcases A with _ | ad
 · have hn:ys = []:=by
    rcases Nat.eq_zero_or_pos ys.length with h0 | h0
    · exact List.eq_nil_of_length_eq_zero h0
    · obtain ⟨b,off,h,_⟩:=hA h0
      cases h
   subst hn
   refine ⟨v,w,?_,by simpa using hown,World.grownBy.refl w _,.inl rfl⟩
   rcases hown.2 with ⟨rfl,h0⟩ | ⟨g,cap',cur,rfl,_,_,hnc,_⟩
   · simp [Builtin.append_,run_underlying ht,sizeOf,typeInfo,hi,Builtin.lenOf,Builtin.firstCells]
   · simp [Builtin.append_,run_underlying ht,sizeOf,typeInfo,hi,Builtin.lenOf,Builtin.firstCells,hnc,storeCells]
 · have hcells:∀ j u,(ys.map enc)[j]?=some u→w.cell? (ad.add j)=some u:=by
    intro j u hu
    have hj:j<ys.length:=by simpa using (List.getElem?_eq_some_iff.1 hu).1
    obtain ⟨b,off,h,_,hc⟩:=hA (by omega)
    injection h with h
    subst h
    rw [addr_add,hc j hj]
    rw [List.getElem?_map,List.getElem?_eq_getElem hj] at hu
    rw [List.getElem?_eq_getElem hj]
    exact hu
   obtain ⟨v',w',hrun,h2,h3,_,h5⟩:=run_append_own_at (P:=P) w base 60 ty 5 i (.int .u8 0) 1 1 ht hi hz hsize hby rfl (by omega) v xs.length (xs.map enc) hown ad ys.length cap (ys.map enc) (by simp) hcells
    (by intro u hu;obtain ⟨c,_,rfl⟩:=List.mem_map.1 hu;rfl) (by unfold maxLen;omega) (by omega) hbase
   exact ⟨v',w',hrun,by unfold OwnB;simpa using h2,h3,h5⟩

theorem wp_app {P:Program} (w:World) {o:Oper} {a:Act} {K:Act→World→Prop} {Q:Exit→Act→World→Prop} (s x:Operand)
 (ho:o.op = .call { callee:=.builtin .append,args:=#[s,x],argTypes:=#[60,60] })
 (base:Nat) (i:TypeInfo) (ht:P.underlying 60=some (.slice 5)) (hi:P.info? 5=some i) (hz:i.zero=some (.int .u8 0)) (hsize:i.size=1) (hby:i.bytes=1)
 (v:Value) (xs:List UInt8) (hs:a.eval s=v) (hown:OwnB w base v xs) (B:Nat) (sv:Value) (ys:List UInt8) (hx:a.eval x=sv) (hb:Bytes B w sv ys) (hlen:xs.length+ys.length≤140737488355328) (hbase:base≤w.heap.size)
 (h:∀ v' w',OwnB w' base v' (xs ++ ys)→w.grownBy w' v.ownBlock→(v'.ownBlock=v.ownBlock∨v'.ownBlock=some w.heap.size)→K (a.put o.dst v') w'):o.wp P a w K Q:=by
 obtain ⟨v',w',hrun,h2,h3,h4⟩:=run_app (P:=P) w base o.type i ht hi hz hsize hby v xs hown B sv ys hb hlen hbase
 unfold Oper.wp execOp
 simp only [ho,resolve,invoke,builtin,Sem.run_bind,Sem.run_pure,Result.andThen_ok,List.map_toArray,List.map_cons,List.map_nil,hs,hx,hrun]
 exact h v' w' h2 h3 h4

theorem step_app {P:Program} (w:World) {ops:Array Oper} {o:Oper} {a:Act} {K:Act→World→Prop} {Q:Exit→Act→World→Prop} {E:Prop} (hgd:o.guard=none) (s x:Operand)
 (ho:o.op = .call { callee:=.builtin .append,args:=#[s,x],argTypes:=#[60,60] })
 (base:Nat) (i:TypeInfo) (ht:P.underlying 60=some (.slice 5)) (hi:P.info? 5=some i) (hz:i.zero=some (.int .u8 0)) (hsize:i.size=1) (hby:i.bytes=1)
 (v:Value) (xs:List UInt8) (hs:a.eval s=v) (hown:OwnB w base v xs) (B:Nat) (sv:Value) (ys:List UInt8) (hx:a.eval x=sv) (hb:Bytes B w sv ys) (hlen:xs.length+ys.length≤140737488355328) (hbase:base≤w.heap.size)
 (h:∀ v' w',OwnB w' base v' (xs ++ ys)→w.grownBy w' v.ownBlock→(v'.ownBlock=v.ownBlock∨v'.ownBlock=some w.heap.size)→K (a.put o.dst v') w') :
 if Region.wanted o (yielded ops a.tmps)=true then Oper.wp P o a w K Q else E:=by
 have hw:Region.wanted o (yielded ops a.tmps)=true:=by simp [Region.wanted,hgd]
 rw [if_pos hw]
 exact wp_app w s x ho base i ht hi hz hsize hby v xs hs hown B sv ys hx hb hlen hbase h

theorem run_text {P:Program} (w:World) (dst:TypeId) (ht:P.underlying 60=some (.slice 5)) (he:P.underlying 5=some (.int .u8)) (hd:P.underlying dst=some .string)
 {B:Nat} {v:Value} {l:List UInt8} (h:Bytes B w v l):(convert 60 dst v).run P w = .ok (.string ⟨l.toArray⟩) w:=by
 obtain ⟨A,cap,rfl,_,hA⟩:=h
 rcases A with _ | ad
 · have hn:l = []:=by
    rcases Nat.eq_zero_or_pos l.length with h0 | h0
    · exact List.eq_nil_of_length_eq_zero h0
    · obtain ⟨b,off,h,_⟩:=hA h0
      cases h
   subst hn
   exact run_convert_bytes_nil w _ _ ht he _ _ _ hd
 · refine run_convert_bytes_back w _ _ _ ad cap l ht he hd fun j hj=>?_
   obtain ⟨b,off,h,_,hc⟩:=hA (by omega)
   injection h with h
   subst h
   rw [addr_add,hc j hj,List.getElem?_eq_getElem hj];rfl

def IsRow (k:IntKind) (w:World) (a:Option Addr) (len cap:Nat) (zs:List Int):Prop :=
 (a=none∧len=0∧cap=0∧zs = []) ∨
 ∃ x,a=some x∧len≤cap∧cap≤maxLen∧zs.length=cap∧(∀ i,i<zs.length→w.cell? (x.add i)=some (.int k (zs.getD i 0)))∧∀ n∈zs,(Lit.int k n).wf=true

theorem wf_u8 {n:Int} (h:(Lit.int .u8 n).wf=true):0≤n∧n<256:=by
 have:=bounds_u8 h
 omega
theorem row_bytes {w:World} {a:Option Addr} {len cap:Nat} {zs:List Int} (h:IsRow .u8 w a len cap zs):∃ l:List UInt8,l.length=len∧Bytes w.heap.size w (.slice a len cap) l:=by
 rcases h with ⟨rfl,rfl,rfl,rfl⟩ | ⟨x,rfl,hl,_,hz,hcell,hwz⟩
 · exact ⟨[],rfl,Bytes.nil_ _ _ _ _⟩
 · have hlen:((zs.take len).map fun z=>UInt8.ofNat z.toNat).length=len:=by rw [List.length_map,List.length_take];omega
   refine ⟨(zs.take len).map fun z=>UInt8.ofNat z.toNat,hlen,?_⟩
   unfold Bytes
   rw [hlen]
   refine ⟨some x,cap,rfl,hl,fun hp=>?_⟩
   obtain ⟨b,off,spot⟩:=x
   have hc:=hcell 0 (by omega)
   have hspot:spot=none:=by simpa [Addr.add] using World.cell?_spot hc
   subst hspot
   refine ⟨b,off,rfl,?_,fun j hj=>?_⟩
   · have:=block_lt_of_cell hc
     simpa [Addr.add] using this
   · have hj':j<zs.length:=by omega
     rw [←addr_add,hcell j hj']
     have hw:=wf_u8 (hwz _ (List.getElem_mem hj'))
     have e:((zs.take len).map fun z=>UInt8.ofNat z.toNat)[j]?.getD 0=UInt8.ofNat zs[j].toNat:=by
      rw [List.getElem?_map,List.getElem?_take_of_lt hj,List.getElem?_eq_getElem hj'];rfl
     rw [e,List.getD_eq_getElem?_getD,List.getElem?_eq_getElem hj']
     have:((UInt8.ofNat zs[j].toNat).toNat:Int)=zs[j]:=by
      have e2:(UInt8.ofNat zs[j].toNat).toNat=zs[j].toNat % 256:=by simp
      omega
     rw [this];rfl
def Row (w:World) (g:Nat) (l:List UInt8):Prop:=Blk w g 5 (l.map enc).toArray
theorem Row.set_ {w:World} {g:Nat} {l:List UInt8} (h:Row w g l) (k:Nat) (c:UInt8):Row (w.setCell ⟨g,k,none⟩ (.int .u8 (c.toNat:Int))) g (l.set k c):=by
 have e:((l.set k c).map enc).toArray=((l.map enc).toArray).setIfInBounds k (.int .u8 (c.toNat:Int)):=by
  rw [List.map_set,List.setIfInBounds_toArray];rfl
 unfold Row
 rw [e]
 exact Blk.set_ h k _
theorem Row.far {w:World} {g:Nat} {l:List UInt8} (h:Row w g l) {p:Addr} (hp:g≠p.block) (u:Value):Row (w.setCell p u) g l:=Blk.far h hp u
theorem Row.cell {w:World} {g:Nat} {l:List UInt8} (h:Row w g l) {k:Nat} (hk:k<l.length):w.cell? ⟨g,k,none⟩=some (.int .u8 ((l[k]?.getD 0).toNat:Int)):=by
 have h':Blk w g 5 (l.map enc).toArray:=h
 rw [h'.cell k,List.getElem?_toArray,List.getElem?_map,List.getElem?_eq_getElem hk];rfl
theorem Row.frozen {w:World} {g:Nat} {l:List UInt8} (h:Row w g l) (k:Nat):w.frozen? ⟨g,k,none⟩=false:=Blk.frozen h k
theorem Row.lt {w:World} {g:Nat} {l:List UInt8} (h:Row w g l):g<w.heap.size:=Blk.lt h
theorem Row.bytes {w:World} {g:Nat} {l:List UInt8} (h:Row w g l) {n:Nat} (hn:l.length=n):Bytes w.heap.size w (.slice (some ⟨g,0,none⟩) n n) l:=by
 subst hn
 exact ⟨_,_,rfl,Nat.le_refl _,fun _=>⟨g,0,rfl,h.lt,fun j hj=>by rw [Nat.zero_add];exact h.cell hj⟩⟩
theorem Row.made (w:World) (n:Nat):Row (w.alloc (.cells (madeCells #[.int .u8 0] n) 5)) w.heap.size (List.replicate n 0):=by
 have e:((List.replicate n (0:UInt8)).map enc).toArray=madeCells #[.int .u8 0] n:=by
  apply Array.toList_inj.1
  rw [toList_madeCells_one,List.map_replicate];rfl
 unfold Row
 rw [e]
 exact Blk.new w _ _
theorem Row.alloc {w:World} {g:Nat} {l:List UInt8} (h:Row w g l) (o:Obj):Row (w.alloc o) g l:=Blk.alloc h o

theorem byte_lt (c:UInt8):c.toNat<256:=by have:=c.toNat_lt;omega
theorem bits_u8 (a b:UInt8):bits .xor .u8 (a.toNat:Int) (b.toNat:Int)=((a ^^^ b).toNat:Int):=by
 rw [u8_xor_nat _ _ (byte_lt a) (byte_lt b),UInt8.toNat_xor]
theorem Bytes.take_ {B:Nat} {w:World} {A:Option Addr} {n cap:Nat} {l:List UInt8} (h:Bytes B w (.slice A n cap) l) {m:Nat} (hm:m≤n):Bytes B w (.slice A m cap) (l.take m):=by
 obtain ⟨A',cap',e,hc,hA⟩:=h
 injection e with e1 e2 e3
 subst e1 e2 e3
 have hl:(l.take m).length=m:=by rw [List.length_take];omega
 refine ⟨A,cap,by rw [hl],by omega,fun hp=>?_⟩
 obtain ⟨b,off,e,hb,hcell⟩:=hA (by omega)
 exact ⟨b,off,e,hb,fun j hj=>by rw [hcell j (by omega),List.getElem?_take_of_lt (by omega)]⟩
end Go.Proofs.YtkllhjhkcipkoaaGreatDoor.C

namespace Go.Proofs.YtkllhjhkcipkoaaGreatDoor.C
open Go.RowKit

def gaveUp:List PanicEntry:=[{ v:=.iface 26 (.int .i64 2),recovered:=false }]

theorem need_yes (w:World):Calls Tryz.prog 158 #[.bool true] w fun e w'=>e = .returned (.tuple #[])∧w=w':=by
 go_enter Tryz.func158,Tryz.ntmps158
 go_wp2
 go_end0
 exact ⟨rfl,rfl⟩

theorem need_no (w:World):Calls Tryz.prog 158 #[.bool false] w fun e w'=>e = .panicked gaveUp∧w=w':=by
 go_enter Tryz.func158,Tryz.ntmps158
 go_wp2
 exact ⟨rfl,rfl,rfl⟩

theorem isLength_any (n:Int) (w:World):Calls Tryz.prog 159 #[.int .i64 n] w fun e w'=>e = .returned (.bool (decide (1≤n∧n≤64)))∧w=w':=by
 by_cases h1:1≤n
 · have d1:decide (1≤n)=true:=by simpa using h1
   go_enter Tryz.func159,Tryz.ntmps159
   go_wp2
   go_ret
   exact ⟨ret_bool (by rw [decide_eq_decide];omega),rfl⟩
 · have d1:decide (1≤n)=false:=by simpa using h1
   go_enter Tryz.func159,Tryz.ntmps159
   go_wp2
   go_ret
   exact ⟨rfl,rfl⟩

def Cell (l:List UInt8):Prop:=1≤l.length∧l.length≤64
instance (l:List UInt8):Decidable (Cell l):=by unfold Cell;infer_instance

theorem right_any {B:Nat} (v:Value) (l:List UInt8) (w:World) (hb:Bytes B w v l):Calls Tryz.prog 45 #[v] w fun e w'=>e = .returned (.bool (decide (Cell l)))∧w=w':=by
 obtain ⟨A,cap,rfl,_,_⟩:=hb
 by_cases h1:1≤l.length
 · have d1:decide ((1:Int)≤(l.length:Int))=true:=by simp;omega
   go_enter Tryz.func45,Tryz.ntmps45
   go_wp2
   go_ret
   exact ⟨ret_bool (by unfold Cell;simp only [h1,true_and];rw [decide_eq_decide];omega),rfl⟩
 · have d1:decide ((1:Int)≤(l.length:Int))=false:=by simp;omega
   go_enter Tryz.func45,Tryz.ntmps45
   go_wp2
   go_ret
   exact ⟨ret_bool ((decide_eq_false (fun h:Cell l=>h1 h.1)).symm),rfl⟩

theorem assert_errno (w:World):(Instr.typeAssert (.iface 26 (.int .i64 2)) 20 26 false).run Tryz.prog w = .ok (.int .i64 2) w:=by kernel_rfl

theorem idleB (p:Addr) (w:World) :
 CallsD Tryz.prog 157 #[.pointer (some p)] .returning w fun e u' w'=>e = .returned (.tuple #[])∧u' = .returning∧w'=w:=by
 have hta:=assert_errno
 refine callsD_of_wpS Tryz.func157 rfl fun c₀ cs hu=>?_
 simp only [Tryz.ntmps157,List.size_toArray,List.length_cons,List.length_nil,Nat.reduceAdd,Nat.reduceSub,Array.replicate_succ,Array.replicate_zero,List.push_toArray,List.append_toArray,List.nil_append,List.cons_append]
 apply wpS_seq
 apply wpS_region
 simp [wpOpsS,go_sem,recoverD,hu,Exit.thenS]
 all_goals (refine wpS_of_wp ?_;go_wp2;cases c₀;simp_all [bodyPostS,results,Tryz.results157])

theorem answeredB_yes (f:Nat) (caps:Array Value) (w:World) (Post:Value→World→Prop) (hent:∀ W,(callFunc f caps).run Tryz.prog W = .ok (.enter f caps) W)
 (h:∀ W,Below w.heap.size w W→w.heap.size<W.heap.size→Calls Tryz.prog f caps W fun e w'=>∃ v,e = .returned v∧Post v w'∧Below W.heap.size W w')
 (hP:∀ v W,Post v W→Post v (W.setCell ⟨w.heap.size,0,none⟩ (.int .i64 0))) :
 Calls Tryz.prog 146 #[.func (.func f) #[] caps] w fun e w'=>∃ v,e = .returned (.tuple #[v,.int .i64 0])∧Post v w'∧Below w.heap.size w w':=by
 have hmf:∀ (fn:Fn) (first cap:Array Value) (w:World),(Instr.makeFunc fn first cap).run Tryz.prog w = .ok (.func fn first cap) w:=fun _ _ _ _=>rfl
 have h1:=h (w.alloc (.cells #[.int .i64 0] 26)) ((Below.refl _ w).alloc (Nat.le_refl _) _) (by simp)
 go_enter_defers Tryz.func146,Tryz.ntmps146
 go_wp2
 refine h1.mono ?_
 rintro e w1 ⟨v,rfl,hv,hB1⟩
 have b1:Blk w1 w.heap.size 26 #[.int .i64 0]:=(Blk.new w _ _).below hB1 (by simp)
 have c1:=b1.cell 0
 have f1:=b1.frozen 0
 simp only [List.getElem?_toArray,List.getElem?_cons_zero] at c1
 go_wp2
 refine leaves_cons (f:=157) (args:=#[.pointer (some ⟨w.heap.size,0,none⟩)]) (by simp) (by simp [go_sem]) ?_
 refine (idleB ⟨w.heap.size,0,none⟩ _).mono ?_
 rintro e u' w'' ⟨rfl,rfl,rfl⟩
 have c2:(w1.setCell ⟨w.heap.size,0,none⟩ (.int .i64 0)).cell? ⟨w.heap.size,0,none⟩=some (.int .i64 0):=World.cell?_setCell_same' _ _ _ (by rw [c1];rfl)
 simp [Leaves,settle,results,Tryz.results146,go_sem,c2]
 exact ⟨hP _ _ hv,(((Below.refl _ w).alloc (Nat.le_refl _) _).trans (hB1.mono (by simp))).setCell (Nat.le_refl _) _⟩

end Go.Proofs.YtkllhjhkcipkoaaGreatDoor.C

namespace Go.Proofs.YtkllhjhkcipkoaaGreatDoor.C

def at_ (l:List UInt8) (j:Nat):UInt8:=l[j]?.getD 0
def tab (n:Nat) (f:Nat→UInt8):List UInt8:=(List.range n).map f
theorem tab_len (n:Nat) (f:Nat→UInt8):(tab n f).length=n:=by simp [tab]
theorem tab_at (n:Nat) (f:Nat→UInt8) (j:Nat) (hj:j<n):at_ (tab n f) j=f j:=by simp [tab,at_,hj]
theorem tab_of (l:List UInt8):l=tab l.length (at_ l):=by
 apply List.ext_getElem
 · rw [tab_len]
 · intro j h1 h2
   simp [tab,at_,h1]
theorem tab_ext {n:Nat} {f g:Nat→UInt8} (h:∀ j,j<n→f j=g j):tab n f=tab n g:=by
 unfold tab
 apply List.map_congr_left
 intro j hj
 exact h j (List.mem_range.1 hj)
theorem tab_set (n:Nat) (f:Nat→UInt8) (k:Nat) (c:UInt8):(tab n f).set k c=tab n (fun j=>if j=k then c else f j):=by
 apply List.ext_getElem
 · simp [tab]
 · intro j h1 h2
   simp only [tab,List.getElem_set,List.getElem_map,List.getElem_range]
   by_cases h:k=j
   · simp [h]
   · simp [h,Ne.symm h]

def xorB (a b:List UInt8):List UInt8:=tab a.length (fun j=>at_ a j ^^^ at_ b j)
theorem xorB_len (a b:List UInt8):(xorB a b).length=a.length:=tab_len _ _
theorem xorB_at (a b:List UInt8) (j:Nat) (hj:j<a.length):at_ (xorB a b) j=at_ a j ^^^ at_ b j:=tab_at _ _ _ hj
def xorTo (a b:List UInt8) (k:Nat):List UInt8:=tab a.length (fun j=>if j<k then at_ a j ^^^ at_ b j else at_ a j)
theorem xorTo_len (a b:List UInt8) (k:Nat):(xorTo a b k).length=a.length:=tab_len _ _
theorem xorTo_zero (a b:List UInt8):xorTo a b 0=a:=by
 unfold xorTo
 conv=>rhs;rw [tab_of a]
 exact tab_ext fun j _=>by simp
theorem xorTo_all (a b:List UInt8) (k:Nat) (hk:a.length≤k):xorTo a b k=xorB a b:=tab_ext fun j hj=>by rw [if_pos (by omega)]
theorem xorTo_at (a b:List UInt8) (k:Nat) (hk:k<a.length):(xorTo a b k)[k]?.getD 0=at_ a k:=by
 have:=tab_at a.length (fun j=>if j<k then at_ a j ^^^ at_ b j else at_ a j) k hk
 exact this.trans (if_neg (Nat.lt_irrefl k))
theorem xorTo_next (a b:List UInt8) (k:Nat):(xorTo a b k).set k (at_ a k ^^^ at_ b k)=xorTo a b (k+1):=by
 unfold xorTo
 rw [tab_set]
 refine tab_ext fun j hj=>?_
 by_cases h:j=k
 · subst h;simp
 · by_cases h2:j<k
   · simp [h,h2,show j<k+1 by omega]
   · simp [h,h2,show ¬ j<k+1 by omega]

def xors (z:List UInt8) (ls:List (List UInt8)):List UInt8:=ls.foldl xorB z
theorem xors_len (z:List UInt8) (ls:List (List UInt8)):(xors z ls).length=z.length:=by
 unfold xors
 induction ls generalizing z with
 | nil=>rfl
 | cons a ls ih=>rw [List.foldl_cons,ih,xorB_len]
theorem xors_next (z:List UInt8) (ls:List (List UInt8)) (k:Nat) (hk:k<ls.length):xors z (ls.take (k+1))=xorB (xors z (ls.take k)) (ls[k]?.getD []):=by
 unfold xors
 rw [List.take_succ_eq_append_getElem hk,List.foldl_append,List.getElem?_eq_getElem hk];rfl
end Go.Proofs.YtkllhjhkcipkoaaGreatDoor.C

namespace Go.Proofs.YtkllhjhkcipkoaaGreatDoor.C
open Go.RowKit Go.Shelf

def Fresh (base:Nat) (W:World) (v:Value) (l:List UInt8):Prop :=
 ∃ A cap,v = .slice A l.length cap∧l.length≤cap∧(0<l.length→∃ b off,A=some ⟨b,off,none⟩∧base≤b∧b<W.heap.size∧∀ j,j<l.length→W.cell? ⟨b,off+j,none⟩=some (.int .u8 ((l[j]?.getD 0).toNat:Int)))

section
variable {W W':World} {base base':Nat} {v:Value} {l:List UInt8}
theorem Fresh.bytes (h:Fresh base W v l):Bytes W.heap.size W v l:=by
 obtain ⟨A,cap,e,hc,hA⟩:=h
 refine ⟨A,cap,e,hc,fun hp=>?_⟩
 obtain ⟨b,off,e2,_,hb,hcell⟩:=hA hp
 exact ⟨b,off,e2,hb,hcell⟩
theorem Fresh.keep (h:Fresh base W v l) (hs:W.heap.size≤W'.heap.size) (hk:∀ p:Addr,base≤p.block→p.block<W.heap.size→W'.cell? p=W.cell? p):Fresh base W' v l:=by
 obtain ⟨A,cap,e,hc,hA⟩:=h
 refine ⟨A,cap,e,hc,fun hp=>?_⟩
 obtain ⟨b,off,e2,hb1,hb2,hcell⟩:=hA hp
 exact ⟨b,off,e2,hb1,by omega,fun j hj=>(hk ⟨b,off+j,none⟩ hb1 hb2).trans (hcell j hj)⟩
theorem Fresh.below (h:Fresh base W v l) (hb:Below W.heap.size W W'):Fresh base W' v l:=h.keep hb.size fun _ _ hp=>hb.cell hp
theorem Fresh.set_ (h:Fresh base W v l) {p:Addr} (hp:p.block<base) (u:Value):Fresh base (W.setCell p u) v l :=
 h.keep (by simp [World.setCell]) fun q hq _=>World.cell?_of_block (Below.heap_setCell W p u q.block (by omega))
theorem Fresh.less (h:Fresh base W v l) (hb:base'≤base):Fresh base' W v l:=by
 obtain ⟨A,cap,e,hc,hA⟩:=h
 refine ⟨A,cap,e,hc,fun hp=>?_⟩
 obtain ⟨b,off,e2,hb1,hb2,hcell⟩:=hA hp
 exact ⟨b,off,e2,by omega,hb2,hcell⟩
theorem Fresh.nil_ (base:Nat) (W:World) (A:Option Addr) (cap:Nat):Fresh base W (.slice A 0 cap) []:=⟨A,cap,rfl,Nat.zero_le _,fun h=>absurd h (by simp)⟩
theorem Row.fresh {g n:Nat} (h:Row W g l) (hg:base≤g) (hn:l.length=n):Fresh base W (.slice (some ⟨g,0,none⟩) n n) l:=by
 subst hn
 exact ⟨_,_,rfl,Nat.le_refl _,fun _=>⟨g,0,rfl,hg,h.lt,fun j hj=>by rw [Nat.zero_add];exact h.cell hj⟩⟩
theorem OwnB.fresh (h:OwnB W base v l):Fresh base W v l:=by
 rcases h.2 with ⟨rfl,h0⟩ | ⟨g,cap,cur,rfl,hbg,hg,hn,_,hsz,ht⟩
 · have:l = []:=List.eq_nil_of_length_eq_zero h0
   subst this
   exact Fresh.nil_ _ _ _ _
 · refine ⟨_,cap,rfl,hn,fun hp=>⟨g,0,rfl,hbg,(Array.getElem?_eq_some_iff.1 hg).1,fun j hj=>?_⟩⟩
   rw [Nat.zero_add,cell_of_row W g j cur _ (0,0) hg]
   have e:(l.map enc)[j]?=some (enc (l[j]?.getD 0)):=by
    rw [List.getElem?_map,List.getElem?_eq_getElem hj];rfl
   rw [←ht,List.getElem?_take_of_lt (by omega)] at e
   rw [Array.getElem?_toList] at e
   exact e
end

theorem Bytes.form {B:Nat} {w:World} {v:Value} {l:List UInt8} (h:Bytes B w v l) {n:Nat} (hn:l.length=n):∃ A cap,v = .slice A n cap:=by
 obtain ⟨A,cap,e,_⟩:=h
 exact ⟨A,cap,by rw [e,hn]⟩
theorem Below.next {a b c:World} (h:Below a.heap.size a b) (k:Below b.heap.size b c):Below a.heap.size a c:=h.trans (k.mono h.size)

theorem Below.undrew {B:Nat} {a w:World} (h:Below B a.drew w):Below B a w:=⟨h.os,h.tape,h.output,h.size,h.block⟩
theorem cell_dec (l:List UInt8):decide (1≤(l.length:Int)∧(l.length:Int)≤64)=decide (Cell l):=by
 by_cases h:Cell l
 · rw [decide_eq_true h,decide_eq_true_iff];unfold Cell at h;omega
 · rw [decide_eq_false h,decide_eq_false_iff_not];unfold Cell at h;omega

theorem results_row_tmp {P:Program} {fn:Func} {p q:Tmp} {ty:TypeId} (h:fn.results=#[.cell p ty,.tmp q]) (tmps:Array Value) (w:World) (g:Nat) (t:TypeId) (cs:Array Value) (fr:Nat×Nat) (d:TypeDesc)
 (hp:tmps.getD p undef = .pointer (some ⟨g,0,none⟩)) (hg:w.heap[g]?=some (.cells cs t fr))
 (hu:P.underlying ty=some d) (hd:(match d with | .struct _ | .array _ _=>true | _=>false)=true) (hi:(P.info? ty).map (·.size)=some cs.size) {v:Value} (hv:tmps.getD q undef=v) :
 (results fn tmps).run P w = .ok (.tuple #[.agg cs,v]) w:=by
 have hp':tmps[p]?.getD undef = .pointer (some ⟨g,0,none⟩):=by simpa using hp
 have hv':tmps[q]?.getD undef=v:=by simpa using hv
 simp [results,h,hp',hv',asAddr,run_loadVar_row w g t ty cs fr d hg hu hd hi]

theorem cellOf_yes {B:Nat} (v:Value) (l:List UInt8) (w:World) (hb:Bytes B w v l) (hc:Cell l) :
 Calls Tryz.prog 154 #[v] w fun e w'=>e = .returned (.tuple #[.agg #[v],.bool true])∧Below w.heap.size w w':=by
 have h1:=fun W:World=>isLength_any (l.length:Int) W
 rw [cell_dec l,decide_eq_true hc] at h1
 obtain ⟨A,cap,rfl,_,_⟩:=hb
 have H:=Lib.hid h1
 clear h1
 go_enter Tryz.func154,Tryz.ntmps154
 go_wp2_with (go_at_call 159;refine (H.out _).mono ?_;rintro e w' ⟨rfl,rfl⟩)
 refine bodyPost_ret (results_row_tmp rfl _ _ w.heap.size _ _ _ _ rfl (heap_alloc_new w _) Tryz.underlying189 rfl (by show _=some 1;kernel_rfl) rfl) rfl ?_
 exact ⟨rfl,(Below.refl _ w).alloc (Nat.le_refl _) _⟩

theorem cellOf_no {B:Nat} (v:Value) (l:List UInt8) (w:World) (hb:Bytes B w v l) (hc:¬ Cell l) :
 Calls Tryz.prog 154 #[v] w fun e w'=>e = .returned (.tuple #[.agg #[.slice none 0 0],.bool false])∧Below w.heap.size w w':=by
 have h1:=fun W:World=>isLength_any (l.length:Int) W
 rw [cell_dec l,decide_eq_false hc] at h1
 obtain ⟨A,cap,rfl,_,_⟩:=hb
 have H:=Lib.hid h1
 clear h1
 go_enter Tryz.func154,Tryz.ntmps154
 go_wp2_with (go_at_call 159;refine (H.out _).mono ?_;rintro e w' ⟨rfl,rfl⟩)
 refine bodyPost_ret (results_row_tmp rfl _ _ w.heap.size _ _ _ _ rfl (heap_alloc_new w _) Tryz.underlying189 rfl (by show _=some 1;kernel_rfl) rfl) rfl ?_
 exact ⟨rfl,(Below.refl _ w).alloc (Nat.le_refl _) _⟩

theorem nought_yes (n:Nat) (h1:1≤n) (h64:n≤64) (w:World) :
 Calls Tryz.prog 148 #[.int .i64 (n:Int)] w fun e w'=>∃ g,e = .returned (.agg #[.slice (some ⟨g,0,none⟩) n n])∧w.heap.size≤g∧Row w' g (List.replicate n 0)∧Below w.heap.size w w':=by
 have h:=fun W:World=>isLength_any (n:Int) W
 rw [decide_eq_true (show 1≤(n:Int)∧(n:Int)≤64 by omega)] at h
 have H:=Lib.hid h
 clear h
 obtain ⟨i0,hi,hz0,hz1,hz2⟩:=info_parts Tryz.infoByte
 have hmk:=fun W:World=>run_make (P:=Tryz.prog) W 187 5 i0 (.int .u8 0) Tryz.underlying187 hi hz0 .i64 .i64 (n:Int) (n:Int) (by omega) (by omega) (by rw [hz2];omega) (by omega)
 simp only [hz1,Nat.mul_one,Int.toNat_natCast] at hmk
 go_enter Tryz.func148,Tryz.ntmps148
 go_wp2_with (first | (go_at_call 159;refine (H.out _).mono ?_;rintro e w' ⟨rfl,rfl⟩) | (go_at_call 158;refine (need_yes _).mono ?_;rintro e w' ⟨rfl,rfl⟩))
 have hR:=Row.made (w.alloc (.cells #[.slice (some ⟨w.heap.size+1,0,none⟩) n n] 189)) n
 rw [World.size_alloc] at hR
 refine bodyPost_ret (results_cell_row rfl _ _ w.heap.size _ _ _ _ rfl ((Blk.new w 189 #[.slice (some ⟨w.heap.size+1,0,none⟩) n n]).alloc _) Tryz.underlying189 rfl (by show _=some 1;kernel_rfl)) rfl ?_
 exact ⟨w.heap.size+1,rfl,by omega,hR,((Below.refl _ w).alloc (Nat.le_refl _) _).alloc (by simp) _⟩

theorem grown_set {w:World} (g:Nat) (i:Nat) (u:Value):w.grownBy (w.setCell ⟨g,i,none⟩ u) (some g) :=
 ⟨rfl,rfl,rfl,by simp [World.setCell],fun k _ hne=>Below.heap_setCell w ⟨g,i,none⟩ u k (fun e=>hne (by simp at e;rw [e]))⟩
theorem grown_newRow {a w:World} {row:Option Nat} (h:a.grownBy w row) {g:Nat} (hg:a.heap.size≤g) (cs:Array Value):a.grownBy (w.setRow g cs) row :=
 ⟨h.os,h.tape,h.output,by simpa using h.size,fun k hk hne=>(setRow_other w g k cs (by omega)).trans (h.block k hk hne)⟩
theorem grown_two (w:World) (o o':Obj) (row:Option Nat):w.grownBy ((w.alloc o).alloc o') row:=(World.grownBy_alloc w o row).trans (World.grownBy_alloc _ o' row)
theorem grown_below {a w:World} {g B:Nat} (h:a.grownBy w (some g)) (hg:B≤g) (hB:B≤a.heap.size):Below B a w:=(Below.refl B a).grown h hB (fun k e=>by cases e;exact hg)
theorem Row.grown {w w':World} {g:Nat} {l:List UInt8} {row:Option Nat} (h:Row w g l) (hb:w.grownBy w' row) (hg:some g≠row):Row w' g l:=Blk.grown h hb hg

theorem under_any (g n B:Nat) (a b:List UInt8) (v:Value) (w:World) (hBg:B≤g) (hR:Row w g a) (ha:a.length=n) (hb:Bytes B w v b) (hl:b.length=n) (hn:n≤64) :
 Calls Tryz.prog 168 #[.agg #[.slice (some ⟨g,0,none⟩) n n],v] w fun e w'=>e = .returned (.agg #[.slice (some ⟨g,0,none⟩) n n])∧Row w' g (xorB a b)∧w.grownBy w' (some g):=by
 obtain ⟨A,cap,rfl,_,hA⟩:=hb
 subst ha
 have hgw:=hR.lt
 rw [hl] at hA
 go_enter Tryz.func168,Tryz.ntmps168
 rw [hl]
 go_wp2
 go_loopw [9] (fun i wr=>∃ k:Nat,k≤a.length∧i = .int .i64 k∧Hid (Row wr g (xorTo a b k))∧Hid (Blk wr w.heap.size 189 #[.slice (some ⟨g,0,none⟩) a.length a.length])∧Hid (∃ x,Blk wr (w.heap.size+1) 189 #[x])∧w.grownBy wr (some g))
  (fun i _=>a.length - (intOf i).toNat)
 case atStart =>
  refine ⟨0,Nat.zero_le _,rfl,Lib.hid ?_,Lib.hid ?_,Lib.hid ?_,grown_two _ _ _ _⟩
  · rw [xorTo_zero];exact (hR.alloc _).alloc _
  · exact heap_alloc2_old w _ _
  · exact ⟨_,heap_alloc2_new w _ _⟩
 case round =>
  obtain ⟨k,hk,rfl,R,B1,B2,hG⟩:=hrel
  have hB:=grown_below hG hBg (by omega)
  by_cases hlt:k<a.length
  · have hdec:decide ((k:Int)<(a.length:Int))=true:=by simp;omega
    obtain ⟨b1,off,rfl,hb1,hcell⟩:=hA (by omega)
    have hc1:wr.cell? ⟨b1,off+k,none⟩=some (.int .u8 ((at_ b k).toNat:Int)):=(hB.cell (p:=⟨b1,off+k,none⟩) hb1).trans (hcell k hlt)
    have hc2:=B1.out.cell 0
    simp only [List.getElem?_toArray,List.getElem?_cons_zero] at hc2
    have hc3:=R.out.cell (k:=k) (by rw [xorTo_len];exact hlt)
    rw [xorTo_at a b k hlt] at hc3
    have hf3:=R.out.frozen k
    have hx:=bits_u8 (at_ a k) (at_ b k)
    have HN:=Lib.hid (xorTo_next a b k)
    clear hcell hA
    generalize at_ a k=x at *
    generalize at_ b k=y at *
    go_wp2
    go_roundw
    case rel =>
     refine ⟨k+1,by omega,by go_num,Lib.hid ?_,Lib.hid (B1.out.far (by simp;omega) _),Lib.hid ?_,hG.trans (grown_set g k _)⟩
     · have:=R.out.set_ k (x ^^^ y)
       rwa [HN.out] at this
     · obtain ⟨z,hz⟩:=B2.out
       exact ⟨z,hz.far (by simp;omega) _⟩
    case measure=>simp [intOf];omega
  · obtain rfl:k=a.length:=by omega
    have hk2:=B1.out
    obtain ⟨z,hz⟩:=B2.out
    have hc2:=B1.out.cell 0
    simp only [List.getElem?_toArray,List.getElem?_cons_zero] at hc2
    have R':=R.out
    rw [xorTo_all a b _ (Nat.le_refl _)] at R'
    have e1:decide ((a.length:Int)<(a.length:Int))=false:=by simp
    go_wp2_with (first
     | (refine wpList_load_row rfl 189 _ rfl w.heap.size rfl _ _ (0,0) _ hk2 Tryz.underlying189 rfl (by show _=some 1;kernel_rfl) ?_)
     | (refine wpList_store_row rfl 189 _ _ rfl (w.heap.size+1) #[.slice (some ⟨g,0,none⟩) a.length a.length] rfl rfl _ _ hz (by show _=some 1;kernel_rfl) (by kernel_rfl) (by kernel_rfl) ?_))
    refine bodyPost_ret (results_cell_row rfl _ _ (w.heap.size+1) _ #[.slice (some ⟨g,0,none⟩) a.length a.length] _ _ rfl (hz.setRow _) Tryz.underlying189 rfl (by show _=some 1;kernel_rfl)) rfl ?_
    exact ⟨rfl,Blk.farRow R' (by omega) _,grown_newRow hG (by omega) _⟩

def AllLen (n:Nat) (ls:List (List UInt8)):Prop:=∀ j,j<ls.length→(ls[j]?.getD []).length=n

theorem many_at {B:Nat} {w:World} {A:Option Addr} {cap:Nat} {ls:List (List UInt8)} (h:Many B w (.slice A ls.length cap) ls) (hp:0<ls.length) :
 ∃ b off,A=some ⟨b,off,none⟩∧b<B∧∀ j,j<ls.length→∃ A1 cp,w.cell? ⟨b,off+j,none⟩=some (.slice A1 (ls[j]?.getD []).length cp)∧Bytes B w (.slice A1 (ls[j]?.getD []).length cp) (ls[j]?.getD []):=by
 obtain ⟨A',cap',e,_,hA⟩:=h
 injection e with e1 _ e3
 subst e1 e3
 obtain ⟨b,off,e2,hb,hc⟩:=hA hp
 refine ⟨b,off,e2,hb,fun j hj=>?_⟩
 obtain ⟨u,hu,hB⟩:=hc j hj
 obtain ⟨A1,cp,rfl,_⟩:=id hB
 exact ⟨A1,cp,hu,hB⟩

theorem Tryz.enter_under (args:Array Value) (w:World):(callFunc 168 args).run Tryz.prog w = .ok (.enter 168 args) w:=(enters_of Tryz.func168 (by kernel_rfl) rfl) args w

theorem folded_any (g n B:Nat) (z:List UInt8) (ls:List (List UInt8)) (v:Value) (w:World) (hBg:B≤g) (hR:Row w g z) (hz:z.length=n) (hM:Many B w v ls) (hl:AllLen n ls) (hn:n≤64) (hls:ls.length≤140737488351232) :
 Calls Tryz.prog 166 #[.agg #[.slice (some ⟨g,0,none⟩) n n],.func (.func 168) #[] #[],v] w fun e w' =>
  e = .returned (.agg #[.slice (some ⟨g,0,none⟩) n n])∧Row w' g (xors z ls)∧w.grownBy w' (some g):=by
 obtain ⟨A,cap,rfl,_,_⟩:=id hM
 have hgw:=hR.lt
 have hent:=Tryz.enter_under
 go_enter Tryz.func166,Tryz.ntmps166
 go_wp2
 go_loopw [11] (fun i wr=>∃ k:Nat,k≤ls.length∧i = .int .i64 k∧Hid (Row wr g (xors z (ls.take k)))∧Hid (Blk wr w.heap.size 189 #[.slice (some ⟨g,0,none⟩) n n])∧Hid (∃ x,Blk wr (w.heap.size+1) 189 #[x])∧w.grownBy wr (some g))
  (fun i _=>ls.length - (intOf i).toNat)
 case atStart =>
  refine ⟨0,Nat.zero_le _,rfl,Lib.hid ?_,Lib.hid ?_,Lib.hid ?_,grown_two _ _ _ _⟩
  · exact (hR.alloc _).alloc _
  · exact heap_alloc2_old w _ _
  · exact ⟨_,heap_alloc2_new w _ _⟩
 case round =>
  obtain ⟨k,hk,rfl,R,B1,B2,hG⟩:=hrel
  have hB:=grown_below hG hBg (by omega)
  by_cases hlt:k<ls.length
  · have hdec:decide ((k:Int)<(ls.length:Int))=true:=by simp;omega
    obtain ⟨b,off,rfl,hb,hrow⟩:=many_at hM (by omega)
    obtain ⟨A1,cp,hc,hB1⟩:=hrow k hlt
    have hc1:=(hB.cell (p:=⟨b,off+k,none⟩) hb).trans hc
    have hlk:=hl k hlt
    have HN:=Lib.hid (xors_next z ls k hlt)
    have hU:=Lib.hid (under_any g n B (xors z (ls.take k)) (ls[k]?.getD []) _ wr hBg R.out ((xors_len _ _).trans hz) (hB1.below hB) hlk hn)
    clear hc hrow hB1
    rw [hlk] at hc1 hU
    generalize xors z (ls.take k)=x at HN hU
    have B1':=B1.out
    go_wp2_with (first
     | (go_at_call 168;refine hU.out.mono ?_;rintro e w2 ⟨rfl,hR2,hG2⟩)
     | (refine wpList_load_row rfl 189 _ rfl w.heap.size rfl _ _ (0,0) _ B1' Tryz.underlying189 rfl (by show _=some 1;kernel_rfl) ?_)
     | (refine wpList_store_row rfl 189 _ _ rfl w.heap.size #[.slice (some ⟨g,0,none⟩) n n] rfl rfl _ _ (B1'.grown hG2 (by simp;omega)) (by show _=some 1;kernel_rfl) (by kernel_rfl) (by kernel_rfl) ?_))
    go_roundw
    case rel =>
     refine ⟨k+1,by omega,by go_num,Lib.hid ?_,Lib.hid ((B1'.grown hG2 (by simp;omega)).setRow _),Lib.hid ?_,grown_newRow (hG.trans hG2) (Nat.le_refl _) _⟩
     · rw [HN.out];exact Blk.farRow hR2 (by omega) _
     · obtain ⟨y,hy⟩:=B2.out
       exact ⟨y,(hy.grown hG2 (by simp;omega)).farRow (by omega) _⟩
    case measure=>simp [intOf];omega
  · obtain rfl:k=ls.length:=by omega
    have hk2:=B1.out
    obtain ⟨y,hy⟩:=B2.out
    have R':=R.out
    rw [List.take_length] at R'
    have e1:decide ((ls.length:Int)<(ls.length:Int))=false:=by simp
    go_wp2_with (first
     | (refine wpList_load_row rfl 189 _ rfl w.heap.size rfl _ _ (0,0) _ hk2 Tryz.underlying189 rfl (by show _=some 1;kernel_rfl) ?_)
     | (refine wpList_store_row rfl 189 _ _ rfl (w.heap.size+1) #[.slice (some ⟨g,0,none⟩) n n] rfl rfl _ _ hy (by show _=some 1;kernel_rfl) (by kernel_rfl) (by kernel_rfl) ?_))
    refine bodyPost_ret (results_cell_row rfl _ _ (w.heap.size+1) _ #[.slice (some ⟨g,0,none⟩) n n] _ _ rfl (hy.setRow _) Tryz.underlying189 rfl (by show _=some 1;kernel_rfl)) rfl ?_
    exact ⟨rfl,Blk.farRow R' (by omega) _,grown_newRow hG (by omega) _⟩
end Go.Proofs.YtkllhjhkcipkoaaGreatDoor.C

namespace Go.Proofs.YtkllhjhkcipkoaaGreatDoor.C
open Go.RowKit Go.Shelf

theorem enter_eqlen (args:Array Value) (w:World):(callFunc 170 args).run Tryz.prog w = .ok (.enter 170 args) w:=(enters_of Tryz.func170 (by kernel_rfl) rfl) args w

theorem eqlen_any {B:Nat} (v:Value) (l:List UInt8) (n:Nat) (g:Nat) (w:World) (hb:Bytes B w v l) (hg:w.cell? ⟨g,0,none⟩=some (.int .i64 (n:Int))) :
 Calls Tryz.prog 170 #[v,.pointer (some ⟨g,0,none⟩)] w fun e w'=>e = .returned (.bool (decide (l.length=n)))∧w=w':=by
 obtain ⟨A,cap,rfl,_,_⟩:=hb
 go_enter Tryz.func170,Tryz.ntmps170
 go_wp2
 go_ret
 exact ⟨ret_bool (by rw [Bool.eq_iff_iff];simp;omega),rfl⟩

def allTo (n:Nat) (ls:List (List UInt8)) (k:Nat):Prop:=∀ j,j<k→(ls[j]?.getD []).length=n

theorem every_any {B:Nat} (n g:Nat) (ls:List (List UInt8)) (v:Value) (w:World) (hM:Many B w v ls) (hg:w.cell? ⟨g,0,none⟩=some (.int .i64 (n:Int))) (hls:ls.length≤140737488351232) (b:Bool) (hbb:b=true↔AllLen n ls) :
 Calls Tryz.prog 169 #[.func (.func 170) #[] #[.pointer (some ⟨g,0,none⟩)],v] w fun e w'=>e = .returned (.bool b)∧w=w':=by
 obtain ⟨A,cap,rfl,_,_⟩:=id hM
 have hent:=enter_eqlen
 go_enter Tryz.func169,Tryz.ntmps169
 go_wp2
 go_loop [9] (fun i=>∃ k:Nat,k≤ls.length∧i = .int .i64 k∧Hid (allTo n ls k)) (fun i=>ls.length - (intOf i).toNat)
 case atStart=>exact ⟨0,Nat.zero_le _,rfl,Lib.hid fun j hj=>absurd hj (by omega)⟩
 case round =>
  obtain ⟨k,hk,rfl,HA⟩:=hrel
  by_cases hlt:k<ls.length
  · have hdec:decide ((k:Int)<(ls.length:Int))=true:=by simp;omega
    obtain ⟨b1,off,rfl,hb,hrow⟩:=many_at hM (by omega)
    obtain ⟨A1,cp,hc,hB1⟩:=hrow k hlt
    have hE:=Lib.hid (eqlen_any _ _ n g w hB1 hg)
    clear hrow hB1
    have HL:Hid ((ls[k]?.getD []).length=n→∀ j,j<k+1→(ls[j]?.getD []).length=n):=by
     intro h j hj
     rcases Nat.lt_or_ge j k with h1 | h1
     · exact HA.out j h1
     · obtain rfl:j=k:=by omega
       exact h
    have HM:Hid (¬ (ls[k]?.getD []).length=n→¬ AllLen n ls):=fun h h2=>h (h2 k hlt)
    generalize (ls[k]?.getD []).length=q at hc hE HL HM
    by_cases hln:q=n
    · rw [decide_eq_true hln] at hE
      have HL2:=Lib.hid (HL.out hln)
      subst hln
      go_wp2_with (go_at_call 170;refine hE.out.mono ?_;rintro e w2 ⟨rfl,rfl⟩)
      go_round
      case rel =>
       exact ⟨k+1,by omega,by go_num,HL2⟩
      case measure=>simp [intOf];omega
    · rw [decide_eq_false hln] at hE
      go_wp2_with (go_at_call 170;refine hE.out.mono ?_;rintro e w2 ⟨rfl,rfl⟩)
      go_ret
      refine ⟨ret_bool ?_,rfl⟩
      rw [eq_comm,Bool.eq_false_iff]
      exact fun h=>HM.out hln (hbb.1 h)
  · obtain rfl:k=ls.length:=by omega
    have e1:decide ((ls.length:Int)<(ls.length:Int))=false:=by simp
    go_wp2
    go_ret
    exact ⟨ret_bool (hbb.2 HA.out).symm,rfl⟩

theorem lengthOf_yes (ls:List (List UInt8)) (v:Value) (w:World) {B:Nat} (hB:B≤w.heap.size) (hM:Many B w v ls) (hls:ls.length≤140737488351232) (h0:0<ls.length) (hc:Cell (ls[0]?.getD [])) (hal:AllLen (ls[0]?.getD []).length ls) :
 Calls Tryz.prog 167 #[v] w fun e w'=>e = .returned (.int .i64 ((ls[0]?.getD []).length:Int))∧Below w.heap.size w w':=by
 obtain ⟨A,cap,rfl,_,_⟩:=id hM
 obtain ⟨b1,off,rfl,hb,hrow⟩:=many_at hM (by omega)
 obtain ⟨A1,cp,hc0,hB1⟩:=hrow 0 h0
 rw [Nat.add_zero] at hc0
 have e0:((ls.length:Int) == 0)=false:=by rw [beq_eq_false_iff_ne];omega
 have h1:=fun W:World=>isLength_any ((ls[0]?.getD []).length:Int) W
 rw [cell_dec,decide_eq_true hc] at h1
 have H1:=Lib.hid h1
 have HE:=Lib.hid (every_any (ls[0]?.getD []).length w.heap.size ls _ _ (hM.below (((Below.refl _ w).alloc (Nat.le_refl _) (.cells #[.int .i64 ((ls[0]?.getD []).length:Int)] 3)).mono hB)) (Blk.one (Blk.new w 3 #[.int .i64 ((ls[0]?.getD []).length:Int)])) hls true ⟨fun _=>hal,fun _=>rfl⟩)
 clear h1 hrow hB1
 generalize (ls[0]?.getD []).length=q at hc0 H1 HE
 have hmf:∀ (fn:Fn) (first cap:Array Value) (w:World),(Instr.makeFunc fn first cap).run Tryz.prog w = .ok (.func fn first cap) w:=fun _ _ _ _=>rfl
 go_enter Tryz.func167,Tryz.ntmps167
 go_wp2_with (first
  | (go_at_call 159;refine (H1.out _).mono ?_;rintro e w' ⟨rfl,rfl⟩)
  | (go_at_call 169;refine HE.out.mono ?_;rintro e w' ⟨rfl,rfl⟩)
  | (go_at_call 158;refine (need_yes _).mono ?_;rintro e w' ⟨rfl,rfl⟩))
 go_ret
 exact ⟨rfl,(Below.refl _ w).alloc (Nat.le_refl _) _⟩

end Go.Proofs.YtkllhjhkcipkoaaGreatDoor.C

namespace Go.Proofs.YtkllhjhkcipkoaaGreatDoor.C
open Go.RowKit Go.Shelf

theorem field_cell (v:Value) (w:World):(Instr.field 189 (.agg #[v]) 0).run Tryz.prog w = .ok v w:=by kernel_rfl
theorem make_func (fn:Fn) (first cap:Array Value) (w:World):(Instr.makeFunc fn first cap).run Tryz.prog w = .ok (.func fn first cap) w:=rfl
theorem enter_zero (args:Array Value) (w:World):(callFunc 147 args).run Tryz.prog w = .ok (.enter 147 args) w:=(enters_of Tryz.func147 (by kernel_rfl) rfl) args w
theorem enter_xor (args:Array Value) (w:World):(callFunc 165 args).run Tryz.prog w = .ok (.enter 165 args) w:=(enters_of Tryz.func165 (by kernel_rfl) rfl) args w

theorem zero1_yes (n:Nat) (h1:1≤n) (h64:n≤64) (g:Nat) (w:World) (hg:w.cell? ⟨g,0,none⟩=some (.int .i64 (n:Int))) :
 Calls Tryz.prog 147 #[.pointer (some ⟨g,0,none⟩)] w fun e w'=>∃ v,e = .returned v∧Fresh w.heap.size w' v (List.replicate n 0)∧Below w.heap.size w w':=by
 have hf:=field_cell
 have HN:=Lib.hid (nought_yes n h1 h64 w)
 go_enter Tryz.func147,Tryz.ntmps147
 go_wp2_with (go_at_call 148;refine HN.out.mono ?_;rintro e w1 ⟨k,rfl,hk,hR,hB⟩)
 go_ret
 exact ⟨_,rfl,hR.fresh hk (by simp),hB⟩

theorem zero_yes (n:Nat) (h1:1≤n) (h64:n≤64) (w:World) :
 Calls Tryz.prog 128 #[.int .i64 (n:Int)] w fun e w'=>∃ v,e = .returned (.tuple #[v,.int .i64 0])∧Fresh w.heap.size w' v (List.replicate n 0)∧Below w.heap.size w w':=by
 have hmf:=make_func
 have b0:=Blk.new w 3 #[.int .i64 (n:Int)]
 have HA:=Lib.hid (answeredB_yes 147 #[.pointer (some ⟨w.heap.size,0,none⟩)] (w.alloc (.cells #[.int .i64 (n:Int)] 3)) (fun v W=>Fresh ((w.alloc (.cells #[.int .i64 (n:Int)] 3)).heap.size+1) W v (List.replicate n 0)) (fun W=>enter_zero _ W)
  (fun W hB hlt=>(zero1_yes n h1 h64 w.heap.size W ((Blk.below b0 hB (by simp)).one)).mono (by rintro e w' ⟨v,rfl,hF,hB'⟩;exact ⟨v,rfl,hF.less hlt,hB'⟩))
  (fun v W hF=>hF.set_ (by simp) _))
 go_enter Tryz.func128,Tryz.ntmps128
 go_wp2_with (go_at_call 146;refine HA.out.mono ?_;rintro e w1 ⟨v,rfl,hF,hB⟩)
 go_ret2
 exact ⟨v,rfl,hF.less (by simp;omega),((Below.refl _ w).alloc (Nat.le_refl _) _).trans (hB.mono (by simp))⟩

def XorOk (ls:List (List UInt8)):Prop:=0<ls.length∧Cell (ls[0]?.getD [])∧AllLen (ls[0]?.getD []).length ls
def xorOf (ls:List (List UInt8)):List UInt8:=xors (List.replicate (ls[0]?.getD []).length 0) ls
theorem xorOf_len (ls:List (List UInt8)):(xorOf ls).length=(ls[0]?.getD []).length:=by unfold xorOf;rw [xors_len,List.length_replicate]

theorem xor1_yes (ls:List (List UInt8)) (v:Value) (g:Nat) (w:World) {B:Nat} (hB:B≤w.heap.size) (hg0:g<w.heap.size) (hM:Many B w v ls) (hls:ls.length≤140737488351232) (hok:XorOk ls) (hg:w.cell? ⟨g,0,none⟩=some v) :
 Calls Tryz.prog 165 #[.pointer (some ⟨g,0,none⟩)] w fun e w'=>∃ v,e = .returned v∧Fresh w.heap.size w' v (xorOf ls)∧Below w.heap.size w w':=by
 obtain ⟨h0,hc,hal⟩:=hok
 have hlo:xorOf ls=xors (List.replicate (ls[0]?.getD []).length 0) ls:=rfl
 have hln:=xorOf_len ls
 have H1:=Lib.hid (fun W (hBW:Below w.heap.size w W)=>lengthOf_yes ls v W (Nat.le_trans hB hBW.size) (hM.below (hBW.mono hB)) hls h0 hc hal)
 have H2:=Lib.hid (fun W=>nought_yes (ls[0]?.getD []).length hc.1 hc.2 W)
 have H3:=Lib.hid (fun (W:World) (k:Nat) (hBW:Below w.heap.size w W) (hk:w.heap.size≤k) (hR:Row W k (List.replicate (ls[0]?.getD []).length 0))=>folded_any k (ls[0]?.getD []).length B _ ls v W (Nat.le_trans hB hk) hR (by simp) (hM.below (hBW.mono hB)) hal hc.2 hls)
 rw [←hlo] at H3
 clear hc hal hM
 generalize (ls[0]?.getD []).length=n at *
 have hf:=field_cell
 go_enter Tryz.func165,Tryz.ntmps165
 go_wp2_with fail
 go_region_held3 (fun W=>W.cell? ⟨g,0,none⟩=some v) (first | exact hg | exact (Below.cell (p:=⟨g,0,none⟩) hBa hg0).trans hg | exact (Below.cell (p:=⟨g,0,none⟩) hBb hg0).trans hg | exact (Below.cell (p:=⟨g,0,none⟩) hBc hg0).trans hg) (first
  | (go_at_call 167;refine (H1.out _ ?_).mono ?_;first | exact Below.refl _ _ | exact (Below.refl _ _).drew;rintro e w1 ⟨rfl,hB1⟩;have hBa:Below w.heap.size w w1:=(by first | exact hB1 | exact Below.undrew hB1))
  | (go_at_call 148;refine (H2.out _).mono ?_;rintro e w2 ⟨k,rfl,hk,hR,hB2⟩;have hBb:Below w.heap.size w w2:=Below.next hBa hB2)
  | (go_at_call 166;refine (H3.out _ k ?_ ?_ ?_).mono ?_;exact hBb;exact Nat.le_trans hBa.size hk;exact hR;rintro e w3 ⟨rfl,hR3,hG3⟩;have hBc:Below w.heap.size w w3:=Below.grown hBb hG3 hBb.size (fun i e=>by cases e;exact Nat.le_trans hBa.size hk)))
 all_goals go_wp2
 all_goals go_ret
 all_goals exact ⟨_,rfl,hR3.fresh (Nat.le_trans hBa.size hk) hln,hBc⟩

theorem xor_yes (ls:List (List UInt8)) (v:Value) (w:World) {B:Nat} (hB:B≤w.heap.size) (hM:Many B w v ls) (hls:ls.length≤140737488351232) (hok:XorOk ls) :
 Calls Tryz.prog 160 #[v] w fun e w'=>∃ v,e = .returned (.tuple #[v,.int .i64 0])∧Fresh w.heap.size w' v (xorOf ls)∧Below w.heap.size w w':=by
 have hmf:=make_func
 have b0:=Blk.new w 40 #[v]
 have hB0:Below w.heap.size w (w.alloc (.cells #[v] 40)):=(Below.refl _ w).alloc (Nat.le_refl _) _
 have HA:=Lib.hid (answeredB_yes 165 #[.pointer (some ⟨w.heap.size,0,none⟩)] (w.alloc (.cells #[v] 40)) (fun u W=>Fresh ((w.alloc (.cells #[v] 40)).heap.size+1) W u (xorOf ls)) (fun W=>enter_xor _ W)
  (fun W hBW hlt=>(xor1_yes ls v w.heap.size W (B:=B) (Nat.le_trans hB (Nat.le_trans hB0.size hBW.size)) (by simp at hlt;omega) ((hM.below (hB0.mono hB)).below (hBW.mono (by simp;omega))) hls hok ((Blk.below b0 hBW (by simp)).one)).mono (by rintro e w' ⟨v,rfl,hF,hB'⟩;exact ⟨v,rfl,hF.less hlt,hB'⟩))
  (fun v W hF=>hF.set_ (by simp) _))
 obtain ⟨A,cap,rfl,_,_⟩:=id hM
 go_enter Tryz.func160,Tryz.ntmps160
 go_wp2_with (go_at_call 146;refine HA.out.mono ?_;rintro e w1 ⟨v,rfl,hF,hBr⟩)
 go_ret2
 exact ⟨v,rfl,hF.less (by simp;omega),hB0.trans (hBr.mono (by simp))⟩

end Go.Proofs.YtkllhjhkcipkoaaGreatDoor.C

namespace Go.Proofs.YtkllhjhkcipkoaaGreatDoor.C

def bit (x:UInt8) (t:Nat):Bool:=decide (x.toNat / 2 ^ t % 2=1)
def bitsTo (j:Nat) (x:UInt8) (i:Nat):List Nat:=((List.range i).filter (bit x)).map (8 * j+·)
def came (l:List UInt8) (k i:Nat):List Nat:=((List.range k).flatMap fun j=>bitsTo j (at_ l j) 8) ++ bitsTo k (at_ l k) i
def places (l:List UInt8):List Nat:=(List.range l.length).flatMap fun j=>bitsTo j (at_ l j) 8
end Go.Proofs.YtkllhjhkcipkoaaGreatDoor.C

namespace Go.Proofs.YtkllhjhkcipkoaaGreatDoor.C
open Go.RowKit Go.Shelf
attribute [local go_sem] Oper.semAt_some

def Keeps (P:Nat→Prop) (W W':World):Prop:=∀ b,P b→W'.heap[b]?=W.heap[b]?
theorem Keeps.refl (P:Nat→Prop) (W:World):Keeps P W W:=fun _ _=>rfl
theorem Keeps.trans {P:Nat→Prop} {A B C:World} (h:Keeps P A B) (k:Keeps P B C):Keeps P A C:=fun b hb=>(k b hb).trans (h b hb)
theorem Keeps.cell {P:Nat→Prop} {A B:World} (h:Keeps P A B) {p:Addr} (hp:P p.block):B.cell? p=A.cell? p:=World.cell?_of_block (h p.block hp)
def BytesP (P:Nat→Prop) (W:World) (v:Value) (l:List UInt8):Prop :=
 ∃ A cap,v = .slice A l.length cap∧l.length≤cap∧(0<l.length→∃ b off,A=some ⟨b,off,none⟩∧P b∧∀ j,j<l.length→W.cell? ⟨b,off+j,none⟩=some (.int .u8 ((l[j]?.getD 0).toNat:Int)))
theorem BytesP.keep {P:Nat→Prop} {W W':World} {v:Value} {l:List UInt8} (h:BytesP P W v l) (hk:Keeps P W W'):BytesP P W' v l:=by
 obtain ⟨A,cap,e,hc,hA⟩:=h
 refine ⟨A,cap,e,hc,fun hp=>?_⟩
 obtain ⟨b,off,e2,hb,hcell⟩:=hA hp
 exact ⟨b,off,e2,hb,fun j hj=>(hk.cell (p:=⟨b,off+j,none⟩) hb).trans (hcell j hj)⟩

end Go.Proofs.YtkllhjhkcipkoaaGreatDoor.C

namespace Go.Proofs.YtkllhjhkcipkoaaGreatDoor.C
open Go.RowKit Go.Shelf

theorem check_any (v:Value) (l:List UInt8) {B:Nat} (w:World) (hb:Bytes B w v l) :
 Calls Tryz.prog 143 #[v] w fun e w'=>e = .returned (.int .i64 (if Cell l then 0 else 2))∧Below w.heap.size w w':=by
 by_cases hc:Cell l
 · have H:=Lib.hid (cellOf_yes v l w hb hc)
   rw [if_pos hc]
   clear hc
   obtain ⟨A,cap,rfl,_,_⟩:=hb
   go_enter Tryz.func143,Tryz.ntmps143
   go_wp2_with (go_at_call 154;refine H.out.mono ?_;rintro e w1 ⟨rfl,hB1⟩)
   go_ret
   exact ⟨rfl,hB1.alloc hB1.size _⟩
 · have H:=Lib.hid (cellOf_no v l w hb hc)
   rw [if_neg hc]
   clear hc
   obtain ⟨A,cap,rfl,_,_⟩:=hb
   go_enter Tryz.func143,Tryz.ntmps143
   go_wp2_with (go_at_call 154;refine H.out.mono ?_;rintro e w1 ⟨rfl,hB1⟩)
   go_ret
   exact ⟨rfl,hB1.alloc hB1.size _⟩

end Go.Proofs.YtkllhjhkcipkoaaGreatDoor.C

namespace Go.Proofs.YtkllhjhkcipkoaaGreatDoor.C
open Go.RowKit Go.Shelf

def lay:List UInt8→Nat→List UInt8→List UInt8
 | z,_,[]=>z
 | z,o,y :: ys=>lay (z.set o y) (o+1) ys
end Go.Proofs.YtkllhjhkcipkoaaGreatDoor.C

namespace Go.Proofs.YtkllhjhkcipkoaaGreatDoor.C
open Go.RowKit Go.Shelf

def FreshMany (base:Nat) (W:World) (v:Value) (ls:List (List UInt8)):Prop :=
 ∃ A cap,v = .slice A ls.length cap∧ls.length≤cap∧(0<ls.length→∃ b off,A=some ⟨b,off,none⟩∧base≤b∧b<W.heap.size∧∀ j,j<ls.length→∃ u,W.cell? ⟨b,off+j,none⟩=some u∧Fresh base W u (ls[j]?.getD []))

section
variable {W W':World} {base base':Nat} {v:Value} {ls:List (List UInt8)}
theorem FreshMany.many (h:FreshMany base W v ls):Many W.heap.size W v ls:=by
 obtain ⟨A,cap,e,hc,hA⟩:=h
 refine ⟨A,cap,e,hc,fun hp=>?_⟩
 obtain ⟨b,off,e2,_,hb,hcell⟩:=hA hp
 refine ⟨b,off,e2,hb,fun j hj=>?_⟩
 obtain ⟨u,hu,hF⟩:=hcell j hj
 exact ⟨u,hu,hF.bytes⟩
theorem FreshMany.keep (h:FreshMany base W v ls) (hs:W.heap.size≤W'.heap.size) (hk:∀ p:Addr,base≤p.block→p.block<W.heap.size→W'.cell? p=W.cell? p):FreshMany base W' v ls:=by
 obtain ⟨A,cap,e,hc,hA⟩:=h
 refine ⟨A,cap,e,hc,fun hp=>?_⟩
 obtain ⟨b,off,e2,hb1,hb2,hcell⟩:=hA hp
 refine ⟨b,off,e2,hb1,by omega,fun j hj=>?_⟩
 obtain ⟨u,hu,hF⟩:=hcell j hj
 exact ⟨u,(hk ⟨b,off+j,none⟩ hb1 hb2).trans hu,hF.keep hs hk⟩
theorem FreshMany.below (h:FreshMany base W v ls) (hb:Below W.heap.size W W'):FreshMany base W' v ls:=h.keep hb.size fun _ _ hp=>hb.cell hp
theorem FreshMany.set_ (h:FreshMany base W v ls) {p:Addr} (hp:p.block<base) (u:Value):FreshMany base (W.setCell p u) v ls :=
 h.keep (by simp [World.setCell]) fun q hq _=>World.cell?_of_block (Below.heap_setCell W p u q.block (by omega))
theorem FreshMany.less (h:FreshMany base W v ls) (hb:base'≤base):FreshMany base' W v ls:=by
 obtain ⟨A,cap,e,hc,hA⟩:=h
 refine ⟨A,cap,e,hc,fun hp=>?_⟩
 obtain ⟨b,off,e2,hb1,hb2,hcell⟩:=hA hp
 refine ⟨b,off,e2,by omega,hb2,fun j hj=>?_⟩
 obtain ⟨u,hu,hF⟩:=hcell j hj
 exact ⟨u,hu,hF.less hb⟩
end

end Go.Proofs.YtkllhjhkcipkoaaGreatDoor.C

namespace Go.Proofs.YtkllhjhkcipkoaaGreatDoor.C
open Go.RowKit Go.Shelf

theorem own_nil (w:World) (base:Nat):OwnB w base (.slice none 0 0) []:=World.ownsRow_nil w base _ 1

end Go.Proofs.YtkllhjhkcipkoaaGreatDoor.C

namespace Go.Proofs.YtkllhjhkcipkoaaGreatDoor.C
open Go.RowKit Go.Shelf

theorem Fresh.take_ {base:Nat} {w:World} {A:Option Addr} {n cap:Nat} {l:List UInt8} (h:Fresh base w (.slice A n cap) l) {m:Nat} (hm:m≤n):Fresh base w (.slice A m m) (l.take m):=by
 obtain ⟨A',cap',e,hc,hA⟩:=h
 injection e with e1 e2 e3
 subst e1 e2 e3
 have hl:(l.take m).length=m:=by rw [List.length_take];omega
 refine ⟨A,m,by rw [hl],by omega,fun hp=>?_⟩
 obtain ⟨b,off,e,h1,h2,hcell⟩:=hA (by omega)
 exact ⟨b,off,e,h1,h2,fun j hj=>by rw [hcell j (by omega),List.getElem?_take_of_lt (by omega)]⟩

end Go.Proofs.YtkllhjhkcipkoaaGreatDoor.C

namespace Go.Proofs.YtkllhjhkcipkoaaGreatDoor.C
open Go.RowKit Go.Shelf

def text (l:List UInt8):ByteArray:=⟨l.toArray⟩
theorem text_inj {a b:List UInt8} (h:text a=text b):a=b:=by
 have:(text a).data.toList=(text b).data.toList:=by rw [h]
 simpa [text] using this
theorem texts_differ {a b:List UInt8} (h:¬ a=b):((text a).toList == (text b).toList)=false:=by
 rw [beq_eq_false_iff_ne]
 intro e
 rw [ByteArray.toList_eq,ByteArray.toList_eq] at e
 exact h (text_inj (WideShapes.bytes_inj e))
theorem run_txt {B:Nat} {v:Value} {l:List UInt8} (w:World) (h:Bytes B w v l):(convert 60 9 v).run Tryz.prog w = .ok (.string (text l)) w :=
 run_text w 9 Tryz.underlying60 Tryz.underlying5 Tryz.underlying9 h

theorem same_iff (ls os:List (List UInt8)):ls=os↔ls.length=os.length∧∀ j,j<ls.length→(ls[j]?.getD [])=(os[j]?.getD []):=by
 constructor
 · rintro rfl;exact ⟨rfl,fun _ _=>rfl⟩
 · rintro ⟨h1,h2⟩
   apply List.ext_getElem h1
   intro j hj hj2
   have:=h2 j hj
   rwa [List.getElem?_eq_getElem hj,List.getElem?_eq_getElem hj2] at this

theorem below_drewN {B:Nat} {a w:World} (h:Below B a w) (n:Nat):Below B a (w.drewN n):=⟨h.os,h.tape,h.output,h.size,h.block⟩

theorem rsame_any {B B':Nat} (v1 v2:Value) (ls os:List (List UInt8)) (w:World) (h1:Many B w v1 ls) (h2:Many B' w v2 os) (hls:ls.length≤140737488351232) (_hos:os.length≤140737488351232) :
 Calls Tryz.prog 44 #[v1,v2] w fun e w'=>e = .returned (.bool (decide (ls=os)))∧Below w.heap.size w w':=by
 obtain ⟨A1,cap1,rfl,_,_⟩:=id h1
 obtain ⟨A2,cap2,rfl,_,_⟩:=id h2
 have hb:=same_iff ls os
 by_cases hl:ls.length=os.length
 · have e0:((ls.length:Int) != (os.length:Int))=false:=by rw [hl];simp
   go_enter Tryz.func44,Tryz.ntmps44
   go_wp2
   go_loopw [5] (fun i wr=>∃ k:Nat,k≤ls.length∧i = .int .i64 k∧Hid (∀ j,j<k→(ls[j]?.getD [])=(os[j]?.getD []))∧Below w.heap.size w wr∧Hid (∀ p,wr.cell? p=w.cell? p)) (fun i _=>ls.length - (intOf i).toNat)
   case atStart=>exact ⟨0,Nat.zero_le _,rfl,(Lib.hid fun j hj=>absurd hj (by omega)),Below.refl _ _,Lib.hid fun _=>rfl⟩
   case round =>
    obtain ⟨k,hk,rfl,HA,hBr,HK⟩:=hrel
    by_cases hlt:k<ls.length
    · have hdec:decide ((k:Int)<(ls.length:Int))=true:=by simp;omega
      obtain ⟨b1,off1,rfl,_,hrow1⟩:=many_at (h1.keep (fun p _=>HK.out p)) (by omega)
      obtain ⟨B1,cp1,hc1,hB1⟩:=hrow1 k hlt
      obtain ⟨b2,off2,rfl,_,hrow2⟩:=many_at (h2.keep (fun p _=>HK.out p)) (by omega)
      obtain ⟨B2,cp2,hc2,hB2⟩:=hrow2 k (by omega)
      have t1:=run_txt wr hB1
      have t2:=run_txt wr hB2
      have t3:=fun n=>run_txt (wr.drewN n) (hB1.keep (W':=wr.drewN n) fun _ _=>rfl)
      have t4:=fun n=>run_txt (wr.drewN n) (hB2.keep (W':=wr.drewN n) fun _ _=>rfl)
      have HL:Hid ((ls[k]?.getD [])=(os[k]?.getD [])→∀ j,j<k+1→(ls[j]?.getD [])=(os[j]?.getD [])):=by
       intro h j hj
       rcases Nat.lt_or_ge j k with h1 | h1
       · exact HA.out j h1
       · obtain rfl:j=k:=by omega
         exact h
      have HM:Hid (¬ (ls[k]?.getD [])=(os[k]?.getD [])→¬ ls=os):=fun h h2=>h ((hb.1 h2).2 k hlt)
      have HT:Hid ((ls[k]?.getD [])=(os[k]?.getD [])∨((text (ls[k]?.getD [])).toList == (text (os[k]?.getD [])).toList)=false):=by
       by_cases h:(ls[k]?.getD [])=(os[k]?.getD [])
       · exact .inl h
       · exact .inr (texts_differ h)
      clear hrow1 hrow2 hB1 hB2 hb
      generalize ls[k]?.getD []=x at *
      generalize os[k]?.getD []=y at *
      have hk2:(k:Int)<(os.length:Int):=by omega
      by_cases hxy:x=y
      · have HL2:=Lib.hid (HL.out hxy)
        subst hxy
        clear HT HM HL
        generalize text x=s at *
        go_wp2
        go_quiet (fail)
        go_wp2
        go_roundw
        case rel=>exact ⟨k+1,by omega,by go_num,HL2,below_drewN hBr _,Lib.hid fun p=>HK.out p⟩
        case measure=>simp [intOf];omega
      · have hn:=HT.out.resolve_left hxy
        have HM2:=Lib.hid (HM.out hxy)
        clear HT HM HL hxy
        generalize text x=s at *
        generalize text y=t at *
        go_wp2
        go_quiet (fail)
        go_wp2
        go_ret
        exact ⟨ret_bool (decide_eq_false HM2.out).symm,below_drewN hBr _⟩
    · obtain rfl:k=ls.length:=by omega
      have e1:decide ((ls.length:Int)<(ls.length:Int))=false:=by simp
      go_wp2
      go_ret
      exact ⟨ret_bool (decide_eq_true (hb.2 ⟨hl,HA.out⟩)).symm,hBr⟩
 · have e0:((ls.length:Int) != (os.length:Int))=true:=by rw [bne_iff_ne];omega
   have hbf:¬ ls=os:=fun h=>hl (hb.1 h).1
   rw [decide_eq_false hbf]
   go_enter Tryz.func44,Tryz.ntmps44
   go_wp2
   go_ret
   exact ⟨rfl,Below.refl _ _⟩

end Go.Proofs.YtkllhjhkcipkoaaGreatDoor.C

namespace Go.Proofs.YtkllhjhkcipkoaaGreatDoor.C
open Go.RowKit Go.Shelf

theorem OwnB.grown_ {w w':World} {base:Nat} {v:Value} {l:List UInt8} (h:OwnB w base v l) (hg:w.grownBy w' none):OwnB w' base v l :=
 World.ownsRow.kept h hg (by cases hv:v.ownBlock <;> simp)
theorem grown_drew {a w:World} {row:Option Nat} (h:a.grownBy w row):a.grownBy w.drew row:=⟨h.os,h.tape,h.output,h.size,h.block⟩
theorem one_bytes (w:World) (c:UInt8):Bytes (w.heap.size+1) (w.alloc (.cells #[.int .u8 (c.toNat:Int)] 5)) (.slice (some ⟨w.heap.size,0,none⟩) 1 1) [c]:=by
 refine ⟨_,1,rfl,Nat.le_refl _,fun _=>⟨w.heap.size,0,rfl,by omega,fun j hj=>?_⟩⟩
 obtain rfl:j=0:=by simpa using hj
 exact (Blk.new w _ _).one

theorem xorB_take (a b:List UInt8) (k:Nat) (hk:k<a.length):(xorB a b).take (k+1)=(xorB a b).take k ++ [at_ a k ^^^ at_ b k]:=by
 rw [List.take_succ_eq_append_getElem (by rw [xorB_len];exact hk)]
 have:=xorB_at a b k hk
 unfold at_ at this ⊢
 rw [List.getElem?_eq_getElem (by rw [xorB_len];exact hk)] at this
 rw [←this];rfl

theorem rput_any (v1 v2:Value) (a b:List UInt8) (w:World) (h1:Bytes w.heap.size w v1 a) (h2:Bytes w.heap.size w v2 b) (hl:a.length≤b.length) (hlen:a.length≤1000000) :
 Calls Tryz.prog 53 #[v1,v2] w fun e w'=>∃ v',e = .returned v'∧OwnB w' w.heap.size v' (xorB a b)∧Below w.heap.size w w':=by
 obtain ⟨i0,hi,hz0,hz1,hz2⟩:=info_parts Tryz.infoByte
 obtain ⟨A1,cap1,rfl,_,hA1⟩:=h1
 obtain ⟨A2,cap2,rfl,_,hA2⟩:=h2
 go_enter Tryz.func53,Tryz.ntmps53
 go_wp2
 go_loopw [5,6] (fun v i wr=>∃ k:Nat,k≤a.length∧i = .int .i64 k∧OwnB wr w.heap.size v ((xorB a b).take k)∧Below w.heap.size w wr) (fun _ i _=>a.length - (intOf i).toNat)
 case atStart=>exact ⟨0,Nat.zero_le _,rfl,own_nil _ _,Below.refl _ _⟩
 case round =>
  obtain ⟨k,hk,rfl,hown,hB⟩:=hrel
  by_cases hlt:k<a.length
  · have hdec:decide ((k:Int)<(a.length:Int))=true:=by simp;omega
    have hk2:(k:Int)<(b.length:Int):=by omega
    obtain ⟨b1,o1,rfl,hb1,hcell1⟩:=hA1 (by omega)
    obtain ⟨b2,o2,rfl,hb2,hcell2⟩:=hA2 (by omega)
    have hc1:wr.cell? ⟨b1,o1+k,none⟩=some (.int .u8 ((at_ a k).toNat:Int)):=(hB.cell (p:=⟨b1,o1+k,none⟩) hb1).trans (hcell1 k hlt)
    have hc2:wr.cell? ⟨b2,o2+k,none⟩=some (.int .u8 ((at_ b k).toNat:Int)):=(hB.cell (p:=⟨b2,o2+k,none⟩) hb2).trans (hcell2 k (by omega))
    have HN:=Lib.hid (xorB_take a b k hlt)
    have hx:=bits_u8 (at_ a k) (at_ b k)
    have hpl:((xorB a b).take k).length≤1000000:=by rw [List.length_take];omega
    have hs:=hB.size
    clear hcell1 hcell2 hA1 hA2
    generalize at_ a k=x at *
    generalize at_ b k=y at *
    generalize (xorB a b).take k=p at *
    have HO:=Lib.hid (hown.grown_ ((grown_drew (World.grownBy.refl wr none)).trans (World.grownBy_alloc wr.drew (.cells #[.int .u8 ((x ^^^ y).toNat:Int)] 5) none)))
    have HY:=Lib.hid (one_bytes wr.drew (x ^^^ y))
    have hbl1:b1<wr.heap.size:=by omega
    have hbl2:b2<wr.heap.size:=by omega
    go_wp2
    go_region_law (refine step_app _ rfl (.tmp 13) (.tmp 23) rfl w.heap.size i0 Tryz.underlying60 hi hz0 hz1 hz2 _ p rfl HO.out (wr.drew.heap.size+1) _ [x ^^^ y] rfl HY.out (by simp;omega) (by simp;omega) ?_;intro v2 w2 hown2 hgrow2 _)
    all_goals go_wp2
    all_goals go_roundw
    all_goals (first
     | exact ⟨k+1,by omega,by go_num,by rw [HN.out];exact hown2,below_grown (hB.drew.alloc hB.size _) hgrow2 (by simp;omega) (fun g e=>(World.ownsRow.lt hown g e).1)⟩
     | (simp [intOf];omega))
  · obtain rfl:k=a.length:=by omega
    have e1:decide ((a.length:Int)<(a.length:Int))=false:=by simp
    rw [List.take_of_length_le (by rw [xorB_len];exact Nat.le_refl _)] at hown
    go_wp2
    go_ret
    exact ⟨_,rfl,hown,hB⟩

theorem Fresh.grown_ {base:Nat} {W W':World} {v:Value} {l:List UInt8} (h:Fresh base W v l) (hg:W.grownBy W' none):Fresh base W' v l :=
 h.keep hg.size fun p _ hp=>World.cell?_of_block (hg.block p.block hp (by simp))

end Go.Proofs.YtkllhjhkcipkoaaGreatDoor.C
