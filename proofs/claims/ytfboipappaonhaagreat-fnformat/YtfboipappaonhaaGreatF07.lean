import Derived.Deep.AppendLies
import Derived.Deep.RegionHeldLaw
import Derived.Laws.IdiomStrings
import Derived.Laws.BytesString
import Derived.OwnWalk
import Derived.Laws.OwnMore
import Derived.Test.YtfboipappaonhaaGreatF00
import Derived.Test.YtfboipappaonhaaGreatF06
namespace Go.Proofs.YtfboipappaonhaaGreat
set_option linter.unusedSimpArgs false
set_option linter.unusedVariables false
set_option maxHeartbeats 16000000
set_option maxRecDepth 100000
open Go.RowKit
def zB8 (bs:List UInt8) (p0:Nat):Nat->List OpR->Nat->Prop
 | 0,xs,p=>xs=[]/\p=p0
 | k+1,xs,p=>∃ ys q,zB8 bs p0 k ys q/\p=adv bs (adv bs q) /\
   ((zM (ys++[Z6 (nxt bs q) (nxt bs (adv bs q)) true]) 0/\xs=ys++[Z6 (nxt bs q) (nxt bs (adv bs q)) true]) \/
    (¬ zM (ys++[Z6 (nxt bs q) (nxt bs (adv bs q)) true]) 0/\xs=ys))
theorem zB8.one {bs:List UInt8} {p0:Nat}:∀ {k:Nat} {xs ys:List OpR} {p q:Nat},zB8 bs p0 k xs p->zB8 bs p0 k ys q->xs=ys/\p=q
 | 0,_,_,_,_,h,h'=>⟨h.1.trans h'.1.symm,h.2.trans h'.2.symm⟩
 | k+1,xs,ys,p,q,h,h'=>by
  obtain ⟨us,u,hu,rfl,h⟩:=h
  obtain ⟨vs,v,hv,rfl,h'⟩:=h'
  obtain ⟨rfl,rfl⟩:=zB8.one hu hv
  rcases h with ⟨h,rfl⟩ | ⟨h,rfl⟩ <;> rcases h' with ⟨h',rfl⟩ | ⟨h',rfl⟩
  ·exact ⟨rfl,rfl⟩
  ·exact absurd h h'
  ·exact absurd h' h
  ·exact ⟨rfl,rfl⟩
theorem zE.grownAt {w w1 w2:World} {g:Nat} {row:Option Nat} (h:zE w w1 g) (hg:w1.grownBy w2 row) (hr:∀ k,row=some k->w.heap.size<=k):zE w w2 g:=
 ⟨hg.os.trans h.os,hg.tape.trans h.tape,hg.output.trans h.output,Nat.le_trans h.size hg.size,fun i hi a=>(hg.block i (Nat.lt_of_lt_of_le hi h.size) (fun e=>by have:=hr i e.symm; omega)).trans (h.block i hi a)⟩
theorem RdS.grownAt {w w1:World} {rp cap p:Nat} {a:Option Addr} {bs:List UInt8} {row:Option Nat} (h:RdS w rp a cap bs p) (hg:w.grownBy w1 row) (hr:∀ k,row=some k->rp<k):RdS w1 rp a cap bs p:=
 h.kept (fun i hi=>hg.block i (by have:=h.lt; omega) (fun e=>by have:=hr i e.symm; omega))
theorem zID (k v:Nat) (t:Bool):(Z6 k v t).s.size<=3:=zE1 v
theorem zB8.small {bs:List UInt8} {p0:Nat}:∀ {k:Nat} {xs:List OpR} {p:Nat},zB8 bs p0 k xs p->xs.length<=k/\∀ o∈xs,o.s.size<=3
 | 0,_,_,h=>by rw [h.1]; exact ⟨Nat.le_refl _,fun o h=>by cases h⟩
 | k+1,xs,p,h=>by
  obtain ⟨us,u,hu,rfl,h⟩:=h
  have ih:=zB8.small hu
  rcases h with ⟨h,rfl⟩ | ⟨h,rfl⟩
  ·refine ⟨by simp; omega,fun o ho=>?_⟩
   rcases List.mem_append.1 ho with ho | ho
   ·exact ih.2 o ho
   ·rw [List.mem_singleton.1 ho]; exact zID _ _ _
  ·exact ⟨by omega,ih.2⟩
theorem zGH (rp cap p:Nat) (a:Option Addr) (bs:List UInt8) (w:World) (h:RdS w rp a cap bs p) (hl:bs.length<=1200) :
  Calls Tryz.prog 60 #[.pointer (some ⟨rp,0,none⟩)] w fun e w'=>(∃ (g c q:Nat) (xs:List OpR),e = .returned (.agg #[.slice (some ⟨g,0,none⟩) xs.length c])/\w.heap.size<=g/\zt w' g xs xs.length/\Hid (zB8 bs (adv bs p) (3+nxt bs p%8) xs q)/\Hid (RdS w' rp a cap bs q))/\Hid (zE w w' rp):=by
 have hrpw:=h.lt
 have H:=zB h
 clear h
 go_enter Tryz.func60,Tryz.ntmps60
 go_wp2_with fail
 refine (zAC rp cap p a bs _ ((zA H).below (zC _ _)) hl).mono ?_
 rintro e w1 ⟨⟨k,rfl,hk,HK⟩,H1,HP1⟩
 go_wp2_with fail
 have HR1:=zB (show RdS ((w1.alloc (Obj.cells #[] 123)).alloc (Obj.cells #[.slice (some ⟨w1.heap.size,0,none⟩) 0 0] 25)) rp a cap bs (adv bs p) from ((zA H1).below (zC _ _)).below (zC _ _))
 have HW1:=zB (show zE w ((w1.alloc (Obj.cells #[] 123)).alloc (Obj.cells #[.slice (some ⟨w1.heap.size,0,none⟩) 0 0] 25)) rp from (((zE.of_below (zC _ _)).trans (zA HP1)).belowN (zC _ _)).belowN (zC _ _))
 have z1:w.heap.size+1<=w1.heap.size:=by have:=(zA HP1).size; simpa using this
 have q0:w1.cell? ⟨w.heap.size,0,none⟩=some (.slice none 0 0):=((zA HP1).cell (b:=w.heap.size) (by simp) (by omega) 0).trans (by simp [go_sem])
 have q1:w1.frozen? ⟨w.heap.size,0,none⟩=false:=((zA HP1).frozen (b:=w.heap.size) (by simp) (by omega) 0).trans (by simp [go_sem])
 clear H1 HP1 H
 obtain ⟨i0,hi,hz0,hz1,hz2⟩:=info_parts zLl
 have HI:=zB hi
 have HZ:=zB (And.intro hz0 (And.intro hz1 hz2))
 clear hi hz0 hz1 hz2
 have hn:(3:Int)+(k:Int)%8<=10:=by omega
 go_loopw [5] (fun i wr=>∃ (j g c q:Nat) (xs:List OpR),j<=3+k%8/\i = .int .i64 (j:Int)/\w.heap.size<g/\g≠w1.heap.size+1/\g<wr.heap.size/\w1.heap.size+1<wr.heap.size/\wr.cell? ⟨w1.heap.size+1,0,none⟩=some (.slice (some ⟨g,0,none⟩) xs.length c)/\wr.frozen? ⟨w1.heap.size+1,0,none⟩=false/\Hid (zB8 bs (adv bs p) j xs q)/\Hid (zt wr g xs xs.length)/\Hid (RdS wr rp a cap bs q)/\Hid (zE w wr rp)/\Hid (wr.cell? ⟨w.heap.size,0,none⟩=some (.slice none 0 0)/\wr.frozen? ⟨w.heap.size,0,none⟩=false)) (fun i _=>3+k%8-(intOf i).toNat)
 case atStart=>
  refine ⟨0,w1.heap.size,0,adv bs p,[],Nat.zero_le _,rfl,by omega,by omega,by simp; omega,by simp,by simp [go_sem],by simp [go_sem],zB ⟨rfl,rfl⟩,zB ?_,HR1,HW1,zB ⟨?_,?_⟩⟩
  ·refine ⟨by simp; omega,fun j hj=>?_,fun i hi=>?_⟩
   ·simp at hj
   ·exact absurd hi (Nat.not_lt_zero _)
  ·exact ((zC _ _).cell (p:=⟨w.heap.size,0,none⟩) (by simp; omega)).trans (((zC _ _).cell (p:=⟨w.heap.size,0,none⟩) z1).trans q0)
  ·exact ((zC _ _).frozen (p:=⟨w.heap.size,0,none⟩) (by simp; omega)).trans (((zC _ _).frozen (p:=⟨w.heap.size,0,none⟩) z1).trans q1)
 case round=>
  clear HR1 HW1 q0 q1
  obtain ⟨j,g,c,q,xs,hj,rfl,hg,hgT,hgl,hTl,t0,t1,HT,HF,HR,HW,HRT⟩:=hrel
  have hsm:=zB ((zA HT).small)
  have hxl:xs.length<=10:=by have:=(zA hsm).1; omega
  by_cases hlt:j<3+k%8
  ·have HO:=zB (show (wr.alloc (.cells #[] 123)).ownsRow wr.heap.size 123 4 (.slice (some ⟨wr.heap.size,0,none⟩) 0 0) 0 [] by
    simpa using World.ownsRow_lit (base:=wr.heap.size) (e:=123) (size:=4) wr #[] 0 (Nat.le_refl _) (Nat.zero_le _) rfl)
   have HOPS:=zB (show Ops (wr.alloc (.cells #[] 123)) g 0 xs from (zA HF).ops.below (zC _ _) hgl)
   go_wp2_with (at_builtin; refine wpList_append_own _ rfl (.tmp 18) (.tmp 20) 23 rfl wr.heap.size 123 i0 _ 4 40 Tryz.underlying23 (zA HI) (zA HZ).1 (zA HZ).2.1 (zA HZ).2.2 rfl (by decide) _ 0 [] rfl (zA HO) ⟨g,0,none⟩ xs.length c (ZU xs) rfl (zDN xs) (zNJ (zA HOPS)) (zCV xs) ?b1 ?b2 ?b3 ?next)
   case b1=>unfold maxLen; omega
   case b2=>omega
   case b3=>simp
   case next=>
    intro v2 w2 hown2 hgrow2 hnil2
    obtain ⟨g2,c2,rfl⟩:=zDO hown2 (by simpa using hnil2)
    have hrpr:=(zA HR).lt
    have hg2:=(hown2.lt g2 rfl).1
    have hb2:Below wr.heap.size wr w2:=(zC _ _).grown hgrow2 (by simp) (fun k hk=>by simp [Value.ownBlock] at hk; omega)
    have HR2:=zB ((zA HR).below hb2)
    have HW2:=zB (zE.of_below (g:=rp) hb2)
    have HO2:=zB hown2
    clear HO HOPS hown2 hgrow2 hnil2 hb2 HR
    go_wp2_with fail
    refine (zIr rp cap q true a bs _ (zA HR2) hl).mono ?_
    rintro e w3 ⟨⟨o,rfl,HOo⟩,HR3,HP3⟩
    have HW3:=zB ((zA HW2).trans (zA HP3))
    have z3:wr.heap.size<=w3.heap.size:=(zA HW3).size
    have HO3:=zB ((zA HO2).kept (ze (zA HP3)) (Or.inr (by simp [Value.ownBlock]; omega)))
    clear HR2 HW2 HO2 HP3
    go_wp2_with (at_builtin; refine wpList_append_own _ rfl (.tmp 22) (.tmp 25) 23 rfl wr.heap.size 123 i0 _ 4 40 Tryz.underlying23 (zA HI) (zA HZ).1 (zA HZ).2.1 (zA HZ).2.2 rfl (by decide) _ xs.length (ZU xs) rfl ((zA HO3).alloc _) ⟨w3.heap.size,0,none⟩ 1 1 (ZU [o]) rfl rfl (zJ2 w3 o) (zCV _) ?b1 ?b2 ?b3 ?next)
    case b1=>unfold maxLen; omega
    case b2=>omega
    case b3=>simp; omega
    case next=>
     intro v4 w4 hown4 hgrow4 hnil4
     obtain ⟨g4,c4,rfl⟩:=zDO hown4 (by simp [hnil4])
     obtain ⟨ys,HY⟩:∃ ys:List OpR,Hid (ys=xs++[o]):=⟨_,zB rfl⟩
     have hl4:xs.length+1=ys.length:=by rw [zA HY]; simp
     rw [<- zCk,hl4,<- zA HY] at hown4
     rw [hl4]
     have hg4:=(hown4.lt g4 rfl)
     have HF4:=zB (zBi hown4).2
     have HW4:=zB (((zA HW3).belowN (zC _ _)).grownAt hgrow4 (fun k hk=>by simp [Value.ownBlock] at hk; omega))
     have HR4:=zB (((zA HR3).below (zC _ _)).grownAt hgrow4 (fun k hk=>by simp [Value.ownBlock] at hk; omega))
     have HS4:=zB (show ZV ys from fun i hi=>by
      rw [zA HY] at hi ⊢
      have hm:atO (xs++[o]) i∈xs++[o]:=by
       unfold atO
       rw [List.getD_eq_getElem?_getD,List.getElem?_eq_getElem hi,Option.getD_some]
       exact List.getElem_mem hi
      have h3:(atO (xs++[o]) i).s.size<=3:=by
       rcases List.mem_append.1 hm with hm | hm
       ·exact (zA hsm).2 _ hm
       ·rw [List.mem_singleton.1 hm,zA HOo]; exact zID _ _ _
      unfold maxLen; omega)
     have hx1:ys.length<=11:=by omega
     clear hown4 hgrow4 hnil4 HW3 HR3 HO3 hl4
     go_wp2_with fail
     refine (Zy g4 0 c4 ys _ (by omega) (zA HF4).ops (zA HS4) hg4.2).mono ?_
     rintro e w5 ⟨⟨cc,rfl,hc⟩,hb5⟩
     have HC:=zB hc
     have z5:=hb5.size
     have z4:=(zA HW4).size
     have s0:w5.cell? ⟨w1.heap.size+1,0,none⟩=some (.slice (some ⟨g,0,none⟩) xs.length c):=(hb5.cell (p:=⟨w1.heap.size+1,0,none⟩) (by simp; omega)).trans (((zA HW4).cell (b:=w1.heap.size+1) (by omega) (by omega) 0).trans t0)
     have s1:w5.frozen? ⟨w1.heap.size+1,0,none⟩=false:=(hb5.frozen (p:=⟨w1.heap.size+1,0,none⟩) (by simp; omega)).trans (((zA HW4).frozen (b:=w1.heap.size+1) (by omega) (by omega) 0).trans t1)
     have HRT5:=zB (show w5.cell? ⟨w.heap.size,0,none⟩=some (.slice none 0 0)/\w5.frozen? ⟨w.heap.size,0,none⟩=false from
      ⟨(hb5.cell (p:=⟨w.heap.size,0,none⟩) (by simp; omega)).trans (((zA HW4).cell (b:=w.heap.size) (by omega) (by omega) 0).trans (zA HRT).1),(hb5.frozen (p:=⟨w.heap.size,0,none⟩) (by simp; omega)).trans (((zA HW4).frozen (b:=w.heap.size) (by omega) (by omega) 0).trans (zA HRT).2)⟩)
     have HR5:=zB ((zA HR4).below hb5)
     have HW5:=zB (((zA HW).trans (zA HW4)).belowN hb5)
     have HG5:=zB ((zA HW4).filled (zA HF) (by omega) |>.below hb5 (by omega))
     have HF5:=zB ((zA HF4).below hb5 hg4.2)
     clear HR4 HW4 HF4 hb5 hc t0 t1 HRT HW HF
     by_cases hc0:cc=0
     ·subst hc0
      go_wp2_with fail
      refine ⟨⟨j+1,g4,c4,adv bs (adv bs q),ys,by omega,by go_num,by omega,by omega,?_,?_,?_,?_,zB ?_,zB ?_,zB ?_,zB ?_,zB ?_⟩,by simp [intOf]; omega⟩
      ·simp; omega
      ·simp; omega
      ·exact World.cell?_setCell_same _ _ _ s0
      ·exact (World.frozen?_setCell _ _ _ _).trans s1
      ·exact ⟨xs,q,zA HT,rfl,Or.inl ⟨by rw [<- zA HOo,<- zA HY]; exact zA HC,by rw [<- zA HOo]; exact zA HY⟩⟩
      ·exact (zA HF5).setCell _ _ (by simp; omega)
      ·exact (zA HR5).set _ _ _ (by omega)
      ·exact (zA HW5).setNew _ _ (by omega)
      ·exact ⟨(World.cell?_setCell_other _ _ _ _ (by first | (simp; done) | (simp; omega))).trans (zA HRT5).1,(World.frozen?_setCell _ _ _ _).trans (zA HRT5).2⟩
     ·have hc0':(cc==0)=false:=by simpa using hc0
      go_wp2_with fail
      refine ⟨⟨j+1,g,c,adv bs (adv bs q),xs,by omega,by go_num,hg,hgT,by omega,by omega,s0,s1,zB ?_,HG5,HR5,HW5,HRT5⟩,by simp [intOf]; omega⟩
      refine ⟨xs,q,zA HT,rfl,Or.inr ⟨?_,rfl⟩⟩
      rw [<- zA HOo,<- zA HY]
      exact fun h=>hc0 (zA0 (zA HC) h)
  ·have hjn:j=3+k%8:=by omega
   obtain ⟨b0,b1⟩:=zA HRT
   go_wp2_with fail
   refine bodyPost_ret (v:=.agg #[.slice (some ⟨g,0,none⟩) xs.length c]) ?res rfl ⟨⟨g,c,q,xs,rfl,by omega,?_,zB ?_,zB ?_⟩,zB ?_⟩
   case res=>simp [results,Tryz.results60,go_sem,b0]
   ·exact (zA HF).setCell _ _ (by simp; omega)
   ·rw [<- zA HK,<- hjn]; exact zA HT
   ·exact (zA HR).set _ _ _ (by omega)
   ·exact (zA HW).setNew _ _ (Nat.le_refl _)
end Go.Proofs.YtfboipappaonhaaGreat
namespace Go.Proofs.YtfboipappaonhaaGreat
set_option maxHeartbeats 16000000
set_option maxRecDepth 100000
open Go.RowKit
def cellsB (l:List UInt8):List Value:=l.map fun b=>.int .u8 (b.toNat:Int)
theorem ZI (l:List UInt8):(cellsB l).length=l.length:=by simp [cellsB]
theorem ZX (l l':List UInt8):cellsB (l++l')=cellsB l++cellsB l':=by simp [cellsB]
theorem Zo (l:List UInt8):∀ u∈cellsB l,u.oneCell'=true:=by
 intro u hu
 simp only [cellsB,List.mem_map] at hu
 obtain ⟨b,_,rfl⟩:=hu
 rfl
theorem zDP (W:World) (s:ByteArray):∃ (c:Nat) (W':World),(convert 9 22 (.string s)).run Tryz.prog W = .ok (.slice (some ⟨W.heap.size,0,none⟩) s.size c) W' /\
  (∀ j u,(cellsB s.data.toList)[j]?=some u->W'.cell? ((⟨W.heap.size,0,none⟩:Addr).add j)=some u)/\Below W.heap.size W W':=by
 refine ⟨_,_,run_bytes_of_string (P:=Tryz.prog) W 9 22 5 s Tryz.underlying9 Tryz.underlying22 Tryz.underlying5,?_,?_⟩
 ·intro j u hj
  rw [Addr.add_mid,Nat.zero_add]
  have hlt:j<s.size:=by
   have:=(List.getElem?_eq_some_iff.1 hj).1
   rw [ZI] at this
   simpa using this
  rw [cell_of_row _ W.heap.size j (bytesRow s (grownCap W s.size 0 5)) 5 _ (heap_alloc_new W.drew _)]
  have:j<s.data.size:=hlt
  simp only [bytesRow]
  rw [Array.getElem?_append_left (by simpa using this)]
  simp only [cellsB,List.getElem?_map] at hj
  simpa using hj
 ·exact (Below.refl _ _).drew.alloc (Nat.le_refl _) _
theorem Z1 (W:World) (g n c:Nat) (l:List UInt8) (hn:n=l.length) (h:∀ j u,(cellsB l)[j]?=some u->W.cell? ((⟨g,0,none⟩:Addr).add j)=some u) :
  (convert 22 9 (.slice (some ⟨g,0,none⟩) n c)).run Tryz.prog W = .ok (.string ⟨l.toArray⟩) W:=by
 rw [run_convert_bytes_string _ 22 9 5 _ _ _ Tryz.underlying22 Tryz.underlying5 Tryz.underlying9]
 have hl:(loadCells ⟨g,0,none⟩ n).run Tryz.prog W = .ok ((l.map fun b=>(b.toNat:Int)).map (Value.int .u8)).toArray W:=by
  have:=run_loadCells_list (P:=Tryz.prog) W ⟨g,0,none⟩ (cellsB l) h
  rw [ZI,<- hn] at this
  rw [this]
  simp [cellsB]
 rw [run_bytesToString _ ⟨g,0,none⟩ n c _ hl]
 congr 2
 clear hl h hn
 have key:∀ (l:List UInt8) (acc:ByteArray),List.foldl (fun (r:ByteArray) (n:Int)=>r.push (UInt8.ofNat n.toNat)) acc (l.map fun b=>(b.toNat:Int))=⟨(acc.data.toList++l).toArray⟩:=by
  intro l
  induction l with
  | nil=>intro acc; simp
  | cons b r ih=>
   intro acc
   rw [List.map_cons,List.foldl_cons,ih]
   congr 1
   simp [ByteArray.push]
 rw [key]
 simp
theorem infoByte:(Tryz.prog.info? 5).map (fun i=>(i.zero,i.size,i.bytes))=some (some (.int .u8 0),1,1):=by kernel_rfl
end Go.Proofs.YtfboipappaonhaaGreat
namespace Go.Proofs.YtfboipappaonhaaGreat
set_option linter.unusedSimpArgs false
set_option linter.unusedVariables false
set_option maxHeartbeats 16000000
set_option maxRecDepth 100000
open Go.RowKit
def gnB:ByteArray:=⟨#[43,45,42,47,60,62,61,33,38,124]⟩
def gnN (i:Nat):UInt8:=gnB.data.getD i 0
def zGx (v i:Nat):OpR:=⟨⟨#[gnN (i%10),gnN (i/10%10),gnN (i/100)]⟩,2,1+((i/3:Nat):Int),1+(((i/3+v/2)%3:Nat):Int)⟩
def ZZ (v n:Nat):List OpR:=(List.range n).map (zGx v)
theorem zDQ (v n:Nat):ZZ v (n+1)=ZZ v n++[zGx v n]:=by simp [ZZ,List.range_succ]
theorem zFe (v n:Nat):(ZZ v n).length=n:=by simp [ZZ]
def zBk (k:Nat) (o d:OpR):OpR:=
 if k%8=0 then { o with s:=(⟨#[43,45,43,45,43,45,43,45,43,45,43,45,43,45,43,45,43]⟩:ByteArray).extract 0 (16+k/8%2) }
 else if k%8=1 then { o with s:=o.s++⟨#[k.toUInt8]⟩ }
 else if k%8=2 then { o with s:=⟨#[]⟩ }
 else if k%8=3 then { o with l:=1001*((k/8%2:Nat):Int) }
 else if k%8=4 then { o with k:=((k/8%5:Nat):Int) }
 else if k%8=5 then { o with sd:=((k/8%5:Nat):Int)-1 }
 else d
def zCl (xs:List OpR) (bs:List UInt8) (p:Nat):List OpR:=
 if nxt bs p%8=7\/xs.length=0 then ZZ (nxt bs (adv bs p)) (500+nxt bs (adv bs p)%2)
 else xs.set (nxt bs (adv bs p)%xs.length) (zBk (nxt bs p) (atO xs (nxt bs (adv bs p)%xs.length)) (Z6 (nxt bs (adv bs (adv bs p))) (nxt bs (adv bs (adv bs (adv bs p)))) false))
def zCm (xs:List OpR) (bs:List UInt8) (p:Nat):Nat:=
 if nxt bs p%8=7\/xs.length=0 then adv bs (adv bs p)
 else if nxt bs p%8=6 then adv bs (adv bs (adv bs (adv bs p))) else adv bs (adv bs p)
theorem zP3 (W:World) (x y z:Int):(convert 22 9 (.slice (some ⟨W.heap.size,0,none⟩) 3 3)).run Tryz.prog (W.alloc (.cells #[.int .u8 x,.int .u8 y,.int .u8 z] 5)) = .ok (.string ⟨#[UInt8.ofNat x.toNat,UInt8.ofNat y.toNat,UInt8.ofNat z.toNat]⟩) (W.alloc (.cells #[.int .u8 x,.int .u8 y,.int .u8 z] 5)):=by
 rw [run_convert_bytes_string _ 22 9 5 _ _ _ Tryz.underlying22 Tryz.underlying5 Tryz.underlying9]
 have hl:(loadCells ⟨W.heap.size,0,none⟩ 3).run Tryz.prog (W.alloc (.cells #[.int .u8 x,.int .u8 y,.int .u8 z] 5)) = .ok ([x,y,z].map (Value.int .u8)).toArray (W.alloc (.cells #[.int .u8 x,.int .u8 y,.int .u8 z] 5)):=
  run_loadCells_list (P:=Tryz.prog) _ ⟨W.heap.size,0,none⟩ [.int .u8 x,.int .u8 y,.int .u8 z] (fun j v hv=>by
   match j,hv with
   | 0,hv=>simp at hv; subst hv; simp [Addr.add,go_sem]
   | 1,hv=>simp at hv; subst hv; simp [Addr.add,go_sem]
   | 2,hv=>simp at hv; subst hv; simp [Addr.add,go_sem])
 rw [run_bytesToString _ ⟨W.heap.size,0,none⟩ 3 3 [x,y,z] hl]
 rfl
theorem zNK (W:World) (x y z:Int):(convert 22 9 (.slice (some ⟨W.heap.size,0,none⟩) 3 3)).run Tryz.prog (W.alloc (.cells #[.int .u8 x,.int .u8 y,.int .u8 z] 5)).drew = .ok (.string ⟨#[UInt8.ofNat x.toNat,UInt8.ofNat y.toNat,UInt8.ofNat z.toNat]⟩) (W.alloc (.cells #[.int .u8 x,.int .u8 y,.int .u8 z] 5)).drew:=
 zP3 W.drew x y z
theorem zIE (w:World) (o0:Obj) (o:OpR):∀ j u,(ZU [o])[j]?=some u->((w.alloc o0).alloc (.cells #[.string o.s,.int .i64 o.k,.int .i64 o.l,.int .i64 o.sd] 123)).drew.cell? ((⟨w.heap.size+1,0,none⟩:Addr).add j)=some u:=by
 have h:=zJ2 (w.alloc o0) o
 have e:(w.alloc o0).heap.size=w.heap.size+1:=by simp
 rw [e] at h
 exact h
theorem zIF (m:Nat) (h:m<10):((⟨#[43,45,42,47,60,62,61,33,38,124]⟩:ByteArray)[m]'h)=gnN m:=by
 have key:∀ m:Fin 10,((⟨#[43,45,42,47,60,62,61,33,38,124]⟩:ByteArray)[m.val]'m.isLt)=gnN m.val:=by decide
 exact key ⟨m,h⟩
structure ZP (w w':World) (r g:Nat):Prop where
 os:w'.os=w.os
 tape:w'.tape=w.tape
 output:w'.output=w.output
 size:w.heap.size<=w'.heap.size
 block:∀ i,i<w.heap.size->i≠r->i≠g->w'.heap[i]?=w.heap[i]?
theorem ZP.of1 {w w':World} {r g:Nat} (h:zE w w' r):ZP w w' r g:=⟨h.os,h.tape,h.output,h.size,fun i hi h1 _=>h.block i hi h1⟩
theorem ZP.step {w w1 w2:World} {r g:Nat} (h:ZP w w1 r g) (h':zE w1 w2 r):ZP w w2 r g:=
 ⟨h'.os.trans h.os,h'.tape.trans h.tape,h'.output.trans h.output,Nat.le_trans h.size h'.size,fun i hi h1 h2=>(h'.block i (Nat.lt_of_lt_of_le hi h.size) h1).trans (h.block i hi h1 h2)⟩
theorem ZP.below {w w1 w2:World} {r g:Nat} (h:ZP w w1 r g) (hb:Below w1.heap.size w1 w2):ZP w w2 r g:=h.step (zE.of_below hb)
theorem ZP.setG {w w1:World} {r g:Nat} (h:ZP w w1 r g) (o:Nat) (v:Value):ZP w (w1.setCell ⟨g,o,none⟩ v) r g:=
 ⟨h.os,h.tape,h.output,by simpa [World.setCell] using h.size,fun i hi h1 h2=>(Below.heap_setCell _ _ _ _ h2).trans (h.block i hi h1 h2)⟩
theorem ZP.setNew {w w1:World} {r g b:Nat} (h:ZP w w1 r g) (o:Nat) (v:Value) (hb:w.heap.size<=b):ZP w (w1.setCell ⟨b,o,none⟩ v) r g:=
 ⟨h.os,h.tape,h.output,by simpa [World.setCell] using h.size,fun i hi h1 h2=>(Below.heap_setCell _ _ _ _ (fun e=>by have:i=b:=e; omega)).trans (h.block i hi h1 h2)⟩
theorem ZP.cell {w w':World} {r g:Nat} (h:ZP w w' r g) {b:Nat} (hb:b<w.heap.size) (h1:b≠r) (h2:b≠g) (o:Nat):w'.cell? ⟨b,o,none⟩=w.cell? ⟨b,o,none⟩:=World.cell?_of_block (w:=w) (h.block b hb h1 h2)
theorem ZP.frozen {w w':World} {r g:Nat} (h:ZP w w' r g) {b:Nat} (hb:b<w.heap.size) (h1:b≠r) (h2:b≠g) (o:Nat):w'.frozen? ⟨b,o,none⟩=w.frozen? ⟨b,o,none⟩:=World.frozen?_of_block (w:=w) (h.block b hb h1 h2)
theorem zNL {w:World} {g T n c:Nat} {a:Option Addr} {ys:List OpR} (hf:zt w g ys ys.length) (h0:0<ys.length) (ht:w.cell? ⟨T,0,none⟩=some (.slice a n c)):g≠T:=by
 rintro rfl
 have:=(hf.ops 0 h0).1
 simp only [Nat.zero_mul,Nat.add_zero] at this
 rw [ht] at this
 cases this
theorem zt.put {w:World} {g i:Nat} {xs:List OpR} (h:zt w g xs xs.length) (hi:i<xs.length) (o:OpR) :
  zt (w.setCells g (i*4) [.string o.s,.int .i64 o.k,.int .i64 o.l,.int .i64 o.sd]) g (xs.set i o) (xs.set i o).length:=by
 obtain ⟨h1,h2,h3⟩:=h
 have hin:=World.cell?_setCells_in g [.string o.s,.int .i64 o.k,.int .i64 o.l,.int .i64 o.sd] (i*4) w (fun j hj=>by
  have:=(h2 (i*4+j) (by simp at hj; omega)).1
  simpa using this)
 refine ⟨?_,?_,fun j hj=>?_⟩
 ·simpa [World.setCells,World.setCell] using h1
 ·rw [List.length_set]; exact World.there_setCells h2 _ _ _
 ·rw [List.length_set] at hj
  by_cases e:j=i
  ·subst e
   have a0:=hin 0 (by simp)
   have a1:=hin 1 (by simp)
   have a2:=hin 2 (by simp)
   have a3:=hin 3 (by simp)
   have ea:atO (xs.set j o) j=o:=by unfold atO; simp [List.getD,hj]
   unfold zAw
   rw [ea]
   exact ⟨by simpa using a0,by simpa using a1,by simpa using a2,by simpa using a3⟩
  ·obtain ⟨c0,c1,c2,c3⟩:=h3 j hj
   have ea:atO (xs.set i o) j=atO xs j:=by unfold atO; simp [List.getD,List.getElem?_set,Ne.symm e]
   have out:∀ t,t<4->(w.setCells g (i*4) [.string o.s,.int .i64 o.k,.int .i64 o.l,.int .i64 o.sd]).cell? ⟨g,0+j*4+t,none⟩=w.cell? ⟨g,0+j*4+t,none⟩:=fun t ht=>by
    simp only [World.setCells]
    rw [World.cell?_setCell_other _ _ _ _ (fun x=>by injection x with _ x; omega),World.cell?_setCell_other _ _ _ _ (fun x=>by injection x with _ x; omega),World.cell?_setCell_other _ _ _ _ (fun x=>by injection x with _ x; omega),World.cell?_setCell_other _ _ _ _ (fun x=>by injection x with _ x; omega)]
   unfold zAw
   rw [ea]
   exact ⟨(out 0 (by omega)).trans c0,(out 1 (by omega)).trans c1,(out 2 (by omega)).trans c2,(out 3 (by omega)).trans c3⟩
def zCx (k:Nat):ByteArray:=if k%5=0 then ⟨#[32]⟩ else if k%5=2 then ⟨#[10,9]⟩ else if k%5=3 then ⟨#[32,32]⟩ else ⟨#[]⟩
theorem zA8 (k:Nat):(zCx k).size<=2:=by
 unfold zCx
 repeat' split
 all_goals decide
theorem zQf (rp cap p:Nat) (a:Option Addr) (bs:List UInt8) (w:World) (h:RdS w rp a cap bs p) (hl:bs.length<=1200) :
  Calls Tryz.prog 113 #[.pointer (some ⟨rp,0,none⟩)] w fun e w'=>(∃ g:ByteArray,e = .returned (.string g)/\Hid (g=zCx (nxt bs p)))/\Hid (RdS w' rp a cap bs (adv bs p))/\Hid (zE w w' rp):=by
 have H:=zB h
 clear h
 go_enter Tryz.func113,Tryz.ntmps113
 go_wp2_with fail
 refine (zAC rp cap p a bs _ (zA H) hl).mono ?_
 rintro e w1 ⟨⟨k,rfl,hk,HK⟩,H1,HP1⟩
 clear H
 have hcs:k%5=0\/k%5=1\/k%5=2\/k%5=3\/k%5=4:=by omega
 rcases hcs with hc | hc | hc | hc | hc
 ·have HC:=zB hc
  have e0:((k:Int)%5==0)=true:=by simp; omega
  clear hc
  go_wp2_with fail
  go_ret
  exact ⟨⟨_,rfl,zB (by rw [<- zA HK]; simp [zCx,zA HC])⟩,H1,HP1⟩
 ·have HC:=zB hc
  have e0:((k:Int)%5==0)=false:=by simp; omega
  have e1:((k:Int)%5==1)=true:=by simp; omega
  clear hc
  go_wp2_with fail
  go_ret
  exact ⟨⟨_,rfl,zB (by rw [<- zA HK]; simp [zCx,zA HC])⟩,H1,HP1⟩
 ·have HC:=zB hc
  have e0:((k:Int)%5==0)=false:=by simp; omega
  have e1:((k:Int)%5==1)=false:=by simp; omega
  have e2:((k:Int)%5==2)=true:=by simp; omega
  clear hc
  go_wp2_with fail
  go_ret
  exact ⟨⟨_,rfl,zB (by rw [<- zA HK]; simp [zCx,zA HC])⟩,H1,HP1⟩
 ·have HC:=zB hc
  have e0:((k:Int)%5==0)=false:=by simp; omega
  have e1:((k:Int)%5==1)=false:=by simp; omega
  have e2:((k:Int)%5==2)=false:=by simp; omega
  have e3:((k:Int)%5==3)=true:=by simp; omega
  clear hc
  go_wp2_with fail
  go_ret
  exact ⟨⟨_,rfl,zB (by rw [<- zA HK]; simp [zCx,zA HC])⟩,H1,HP1⟩
 ·have HC:=zB hc
  have e0:((k:Int)%5==0)=false:=by simp; omega
  have e1:((k:Int)%5==1)=false:=by simp; omega
  have e2:((k:Int)%5==2)=false:=by simp; omega
  have e3:((k:Int)%5==3)=false:=by simp; omega
  clear hc
  go_wp2_with fail
  go_ret
  exact ⟨⟨_,rfl,zB (by rw [<- zA HK]; simp [zCx,zA HC])⟩,H1,HP1⟩
theorem zKu (W:World) (c:Int):(convert 22 9 (.slice (some ⟨W.heap.size,0,none⟩) 1 1)).run Tryz.prog (W.alloc (.cells #[.int .u8 c] 5)) = .ok (.string ⟨#[UInt8.ofNat c.toNat]⟩) (W.alloc (.cells #[.int .u8 c] 5)):=by
 rw [run_convert_bytes_string _ 22 9 5 _ _ _ Tryz.underlying22 Tryz.underlying5 Tryz.underlying9]
 have hl:(loadCells ⟨W.heap.size,0,none⟩ 1).run Tryz.prog (W.alloc (.cells #[.int .u8 c] 5)) = .ok ([c].map (Value.int .u8)).toArray (W.alloc (.cells #[.int .u8 c] 5)):=
  run_loadCells_list (P:=Tryz.prog) _ ⟨W.heap.size,0,none⟩ [.int .u8 c] (fun j v hv=>by
   match j,hv with
   | 0,hv=>simp at hv; subst hv; simp [Addr.add,go_sem])
 rw [run_bytesToString _ ⟨W.heap.size,0,none⟩ 1 1 [c] hl]
 rfl
def zAi (xs:List OpR) (bs:List UInt8) (p:Nat):ByteArray:=
 if nxt bs p%8<4/\0<xs.length then (atO xs (nxt bs p/8%xs.length)).s
 else if nxt bs p%8=4 then ⟨#[40]⟩ else if nxt bs p%8=5 then ⟨#[41]⟩
 else if nxt bs p%8=6 then (⟨#[97,49,95,98]⟩:ByteArray).extract 0 (1+nxt bs p/8%4)
 else if 240<=nxt bs p then txN (nxt bs p)
 else if 224<=nxt bs p then ⟨#[(nxt bs (adv bs p)).toUInt8]⟩
 else (⟨#[49,48,50,55]⟩:ByteArray).extract (nxt bs p/8%4) 4
def zAu (xs:List OpR) (bs:List UInt8) (p:Nat):Nat:=
 if nxt bs p%8<4/\0<xs.length then adv bs p
 else if nxt bs p%8=4 then adv bs p else if nxt bs p%8=5 then adv bs p
 else if nxt bs p%8=6 then adv bs p
 else if 240<=nxt bs p then adv bs p
 else if 224<=nxt bs p then adv bs (adv bs p)
 else adv bs p
theorem zGy (rp cap p g c:Nat) (a:Option Addr) (bs:List UInt8) (xs:List OpR) (w:World) (h:RdS w rp a cap bs p) (hl:bs.length<=1200) (hm:xs.length<=1048576) (hx:Ops w g 0 xs) (hg:g<w.heap.size) (hne:g≠rp) :
  Calls Tryz.prog 112 #[.pointer (some ⟨rp,0,none⟩),.agg #[.slice (some ⟨g,0,none⟩) xs.length c]] w fun e w'=>(∃ s:ByteArray,e = .returned (.string s)/\Hid (s=zAi xs bs p))/\Hid (RdS w' rp a cap bs (zAu xs bs p))/\Hid (zE w w' rp):=by
 have hrpw:=h.lt
 have H:=zB h
 clear h
 go_enter Tryz.func112,Tryz.ntmps112
 go_wp2_with fail
 refine (zAC rp cap p a bs _ ((zA H).below (zC _ _)) hl).mono ?_
 rintro e w1 ⟨⟨k,rfl,hk,HK⟩,H1,HP1⟩
 have HW:=zB (show zE w w1 rp from (zE.of_below (zC _ _)).trans (zA HP1))
 have z1:w.heap.size+1<=w1.heap.size:=by have:=(zA HP1).size; simpa using this
 have b0:w1.cell? ⟨w.heap.size,0,none⟩=some (.slice (some ⟨g,0,none⟩) xs.length c):=((zA HP1).cell (b:=w.heap.size) (by simp) (by omega) 0).trans (by simp [go_sem])
 have HX:=zB ((zA HW).ops hx hg hne)
 clear H HP1 hx
 by_cases hA:k%8<4/\0<xs.length
 ·obtain ⟨hA1,hA2⟩:=hA
  have HA:=zB (And.intro hA1 hA2)
  have e0:(k:Int)%8<4:=by omega
  have e1:(0:Int)<(xs.length:Int):=by omega
  have hi:k/8%xs.length<xs.length:=Nat.mod_lt _ hA2
  obtain ⟨a0,a1,a2,a3⟩:=(zA HX) _ hi
  simp only [Nat.zero_add] at a0 a1 a2 a3
  clear hA1
  have e3:((xs.length:Int)==0)=false:=beq_eq_false_iff_ne.2 (by omega)
  have e4:(k:Int)/8%(xs.length:Int)=((k/8%xs.length:Nat):Int):=by simp
  have e5:((k/8%xs.length:Nat):Int)<(xs.length:Int):=by exact_mod_cast hi
  have HN:=zB (show (atO xs (k/8%xs.length)).s=zAi xs bs p by simp [zAi,<- zA HK,zA HA])
  have HP:=zB (show zAu xs bs p=adv bs p by simp [zAu,<- zA HK,zA HA])
  generalize k/8%xs.length=m at hi a0 a1 a2 a3 e4 e5 HN
  go_wp2_with fail
  go_quiet (fail)
  go_wp2_with fail
  go_ret
  rw [zA HP]
  exact ⟨⟨_,rfl,HN⟩,zB ((zA H1).drewN _),zB ((zA HW).trans (Zz _ _ _))⟩
 ·have HA:=zB hA
  by_cases h4:k%8=4
  ·have HC:=zB h4
   have e0:¬ (k:Int)%8<4:=by omega
   have e1:((k:Int)%8==4)=true:=by simp; omega
   have HN:=zB (show (⟨#[40]⟩:ByteArray)=zAi xs bs p by simp [zAi,<- zA HK,zA HC])
   have HP:=zB (show zAu xs bs p=adv bs p by simp [zAu,<- zA HK,zA HC])
   clear h4 hA
   go_wp2_with fail
   go_ret
   rw [zA HP]
   exact ⟨⟨_,rfl,HN⟩,H1,HW⟩
  by_cases h5:k%8=5
  ·have HC:=zB h5
   have e0:¬ (k:Int)%8<4:=by omega
   have e1:((k:Int)%8==4)=false:=by simp; omega
   have e2:((k:Int)%8==5)=true:=by simp; omega
   have HN:=zB (show (⟨#[41]⟩:ByteArray)=zAi xs bs p by simp [zAi,<- zA HK,zA HC])
   have HP:=zB (show zAu xs bs p=adv bs p by simp [zAu,<- zA HK,zA HC])
   clear h4 h5 hA
   go_wp2_with fail
   go_ret
   rw [zA HP]
   exact ⟨⟨_,rfl,HN⟩,H1,HW⟩
  by_cases h6:k%8=6
  ·have HC:=zB h6
   have e0:¬ (k:Int)%8<4:=by omega
   have e1:((k:Int)%8==4)=false:=by simp; omega
   have e2:((k:Int)%8==5)=false:=by simp; omega
   have e3:((k:Int)%8==6)=true:=by simp; omega
   have e4:1+(k:Int)/8%4<=4:=by omega
   have e5:(0:Int)<=1+(k:Int)/8%4:=by omega
   have HN:=zB (show (⟨#[97,49,95,98]⟩:ByteArray).extract 0 (1+k/8%4)=zAi xs bs p by simp [zAi,<- zA HK,zA HC])
   have HP:=zB (show zAu xs bs p=adv bs p by simp [zAu,<- zA HK,zA HC])
   clear h4 h5 h6 hA
   go_wp2_with fail
   go_ret
   rw [zA HP]
   exact ⟨⟨_,rfl,HN⟩,H1,HW⟩
  have h7:(k%8<4/\xs.length=0)\/k%8=7:=by omega
  have HC:=zB (show ¬ (k%8<4/\0<xs.length)/\¬ k%8=4/\¬ k%8=5/\¬ k%8=6 from ⟨hA,h4,h5,h6⟩)
  have e1:((k:Int)%8==4)=false:=by simp; omega
  have e2:((k:Int)%8==5)=false:=by simp; omega
  have e3:((k:Int)%8==6)=false:=by simp; omega
  clear h4 h5 h6 hA
  rcases h7 with ⟨h7,h8⟩ | h7
  ·have e0:(k:Int)%8<4:=by omega
   have e4:¬ (0:Int)<(xs.length:Int):=by omega
   clear h7 h8
   by_cases hb:240<=k
   ·have HB:=zB hb
    have e5:(240:Int)<=(k:Int):=by omega
    have HN:=zB (show txN k=zAi xs bs p by simp [zAi,<- zA HK,zA HC,zA HB])
    have HP:=zB (show zAu xs bs p=adv bs p by simp [zAu,<- zA HK,zA HC,zA HB])
    clear hb
    go_wp2_with (go_at_call 150; refine (zAh _ _ (by omega)).mono ?_; rintro e w3 ⟨rfl,hx⟩; obtain rfl:=hx.symm)
    go_ret
    rw [zA HP]
    exact ⟨⟨_,rfl,HN⟩,H1,HW⟩
   by_cases hd:224<=k
   ·have HD:=zB (And.intro hb hd)
    have e5:¬ (240:Int)<=(k:Int):=by omega
    have e6:(224:Int)<=(k:Int):=by omega
    have HN:=zB (show (⟨#[(nxt bs (adv bs p)).toUInt8]⟩:ByteArray)=zAi xs bs p by simp [zAi,<- zA HK,zA HC,zA HD])
    have HP:=zB (show zAu xs bs p=adv bs (adv bs p) by simp [zAu,<- zA HK,zA HC,zA HD])
    clear hb hd
    go_wp2_with fail
    refine (zAC rp cap _ a bs _ (zA H1) hl).mono ?_
    rintro e w2 ⟨⟨v,rfl,hv,HV⟩,H2,HP2⟩
    have HW2:=zB ((zA HW).trans (zA HP2))
    clear H1 HP2 b0
    have hcv:=fun W c=>zKu W c
    go_wp2_with fail
    go_ret
    rw [zA HP]
    refine ⟨⟨_,rfl,zB ?_⟩,zB ((zA H2).below (zC _ _)),zB ((zA HW2).belowN (zC _ _))⟩
    rw [<- zA HN,<- zA HV]
   ·have HD:=zB (And.intro hb hd)
    have e5:¬ (240:Int)<=(k:Int):=by omega
    have e6:¬ (224:Int)<=(k:Int):=by omega
    have e7:(k:Int)/8%4<=4:=by omega
    have e8:(0:Int)<=(k:Int)/8%4:=by omega
    have HN:=zB (show (⟨#[49,48,50,55]⟩:ByteArray).extract (k/8%4) 4=zAi xs bs p by simp [zAi,<- zA HK,zA HC,zA HD])
    have HP:=zB (show zAu xs bs p=adv bs p by simp [zAu,<- zA HK,zA HC,zA HD])
    clear hb hd
    go_wp2_with fail
    go_ret
    rw [zA HP]
    exact ⟨⟨_,rfl,HN⟩,H1,HW⟩
  ·have e0:¬ (k:Int)%8<4:=by omega
   clear h7
   by_cases hb:240<=k
   ·have HB:=zB hb
    have e5:(240:Int)<=(k:Int):=by omega
    have HN:=zB (show txN k=zAi xs bs p by simp [zAi,<- zA HK,zA HC,zA HB])
    have HP:=zB (show zAu xs bs p=adv bs p by simp [zAu,<- zA HK,zA HC,zA HB])
    clear hb
    go_wp2_with (go_at_call 150; refine (zAh _ _ (by omega)).mono ?_; rintro e w3 ⟨rfl,hx⟩; obtain rfl:=hx.symm)
    go_ret
    rw [zA HP]
    exact ⟨⟨_,rfl,HN⟩,H1,HW⟩
   by_cases hd:224<=k
   ·have HD:=zB (And.intro hb hd)
    have e5:¬ (240:Int)<=(k:Int):=by omega
    have e6:(224:Int)<=(k:Int):=by omega
    have HN:=zB (show (⟨#[(nxt bs (adv bs p)).toUInt8]⟩:ByteArray)=zAi xs bs p by simp [zAi,<- zA HK,zA HC,zA HD])
    have HP:=zB (show zAu xs bs p=adv bs (adv bs p) by simp [zAu,<- zA HK,zA HC,zA HD])
    clear hb hd
    go_wp2_with fail
    refine (zAC rp cap _ a bs _ (zA H1) hl).mono ?_
    rintro e w2 ⟨⟨v,rfl,hv,HV⟩,H2,HP2⟩
    have HW2:=zB ((zA HW).trans (zA HP2))
    clear H1 HP2 b0
    have hcv:=fun W c=>zKu W c
    go_wp2_with fail
    go_ret
    rw [zA HP]
    refine ⟨⟨_,rfl,zB ?_⟩,zB ((zA H2).below (zC _ _)),zB ((zA HW2).belowN (zC _ _))⟩
    rw [<- zA HN,<- zA HV]
   ·have HD:=zB (And.intro hb hd)
    have e5:¬ (240:Int)<=(k:Int):=by omega
    have e6:¬ (224:Int)<=(k:Int):=by omega
    have e7:(k:Int)/8%4<=4:=by omega
    have e8:(0:Int)<=(k:Int)/8%4:=by omega
    have HN:=zB (show (⟨#[49,48,50,55]⟩:ByteArray).extract (k/8%4) 4=zAi xs bs p by simp [zAi,<- zA HK,zA HC,zA HD])
    have HP:=zB (show zAu xs bs p=adv bs p by simp [zAu,<- zA HK,zA HC,zA HD])
    clear hb hd
    go_wp2_with fail
    go_ret
    rw [zA HP]
    exact ⟨⟨_,rfl,HN⟩,H1,HW⟩
end Go.Proofs.YtfboipappaonhaaGreat
