import Derived.Deep.QuietTactic
import Derived.BigQuiet
import Derived.Test.YtfboipappaonhaaGreatM00
import Derived.Test.YtfboipappaonhaaGreatM01
import Derived.Test.YtfboipappaonhaaGreatM03
import Derived.Test.YtfboipappaonhaaGreatM09
import Derived.Test.YtfboipappaonhaaGreatM18
import Derived.Test.YtfboipappaonhaaGreatM24
import Derived.Test.YtfboipappaonhaaGreatM27
import Derived.Test.YtfboipappaonhaaGreatM28
import Derived.Test.YtfboipappaonhaaGreatM38
namespace Go.Proofs.YtfboipappaonhaaGreat
set_option linter.unusedSimpArgs false
set_option linter.unusedVariables false
set_option maxHeartbeats 16000000
set_option maxRecDepth 100000
open Go.RowKit
open Go.Deep (BT)
theorem zEL (T:ET):(yT T).length = (ySy T).length:=by simp [yT]
theorem zIH (bz offz cz:Nat) (ns:List OpR) (zs:List zD) (B:Nat) (hbz:bz < B) (hzl:zs.length <= 20000):∀ (T:ET),ZS ns T -> ∀ (s:Nat) (us vs:List ZR),zBR zs T s -> s + tsz T <= zs.length -> us.length + (ySy T).length <= 90000 -> vs = us ++ yT T -> zKP bz offz cz zs B (s + tsz T - 1) us vs:=by
 intro T
 induction T with
 | nil=>intro h; exact h.elim
 | node b o t l r ihl ihr=>
  rintro ⟨rfl,h⟩ s us vs ⟨h1,h2,h3⟩ hz hlen hvs
  simp only [tsz] at hz
  have e:s + tsz (.node b 0 t l r) - 1 = s + tsz l + tsz r:=by simp only [tsz]; omega
  rw [e]
  intro u W hW hB hrow
  have hcell:∀ ja jb:Nat,(if zR (b:Int) = 0 then (0:Int) else ((s + tsz l:Nat):Int) - 1) = (ja:Int) -> (if zR (b:Int) = 2 then ((s + tsz l + tsz r:Nat):Int) - 1 else 0) = (jb:Int) -> atN zs (s + tsz l + tsz r) = ⟨(b:Int),t,(ja:Int),(jb:Int)⟩:=fun ja jb ha hb=>by
   rw [h3,tN,ha,hb]
  rcases h with ⟨h12,rfl,rfl⟩ | ⟨rfl,rfl,hl,rfl⟩ | ⟨h35,hk,hl,rfl⟩ | ⟨rfl,hk,hl,hr⟩
  ·have hk0:zR (b:Int) = 0:=by rcases h12 with h | h <;> subst h <;> decide
   refine zFi bz offz cz _ zs (b:Int) t 0 0 B u us vs W hW hbz hB hrow (by simp only [tsz] at hz ⊢; omega) hzl (hcell 0 0 (by rw [if_pos hk0]; rfl) (by rw [if_neg (by omega)]; rfl)) (by omega) (Or.inl ⟨hk0,?_⟩)
   rw [hvs]
   have:yT (.node b 0 t .nil .nil) = [⟨t,false,false⟩]:=by
    simp only [yT,ySy]
    rw [if_neg (by omega),if_neg (by omega),if_neg (by omega),if_neg (by omega)]
    simp [wS]
    omega
   rw [this]
  ·have hp:=hl.sh.pos
   have hy:yT (.node 6 0 ByteArray.empty l .nil) = ⟨opn,false,false⟩ :: (yT l ++ [⟨zAl,false,false⟩]):=by simp [yT,ySy,wS]
   have hy2:(ySy (.node 6 0 ByteArray.empty l .nil)).length = (ySy l).length + 2:=by simp [ySy]
   rw [hy2] at hlen
   refine zFi bz offz cz _ zs 6 ByteArray.empty (s + tsz l - 1) 0 B u us vs W hW hbz hB hrow (by simp only [tsz] at hz ⊢; omega) hzl (hcell _ 0 (by rw [if_neg (by decide)]; omega) (by rw [if_neg (by decide)]; rfl)) (by omega) (Or.inr (Or.inr (Or.inl ⟨rfl,us ++ [⟨opn,false,false⟩],us ++ [⟨opn,false,false⟩] ++ yT l,rfl,ihl hl s _ _ h1 (by omega) (by simp; omega) rfl,?_,?_⟩)))
   ·rw [hvs,hy]; simp
   ·simp [zEL]; omega
  ·have hp:=hl.sh.pos
   rcases h35 with rfl | rfl
   ·have hy:yT (.node 3 0 t l .nil) = ⟨t,true,false⟩ :: yT l:=by simp [yT,ySy,wS]
    have hy2:(ySy (.node 3 0 t l .nil)).length = (ySy l).length + 1:=by simp [ySy]
    rw [hy2] at hlen
    refine zFi bz offz cz _ zs 3 t (s + tsz l - 1) 0 B u us vs W hW hbz hB hrow (by simp only [tsz] at hz ⊢; omega) hzl (hcell _ 0 (by rw [if_neg (by decide)]; omega) (by rw [if_neg (by decide)]; rfl)) (by omega) (Or.inr (Or.inl ⟨rfl,us ++ [⟨t,true,false⟩],rfl,ihl hl s _ _ h1 (by omega) (by simp; omega) ?_⟩))
    rw [hvs,hy]; simp
   ·have hy:yT (.node 5 0 t l .nil) = yT l ++ [⟨t,true,false⟩]:=by simp [yT,ySy,wS]
    have hy2:(ySy (.node 5 0 t l .nil)).length = (ySy l).length + 1:=by simp [ySy]
    rw [hy2] at hlen
    refine zFi bz offz cz _ zs 5 t (s + tsz l - 1) 0 B u us vs W hW hbz hB hrow (by simp only [tsz] at hz ⊢; omega) hzl (hcell _ 0 (by rw [if_neg (by decide)]; omega) (by rw [if_neg (by decide)]; rfl)) (by omega) (Or.inr (Or.inr (Or.inr (Or.inl ⟨rfl,us ++ yT l,ihl hl s _ _ h1 (by omega) (by omega) rfl,?_,?_⟩))))
    ·rw [hvs,hy]; simp
    ·simp [zEL]; omega
  ·have hp:=hl.sh.pos
   have hq:=hr.sh.pos
   have hy:yT (.node 4 0 t l r) = yT l ++ (⟨t,true,true⟩ :: yT r):=by simp [yT,ySy,wS]
   have hy2:(ySy (.node 4 0 t l r)).length = (ySy l).length + (ySy r).length + 1:=by simp [ySy]; omega
   rw [hy2] at hlen
   refine zFi bz offz cz _ zs 4 t (s + tsz l - 1) (s + tsz l + tsz r - 1) B u us vs W hW hbz hB hrow (by omega) hzl (hcell _ _ (by rw [if_neg (by decide)]; omega) (by rw [if_pos (by decide)]; omega)) (by omega) (Or.inr (Or.inr (Or.inr (Or.inr ⟨rfl,us ++ yT l,us ++ yT l ++ [⟨t,true,true⟩],ihl hl s _ _ h1 (by omega) (by omega) rfl,rfl,ihr hr (s + tsz l) _ _ h2 (by omega) (by simp [zEL]; omega) ?_,?_⟩))))
   ·rw [hvs,hy]; simp
   ·simp [zEL]; omega
end Go.Proofs.YtfboipappaonhaaGreat
namespace Go.Proofs.YtfboipappaonhaaGreat
set_option linter.unusedSimpArgs false
set_option linter.unusedVariables false
set_option maxHeartbeats 16000000
set_option maxRecDepth 100000
open Go.RowKit
def yTo (ws:List ZR):Nat -> List UInt8
 | 0=>[]
 | k + 1=>(yTo ws k ++ (if k = 0 then [] else [32])) ++ (atW ws k).t.data.toList
def flR:List SyR -> List UInt8
 | []=>[]
 | x :: r=>32 :: (x.2.data.toList ++ flR r)
theorem zII:∀ (l:List SyR) (x:SyR),flR (l ++ [x]) = flR l ++ (32 :: x.2.data.toList)
 | [],x=>by simp [flR]
 | y :: l,x=>by simp [flR,zII l x]
theorem zJs:∀ (ss:List SyR),(spr (gwF (one 32) ss) ByteArray.empty).data.toList = flR ss
 | []=>rfl
 | x :: r=>by
  show (one 32 ++ (x.2 ++ spr (gwF (one 32) r) ByteArray.empty)).data.toList = _
  rw [zDG,zDG,zJs r]
  rfl
theorem zIJ (ss:List SyR):∀ k,k <= ss.length -> yTo (ss.map wS) k = (match ss.take k with | []=>[] | x :: r=>x.2.data.toList ++ flR r)
 | 0,_=>rfl
 | k + 1,hk=>by
  have hlt:k < ss.length:=by omega
  have ha:atW (ss.map wS) k = wS ss[k]:=by simp [atW,List.getD_eq_getElem?_getD,hlt]
  simp only [yTo]
  rw [zIJ ss k (by omega),ha,List.take_add_one,List.getElem?_eq_getElem hlt]
  show _ ++ (ss[k]).2.data.toList = _
  cases h:ss.take k with
  | nil=>
   have:k = 0:=by
    have:=congrArg List.length h
    rw [List.length_take] at this
    simp only [List.length_nil] at this
    omega
   subst this
   simp [flR]
  | cons x r=>
   have:k ≠ 0:=fun e=>by subst e; simp at h
   rw [if_neg this]
   simp [zII]
theorem zGb (ss:List SyR):(yTx ss).data.toList = yTo (ss.map wS) ss.length:=by
 rw [zIJ ss ss.length (Nat.le_refl _),List.take_length]
 cases ss with
 | nil=>rfl
 | cons x r=>
  show (ByteArray.empty ++ (x.2 ++ spr (gwF (one 32) r) ByteArray.empty)).data.toList = _
  rw [zDG,zDG,zJs]
  rfl
theorem zHS (ws:List ZR) (h:∀ k,k < ws.length -> (atW ws k).t.size <= 20000):∀ k,k <= ws.length -> (yTo ws k).length <= 20001 * k
 | 0,_=>by simp [yTo]
 | k + 1,hk=>by
  have:=zHS ws h k (by omega)
  have hs:(atW ws k).t.data.toList.length <= 20000:=h k (by omega)
  simp only [yTo,List.length_append]
  split
  ·simp only [List.length_nil]; omega
  ·simp only [List.length_cons,List.length_nil]; omega
theorem zKQ (w:World) (c:UInt8):∀ j u,(cellsB [c])[j]? = some u -> (w.alloc (.cells #[.int .u8 (c.toNat:Int)] 5)).cell? ((⟨w.heap.size,0,none⟩:Addr).add j) = some u:=by
 intro j u hj
 rw [Addr.add_mid]
 have:=World.rangeAt_of_block (w:=w.alloc (.cells #[.int .u8 (c.toNat:Int)] 5)) (b:=w.heap.size) (heap_alloc_new w _) 0 1
 exact this j u (by simpa [cellsB] using hj)
theorem zF2 (bn offn cn:Nat) (ns:List OpR) (us:List zD) (T:ET) (w:World) (hw:ZS ns T) (hl:zBR us T 0) (hul:us.length = tsz T) (h20:us.length <= 20000) (htx:TxB T) (hwn:Zs w bn offn us) (hBn:bn < w.heap.size) :
  Calls Tryz.prog 22 #[.agg #[.slice (some ⟨bn,offn,none⟩) us.length cn]] w fun e w'=>e = .returned (.string (yTx (ySy T))) /\ Below w.heap.size w w':=by
 obtain ⟨i0,hi,hz0,hz1,hz2⟩:=info_parts infoByte
 have HI:=zB hi
 have HZB:=zB (And.intro hz0 (And.intro hz1 hz2))
 clear hi hz0 hz1 hz2
 have hgp:=hw.sh.pos
 have hul1:1 <= us.length:=by omega
 have ei:(us.length:Int) - 1 = ((us.length - 1:Nat):Int):=by omega
 obtain ⟨W3,HW3⟩:∃ W3,Hid (W3 = (w.alloc (.cells #[.slice (some ⟨bn,offn,none⟩) us.length cn] 28)).alloc (.cells #[] 54)):=⟨_,zB rfl⟩
 have hb3:Below w.heap.size w W3:=by rw [zA HW3]; exact (zC _ _).alloc (by simp) _
 have s3:W3.heap.size = w.heap.size + 2:=by rw [zA HW3]; simp
 have HR3:=zB (show zAb W3 (w.heap.size + 1) (.slice (some ⟨w.heap.size + 1,0,none⟩) 0 0) [] by
  rw [zA HW3]
  have:=World.ownsRow_lit (base:=w.heap.size + 1) (e:=54) (size:=3) (w.alloc (.cells #[.slice (some ⟨bn,offn,none⟩) us.length cn] 28)) #[] 0 (by simp) (Nat.zero_le _) rfl
  simpa [zAb,zv] using this)
 have hyl:=zHG T
 have hrec:=zIH bn offn cn ns us (w.heap.size + 1) (by omega) h20 T hw 0 [] (yT T) hl (by omega) (by simp; omega) (by simp)
 rw [Nat.zero_add,<- hul] at hrec
 have HCALL:=zB (hrec (.slice (some ⟨w.heap.size + 1,0,none⟩) 0 0) W3 (hwn.below hb3 hBn) (by omega) (zA HR3))
 rw [zA HW3] at HCALL
 obtain ⟨ws,HWS⟩:∃ ws,Hid (ws = yT T):=⟨_,zB rfl⟩
 rw [<- zA HWS] at HCALL
 have hwl:ws.length <= 40000:=by rw [zA HWS,zEL]; omega
 have hwp:1 <= ws.length:=by rw [zA HWS]; exact zM9 hw.sh
 have HTX:=zB (show yTx (ySy T) = ⟨(yTo ws ws.length).toArray⟩ by
  apply zIj
  rw [zGb,zA HWS,zEL]
  rfl)
 have HTS:=zB (show ∀ k,k < ws.length -> (atW ws k).t.size <= 20000 from fun k hk=>by
  have hx:atW ws k ∈ ws:=by simp [atW,List.getD,hk]
  rw [zA HWS] at hx
  simp only [yT,List.mem_map] at hx
  obtain ⟨q,hq,e⟩:=hx
  have e':wS q = atW ws k:=by rw [zA HWS]; exact e
  rw [<- e']
  exact zGU T htx q hq)
 have HTL:=zB (zHS ws (zA HTS))
 have HB3:=zB hb3
 rw [zA HTX]
 clear hw hl hul htx hwn hgp hyl hrec HR3 HTX hb3
 go_enter Tryz.func22,Tryz.ntmps22
 go_wp2_with fail
 refine (zA HCALL).mono ?_
 rw [<- zA HW3]
 rintro x w4 ⟨u',rfl,hr,hg,ho⟩
 obtain ⟨g4,c4,rfl⟩:∃ g k,u' = .slice (some ⟨g,0,none⟩) ws.length k:=by
  obtain ⟨_,⟨rfl,h0⟩ | ⟨g,cap,cur,h,_⟩⟩:=zA hr
  ·omega
  ·exact ⟨_,_,h⟩
 have HOW:=zB (zA hr).ops
 have hg4:=((zA hr).lt g4 rfl).2
 have bel4:Below w.heap.size w w4:=(zA HB3).trans ⟨(zA hg).os,(zA hg).tape,(zA hg).output,(zA hg).size,fun i hi=>(zA hg).block i (by omega) (by simp [Value.ownBlock]; omega)⟩
 clear hr hg ho HCALL HW3 HB3 s3
 have HO:=zB (show (w4.alloc (.cells #[] 5)).ownsRow w4.heap.size 5 1 (.slice (some ⟨w4.heap.size,0,none⟩) 0 0) 0 (cellsB (yTo ws 0)) by
  show (w4.alloc (.cells #[] 5)).ownsRow w4.heap.size 5 1 (.slice (some ⟨w4.heap.size,0,none⟩) 0 0) 0 []
  simpa using World.ownsRow_lit (base:=w4.heap.size) (e:=5) (size:=1) w4 #[] 0 (Nat.le_refl _) (Nat.zero_le _) rfl)
 go_wp2
 go_loopw [4,5] (fun out i wr=>∃ (k go co n:Nat),k <= ws.length /\ i = .int .i64 (k:Int) /\ out = .slice (some ⟨go,0,none⟩) n co /\ Hid (n = (yTo ws k).length) /\ Hid (wr.ownsRow w4.heap.size 5 1 (.slice (some ⟨go,0,none⟩) n co) n (cellsB (yTo ws k))) /\ Below w4.heap.size w4 wr) (fun _ i _=>ws.length - (intOf i).toNat)
 case atStart=>exact ⟨0,w4.heap.size,0,0,Nat.zero_le _,rfl,rfl,zB rfl,HO,zC _ _⟩
 case round=>
  clear HO
  obtain ⟨k,go,co,n,hk,rfl,rfl,hn,hown,hbel⟩:=hrel
  by_cases hlt:k < ws.length
  ·obtain ⟨x0,x1,x2⟩:=((zA HOW).below hbel hg4) k hlt
   have hkI:(k:Int) < (ws.length:Int):=by omega
   obtain ⟨xt,hxt⟩:∃ xt,xt = (atW ws k).t:=⟨_,rfl⟩
   rw [<- hxt] at x0
   have hts:xt.size <= 20000:=by rw [hxt]; exact (zA HTS) k hlt
   have htl:=(zA HTL) k (by omega)
   rw [<- zA hn] at htl
   have hnb:n <= 800040000:=by omega
   have hgw:g4 < wr.heap.size:=Nat.lt_of_lt_of_le hg4 hbel.size
   have hgo0:go < wr.heap.size:=((zA hown).lt go rfl).2
   have zwr:=hbel.size
   have HBE:=zB hbel
   clear htl x1 x2 hbel
   by_cases hk0:k = 0
   ·have HEQ:=zB (show yTo ws (k + 1) = yTo ws k ++ xt.data.toList by simp only [yTo]; rw [if_pos hk0,<- hxt]; simp)
    obtain ⟨c1,w6,hrun1,hnew1,hb6⟩:=zFD wr xt
    have HN1:=zB hnew1
    have HO6:=zB ((zA hown).kept (zCv hb6 none) (Or.inr (by simp [Value.ownBlock])))
    have HB6:=zB ((zA HBE).trans (hb6.mono zwr))
    have z6:=(zA HB6).size
    clear hnew1 hb6 hown hxt HBE
    subst hk0
    go_wp2_with (at_builtin; refine wpList_append_own _ rfl (.tmp 26) (.tmp 32) 22 rfl w4.heap.size 5 i0 _ 1 1 Tryz.underlying22 (zA HI) (zA HZB).1 (zA HZB).2.1 (zA HZB).2.2 rfl (by decide) _ n (cellsB (yTo ws 0)) rfl (zA HO6) ⟨wr.heap.size,0,none⟩ xt.size c1 (cellsB xt.data.toList) rfl (by rw [zBM]; simp) (zA HN1) (zDA _) ?b1 ?b2 ?b3 ?next)
    case b1=>unfold maxLen; omega
    case b2=>omega
    case b3=>exact z6
    case next=>
     intro v7 w7 hown7 hgrow7 hnil7
     have hgo:=(zA HO6).lt go rfl
     have hbel7:Below w4.heap.size w4 w7:=(zA HB6).grown hgrow7 z6 (fun q hq=>by simp [Value.ownBlock] at hq; omega)
     obtain ⟨g7,q7,rfl⟩:=zt hown7 (by simp [hnil7])
     rw [<- zAq,<- zA HEQ] at hown7
     have HO7:=zB hown7
     have HL7:=zB (show n + xt.size = (yTo ws (0 + 1)).length by rw [zA HEQ,List.length_append,<- zA hn]; simp)
     clear hown7 hgrow7 hnil7 HN1 HO6 HB6 hrun1
     go_wp2
     exact ⟨⟨0 + 1,g7,q7,_,by omega,by go_num,rfl,HL7,HO7,hbel7⟩,by simp [intOf]; omega⟩
   ·obtain ⟨tk,HTK⟩:∃ tk,Hid (tk = yTo ws k ++ [32]):=⟨_,zB rfl⟩
    have HEQ:=zB (show yTo ws (k + 1) = tk ++ xt.data.toList by simp only [yTo]; rw [if_neg hk0,<- hxt,zA HTK])
    have ht1:tk.length <= 800040001:=by rw [zA HTK,List.length_append,<- zA hn]; simp; omega
    have HTN:=zB (show n + 1 = tk.length by rw [zA HTK,List.length_append,<- zA hn]; simp)
    have hkz:(0:Int) < (k:Int):=by omega
    clear hxt
    go_wp2_with (at_builtin; refine wpList_append_own _ rfl (.tmp 23) (.tmp 24) 22 rfl w4.heap.size 5 i0 _ 1 1 Tryz.underlying22 (zA HI) (zA HZB).1 (zA HZB).2.1 (zA HZB).2.2 rfl (by decide) _ n (cellsB (yTo ws k)) rfl ((zA hown).kept (zCv (zC _ _) none) (Or.inr (by simp [Value.ownBlock]))) ⟨wr.heap.size,0,none⟩ 1 1 (cellsB [32]) rfl rfl (zKQ wr 32) (zDA _) ?b1 ?b2 ?b3 ?next)
    case b1=>unfold maxLen; omega
    case b2=>omega
    case b3=>simp; omega
    case next=>
     intro v5 w5 hown5 hgrow5 hnil5
     have hgo:=(zA hown).lt go rfl
     have hbel5:Below w4.heap.size w4 w5:=((zA HBE).alloc zwr _).grown hgrow5 (by simp; omega) (fun q hq=>by simp [Value.ownBlock] at hq; omega)
     obtain ⟨g5,q5,rfl⟩:=zt hown5 (by simp [hnil5])
     rw [<- zAq,<- zA HTK] at hown5
     have hgr:go < wr.heap.size:=hgo.2
     have y0:w5.cell? ⟨g4,k * 3,none⟩ = some (.string xt):=hgrow5.cell (((zC wr _).cell (p:=⟨g4,k * 3,none⟩) hgw).trans x0) (by simp [Value.ownBlock]; omega)
     obtain ⟨c1,w6,hrun1,hnew1,hb6⟩:=zFD w5 xt
     have HN1:=zB hnew1
     have HO6:=zB (hown5.kept (zCv hb6 none) (Or.inr (by simp [Value.ownBlock])))
     have HB6:=zB (hbel5.trans (hb6.mono hbel5.size))
     have z6:=(zA HB6).size
     clear hnew1 hb6 hown hown5 hgrow5 hnil5 hgo HBE x0
     go_wp2_with (at_builtin; refine wpList_append_own _ rfl (.tmp 26) (.tmp 32) 22 rfl w4.heap.size 5 i0 _ 1 1 Tryz.underlying22 (zA HI) (zA HZB).1 (zA HZB).2.1 (zA HZB).2.2 rfl (by decide) _ (n + 1) (cellsB tk) rfl (zA HO6) ⟨w5.heap.size,0,none⟩ xt.size c1 (cellsB xt.data.toList) rfl (by rw [zBM]; simp) (zA HN1) (zDA _) ?b4 ?b5 ?b6 ?next2)
     case b4=>unfold maxLen; omega
     case b5=>omega
     case b6=>exact z6
     case next2=>
      intro v7 w7 hown7 hgrow7 hnil7
      have hgo7:=(zA HO6).lt g5 rfl
      have hbel7:Below w4.heap.size w4 w7:=(zA HB6).grown hgrow7 z6 (fun q hq=>by simp [Value.ownBlock] at hq; omega)
      obtain ⟨g7,q7,rfl⟩:=zt hown7 (by simp [hnil7])
      rw [<- zAq,<- zA HEQ] at hown7
      have HO7:=zB hown7
      have HL7:=zB (show n + 1 + xt.size = (yTo ws (k + 1)).length by rw [zA HEQ,List.length_append,<- zA HTN]; simp)
      clear hown7 hgrow7 hnil7 HN1 HO6 HB6 hrun1 y0 hgo7
      go_wp2
      exact ⟨⟨k + 1,g7,q7,_,by omega,by go_num,rfl,HL7,HO7,hbel7⟩,by simp [intOf]; omega⟩
  ·have hkx:k = ws.length:=by omega
   have hcv:=zHl wr go n co (yTo ws k) (zA hn) (zH4 (zA hown))
   have HK:=zB hkx
   have hltI:¬ (k:Int) < (ws.length:Int):=by omega
   clear hkx
   go_wp2
   go_ret
   exact ⟨by rw [<- zA HK]; rfl,bel4.trans (hbel.mono bel4.size)⟩
def zJt (a b:zD):Bool:=(a.k == b.k) && (a.t.toList == b.t.toList) && (a.a == b.a) && (a.b == b.b)
theorem zGc (a b:zD):zJt a b = true ↔ a = b:=by
 unfold zJt
 obtain ⟨k,t,x,y⟩:=a
 obtain ⟨k',t',x',y'⟩:=b
 simp only [Bool.and_eq_true,beq_iff_eq]
 constructor
 ·rintro ⟨⟨⟨rfl,h2⟩,rfl⟩,rfl⟩
  rw [zEy h2]
 ·intro h
  injection h with h1 h2 h3 h4
  exact ⟨⟨⟨h1,by rw [h2]⟩,h3⟩,h4⟩
theorem zKR:Tryz.prog.underlying 81 = some (.struct (Tryz.prog.fieldsOf 81)):=by kernel_rfl
theorem zMc:Tryz.prog.stoodInHeld 81 = false:=by kernel_rfl
theorem zLk:Tryz.prog.eqGuardType Tryz.prog.depth 81 = false:=by kernel_rfl
theorem zIK (a b:zD) (w:World) :
  (binOp .neq 81 (.agg #[.int .i64 a.k,.string a.t,.int .i64 a.a,.int .i64 a.b]) (.agg #[.int .i64 b.k,.string b.t,.int .i64 b.a,.int .i64 b.b])).run Tryz.prog w = .ok (.bool (!zJt a b)) w:=by
 rw [run_neq_struct,run_equalIn_agg _ _ _ _ _ zKR zMc]
 unfold Program.fieldsOf zJt
 rw [Tryz.underlying81]
 cases h1:(a.k == b.k) <;> cases h2:(a.t.toList == b.t.toList) <;> cases h3:(a.a == b.a) <;> cases h4:(a.b == b.b) <;> simp [go_sem,h1,h2,h3,h4]
theorem zKS {xs ys:List zD} (hl:xs.length = ys.length) (h:∀ j,j < xs.length -> atN xs j = atN ys j):xs = ys:=
 List.ext_getElem hl fun i h1 h2=>by
  have:=h i h1
  simpa [atN,List.getD_eq_getElem?_getD,h1,h2] using this
theorem zCm (a a':Option Addr) (cap cap':Nat) (xs ys:List zD) (w:World) (hm:xs.length <= 1048576) (hm':ys.length <= 1048576) (h:zIV w a xs) (h':zIV w a' ys) :
  Calls Tryz.prog 16 #[.agg #[.slice a xs.length cap],.agg #[.slice a' ys.length cap']] w fun e w'=>(∃ v,e = .returned (.bool v) /\ (v = true ↔ xs = ys)) /\ Below w.heap.size w w':=by
 obtain ⟨W,hW⟩:∃ W,W = (w.alloc (.cells #[.slice a xs.length cap] 28)).alloc (.cells #[.slice a' ys.length cap'] 28):=⟨_,rfl⟩
 have hb:Below w.heap.size w W:=by rw [hW]; exact (zC _ _).alloc (by simp) _
 have HA:=zB (h.below hb)
 have HA':=zB (h'.below hb)
 have HB:=zB hb
 have HW:=zB hW
 have hzW:W.heap.size = w.heap.size + 2:=by rw [hW]; simp
 have t0:W.cell? ⟨w.heap.size,0,none⟩ = some (.slice a xs.length cap):=by rw [hW]; exact ((zC (w.alloc _) _).cell (p:=⟨w.heap.size,0,none⟩) (by simp)).trans (by simp [go_sem])
 have t1:W.cell? ⟨w.heap.size + 1,0,none⟩ = some (.slice a' ys.length cap'):=by rw [hW]; simp [go_sem]
 clear h h' hb hW
 by_cases hl:xs.length = ys.length
 ·have hlI:((xs.length:Int) != (ys.length:Int)) = false:=by simp [hl]
  have HL:=zB hl
  clear hl
  go_enter Tryz.func16,Tryz.ntmps16
  go_wp2_with fail
  rw [<- zA HW]
  go_loopw [5] (fun i wr=>∃ n:Nat,n <= xs.length /\ i = .int .i64 (n:Int) /\ Hid (∀ j,j < n -> atN xs j = atN ys j) /\ Below W.heap.size W wr) (fun i _=>xs.length - (intOf i).toNat)
  case atStart=>exact ⟨0,Nat.zero_le _,rfl,zB (fun j h=>by omega),Below.refl _ _⟩
  case round=>
   obtain ⟨n,hn,rfl,hno,hbel⟩:=hrel
   have d0:=(hbel.cell (p:=⟨w.heap.size,0,none⟩) (show w.heap.size < _ by omega)).trans t0
   have d1:=(hbel.cell (p:=⟨w.heap.size + 1,0,none⟩) (show w.heap.size + 1 < _ by omega)).trans t1
   by_cases hlt:n < xs.length
   ·have hltI:(n:Int) < (xs.length:Int):=by omega
    have hlt2:n < ys.length:=by rw [<- zA HL]; exact hlt
    have hltJ:(n:Int) < (ys.length:Int):=by omega
    rcases zA HA with h | ⟨b,off,rfl,ho,hB⟩
    ·omega
    rcases zA HA' with h | ⟨b',off',rfl,ho',hB'⟩
    ·omega
    obtain ⟨a0,a1,a2,a3⟩:=(ho n hlt).below hbel hB
    obtain ⟨b0,b1,b2,b3⟩:=(ho' n hlt2).below hbel hB'
    have hq:=fun V=>zIK (atN xs n) (atN ys n) V
    have hg:=zLk
    have HBE:=zB hbel
    clear ho ho' hbel hlI
    go_wp2_with fail
    go_quiet (fail)
    clear hq hg a0 a1 a2 a3 b0 b1 b2 b3
    cases hsm:zJt (atN xs n) (atN ys n)
    ·have HN:=zB (show xs ≠ ys from fun e=>by
      have:=(zGc (atN xs n) (atN ys n)).2 (by rw [e])
      rw [hsm] at this
      cases this)
     clear hsm
     go_wp2_with fail
     go_ret
     exact ⟨⟨false,rfl,fun e=>(by cases e),fun e=>absurd e (zA HN)⟩,(zA HB).trans ((below_drewN (zA HBE) _).mono (zA HB).size)⟩
    ·have HN:=zB (show ∀ j,j < n + 1 -> atN xs j = atN ys j from fun j hj=>by
      by_cases e:j = n
      ·rw [e]; exact (zGc _ _).1 hsm
      ·exact (zA hno) j (by omega))
     clear hsm
     go_wp2_with fail
     exact ⟨⟨n + 1,by omega,by go_num,HN,below_drewN (zA HBE) _⟩,by simp [intOf]; omega⟩
   ·have HE:=zB (show xs = ys from zKS (zA HL) (fun j hj=>(zA hno) j (by omega)))
    have HBE:=zB ((zA HB).trans (hbel.mono (zA HB).size))
    clear hbel hlI
    go_wp2_with fail
    go_ret
    exact ⟨⟨true,rfl,fun _=>zA HE,fun _=>rfl⟩,zA HBE⟩
 ·have hlI:((xs.length:Int) != (ys.length:Int)) = true:=by simp; omega
  have HL:=zB hl
  clear hl
  go_enter Tryz.func16,Tryz.ntmps16
  go_wp2_with fail
  go_ret
  exact ⟨⟨false,rfl,fun e=>(by cases e),fun e=>absurd (by rw [e]) (zA HL)⟩,by rw [<- zA HW]; exact zA HB⟩
theorem zDL (b off cap:Nat) (xs:List zD) (w:World) (hm:xs.length <= 1048576) (hw:Zs w b off xs) (hs:Zj xs) (hB:b < w.heap.size) :
  Calls Tryz.prog 11 #[.agg #[.slice (some ⟨b,off,none⟩) xs.length cap]] w fun e w'=>(∃ (a:Option Addr) (c:Nat) (us:List zD) (v:Bool),e = .returned (.agg #[.slice a us.length c]) /\ Hid (ZK w' w.heap.size a us) /\ Hid (zBA xs us v)) /\ Below w.heap.size w w':=by
 have HB0:=zB (show Below w.heap.size w ((w.alloc (.cells #[.slice (some ⟨b,off,none⟩) xs.length cap] 28)).alloc (.cells #[.slice none 0 0] 28)) from (zC _ _).alloc (by simp) _)
 have HX:=zB (zC2 b off cap xs _ hm (hw.below (zA HB0) hB) hs (Nat.lt_of_lt_of_le hB (zA HB0).size))
 clear hw hs
 go_enter Tryz.func11,Tryz.ntmps11
 go_wp2_with fail
 (with_reducible refine (zA HX).mono ?_)
 rintro e w1 ⟨⟨a,c,us,v,rfl,hO,hE⟩,hb1⟩
 have z1:w.heap.size + 2 <= w1.heap.size:=by have:=hb1.size; simpa using this
 have Q1:w1.cell? ⟨w.heap.size + 1,0,none⟩ = some (.slice none 0 0):=(hb1.cell (p:=⟨w.heap.size + 1,0,none⟩) (by simp)).trans (by simp [go_sem])
 have G1:w1.frozen? ⟨w.heap.size + 1,0,none⟩ = false:=(hb1.frozen (p:=⟨w.heap.size + 1,0,none⟩) (by simp)).trans (by simp [go_sem])
 have l1:w.heap.size + 1 < w1.heap.size:=by omega
 have n1:¬ w.heap.size + 1 = w1.heap.size:=by omega
 have bel:=zB ((zA HB0).trans (hb1.mono (by simp; omega)))
 clear HX
 go_wp2_with fail
 have HOF:=zB (show ZK ((w1.setCell ⟨w.heap.size + 1,0,none⟩ (.slice a us.length c)).alloc (.cells #[.slice a us.length c] 28)) w.heap.size a us from by
  have h1:=((zA hO).grown (zX (Zb [.slice a us.length c] 0 w1 (g:=w.heap.size + 1))) (fun q hq=>by injection hq with hq; subst hq; simp)).step (zC _ (.cells #[.slice a us.length c] 28))
  rcases h1 with h | ⟨g,rfl,hn,hf⟩
  ·exact Or.inl h
  ·exact Or.inr ⟨g,rfl,by simp at hn; omega,hf⟩)
 refine bodyPost_ret (v:=.agg #[.slice a us.length c]) ?res rfl ⟨⟨a,c,us,v,rfl,HOF,hE⟩,((zA bel).setCell (by simp) _).alloc (by simp [World.setCell]; omega) _⟩
 case res=>simp [results,Tryz.results11,go_sem,Q1,l1,n1]
def zIL (us:List zS):List UInt8:=us.flatMap fun t=>t.g.data.toList ++ t.t.data.toList
theorem zEY (us:List zS):∀ k,k <= us.length -> zAa us k = zIL (us.take k)
 | 0,_=>rfl
 | k + 1,h=>by
  have ih:=zEY us k (by omega)
  have e:us.take (k + 1) = us.take k ++ [atT us k]:=by
   rw [List.take_add_one,List.getElem?_eq_getElem (by omega)]
   simp [atT,List.getD,List.getElem?_eq_getElem (show k < us.length by omega)]
  rw [e]
  show zAa us k ++ (atT us k).g.data.toList ++ (atT us k).t.data.toList = _
  rw [ih]
  simp [zIL]
theorem zFj (us:List zS):zAa us us.length = zIL us:=by
 rw [zEY us us.length (Nat.le_refl _),List.take_length]
theorem zFk (s:ByteArray) (i j:Nat):(s.extract i j).data.toList = (s.data.toList.drop i).take (j - i):=by
 simp [ByteArray.data_extract,List.extract_eq_take_drop]
theorem zFl {xs:List OpR} {s:ByteArray}:∀ (us:List zS) (i:Nat),ZP xs s i us -> zIL us = s.data.toList.drop i /\ us.length + i <= s.size + 1
 | [],_,h=>h.elim
 | t :: out,i,h=>by
  have hsl:s.data.toList.length = s.size:=by simp
  rcases h with ⟨rfl,hi,_,rfl⟩ | ⟨j,n,k,hij,hj,_,_,htok,rfl,hout⟩
  ·refine ⟨?_,by simp; omega⟩
   show (s.extract i s.size).data.toList ++ [] ++ [] = _
   rw [zFk,List.append_nil,List.append_nil,List.take_of_length_le (by rw [List.length_drop,hsl]; exact Nat.le_refl _)]
  ·obtain ⟨ih1,ih2⟩:=zFl out (j + n) hout
   have h1:=htok.1
   refine ⟨?_,by simp; omega⟩
   show (s.extract i j).data.toList ++ (s.extract j (j + n)).data.toList ++ zIL out = _
   rw [ih1,zFk,zFk]
   have e1:s.data.toList.drop (j + n) = (s.data.toList.drop j).drop n:=by rw [List.drop_drop]
   have e2:s.data.toList.drop j = (s.data.toList.drop i).drop (j - i):=by rw [List.drop_drop]; congr 1; omega
   rw [List.append_assoc,e1,Nat.add_sub_cancel_left,List.take_append_drop,e2,List.take_append_drop]
theorem zGd {xs:List OpR} {s:ByteArray} {us:List zS} (h:ZP xs s 0 us):(⟨(zAa us us.length).toArray⟩:ByteArray) = s /\ us.length <= s.size + 1 /\ Zn us us.length = s.size:=by
 obtain ⟨h1,h2⟩:=zFl us 0 h
 rw [List.drop_zero] at h1
 have h3:=zDi us us.length
 rw [zFj,h1] at h3
 refine ⟨?_,by omega,by rw [<- h3]; simp⟩
 rw [zFj,h1]
end Go.Proofs.YtfboipappaonhaaGreat
namespace Go.Proofs.YtfboipappaonhaaGreat
set_option linter.unusedSimpArgs false
set_option linter.unusedVariables false
set_option maxHeartbeats 16000000
set_option maxRecDepth 100000
theorem zLl {ns:List OpR} {m:Nat}:∀ (T:ET),zl ns T -> (∀ x ∈ ySy T,x.2.size <= m) -> ∀ (s:Nat),∀ o ∈ nd T s,o.t.size <= m:=by
 intro T
 induction T with
 | nil=>intro h; exact h.elim
 | node b o t l r ihl ihr=>
  rintro ⟨rfl,h⟩ hy s q hq
  rcases h with ⟨h12,rfl,rfl⟩ | ⟨rfl,rfl,hl,rfl⟩ | ⟨h35,hk,hl,rfl,hh⟩ | ⟨rfl,hk,hl,hr,h1,h2⟩
  ·rw [zCf h12] at hy
   simp only [nd,List.nil_append,List.mem_singleton] at hq
   subst hq
   exact hy (b,t) (by simp)
  ·rw [zDh] at hy
   simp only [nd,List.append_nil,List.mem_append,List.mem_singleton] at hq
   rcases hq with hq | rfl
   ·exact ihl hl (fun x hx=>hy x (by simp [hx])) s q hq
   ·exact Nat.zero_le _
  ·have hyl:∀ x ∈ ySy l,x.2.size <= m:=by
    rcases h35 with rfl | rfl
    ·rw [zCt] at hy; exact fun x hx=>hy x (by simp [hx])
    ·rw [zCg] at hy; exact fun x hx=>hy x (by simp [hx])
   have hyt:t.size <= m:=by
    rcases h35 with rfl | rfl
    ·rw [zCt] at hy; exact hy (3,t) (by simp)
    ·rw [zCg] at hy; exact hy (5,t) (by simp)
   simp only [nd,List.append_nil,List.mem_append,List.mem_singleton] at hq
   rcases hq with hq | rfl
   ·exact ihl hl hyl s q hq
   ·exact hyt
  ·rw [zEr] at hy
   simp only [nd,List.mem_append,List.mem_singleton] at hq
   rcases hq with (hq | hq) | rfl
   ·exact ihl hl (fun x hx=>hy x (by simp [hx])) s q hq
   ·exact ihr hr (fun x hx=>hy x (by simp [hx])) _ q hq
   ·exact hy (4,t) (by simp)
theorem zLm {ns:List OpR} {ts:List zS} {i m:Nat} (h:(atT ts i).t.size <= m) (h1:1 <= m):(sgT ns ts i).2.size <= m:=by
 unfold sgT
 split
 ·exact h
 ·split
  ·exact h1
  ·split
   ·exact h1
   ·split
    ·exact Nat.zero_le _
    ·exact h
theorem zI4 {ns:List OpR} {s:ByteArray} {us:List zD} {p:Int} (h:zCw ns s us 0 p):1 <= us.length /\ us.length <= 20001 /\ Zj us:=by
 rcases h with ⟨_,_,h,_⟩ | ⟨hv,⟨_,_,h,_⟩ | ⟨h20,ts,hx,⟨i,_,_,_,_,h,_⟩ | ⟨hno,⟨i,_,_,_,_,h,_⟩ | ⟨hf,h⟩⟩⟩⟩
 ·omega
 ·omega
 ·omega
 ·omega
 ·rcases h with ⟨_,_,h,_⟩ | ⟨T,r,hr,⟨_,_,h,_⟩ | ⟨_,rfl,_,_⟩⟩
  ·omega
  ·omega
  ·have hl:=zBZ ts 0 hx
   have hfe:=zJi hf hl 0 hl.1
   rw [Nat.sub_zero] at hfe
   have h1:=Zg hv _ _ none _ 0 _ (by omega) hfe (fun L e=>by cases e) hr
   have e0:=h1.2.2.2.2
   simp only [yM,List.nil_append] at e0
   have e:=congrArg List.length e0
   simp only [List.length_append] at e
   rw [zBH] at e
   have:=zIl T h1.2.1
   have hlt:=(zGd hx).2.1
   rw [zj]
   refine ⟨Sh.pos h1.2.1.sh,by omega,fun i hi=>?_⟩
   have hm:∀ o ∈ nd T 0,o.t.size <= 20000:=by
    refine zLl T h1.2.1 (fun x hx2=>?_) 0
    have hmem:x ∈ sgs ns ts 0 ts.length:=by rw [e0]; exact List.mem_append_left _ hx2
    unfold sgs at hmem
    obtain ⟨i,hi,rfl⟩:=List.mem_map.1 hmem
    rw [List.mem_range'_1] at hi
    refine zLm ?_ (by omega)
    have:=(zCU ts 0 hx i (by omega)).2
    omega
   have:=hm (atN (nd T 0) i) (by
    unfold atN
    rw [List.getD_eq_getElem?_getD,List.getElem?_eq_getElem (by omega)]
    exact List.getElem_mem _)
   unfold maxLen
   omega
end Go.Proofs.YtfboipappaonhaaGreat
