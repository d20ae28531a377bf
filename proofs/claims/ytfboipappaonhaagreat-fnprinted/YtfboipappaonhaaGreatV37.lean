import Derived.Deep.DeepCutAuto
import Derived.OwnWalk
import Derived.Laws.OwnMore
import Derived.Maps.AppendAt
import Derived.Test.YtfboipappaonhaaGreatV00
import Derived.Test.YtfboipappaonhaaGreatV09
import Derived.Test.YtfboipappaonhaaGreatV17
import Derived.Test.YtfboipappaonhaaGreatV23
import Derived.Test.YtfboipappaonhaaGreatV27
import Derived.Test.YtfboipappaonhaaGreatV36
namespace Go.Proofs.YtfboipappaonhaaGreat
set_option linter.unusedSimpArgs false
set_option linter.unusedVariables false
set_option maxHeartbeats 16000000
set_option maxRecDepth 100000
open Go.RowKit
open Go.Deep (BT)
theorem zFt (T:ET):(yT T).length = (ySy T).length:=by simp [yT]
theorem zIS (bz offz cz:Nat) (ns:List OpR) (zs:List zD) (B:Nat) (hbz:bz < B) (hzl:zs.length <= 20000):∀ (T:ET),zAN ns T -> ∀ (s:Nat) (us vs:List ze),zBc zs T s -> s + tsz T <= zs.length -> us.length + (ySy T).length <= 90000 -> vs = us ++ yT T -> zKR bz offz cz zs B (s + tsz T - 1) us vs:=by
 intro T
 induction T with
 | nil=>intro h; exact h.elim
 | node b o t l r ihl ihr=>
  rintro ⟨rfl,h⟩ s us vs ⟨h1,h2,h3⟩ hz hlen hvs
  simp only [tsz] at hz
  have e:s + tsz (.node b 0 t l r) - 1 = s + tsz l + tsz r:=by simp only [tsz]; omega
  rw [e]
  intro u W hW hB hrow
  have hcell:∀ ja jb:Nat,(if zM (b:Int) = 0 then (0:Int) else ((s + tsz l:Nat):Int) - 1) = (ja:Int) -> (if zM (b:Int) = 2 then ((s + tsz l + tsz r:Nat):Int) - 1 else 0) = (jb:Int) -> atN zs (s + tsz l + tsz r) = ⟨(b:Int),t,(ja:Int),(jb:Int)⟩:=fun ja jb ha hb=>by
   rw [h3,tN,ha,hb]
  rcases h with ⟨h12,rfl,rfl⟩ | ⟨rfl,rfl,hl,rfl⟩ | ⟨h35,hk,hl,rfl⟩ | ⟨rfl,hk,hl,hr⟩
  ·have hk0:zM (b:Int) = 0:=by rcases h12 with h | h <;> subst h <;> decide
   refine zFs bz offz cz _ zs (b:Int) t 0 0 B u us vs W hW hbz hB hrow (by simp only [tsz] at hz ⊢; omega) hzl (hcell 0 0 (by rw [if_pos hk0]; rfl) (by rw [if_neg (by omega)]; rfl)) (by omega) (Or.inl ⟨hk0,?_⟩)
   rw [hvs]
   have:yT (.node b 0 t .nil .nil) = [⟨t,false,false⟩]:=by
    simp only [yT,ySy]
    rw [if_neg (by omega),if_neg (by omega),if_neg (by omega),if_neg (by omega)]
    simp [wS]
    omega
   rw [this]
  ·have hp:=hl.sh.pos
   have hy:yT (.node 6 0 ByteArray.empty l .nil) = ⟨opn,false,false⟩ :: (yT l ++ [⟨zA5,false,false⟩]):=by simp [yT,ySy,wS]
   have hy2:(ySy (.node 6 0 ByteArray.empty l .nil)).length = (ySy l).length + 2:=by simp [ySy]
   rw [hy2] at hlen
   refine zFs bz offz cz _ zs 6 ByteArray.empty (s + tsz l - 1) 0 B u us vs W hW hbz hB hrow (by simp only [tsz] at hz ⊢; omega) hzl (hcell _ 0 (by rw [if_neg (by decide)]; omega) (by rw [if_neg (by decide)]; rfl)) (by omega) (Or.inr (Or.inr (Or.inl ⟨rfl,us ++ [⟨opn,false,false⟩],us ++ [⟨opn,false,false⟩] ++ yT l,rfl,ihl hl s _ _ h1 (by omega) (by simp; omega) rfl,?_,?_⟩)))
   ·rw [hvs,hy]; simp
   ·simp [zFt]; omega
  ·have hp:=hl.sh.pos
   rcases h35 with rfl | rfl
   ·have hy:yT (.node 3 0 t l .nil) = ⟨t,true,false⟩ :: yT l:=by simp [yT,ySy,wS]
    have hy2:(ySy (.node 3 0 t l .nil)).length = (ySy l).length + 1:=by simp [ySy]
    rw [hy2] at hlen
    refine zFs bz offz cz _ zs 3 t (s + tsz l - 1) 0 B u us vs W hW hbz hB hrow (by simp only [tsz] at hz ⊢; omega) hzl (hcell _ 0 (by rw [if_neg (by decide)]; omega) (by rw [if_neg (by decide)]; rfl)) (by omega) (Or.inr (Or.inl ⟨rfl,us ++ [⟨t,true,false⟩],rfl,ihl hl s _ _ h1 (by omega) (by simp; omega) ?_⟩))
    rw [hvs,hy]; simp
   ·have hy:yT (.node 5 0 t l .nil) = yT l ++ [⟨t,true,false⟩]:=by simp [yT,ySy,wS]
    have hy2:(ySy (.node 5 0 t l .nil)).length = (ySy l).length + 1:=by simp [ySy]
    rw [hy2] at hlen
    refine zFs bz offz cz _ zs 5 t (s + tsz l - 1) 0 B u us vs W hW hbz hB hrow (by simp only [tsz] at hz ⊢; omega) hzl (hcell _ 0 (by rw [if_neg (by decide)]; omega) (by rw [if_neg (by decide)]; rfl)) (by omega) (Or.inr (Or.inr (Or.inr (Or.inl ⟨rfl,us ++ yT l,ihl hl s _ _ h1 (by omega) (by omega) rfl,?_,?_⟩))))
    ·rw [hvs,hy]; simp
    ·simp [zFt]; omega
  ·have hp:=hl.sh.pos
   have hq:=hr.sh.pos
   have hy:yT (.node 4 0 t l r) = yT l ++ (⟨t,true,true⟩ :: yT r):=by simp [yT,ySy,wS]
   have hy2:(ySy (.node 4 0 t l r)).length = (ySy l).length + (ySy r).length + 1:=by simp [ySy]; omega
   rw [hy2] at hlen
   refine zFs bz offz cz _ zs 4 t (s + tsz l - 1) (s + tsz l + tsz r - 1) B u us vs W hW hbz hB hrow (by omega) hzl (hcell _ _ (by rw [if_neg (by decide)]; omega) (by rw [if_pos (by decide)]; omega)) (by omega) (Or.inr (Or.inr (Or.inr (Or.inr ⟨rfl,us ++ yT l,us ++ yT l ++ [⟨t,true,true⟩],ihl hl s _ _ h1 (by omega) (by omega) rfl,rfl,ihr hr (s + tsz l) _ _ h2 (by omega) (by simp [zFt]; omega) ?_,?_⟩))))
   ·rw [hvs,hy]; simp
   ·simp [zFt]; omega
end Go.Proofs.YtfboipappaonhaaGreat
namespace Go.Proofs.YtfboipappaonhaaGreat
set_option linter.unusedSimpArgs false
set_option linter.unusedVariables false
set_option maxHeartbeats 16000000
set_option maxRecDepth 100000
open Go.RowKit
theorem zKS (w:World) (c:UInt8):∀ j u,(cellsB [c])[j]? = some u -> (w.alloc (.cells #[.int .u8 (c.toNat:Int)] 5)).cell? ((⟨w.heap.size,0,none⟩:Addr).add j) = some u:=by
 intro j u hj
 rw [Addr.add_mid]
 have:=World.rangeAt_of_block (w:=w.alloc (.cells #[.int .u8 (c.toNat:Int)] 5)) (b:=w.heap.size) (heap_alloc_new w _) 0 1
 exact this j u (by simpa [cellsB] using hj)
def zMx (ws:List ze) (k:Nat):Bool:=decide (k ≠ 0) && zCt (atW ws (k - 1)) (atW ws k)
theorem zL4 (ws:List ze) (k:Nat):zAR ws (k + 1) = (zAR ws k ++ (if zMx ws k then [32] else [])) ++ (atW ws k).t.data.toList:=by
 simp only [zAR,zMx,ne_eq,Bool.and_eq_true,decide_eq_true_eq,decide_not,Bool.not_eq_true',decide_eq_false_iff_not,List.append_assoc]
theorem zGA (b off cap bn offn cn:Nat) (ns:List OpR) (xs:List zD) (w:World) (hm:ns.length <= 1048576) (hmn:xs.length <= 1048576) (hw:Ops w b off ns) (hsz:Ze ns) (hB:b < w.heap.size) (hwn:Zc w bn offn xs) (hsn:ZX xs) (hBn:bn < w.heap.size) :
  Calls Tryz.prog 9 #[.agg #[.slice (some ⟨b,off,none⟩) ns.length cap],.agg #[.slice (some ⟨bn,offn,none⟩) xs.length cn]] w fun e w'=>(∃ (s:ByteArray) (v:Bool),e = .returned (.tuple #[.string s,.bool v]) /\ Hid (zCo ns xs s v)) /\ Below w.heap.size w w':=by
 obtain ⟨i0,hi,hz0,hz1,hz2⟩:=info_parts infoByte
 have HI:=zB hi
 have HZB:=zB (And.intro hz0 (And.intro hz1 hz2))
 clear hi hz0 hz1 hz2
 have HW:=zB hw
 have HWN:=zB hwn
 have HZ:=zB hsz
 have HZN:=zB hsn
 have HB0:=zB (show ∀ o1 o2:Obj,Below w.heap.size w ((w.alloc o1).alloc o2) from fun o1 o2=>(zC w o1).alloc (by simp) o2)
 clear hw hwn hsz hsn
 go_enter Tryz.func9,Tryz.ntmps9
 go_wp2_with fail
 refine (zBb b off cap bn offn cn ns xs _ hm hmn ((zA HW).below ((zA HB0) _ _) hB) (zA HZ) (by simp; omega) ((zA HWN).below ((zA HB0) _ _) hBn) (zA HZN) (by simp; omega)).mono ?_
 rintro e w1 ⟨⟨a,c,us,v,rfl,hown,hgi⟩,hb1⟩
 have bel1:Below w.heap.size w w1:=((zA HB0) _ _).trans (hb1.mono (by simp; omega))
 clear hb1 HB0 HW HWN
 rcases zA hgi with ⟨hy,rfl,hus⟩ | ⟨hn,rfl,rfl⟩
 case inr=>
  have HN:=zB hn
  clear hn hgi hown
  go_wp2_with fail
  go_ret2
  exact ⟨⟨_,_,rfl,zB (Or.inr ⟨zA HN,rfl,rfl⟩)⟩,bel1.alloc bel1.size _⟩
 case inl=>
  obtain ⟨G,hG,hgood,htx,hz20,hgs,hfs⟩:=zDC hy
  have hus2:us = nd G 0:=hus.trans hgs
  have hul:us.length = tsz G:=by rw [hus2,zg]
  have hgp:=hgood.sh.pos
  obtain ⟨g2,rfl,hg2,hfil⟩:∃ g,a = some ⟨g,0,none⟩ /\ w.heap.size + 2 <= g /\ zO w1 g us us.length:=by
   rcases zA hown with ⟨h,_⟩ | ⟨g,h1,h2,h3⟩
   ·omega
   ·exact ⟨g,h1,by simpa using h2,h3⟩
  have hgl:=hfil.1
  have hul1:1 <= us.length:=by omega
  have hul2:us.length <= 20000:=by omega
  have ei:(us.length:Int) - 1 = ((us.length - 1:Nat):Int):=by omega
  obtain ⟨W3,HW3⟩:∃ W3,Hid (W3 = (w1.alloc (.cells #[.slice (some ⟨g2,0,none⟩) us.length c] 28)).alloc (.cells #[] 54)):=⟨_,zB rfl⟩
  have hb3:Below w1.heap.size w1 W3:=by rw [zA HW3]; exact (zC _ _).alloc (by simp) _
  have s3:W3.heap.size = w1.heap.size + 2:=by rw [zA HW3]; simp
  have bel3:=bel1.trans (hb3.mono bel1.size)
  have HR3:=zB (show zAP W3 (w1.heap.size + 1) (.slice (some ⟨w1.heap.size + 1,0,none⟩) 0 0) [] by
   rw [zA HW3]
   have:=World.ownsRow_lit (base:=w1.heap.size + 1) (e:=54) (size:=3) (w1.alloc (.cells #[.slice (some ⟨g2,0,none⟩) us.length c] 28)) #[] 0 (by simp) (Nat.zero_le _) rfl
   simpa [zAP,zi] using this)
  have hyl:=zFd G
  have hrec:=zIS g2 0 c ns us (w1.heap.size + 1) (by omega) hul2 G hgood.well 0 [] (yT G) (by rw [hus2]; exact Zy G) (by omega) (by simp; omega) (by simp)
  rw [Nat.zero_add,<- hul] at hrec
  have HCALL:=zB (hrec (.slice (some ⟨w1.heap.size + 1,0,none⟩) 0 0) W3 (hfil.ops.below hb3 hgl) (by omega) (zA HR3))
  rw [zA HW3] at HCALL
  obtain ⟨ws,HWS⟩:∃ ws,Hid (ws = yT G):=⟨_,zB rfl⟩
  rw [<- zA HWS] at HCALL
  have hwl:ws.length <= 40000:=by rw [zA HWS,zFt]; omega
  have hwp:1 <= ws.length:=by rw [zA HWS]; exact zK9 hgood.sh
  have HTX:=zB (show (⟨(txT (grT ns (zCd xs) 0)).toArray⟩:ByteArray) = ⟨(zAR ws ws.length).toArray⟩ by rw [<- hG,zA HWS]; rfl)
  have HTL:=zB (show ∀ k,k <= ws.length -> (zAR ws k).length <= 20001 * k from zFe ws (fun x hx=>by
   rw [zA HWS] at hx
   simp only [yT,List.mem_map] at hx
   obtain ⟨q,hq,rfl⟩:=hx
   exact zEL G htx q hq))
  have HTS:=zB (show ∀ k,k < ws.length -> (atW ws k).t.size <= 20000 from fun k hk=>by
   have hx:atW ws k ∈ ws:=by simp [atW,List.getD,hk]
   rw [zA HWS] at hx
   simp only [yT,List.mem_map] at hx
   obtain ⟨q,hq,e⟩:=hx
   have e':wS q = atW ws k:=by rw [zA HWS]; exact e
   rw [<- e']
   exact zEL G htx q hq)
  have HY:=zB hy
  clear hy hgi hown hG hgood htx hz20 hgs hfs hus hus2 hul hgp hfil hyl hrec HR3
  go_wp2_with fail
  refine (zA HCALL).mono ?_
  rw [<- zA HW3]
  rintro x w4 ⟨u',rfl,hr,hg,ho⟩
  obtain ⟨g4,c4,rfl⟩:∃ g k,u' = .slice (some ⟨g,0,none⟩) ws.length k:=by
   obtain ⟨_,⟨rfl,h0⟩ | ⟨g,cap,cur,h,_⟩⟩:=zA hr
   ·omega
   ·exact ⟨_,_,h⟩
  have HOW:=zB (zA hr).ops
  have hg4:=((zA hr).lt g4 rfl).2
  have bel4:Below w.heap.size w w4:=bel3.trans ⟨(zA hg).os,(zA hg).tape,(zA hg).output,(zA hg).size,fun i hi=>(zA hg).block i (by have:=bel3.size; omega) (by simp [Value.ownBlock]; have:=bel1.size; omega)⟩
  clear hr hg ho HCALL HW3 bel3 hb3 s3
  have HO:=zB (show (w4.alloc (.cells #[] 5)).ownsRow w4.heap.size 5 1 (.slice (some ⟨w4.heap.size,0,none⟩) 0 0) 0 (cellsB (zAR ws 0)) by
   show (w4.alloc (.cells #[] 5)).ownsRow w4.heap.size 5 1 (.slice (some ⟨w4.heap.size,0,none⟩) 0 0) 0 []
   simpa using World.ownsRow_lit (base:=w4.heap.size) (e:=5) (size:=1) w4 #[] 0 (Nat.le_refl _) (Nat.zero_le _) rfl)
  go_wp2
  go_loopw [9,10] (fun out i wr=>∃ (k go co n:Nat),k <= ws.length /\ i = .int .i64 (k:Int) /\ out = .slice (some ⟨go,0,none⟩) n co /\ Hid (n = (zAR ws k).length) /\ Hid (wr.ownsRow w4.heap.size 5 1 (.slice (some ⟨go,0,none⟩) n co) n (cellsB (zAR ws k))) /\ Below w4.heap.size w4 wr) (fun _ i _=>ws.length - (intOf i).toNat)
  case atStart=>exact ⟨0,w4.heap.size,0,0,Nat.zero_le _,rfl,rfl,zB rfl,HO,zC _ _⟩
  case round=>
   clear HO
   obtain ⟨k,go,co,n,hk,rfl,rfl,hn,hown,hbel⟩:=hrel
   by_cases hlt:k < ws.length
   ·obtain ⟨x0,x1,x2⟩:=((zA HOW).below hbel hg4) k hlt
    have hkI:(k:Int) < (ws.length:Int):=by omega
    obtain ⟨xt,hxt⟩:∃ xt,xt = (atW ws k).t:=⟨_,rfl⟩
    obtain ⟨xo,hxo⟩:∃ xo,xo = (atW ws k).o:=⟨_,rfl⟩
    obtain ⟨xi,hxi⟩:∃ xi,xi = (atW ws k).i:=⟨_,rfl⟩
    obtain ⟨yo,hyo⟩:∃ yo,yo = (atW ws (k - 1)).o:=⟨_,rfl⟩
    obtain ⟨yi,hyi⟩:∃ yi,yi = (atW ws (k - 1)).i:=⟨_,rfl⟩
    obtain ⟨gp,HGP⟩:∃ gp,Hid (gp = zMx ws k):=⟨_,zB rfl⟩
    have HGQ:=zB (show gp = (decide (k ≠ 0) && (xi || yi || (xo && yo))) by rw [zA HGP,zMx,zCt,hxo,hxi,hyo,hyi])
    rw [<- hxt] at x0
    rw [<- hxo] at x1
    rw [<- hxi] at x2
    have HPV:=zB (show k ≠ 0 -> wr.cell? ⟨g4,(k - 1) * 3 + 1,none⟩ = some (.bool yo) /\ wr.cell? ⟨g4,(k - 1) * 3 + 2,none⟩ = some (.bool yi) from fun h=>by
     obtain ⟨_,y1,y2⟩:=((zA HOW).below hbel hg4) (k - 1) (by omega)
     rw [hyo,hyi]
     exact ⟨y1,y2⟩)
    have hts:xt.size <= 20000:=by rw [hxt]; exact (zA HTS) k hlt
    have HXT:=zB hxt
    have htl:=(zA HTL) k (by omega)
    rw [<- zA hn] at htl
    have hnb:n <= 800040000:=by omega
    have hgw:g4 < wr.heap.size:=Nat.lt_of_lt_of_le hg4 hbel.size
    clear hxt hxo hxi hyo hyi htl
    go_upto_region 10 with fail
    go_cut [64] (fun s64 wx=>s64 = .bool gp /\ wx = wr.alloc (.cells #[.string xt,.bool xo,.bool xi] 54))
    case first=>
     clear hown x0 x1 x2
     have fin:∀ g:Bool,g = gp -> Value.bool g = .bool gp:=fun g h=>by rw [h]
     have HF:=zB fin
     clear fin
     by_cases hk0:k = 0
     ·have HE:=zB (show false = gp by rw [zA HGQ]; simp [hk0])
      have hkz:¬ (0:Int) < (k:Int):=by omega
      clear HPV HGQ HGP hk0
      go_wp2
      go_meet
      exact ⟨(zA HF) _ (zA HE),rfl⟩
     ·obtain ⟨y1,y2⟩:=(zA HPV) hk0
      have HE:=zB (show (xi || yi || (xo && yo)) = gp by rw [zA HGQ]; simp [hk0])
      have hkz:(0:Int) < (k:Int):=by omega
      have hk1:(k:Int) - 1 = ((k - 1:Nat):Int):=by omega
      have hk2:((k - 1:Nat):Int) < (ws.length:Int):=by omega
      have y1':=((zC wr (.cells #[.string xt,.bool xo,.bool xi] 54)).cell (p:=⟨g4,(k - 1) * 3 + 1,none⟩) hgw).trans y1
      have y2':=((zC wr (.cells #[.string xt,.bool xo,.bool xi] 54)).cell (p:=⟨g4,(k - 1) * 3 + 2,none⟩) hgw).trans y2
      clear HPV HGQ HGP hk0
      cases xi
      ·cases yi
       ·cases xo
        ·go_wp2
         go_meet
         exact ⟨(zA HF) _ (by rw [<- zA HE]; rfl),rfl⟩
        ·go_wp2
         go_meet
         exact ⟨(zA HF) _ (by rw [<- zA HE]; rfl),rfl⟩
       ·go_wp2
        go_meet
        exact ⟨(zA HF) _ (by rw [<- zA HE]; rfl),rfl⟩
      ·go_wp2
       go_meet
       exact ⟨(zA HF) _ (by rw [<- zA HE]; rfl),rfl⟩
    case rest=>
     obtain ⟨rfl,rfl⟩:=hcut
     have HB1:=zB (hbel.alloc hbel.size (.cells #[.string xt,.bool xo,.bool xi] 54))
     have HO1:=zB ((zA hown).kept (zBq (zC wr (.cells #[.string xt,.bool xo,.bool xi] 54)) none) (Or.inr (by simp [Value.ownBlock])))
     have HTX1:=zB (zL4 ws k)
     have hgo0:go < wr.heap.size:=((zA hown).lt go rfl).2
     clear hown HPV x0 x1 x2 HGQ
     cases gp
     ·have HEQ:=zB (show zAR ws (k + 1) = zAR ws k ++ xt.data.toList by rw [zA HTX1,<- zA HGP,<- zA HXT]; simp)
      obtain ⟨c1,w6,hrun1,hnew1,hb6⟩:=zFJ (wr.alloc (.cells #[.string xt,.bool xo,.bool xi] 54)) xt
      have HN1:=zB hnew1
      have HO6:=zB ((zA HO1).kept (zBq hb6 none) (Or.inr (by simp [Value.ownBlock])))
      have HB6:=zB ((zA HB1).trans (hb6.mono (zA HB1).size))
      have z6:=(zA HB6).size
      clear hnew1 hb6 HO1 HB1
      go_wp2_with (at_builtin; refine wpList_append_own _ rfl (.tmp 68) (.tmp 71) 22 rfl w4.heap.size 5 i0 _ 1 1 Tryz.underlying22 (zA HI) (zA HZB).1 (zA HZB).2.1 (zA HZB).2.2 rfl (by decide) _ n (cellsB (zAR ws k)) rfl (zA HO6) ⟨wr.heap.size + 1,0,none⟩ xt.size c1 (cellsB xt.data.toList) rfl (by rw [zA1]; simp) (by simpa using zA HN1) (zC3 _) ?b1 ?b2 ?b3 ?next)
      case b1=>unfold maxLen; omega
      case b2=>omega
      case b3=>exact z6
      case next=>
       intro v7 w7 hown7 hgrow7 hnil7
       have hgo:=(zA HO6).lt go rfl
       have hbel7:Below w4.heap.size w4 w7:=(zA HB6).grown hgrow7 z6 (fun q hq=>by simp [Value.ownBlock] at hq; omega)
       obtain ⟨g7,q7,rfl⟩:=zAF hown7 (by simp [hnil7])
       rw [<- zAX,<- zA HEQ] at hown7
       have HO7:=zB hown7
       have HL7:=zB (show n + xt.size = (zAR ws (k + 1)).length by rw [zA HEQ,List.length_append,<- zA hn]; simp)
       clear hown7 hgrow7 hnil7 HN1 HO6 HB6 hrun1
       go_wp2
       exact ⟨⟨k + 1,g7,q7,_,by omega,by go_num,rfl,HL7,HO7,hbel7⟩,by simp [intOf]; omega⟩
     ·obtain ⟨tk,HTK⟩:∃ tk,Hid (tk = zAR ws k ++ [32]):=⟨_,zB rfl⟩
      have HEQ:=zB (show zAR ws (k + 1) = tk ++ xt.data.toList by rw [zA HTX1,<- zA HGP,<- zA HXT,zA HTK]; simp)
      have ht1:tk.length <= 800040001:=by rw [zA HTK,List.length_append,<- zA hn]; simp; omega
      have HTN:=zB (show n + 1 = tk.length by rw [zA HTK,List.length_append,<- zA hn]; simp)
      go_wp2_with (at_builtin; refine wpList_append_own _ rfl (.tmp 65) (.tmp 66) 22 rfl w4.heap.size 5 i0 _ 1 1 Tryz.underlying22 (zA HI) (zA HZB).1 (zA HZB).2.1 (zA HZB).2.2 rfl (by decide) _ n (cellsB (zAR ws k)) rfl ((zA HO1).kept (zBq (zC _ _) none) (Or.inr (by simp [Value.ownBlock]))) ⟨wr.heap.size + 1,0,none⟩ 1 1 (cellsB [32]) rfl rfl (by simpa using zKS (wr.alloc (.cells #[.string xt,.bool xo,.bool xi] 54)) 32) (zC3 _) ?b1 ?b2 ?b3 ?next)
      case b1=>unfold maxLen; omega
      case b2=>omega
      case b3=>have:=(zA HB1).size; simp at this ⊢; omega
      case next=>
       intro v5 w5 hown5 hgrow5 hnil5
       have hgo:=(zA HO1).lt go rfl
       have hbel5:Below w4.heap.size w4 w5:=((zA HB1).alloc (zA HB1).size _).grown hgrow5 (by have:=(zA HB1).size; simp at this ⊢; omega) (fun q hq=>by simp [Value.ownBlock] at hq; omega)
       obtain ⟨g5,q5,rfl⟩:=zAF hown5 (by simp [hnil5])
       rw [<- zAX,<- zA HTK] at hown5
       have hgr:go < wr.heap.size + 1:=by have:=hgo.2; simpa using this
       have y0:w5.cell? ⟨wr.heap.size,0,none⟩ = some (.string xt):=hgrow5.cell (by simp [go_sem]) (by simp [Value.ownBlock]; omega)
       obtain ⟨c1,w6,hrun1,hnew1,hb6⟩:=zFJ w5 xt
       have HN1:=zB hnew1
       have HO6:=zB (hown5.kept (zBq hb6 none) (Or.inr (by simp [Value.ownBlock])))
       have HB6:=zB (hbel5.trans (hb6.mono hbel5.size))
       have z6:=(zA HB6).size
       clear hnew1 hb6 HO1 HB1 hown5 hgrow5 hnil5 hgo
       go_wp2_with (at_builtin; refine wpList_append_own _ rfl (.tmp 68) (.tmp 71) 22 rfl w4.heap.size 5 i0 _ 1 1 Tryz.underlying22 (zA HI) (zA HZB).1 (zA HZB).2.1 (zA HZB).2.2 rfl (by decide) _ (n + 1) (cellsB tk) rfl (zA HO6) ⟨w5.heap.size,0,none⟩ xt.size c1 (cellsB xt.data.toList) rfl (by rw [zA1]; simp) (zA HN1) (zC3 _) ?b4 ?b5 ?b6 ?next2)
       case b4=>unfold maxLen; omega
       case b5=>omega
       case b6=>exact z6
       case next2=>
        intro v7 w7 hown7 hgrow7 hnil7
        have hgo7:=(zA HO6).lt g5 rfl
        have hbel7:Below w4.heap.size w4 w7:=(zA HB6).grown hgrow7 z6 (fun q hq=>by simp [Value.ownBlock] at hq; omega)
        obtain ⟨g7,q7,rfl⟩:=zAF hown7 (by simp [hnil7])
        rw [<- zAX,<- zA HEQ] at hown7
        have HO7:=zB hown7
        have HL7:=zB (show n + 1 + xt.size = (zAR ws (k + 1)).length by rw [zA HEQ,List.length_append,<- zA HTN]; simp)
        clear hown7 hgrow7 hnil7 HN1 HO6 HB6 hrun1 y0 hgo7
        go_wp2
        exact ⟨⟨k + 1,g7,q7,_,by omega,by go_num,rfl,HL7,HO7,hbel7⟩,by simp [intOf]; omega⟩
   ·have hkx:k = ws.length:=by omega
    have hcv:=zHu wr go n co (zAR ws k) (zA hn) (zIA (zA hown))
    have HK:=zB hkx
    clear hkx
    go_wp2
    go_ret2
    exact ⟨⟨_,_,rfl,zB (Or.inl ⟨zA HY,rfl,by rw [zA HTX,zA HK]⟩)⟩,bel4.trans (hbel.mono bel4.size)⟩
def Z2 (l:List ByteArray):List Value:=l.map fun s=>.string s
theorem zBe (l l':List ByteArray):Z2 (l ++ l') = Z2 l ++ Z2 l':=by simp [Z2]
theorem zCe (l:List ByteArray):∀ u ∈ Z2 l,u.oneCell' = true:=by
 intro u hu
 simp only [Z2,List.mem_map] at hu
 obtain ⟨b,_,rfl⟩:=hu
 rfl
theorem zMy:(Tryz.prog.info? 9).map (fun i=>(i.zero,i.size,i.bytes)) = some (some (.string ⟨#[]⟩),1,16):=by kernel_rfl
theorem zEN (w:World) (t:ByteArray):∀ j u,(Z2 [t])[j]? = some u -> (w.alloc (.cells #[.string t] 9)).cell? ((⟨w.heap.size,0,none⟩:Addr).add j) = some u:=by
 intro j u hj
 rw [Addr.add_mid]
 have:=World.rangeAt_of_block (w:=w.alloc (.cells #[.string t] 9)) (b:=w.heap.size) (heap_alloc_new w _) 0 1
 exact this j u (by simpa [Z2] using hj)
def zCK (w:World) (B:Nat) (v:Value) (ps:List ByteArray):Prop:=w.ownsRow B 9 1 v ps.length (Z2 ps)
theorem zCL {w:World} {B n:Nat} {e:TypeId} {size:Nat} {u:Value} {xs:List Value} (h:w.ownsRow B e size u n xs):∃ a c,u = .slice a n c:=by
 obtain ⟨_,⟨rfl,rfl⟩ | ⟨g,cap,cur,rfl,_⟩⟩:=h
 ·exact ⟨none,0,rfl⟩
 ·exact ⟨_,_,rfl⟩
theorem zCK.grown {w w':World} {B:Nat} {u:Value} {us:List ByteArray} {row:Option Nat} (h:zCK w B u us) (hg:w.grownBy w' row) (hne:∀ k,u.ownBlock = some k -> row ≠ some k):zCK w' B u us:=
 World.ownsRow.kept h hg (by
  cases e:u.ownBlock with
  | none=>exact Or.inl rfl
  | some k=>exact Or.inr (fun x=>hne k e x.symm))
theorem zCK.below {w w':World} {B:Nat} {u:Value} {us:List ByteArray} (h:zCK w B u us) (hb:Below w.heap.size w w'):zCK w' B u us:=
 h.grown (row:=none) ⟨hb.os,hb.tape,hb.output,hb.size,fun i hi _=>hb.block i hi⟩ (fun k _ e=>by cases e)
theorem zCK.lt {w:World} {B:Nat} {u:Value} {us:List ByteArray} (h:zCK w B u us):∀ g,u.ownBlock = some g -> B <= g /\ g < w.heap.size:=fun g hg=>World.ownsRow.lt h g hg
theorem zCK.cells {w:World} {B g n c:Nat} {us:List ByteArray} (h:zCK w B (.slice (some ⟨g,0,none⟩) n c) us):∀ (j:Nat) x,us[j]? = some x -> w.cell? ⟨g,0 + j,none⟩ = some (.string x):=by
 intro j x hj
 have hl:j < us.length:=(List.getElem?_eq_some_iff.1 hj).1
 obtain ⟨_,⟨h1,_⟩ | ⟨g',cap,cur,h1,h2⟩⟩:=h
 ·cases h1
 ·have hh:zCK w B (.slice (some ⟨g',0,none⟩) us.length cap) us:=⟨by assumption,Or.inr ⟨g',cap,cur,rfl,h2⟩⟩
  simp only [Value.slice.injEq,Option.some.injEq,Addr.mk.injEq] at h1
  obtain ⟨⟨rfl,_⟩,_⟩:=h1
  rw [Nat.zero_add,World.ownsRow.cellAt hh j (by omega)]
  simp [Z2,hj]
end Go.Proofs.YtfboipappaonhaaGreat
