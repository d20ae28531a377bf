import Derived.Deep.DeepCutAuto
import Derived.Test.YtfboipappaonhaaGreatF09
import Derived.Test.YtfboipappaonhaaGreatF12
import Derived.Test.YtfboipappaonhaaGreatF18
import Derived.Test.YtfboipappaonhaaGreatF28
import Derived.Test.YtfboipappaonhaaGreatF31
import Derived.Test.YtfboipappaonhaaGreatF46
namespace Go.Proofs.YtfboipappaonhaaGreat
set_option linter.unusedSimpArgs false
set_option linter.unusedVariables false
set_option maxHeartbeats 16000000
set_option maxRecDepth 100000
open Go.RowKit
theorem zMs (w:World) (c:UInt8):∀ j u,(cellsB [c])[j]?=some u->(w.alloc (.cells #[.int .u8 (c.toNat:Int)] 5)).cell? ((⟨w.heap.size,0,none⟩:Addr).add j)=some u:=by
 intro j u hj
 rw [Addr.add_mid]
 have:=World.rangeAt_of_block (w:=w.alloc (.cells #[.int .u8 (c.toNat:Int)] 5)) (b:=w.heap.size) (heap_alloc_new w _) 0 1
 exact this j u (by simpa [cellsB] using hj)
def zPe (ws:List zu) (k:Nat):Bool:=decide (k≠0)&&zEO (atW ws (k-1)) (atW ws k)
theorem zOc (ws:List zu) (k:Nat):zBP ws (k+1)=(zBP ws k++(if zPe ws k then [32] else []))++(atW ws k).t.data.toList:=by
 simp only [zBP,zPe,ne_eq,Bool.and_eq_true,decide_eq_true_eq,decide_not,Bool.not_eq_true',decide_eq_false_iff_not,List.append_assoc]
theorem zH5 (b off cap bn offn cn:Nat) (ns:List OpR) (xs:List zD) (w:World) (hm:ns.length<=1048576) (hmn:xs.length<=1048576) (hw:Ops w b off ns) (hsz:ZV ns) (hB:b<w.heap.size) (hwn:Zu w bn offn xs) (hsn:zAX xs) (hBn:bn<w.heap.size) :
  Calls Tryz.prog 9 #[.agg #[.slice (some ⟨b,off,none⟩) ns.length cap],.agg #[.slice (some ⟨bn,offn,none⟩) xs.length cn]] w fun e w'=>(∃ (s:ByteArray) (v:Bool),e = .returned (.tuple #[.string s,.bool v])/\Hid (zCb ns xs s v))/\Below w.heap.size w w':=by
 obtain ⟨i0,hi,hz0,hz1,hz2⟩:=info_parts infoByte
 have HI:=zB hi
 have HZB:=zB (And.intro hz0 (And.intro hz1 hz2))
 clear hi hz0 hz1 hz2
 have HW:=zB hw
 have HWN:=zB hwn
 have HZ:=zB hsz
 have HZN:=zB hsn
 have HB0:=zB (show ∀ o1 o2:Obj,Below w.heap.size w ((w.alloc o1).alloc o2) from fun o1 o2=>(zC w o1).alloc (by simp) o2)
 clear hw hwn hsz hsn
 go_enter Tryz.func9,Tryz.ntmps9
 go_wp2_with fail
 refine (zCq b off cap bn offn cn ns xs _ hm hmn ((zA HW).below ((zA HB0) _ _) hB) (zA HZ) (by simp; omega) ((zA HWN).below ((zA HB0) _ _) hBn) (zA HZN) (by simp; omega)).mono ?_
 rintro e w1 ⟨⟨a,c,us,v,rfl,hown,hgi⟩,hb1⟩
 have bel1:Below w.heap.size w w1:=((zA HB0) _ _).trans (hb1.mono (by simp; omega))
 clear hb1 HB0 HW HWN
 rcases zA hgi with ⟨hy,rfl,hus⟩ | ⟨hn,rfl,rfl⟩
 case inr=>
  have HN:=zB hn
  clear hn hgi hown
  go_wp2_with fail
  go_ret2
  exact ⟨⟨_,_,rfl,zB (Or.inr ⟨zA HN,rfl,rfl⟩)⟩,bel1.alloc bel1.size _⟩
 case inl=>
  obtain ⟨G,hG,hgood,htx,hz20,hgs,hfs⟩:=zDc hy
  have hus2:us=nd G 0:=hus.trans hgs
  have hul:us.length=tsz G:=by rw [hus2,zi]
  have hgp:=hgood.sh.pos
  obtain ⟨g2,rfl,hg2,hfil⟩:∃ g,a=some ⟨g,0,none⟩/\w.heap.size+2<=g/\zv w1 g us us.length:=by
   rcases zA hown with ⟨h,_⟩ | ⟨g,h1,h2,h3⟩
   ·omega
   ·exact ⟨g,h1,by simpa using h2,h3⟩
  have hgl:=hfil.1
  have hul1:1<=us.length:=by omega
  have hul2:us.length<=20000:=by omega
  have ei:(us.length:Int)-1=((us.length-1:Nat):Int):=by omega
  obtain ⟨W3,HW3⟩:∃ W3,Hid (W3=(w1.alloc (.cells #[.slice (some ⟨g2,0,none⟩) us.length c] 28)).alloc (.cells #[] 54)):=⟨_,zB rfl⟩
  have hb3:Below w1.heap.size w1 W3:=by rw [zA HW3]; exact (zC _ _).alloc (by simp) _
  have s3:W3.heap.size=w1.heap.size+2:=by rw [zA HW3]; simp
  have bel3:=bel1.trans (hb3.mono bel1.size)
  have HR3:=zB (show zBN W3 (w1.heap.size+1) (.slice (some ⟨w1.heap.size+1,0,none⟩) 0 0) [] by
   rw [zA HW3]
   have:=World.ownsRow_lit (base:=w1.heap.size+1) (e:=54) (size:=3) (w1.alloc (.cells #[.slice (some ⟨g2,0,none⟩) us.length c] 28)) #[] 0 (by simp) (Nat.zero_le _) rfl
   simpa [zBN,ZG] using this)
  have hyl:=zHG G
  have hrec:=zKl g2 0 c ns us (w1.heap.size+1) (by omega) hul2 G hgood.well 0 [] (yT G) (by rw [hus2]; exact ZW G) (by omega) (by simp; omega) (by simp)
  rw [Nat.zero_add,<- hul] at hrec
  have HCALL:=zB (hrec (.slice (some ⟨w1.heap.size+1,0,none⟩) 0 0) W3 (hfil.ops.below hb3 hgl) (by omega) (zA HR3))
  rw [zA HW3] at HCALL
  obtain ⟨ws,HWS⟩:∃ ws,Hid (ws=yT G):=⟨_,zB rfl⟩
  rw [<- zA HWS] at HCALL
  have hwl:ws.length<=40000:=by rw [zA HWS,zHl]; omega
  have hwp:1<=ws.length:=by rw [zA HWS]; exact zNP hgood.sh
  have HTX:=zB (show (⟨(txT (grT ns (zCo xs) 0)).toArray⟩:ByteArray)=⟨(zBP ws ws.length).toArray⟩ by rw [<- hG,zA HWS]; rfl)
  have HTL:=zB (show ∀ k,k<=ws.length->(zBP ws k).length<=20001*k from zHH ws (fun x hx=>by
   rw [zA HWS] at hx
   simp only [yT,List.mem_map] at hx
   obtain ⟨q,hq,rfl⟩:=hx
   exact zFn G htx q hq))
  have HTS:=zB (show ∀ k,k<ws.length->(atW ws k).t.size<=20000 from fun k hk=>by
   have hx:atW ws k∈ws:=by simp [atW,List.getD,hk]
   rw [zA HWS] at hx
   simp only [yT,List.mem_map] at hx
   obtain ⟨q,hq,e⟩:=hx
   have e':wS q=atW ws k:=by rw [zA HWS]; exact e
   rw [<- e']
   exact zFn G htx q hq)
  have HY:=zB hy
  clear hy hgi hown hG hgood htx hz20 hgs hfs hus hus2 hul hgp hfil hyl hrec HR3
  go_wp2_with fail
  refine (zA HCALL).mono ?_
  rw [<- zA HW3]
  rintro x w4 ⟨u',rfl,hr,hg,ho⟩
  obtain ⟨g4,c4,rfl⟩:∃ g k,u' = .slice (some ⟨g,0,none⟩) ws.length k:=by
   obtain ⟨_,⟨rfl,h0⟩ | ⟨g,cap,cur,h,_⟩⟩:=zA hr
   ·omega
   ·exact ⟨_,_,h⟩
  have HOW:=zB (zA hr).ops
  have hg4:=((zA hr).lt g4 rfl).2
  have bel4:Below w.heap.size w w4:=bel3.trans ⟨(zA hg).os,(zA hg).tape,(zA hg).output,(zA hg).size,fun i hi=>(zA hg).block i (by have:=bel3.size; omega) (by simp [Value.ownBlock]; have:=bel1.size; omega)⟩
  clear hr hg ho HCALL HW3 bel3 hb3 s3
  have HO:=zB (show (w4.alloc (.cells #[] 5)).ownsRow w4.heap.size 5 1 (.slice (some ⟨w4.heap.size,0,none⟩) 0 0) 0 (cellsB (zBP ws 0)) by
   show (w4.alloc (.cells #[] 5)).ownsRow w4.heap.size 5 1 (.slice (some ⟨w4.heap.size,0,none⟩) 0 0) 0 []
   simpa using World.ownsRow_lit (base:=w4.heap.size) (e:=5) (size:=1) w4 #[] 0 (Nat.le_refl _) (Nat.zero_le _) rfl)
  go_wp2
  go_loopw [9,10] (fun out i wr=>∃ (k go co n:Nat),k<=ws.length/\i = .int .i64 (k:Int)/\out = .slice (some ⟨go,0,none⟩) n co/\Hid (n=(zBP ws k).length)/\Hid (wr.ownsRow w4.heap.size 5 1 (.slice (some ⟨go,0,none⟩) n co) n (cellsB (zBP ws k)))/\Below w4.heap.size w4 wr) (fun _ i _=>ws.length-(intOf i).toNat)
  case atStart=>exact ⟨0,w4.heap.size,0,0,Nat.zero_le _,rfl,rfl,zB rfl,HO,zC _ _⟩
  case round=>
   clear HO
   obtain ⟨k,go,co,n,hk,rfl,rfl,hn,hown,hbel⟩:=hrel
   by_cases hlt:k<ws.length
   ·obtain ⟨x0,x1,x2⟩:=((zA HOW).below hbel hg4) k hlt
    have hkI:(k:Int)<(ws.length:Int):=by omega
    obtain ⟨xt,hxt⟩:∃ xt,xt=(atW ws k).t:=⟨_,rfl⟩
    obtain ⟨xo,hxo⟩:∃ xo,xo=(atW ws k).o:=⟨_,rfl⟩
    obtain ⟨xi,hxi⟩:∃ xi,xi=(atW ws k).i:=⟨_,rfl⟩
    obtain ⟨yo,hyo⟩:∃ yo,yo=(atW ws (k-1)).o:=⟨_,rfl⟩
    obtain ⟨yi,hyi⟩:∃ yi,yi=(atW ws (k-1)).i:=⟨_,rfl⟩
    obtain ⟨gp,HGP⟩:∃ gp,Hid (gp=zPe ws k):=⟨_,zB rfl⟩
    have HGQ:=zB (show gp=(decide (k≠0)&&(xi||yi||(xo&&yo))) by rw [zA HGP,zPe,zEO,hxo,hxi,hyo,hyi])
    rw [<- hxt] at x0
    rw [<- hxo] at x1
    rw [<- hxi] at x2
    have HPV:=zB (show k≠0->wr.cell? ⟨g4,(k-1)*3+1,none⟩=some (.bool yo)/\wr.cell? ⟨g4,(k-1)*3+2,none⟩=some (.bool yi) from fun h=>by
     obtain ⟨_,y1,y2⟩:=((zA HOW).below hbel hg4) (k-1) (by omega)
     rw [hyo,hyi]
     exact ⟨y1,y2⟩)
    have hts:xt.size<=20000:=by rw [hxt]; exact (zA HTS) k hlt
    have HXT:=zB hxt
    have htl:=(zA HTL) k (by omega)
    rw [<- zA hn] at htl
    have hnb:n<=800040000:=by omega
    have hgw:g4<wr.heap.size:=Nat.lt_of_lt_of_le hg4 hbel.size
    clear hxt hxo hxi hyo hyi htl
    go_upto_region 10 with fail
    go_cut [64] (fun s64 wx=>s64 = .bool gp/\wx=wr.alloc (.cells #[.string xt,.bool xo,.bool xi] 54))
    case first=>
     clear hown x0 x1 x2
     have fin:∀ g:Bool,g=gp->Value.bool g = .bool gp:=fun g h=>by rw [h]
     have HF:=zB fin
     clear fin
     by_cases hk0:k=0
     ·have HE:=zB (show false=gp by rw [zA HGQ]; simp [hk0])
      have hkz:¬ (0:Int)<(k:Int):=by omega
      clear HPV HGQ HGP hk0
      go_wp2
      go_meet
      exact ⟨(zA HF) _ (zA HE),rfl⟩
     ·obtain ⟨y1,y2⟩:=(zA HPV) hk0
      have HE:=zB (show (xi||yi||(xo&&yo))=gp by rw [zA HGQ]; simp [hk0])
      have hkz:(0:Int)<(k:Int):=by omega
      have hk1:(k:Int)-1=((k-1:Nat):Int):=by omega
      have hk2:((k-1:Nat):Int)<(ws.length:Int):=by omega
      have y1':=((zC wr (.cells #[.string xt,.bool xo,.bool xi] 54)).cell (p:=⟨g4,(k-1)*3+1,none⟩) hgw).trans y1
      have y2':=((zC wr (.cells #[.string xt,.bool xo,.bool xi] 54)).cell (p:=⟨g4,(k-1)*3+2,none⟩) hgw).trans y2
      clear HPV HGQ HGP hk0
      cases xi
      ·cases yi
       ·cases xo
        ·go_wp2
         go_meet
         exact ⟨(zA HF) _ (by rw [<- zA HE]; rfl),rfl⟩
        ·go_wp2
         go_meet
         exact ⟨(zA HF) _ (by rw [<- zA HE]; rfl),rfl⟩
       ·go_wp2
        go_meet
        exact ⟨(zA HF) _ (by rw [<- zA HE]; rfl),rfl⟩
      ·go_wp2
       go_meet
       exact ⟨(zA HF) _ (by rw [<- zA HE]; rfl),rfl⟩
    case rest=>
     obtain ⟨rfl,rfl⟩:=hcut
     have HB1:=zB (hbel.alloc hbel.size (.cells #[.string xt,.bool xo,.bool xi] 54))
     have HO1:=zB ((zA hown).kept (Zb (zC wr (.cells #[.string xt,.bool xo,.bool xi] 54)) none) (Or.inr (by simp [Value.ownBlock])))
     have HTX1:=zB (zOc ws k)
     have hgo0:go<wr.heap.size:=((zA hown).lt go rfl).2
     clear hown HPV x0 x1 x2 HGQ
     cases gp
     ·have HEQ:=zB (show zBP ws (k+1)=zBP ws k++xt.data.toList by rw [zA HTX1,<- zA HGP,<- zA HXT]; simp)
      obtain ⟨c1,w6,hrun1,hnew1,hb6⟩:=zDP (wr.alloc (.cells #[.string xt,.bool xo,.bool xi] 54)) xt
      have HN1:=zB hnew1
      have HO6:=zB ((zA HO1).kept (Zb hb6 none) (Or.inr (by simp [Value.ownBlock])))
      have HB6:=zB ((zA HB1).trans (hb6.mono (zA HB1).size))
      have z6:=(zA HB6).size
      clear hnew1 hb6 HO1 HB1
      go_wp2_with (at_builtin; refine wpList_append_own _ rfl (.tmp 68) (.tmp 71) 22 rfl w4.heap.size 5 i0 _ 1 1 Tryz.underlying22 (zA HI) (zA HZB).1 (zA HZB).2.1 (zA HZB).2.2 rfl (by decide) _ n (cellsB (zBP ws k)) rfl (zA HO6) ⟨wr.heap.size+1,0,none⟩ xt.size c1 (cellsB xt.data.toList) rfl (by rw [ZI]; simp) (by simpa using zA HN1) (Zo _) ?b1 ?b2 ?b3 ?next)
      case b1=>unfold maxLen; omega
      case b2=>omega
      case b3=>exact z6
      case next=>
       intro v7 w7 hown7 hgrow7 hnil7
       have hgo:=(zA HO6).lt go rfl
       have hbel7:Below w4.heap.size w4 w7:=(zA HB6).grown hgrow7 z6 (fun q hq=>by simp [Value.ownBlock] at hq; omega)
       obtain ⟨g7,q7,rfl⟩:=ZL hown7 (by simp [hnil7])
       rw [<- ZX,<- zA HEQ] at hown7
       have HO7:=zB hown7
       have HL7:=zB (show n+xt.size=(zBP ws (k+1)).length by rw [zA HEQ,List.length_append,<- zA hn]; simp)
       clear hown7 hgrow7 hnil7 HN1 HO6 HB6 hrun1
       go_wp2
       exact ⟨⟨k+1,g7,q7,_,by omega,by go_num,rfl,HL7,HO7,hbel7⟩,by simp [intOf]; omega⟩
     ·obtain ⟨tk,HTK⟩:∃ tk,Hid (tk=zBP ws k++[32]):=⟨_,zB rfl⟩
      have HEQ:=zB (show zBP ws (k+1)=tk++xt.data.toList by rw [zA HTX1,<- zA HGP,<- zA HXT,zA HTK]; simp)
      have ht1:tk.length<=800040001:=by rw [zA HTK,List.length_append,<- zA hn]; simp; omega
      have HTN:=zB (show n+1=tk.length by rw [zA HTK,List.length_append,<- zA hn]; simp)
      go_wp2_with (at_builtin; refine wpList_append_own _ rfl (.tmp 65) (.tmp 66) 22 rfl w4.heap.size 5 i0 _ 1 1 Tryz.underlying22 (zA HI) (zA HZB).1 (zA HZB).2.1 (zA HZB).2.2 rfl (by decide) _ n (cellsB (zBP ws k)) rfl ((zA HO1).kept (Zb (zC _ _) none) (Or.inr (by simp [Value.ownBlock]))) ⟨wr.heap.size+1,0,none⟩ 1 1 (cellsB [32]) rfl rfl (by simpa using zMs (wr.alloc (.cells #[.string xt,.bool xo,.bool xi] 54)) 32) (Zo _) ?b1 ?b2 ?b3 ?next)
      case b1=>unfold maxLen; omega
      case b2=>omega
      case b3=>have:=(zA HB1).size; simp at this ⊢; omega
      case next=>
       intro v5 w5 hown5 hgrow5 hnil5
       have hgo:=(zA HO1).lt go rfl
       have hbel5:Below w4.heap.size w4 w5:=((zA HB1).alloc (zA HB1).size _).grown hgrow5 (by have:=(zA HB1).size; simp at this ⊢; omega) (fun q hq=>by simp [Value.ownBlock] at hq; omega)
       obtain ⟨g5,q5,rfl⟩:=ZL hown5 (by simp [hnil5])
       rw [<- ZX,<- zA HTK] at hown5
       have hgr:go<wr.heap.size+1:=by have:=hgo.2; simpa using this
       have y0:w5.cell? ⟨wr.heap.size,0,none⟩=some (.string xt):=hgrow5.cell (by simp [go_sem]) (by simp [Value.ownBlock]; omega)
       obtain ⟨c1,w6,hrun1,hnew1,hb6⟩:=zDP w5 xt
       have HN1:=zB hnew1
       have HO6:=zB (hown5.kept (Zb hb6 none) (Or.inr (by simp [Value.ownBlock])))
       have HB6:=zB (hbel5.trans (hb6.mono hbel5.size))
       have z6:=(zA HB6).size
       clear hnew1 hb6 HO1 HB1 hown5 hgrow5 hnil5 hgo
       go_wp2_with (at_builtin; refine wpList_append_own _ rfl (.tmp 68) (.tmp 71) 22 rfl w4.heap.size 5 i0 _ 1 1 Tryz.underlying22 (zA HI) (zA HZB).1 (zA HZB).2.1 (zA HZB).2.2 rfl (by decide) _ (n+1) (cellsB tk) rfl (zA HO6) ⟨w5.heap.size,0,none⟩ xt.size c1 (cellsB xt.data.toList) rfl (by rw [ZI]; simp) (zA HN1) (Zo _) ?b4 ?b5 ?b6 ?next2)
       case b4=>unfold maxLen; omega
       case b5=>omega
       case b6=>exact z6
       case next2=>
        intro v7 w7 hown7 hgrow7 hnil7
        have hgo7:=(zA HO6).lt g5 rfl
        have hbel7:Below w4.heap.size w4 w7:=(zA HB6).grown hgrow7 z6 (fun q hq=>by simp [Value.ownBlock] at hq; omega)
        obtain ⟨g7,q7,rfl⟩:=ZL hown7 (by simp [hnil7])
        rw [<- ZX,<- zA HEQ] at hown7
        have HO7:=zB hown7
        have HL7:=zB (show n+1+xt.size=(zBP ws (k+1)).length by rw [zA HEQ,List.length_append,<- zA HTN]; simp)
        clear hown7 hgrow7 hnil7 HN1 HO6 HB6 hrun1 y0 hgo7
        go_wp2
        exact ⟨⟨k+1,g7,q7,_,by omega,by go_num,rfl,HL7,HO7,hbel7⟩,by simp [intOf]; omega⟩
   ·have hkx:k=ws.length:=by omega
    have hcv:=Z1 wr go n co (zBP ws k) (zA hn) (zAm (zA hown))
    have HK:=zB hkx
    clear hkx
    go_wp2
    go_ret2
    exact ⟨⟨_,_,rfl,zB (Or.inl ⟨zA HY,rfl,by rw [zA HTX,zA HK]⟩)⟩,bel4.trans (hbel.mono bel4.size)⟩
theorem zHm (b off cap:Nat) (xs:List OpR) (s:ByteArray) (w:World) (hmx:xs.length<=1048576) (hw:Ops w b off xs) (hsz:ZV xs) (hB:b<w.heap.size) (hs:s.size<=1048576) :
  Calls Tryz.prog 25 #[.agg #[.slice (some ⟨b,off,none⟩) xs.length cap],.string s] w fun e w'=>(∃ (t:ByteArray) (c p:Int),e = .returned (.tuple #[.string t,.int .i64 c,.int .i64 p])/\Hid (zCL xs s t c p))/\Below w.heap.size w w':=by
 have HW:=zB hw
 have HS:=zB hsz
 have hb0:=zC w (.cells #[.slice (some ⟨b,off,none⟩) xs.length cap] 25)
 have HX:=zEW b off cap xs s _ hmx (hw.below hb0 hB) hsz (by have:=hb0.size; omega) hs
 clear hw hsz
 go_enter Tryz.func25,Tryz.ntmps25
 go_wp2_with fail
 refine HX.mono ?_
 clear HX
 rintro e w1 ⟨⟨a,cc,us,c,p,rfl,ho,hp⟩,hb1⟩
 have bel1:Below w.heap.size w w1:=hb0.trans (hb1.mono hb0.size)
 have t1:w1.cell? ⟨w.heap.size,0,none⟩=some (.slice (some ⟨b,off,none⟩) xs.length cap):=(hb1.cell (p:=⟨w.heap.size,0,none⟩) (by simp)).trans (by simp [go_sem])
 have z1:w.heap.size+1<=w1.heap.size:=by have:=hb1.size; simp at this; omega
 clear hb1 hb0
 have hb2:=zC w1 (.cells #[.slice a us.length cc] 28)
 have bel2:=bel1.trans (hb2.mono bel1.size)
 by_cases hc:c=0
 case neg=>
  have hc':(c != 0)=true:=by simpa using hc
  have HN:=zB (show zCL xs s ⟨#[]⟩ c p from ⟨us,c,p,zA hp,Or.inl ⟨hc,rfl,rfl,rfl⟩⟩)
  clear hc ho
  go_wp2_with fail
  refine bodyPost_ret (v:=.tuple #[.string ⟨#[]⟩,.int .i64 c,.int .i64 p]) (by simp [results,Tryz.results25,go_sem]) rfl ⟨⟨_,_,_,rfl,HN⟩,bel2⟩
 subst hc
 obtain ⟨hl1,hl2,hsn⟩:=zHU (zA hp)
 obtain ⟨g,rfl,hfl⟩:∃ g,a=some ⟨g,0,none⟩/\zv w1 g us us.length:=by
  rcases zA ho with ⟨h0,_⟩ | ⟨g,e,_,hf⟩
  ·omega
  ·exact ⟨g,e,hf⟩
 have hg:=hfl.1
 have t2:=(hb2.cell (p:=⟨w.heap.size,0,none⟩) (by simp only; omega)).trans t1
 have HX:=zH5 b off cap g 0 cc xs us _ hmx (by omega) ((zA HW).below bel2 hB) (zA HS) (Nat.lt_of_lt_of_le hB bel2.size) (hfl.below hb2 hg).ops hsn (by have:=hb2.size; omega)
 clear ho hfl hsn t1 hl1 hl2 hg
 go_wp2_with fail
 refine HX.mono ?_
 clear HX
 rintro e w3 ⟨⟨t,v,rfl,ht⟩,hb3⟩
 have bel3:=bel2.trans (hb3.mono bel2.size)
 have HN:=zB (show zCL xs s t 0 0 from ⟨us,0,p,zA hp,Or.inr ⟨rfl,⟨v,zA ht⟩,rfl,rfl⟩⟩)
 clear hb3 ht hb2
 go_wp2_with fail
 refine bodyPost_ret (v:=.tuple #[.string t,.int .i64 0,.int .i64 0]) (by simp [results,Tryz.results25,go_sem]) rfl ⟨⟨_,_,_,rfl,HN⟩,bel3⟩
end Go.Proofs.YtfboipappaonhaaGreat
namespace Go.Proofs.YtfboipappaonhaaGreat
set_option linter.unusedSimpArgs false
set_option linter.unusedVariables false
set_option maxHeartbeats 16000000
set_option maxRecDepth 100000
open Go.RowKit Go.Maps
theorem zDF (a c:Int) (w:World):Calls Tryz.prog 117 #[.int .i64 a,.int .i64 c] w fun e w'=>e = .returned (.bool (zAY a c))/\w'=w:=by
 have hb:zAY a c=(a==3||c==3||(a==2&&c==2)):=by
  unfold zAY
  rw [Bool.eq_iff_iff]
  simp only [decide_eq_true_eq,Bool.or_eq_true,Bool.and_eq_true,beq_iff_eq]
  omega
 have HB:=zB hb
 clear hb
 by_cases h1:a=3
 ·have h1':(a==3)=true:=by simpa using h1
  rw [h1'] at HB
  go_enter Tryz.func117,Tryz.ntmps117
  go_wp2
  go_ret
  exact ⟨zj (by rw [zA HB]; rfl),rfl⟩
 ·have h1':(a==3)=false:=by simpa using h1
  rw [h1'] at HB
  by_cases h2:c=3
  ·have h2':(c==3)=true:=by simpa using h2
   rw [h2'] at HB
   go_enter Tryz.func117,Tryz.ntmps117
   go_wp2
   go_ret
   exact ⟨zj (by rw [zA HB]; rfl),rfl⟩
  ·have h2':(c==3)=false:=by simpa using h2
   rw [h2'] at HB
   by_cases h3:a=2
   ·have h3':(a==2)=true:=by simpa using h3
    rw [h3'] at HB
    go_enter Tryz.func117,Tryz.ntmps117
    go_wp2
    go_ret
    exact ⟨zj (by rw [zA HB]; rfl),rfl⟩
   ·have h3':(a==2)=false:=by simpa using h3
    rw [h3'] at HB
    go_enter Tryz.func117,Tryz.ntmps117
    go_wp2
    go_ret
    exact ⟨zj (by rw [zA HB]; rfl),rfl⟩
structure zDj (w:World) (b:Nat) (v:Value) (ps:List ByteArray) (last:Int):Prop where
 c0:w.cell? ⟨b,0,none⟩=some v
 c1:w.cell? ⟨b,1,none⟩=some (.int .i64 last)
 fz:∀ o,w.frozen? ⟨b,o,none⟩=false
 row:ZH w (b+1) v ps
theorem zDj.ne {w:World} {b:Nat} {v:Value} {ps:List ByteArray} {last:Int} (h:zDj w b v ps last):v.ownBlock≠some b:=fun e=>by
 have:=(h.row.lt _ e).1
 omega
theorem zDj.below {w w':World} {b:Nat} {v:Value} {ps:List ByteArray} {last:Int} (h:zDj w b v ps last) (hb:Below w.heap.size w w'):zDj w' b v ps last:=
 have hlt:b<w.heap.size:=block_lt_of_cell h.c0
 ⟨(hb.cell (p:=⟨b,0,none⟩) hlt).trans h.c0,(hb.cell (p:=⟨b,1,none⟩) hlt).trans h.c1,fun o=>(hb.frozen (p:=⟨b,o,none⟩) hlt).trans (h.fz o),h.row.below hb⟩
theorem zDj.keep {w w2:World} {o:Obj} {b:Nat} {v:Value} {ps:List ByteArray} {last:Int} (h:zDj w b v ps last) (hg:(w.alloc o).grownBy w2 v.ownBlock) :
  (∀ q,w2.cell? ⟨b,q,none⟩=w.cell? ⟨b,q,none⟩)/\∀ q,w2.frozen? ⟨b,q,none⟩=w.frozen? ⟨b,q,none⟩:=by
 have hlt:b<w.heap.size:=block_lt_of_cell h.c0
 have hbk:w2.heap[b]?=(w.alloc o).heap[b]?:=hg.block b (by simp; omega) (fun e=>h.ne e.symm)
 exact ⟨fun q=>(World.cell?_of_block (w:=w.alloc o) hbk).trans ((zC w o).cell (p:=⟨b,q,none⟩) hlt),fun q=>(World.frozen?_of_block (w:=w.alloc o) hbk).trans ((zC w o).frozen (p:=⟨b,q,none⟩) hlt)⟩
theorem zDj.put {w w2:World} {o:Obj} {b:Nat} {v v2:Value} {ps ps2:List ByteArray} {last:Int} (h:zDj w b v ps last) (hg:(w.alloc o).grownBy w2 v.ownBlock) (hr:ZH w2 (b+1) v2 ps2) :
  zDj (w2.setCell ⟨b,0,none⟩ v2) b v2 ps2 last/\zAB w (w2.setCell ⟨b,0,none⟩ v2) b v.ownBlock:=by
 have hlt:b<w.heap.size:=block_lt_of_cell h.c0
 have hbk:w2.heap[b]?=(w.alloc o).heap[b]?:=hg.block b (by simp; omega) (fun e=>h.ne e.symm)
 have e:∀ q,w2.cell? ⟨b,q,none⟩=w.cell? ⟨b,q,none⟩:=fun q=>(World.cell?_of_block (w:=w.alloc o) hbk).trans ((zC w o).cell (p:=⟨b,q,none⟩) hlt)
 have f:∀ q,w2.frozen? ⟨b,q,none⟩=w.frozen? ⟨b,q,none⟩:=fun q=>(World.frozen?_of_block (w:=w.alloc o) hbk).trans ((zC w o).frozen (p:=⟨b,q,none⟩) hlt)
 refine ⟨⟨World.cell?_setCell_same _ _ _ ((e 0).trans h.c0),(World.cell?_setCell_other _ _ _ _ (by simp)).trans ((e 1).trans h.c1),fun q=>(World.frozen?_setCell _ _ _ _).trans ((f q).trans (h.fz q)),hr.grown (zBZ _ b 0 _) (fun k hk=>fun x=>?_)⟩,?_⟩
 ·injection x with x
  have:=(hr.lt k hk).1
  omega
 ·have e1:=hg.size
  simp at e1
  refine ⟨hg.os,hg.tape,hg.output,by simp [World.setCell]; omega,fun i hi h1 h2=>?_⟩
  rw [Below.heap_setCell _ _ _ _ (by simpa using h1)]
  exact (hg.block i (by simp; omega) h2).trans ((zC w o).block i hi)
theorem zDj.last {w:World} {b:Nat} {v:Value} {ps:List ByteArray} {last:Int} (h:zDj w b v ps last) (k:Int):zDj (w.setCell ⟨b,1,none⟩ (.int .i64 k)) b v ps k:=
 ⟨(World.cell?_setCell_other _ _ _ _ (by simp)).trans h.c0,World.cell?_setCell_same _ _ _ h.c1,fun q=>(World.frozen?_setCell _ _ _ _).trans (h.fz q),h.row.grown (zBZ _ b 1 _) (fun k hk=>fun x=>by
  injection x with x
  have:=(h.row.lt k hk).1
  omega)⟩
theorem zAB.trans {w w1 w2:World} {p:Nat} {row row':Option Nat} (h:zAB w w1 p row) (h2:zAB w1 w2 p row') (hr:row'=row\/∃ k,row'=some k/\w.heap.size<=k):zAB w w2 p row:=
 ⟨h2.os.trans h.os,h2.tape.trans h.tape,h2.output.trans h.output,Nat.le_trans h.size h2.size,fun i hi h1 hne=>(h2.block i (Nat.lt_of_lt_of_le hi h.size) h1 (fun e=>by
  rcases hr with rfl | ⟨k,rfl,hk⟩
  ·exact hne e
  ·injection e with e; omega)).trans (h.block i hi h1 hne)⟩
theorem zAB.below {w w1 w2:World} {p:Nat} {row:Option Nat} (h:Below w.heap.size w w1) (h2:zAB w1 w2 p row):zAB w w2 p row:=
 ⟨h2.os.trans h.os,h2.tape.trans h.tape,h2.output.trans h.output,Nat.le_trans h.size h2.size,fun i hi h1 hne=>(h2.block i (Nat.lt_of_lt_of_le hi h.size) h1 hne).trans (h.block i hi)⟩
theorem zAB.set {w:World} {p o:Nat} {v:Value} {row:Option Nat}:zAB w (w.setCell ⟨p,o,none⟩ v) p row:=
 ⟨rfl,rfl,rfl,by simp [World.setCell],fun i _ h1 _=>Below.heap_setCell _ _ _ _ (by simpa using h1)⟩
theorem zAB.at {w w':World} {p:Nat} {row row':Option Nat} (h:zAB w w' p row) (hr:row'=row\/∃ k,row'=some k/\w.heap.size<=k) (r:Option Nat) (hr2:r=row'\/∃ k,r=some k/\w'.heap.size<=k):r=row\/∃ k,r=some k/\w.heap.size<=k:=by
 have:=h.size
 rcases hr2 with rfl | ⟨k,rfl,hk⟩
 ·exact hr
 ·exact Or.inr ⟨k,rfl,by omega⟩
theorem zAB.cell {w w':World} {p:Nat} {row:Option Nat} (h:zAB w w' p row) {b:Nat} (hb:b<w.heap.size) (h1:b≠p) (h2:row≠some b) (o:Nat):w'.cell? ⟨b,o,none⟩=w.cell? ⟨b,o,none⟩:=
 World.cell?_of_block (w:=w) (h.block b hb h1 (fun e=>h2 e.symm))
def zD5 (w:World) (b:Nat) (v:Value) (st:List ByteArray×Int) (x:Ending) (w':World):Prop:=
 x = .returned (.tuple #[])/\∃ v',Hid (zDj w' b v' st.1 st.2)/\Hid (zAB w w' b v.ownBlock)/\Hid (v'.ownBlock=v.ownBlock\/∃ k,v'.ownBlock=some k/\w.heap.size<=k)
theorem zDk (b:Nat) (v:Value) (ps:List ByteArray) (last kind:Int) (t:ByteArray) (w:World) (h:zDj w b v ps last) (hl:ps.length+2<=200000) :
  Calls Tryz.prog 68 #[.pointer (some ⟨b,0,none⟩),.string t,.int .i64 kind] w (zD5 w b v (ps++((if zAY last kind then [blk] else [])++[t]),kind)):=by
 obtain ⟨i0,hi0,hz0,hz1,hz2⟩:∃ i,Tryz.prog.info? 9=some i/\i.zero=some (.string ⟨#[]⟩)/\i.size=1/\i.bytes=16:=by
  obtain ⟨i,hi,hz⟩:=Option.map_eq_some_iff.1 zJP
  simp only [Prod.mk.injEq] at hz
  exact ⟨i,hi,hz.1,hz.2.1,hz.2.2⟩
 have HI:=zB hi0
 have HZ:=zB (And.intro hz0 (And.intro hz1 hz2))
 clear hi0 hz0 hz1 hz2
 obtain ⟨a,c,rfl⟩:=zDe h.row
 have HP:=zB h
 have hlt:b<w.heap.size:=block_lt_of_cell h.c0
 have c0:=h.c0
 have c1:=h.c1
 have f0:=h.fz 0
 clear h
 have last2:∀ (v1:Value) (ps1:List ByteArray) (w1:World),Hid (zDj w1 b v1 ps1 last)->Hid (zAB w w1 b (Value.slice a ps.length c).ownBlock)->Hid (v1.ownBlock=(Value.slice a ps.length c).ownBlock\/∃ k,v1.ownBlock=some k/\w.heap.size<=k) ->
   Hid (zDj (w1.setCell ⟨b,1,none⟩ (.int .i64 kind)) b v1 ps1 kind)/\Hid (zAB w (w1.setCell ⟨b,1,none⟩ (.int .i64 kind)) b (Value.slice a ps.length c).ownBlock):=
  fun v1 ps1 w1 hp hk ho=>⟨zB ((zA hp).last kind),zB ((zA hk).trans zAB.set (Or.inl rfl))⟩
 have HL:=zB last2
 clear last2
 obtain ⟨ps2,HS2⟩:∃ ps2,Hid (ps++((if zAY last kind then [blk] else [])++[t])=ps2):=⟨_,zB rfl⟩
 rw [zA HS2]
 cases hbl:zAY last kind
 ·have HS3:=zB (show ps2=ps++[t] by rw [<- zA HS2,hbl]; simp)
  clear HS2
  go_enter Tryz.func68,Tryz.ntmps68
  go_wp2_with fail
  refine (zDF last kind _).mono ?_
  rintro e w' ⟨rfl,hw'⟩
  have hw2:=hw'.symm
  subst hw2
  rw [hbl]
  go_wp2_with (at_builtin; go_loud (refine wpList_append_own_at _ rfl (.tmp 25) (.tmp 27) 59 rfl (b+1) 9 i0 _ 1 16 Tryz.underlying59 (zA HI) (zA HZ).1 (zA HZ).2.1 (zA HZ).2.2 rfl (by decide) _ ps.length (zR ps) rfl ((zA HP).row.below (zC _ _)) ⟨w.heap.size,0,none⟩ 1 1 (zR [t]) rfl rfl (by simpa using zAs w t) (zm _) ?b1 ?b2 ?b3 ?next))
  case b1=>unfold maxLen; omega
  case b2=>omega
  case b3=>first | omega | (simp; omega)
  case next=>
   intro v4 w4 hown4 hgrow4 hnil4 hat4
   have hr4:ZH w4 (b+1) v4 ps2:=by
    unfold ZH
    rw [zA HS3,zBc,List.length_append]
    exact hown4
   obtain ⟨p5,k5⟩:=(zA HP).put hgrow4 hr4
   have HA:=zB (show v4.ownBlock=(Value.slice a ps.length c).ownBlock\/∃ k,v4.ownBlock=some k/\w.heap.size<=k from hat4.imp id (fun h=>⟨_,h,by first | omega | (simp; omega)⟩))
   obtain ⟨a4,c4,rfl⟩:=zDe hr4
   have HP5:=zB p5
   have HK5:=zB k5
   obtain ⟨HP6,HK6⟩:=(zA HL) _ _ _ HP5 HK5 HA
   obtain ⟨qe,ge⟩:=(zA HP).keep hgrow4
   have q0:=(qe 0).trans c0
   have q1:=(qe 1).trans c1
   have g0:=(ge 0).trans f0
   have g1:=(ge 1).trans ((zA HP).fz 1)
   clear hown4 hgrow4 hnil4 hat4 hr4 p5 k5 c0 c1 f0 qe ge
   go_wp2_with fail
   go_end0
   exact ⟨rfl,_,HP6,HK6,HA⟩
 ·obtain ⟨ps1,HS1⟩:∃ ps1,Hid (ps1=ps++[blk]):=⟨_,zB rfl⟩
  have hl1:ps1.length+1<=200000:=by rw [zA HS1]; simp; omega
  have HS3:=zB (show ps2=ps1++[t] by rw [<- zA HS2,zA HS1,hbl]; simp)
  clear HS2
  go_enter Tryz.func68,Tryz.ntmps68
  go_wp2_with fail
  refine (zDF last kind _).mono ?_
  rintro e w' ⟨rfl,hw'⟩
  have hw2:=hw'.symm
  subst hw2
  rw [hbl]
  go_wp2_with (at_builtin; refine wpList_append_own_at _ rfl (.tmp 16) (.tmp 17) 59 rfl (b+1) 9 i0 _ 1 16 Tryz.underlying59 (zA HI) (zA HZ).1 (zA HZ).2.1 (zA HZ).2.2 rfl (by decide) _ ps.length (zR ps) rfl ((zA HP).row.below (zC _ _)) ⟨w.heap.size,0,none⟩ 1 1 (zR [⟨#[32]⟩]) rfl rfl (by simpa using zAs w ⟨#[32]⟩) (zm _) ?b1 ?b2 ?b3 ?next)
  case b1=>unfold maxLen; omega
  case b2=>omega
  case b3=>first | omega | (simp; omega)
  case next=>
   intro v4 w4 hown4 hgrow4 hnil4 hat4
   have hr4:ZH w4 (b+1) v4 ps1:=by
    unfold ZH
    rw [zA HS1,zBc,List.length_append]
    exact hown4
   obtain ⟨p5,k5⟩:=(zA HP).put hgrow4 hr4
   have HA:=zB (show v4.ownBlock=(Value.slice a ps.length c).ownBlock\/∃ k,v4.ownBlock=some k/\w.heap.size<=k from hat4.imp id (fun h=>⟨_,h,by first | omega | (simp; omega)⟩))
   obtain ⟨a4,c4,rfl⟩:=zDe hr4
   have HP5:=zB p5
   have HK5:=zB k5
   obtain ⟨qe,ge⟩:=(zA HP).keep hgrow4
   have q0:=(qe 0).trans c0
   have q1:=(qe 1).trans c1
   have g0:=(ge 0).trans f0
   have g1:=(ge 1).trans ((zA HP).fz 1)
   have d0:=p5.c0
   have e0:=p5.fz 0
   have hlt4:b<(w4.setCell ⟨b,0,none⟩ (.slice a4 ps1.length c4)).heap.size:=block_lt_of_cell d0
   obtain ⟨W4,HW4⟩:∃ W4,Hid (W4=w4.setCell ⟨b,0,none⟩ (.slice a4 ps1.length c4)):=⟨_,zB rfl⟩
   clear hown4 hgrow4 hnil4 hat4 hr4 p5 k5 c0 c1 f0 qe ge
   go_wp2_with (at_builtin; refine wpList_append_own_at _ rfl (.tmp 25) (.tmp 27) 59 rfl (b+1) 9 i0 _ 1 16 Tryz.underlying59 (zA HI) (zA HZ).1 (zA HZ).2.1 (zA HZ).2.2 rfl (by decide) _ ps1.length (zR ps1) rfl ((zA HP5).row.below (zC _ _)) ⟨w4.heap.size,0,none⟩ 1 1 (zR [t]) rfl rfl (by simpa [World.setCell] using zAs (w4.setCell ⟨b,0,none⟩ (.slice a4 ps1.length c4)) t) (zm _) ?b1 ?b2 ?b3 ?next)
   case b1=>unfold maxLen; omega
   case b2=>omega
   case b3=>first | omega | (simp at hlt4 ⊢; omega)
   case next=>
    intro v6 w6 hown6 hgrow6 hnil6 hat6
    have hr6:ZH w6 (b+1) v6 ps2:=by
     unfold ZH
     rw [zA HS3,zBc,List.length_append]
     exact hown6
    obtain ⟨p7,k7⟩:=(zA HP5).put hgrow6 hr6
    have HK7:=zB ((zA HK5).trans k7 (zA HA))
    have HA7:=zB ((zA HK5).at (zA HA) v6.ownBlock (hat6.imp id (fun h=>⟨_,h,by first | omega | (simp; done) | (simp; omega)⟩)))
    obtain ⟨a6,c6,rfl⟩:=zDe hr6
    have HP7:=zB p7
    obtain ⟨HP8,HK8⟩:=(zA HL) _ _ _ HP7 HK7 HA7
    obtain ⟨qe,ge⟩:=(zA HP5).keep hgrow6
    have r0:=(qe 0).trans d0
    have r1:=(qe 1).trans (zA HP5).c1
    have t0:=(ge 0).trans e0
    have t1:=(ge 1).trans ((zA HP5).fz 1)
    clear hown6 hgrow6 hnil6 hat6 hr6 p7 k7 qe ge q0 q1 g0 g1 d0 e0
    go_wp2_with fail
    go_end0
    exact ⟨rfl,_,HP8,HK8,HA7⟩
end Go.Proofs.YtfboipappaonhaaGreat
