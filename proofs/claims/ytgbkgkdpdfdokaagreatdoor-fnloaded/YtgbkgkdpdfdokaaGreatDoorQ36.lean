import Derived.Test.YtgbkgkdpdfdokaaGreatDoorQ21
import Derived.Test.YtgbkgkdpdfdokaaGreatDoorQ35
namespace Go.Proofs.YtgbkgkdpdfdokaaGreatDoor
set_option linter.all false
set_option maxHeartbeats 16000000
set_option maxRecDepth 100000
open Go.RowKit Go.Maps
variable {T:Nat -> List OpR} {nm:ByteArray -> Nat} {us:List ByteArray}
theorem zNG {H:List OpR} (us:List JZ) (h:500<H.length):zCF nm T H us=H:=by
 cases us with
 | nil=>rfl
 | cons u r=>simp only [zCF]; rw [yO h]
theorem zQg {H:List OpR} {q:Nat} {u:JZ} (hu:us[q]?=some u) (h:¬ 500<H.length):zCF nm T H (us.drop q)=zCF nm T (zV H (T (nm u))) (us.drop (q+1)):=by
 have hq:q<us.length:=(yX.1 hu).1
 have e:us.drop q=u::us.drop (q+1):=by
  rw [List.drop_eq_getElem_cons hq]
  congr 1
  rw [yn hq] at hu
  injection hu
 rw [e]
 simp only [zCF]
 rw [yN h]
theorem zF0 (B C P bs:Nat) (am:Option Addr) (cm:Nat) (ms:List zF) (v1:Value) (vs:List UvR) (U:List UnR) (kv:Value) (pv:Option Nat) (ks:List JZ) (T:Nat->List OpR) (rk:Nat->Nat) (hn:ms.length<=100) (hN:zBR ms ks) (hR:RkE ms.length (nmF ms) U rk) (hT:BrE ms.length (nmF ms) U T) (hA:(ZS U).length<=400000) (hF:∀ o∈ZS U,zC6 o) (hw:∀ i,i<ms.length->(atU U i).us.length<=20001) :
  ∀ (r i:Nat),i<ms.length->rk i<r->∀ (w:JY) (G:ByteArray->Option Value),ScH w B C P bs am cm ms v1 vs U kv pv ks->ScM w C bs ms T G ->
  Calls Tryz.prog 19 #[.pointer (some ⟨P,0,none⟩),.string (atM ms i).n] w (zLt w C bs ms T rk G i):=by
 intro r
 induction r with
 | zero=>intro i _ h; omega
 | succ r ih=>
  intro i hi Hu w G hH hG
  have hZ:=hH.pg.lt
  have c4:=hH.c4
  have hf:(atM ms i).n.size<=maxLen:=hN.sz _ (yy (hN.at' i hi))
  obtain ⟨m,hm,Hz⟩:=hG.cnt
  obtain ⟨W1,J⟩:∃ W1,W1=w.alloc (.cells #[.slice none 0 0] 33):=⟨_,rfl⟩
  have M:Below w.heap.size w W1:=by rw [J]; exact zC _ _
  have h7:W1.heap.size=w.heap.size+1:=by rw [J]; simp
  have d4:=(M.cell (p:=⟨P,4,none⟩) hZ).trans c4
  have X:=(hm.same (M.block bs hm.lt)).look (ty:=79) Tryz.underlying79 (zR9 W1) hf
  have r1:W1.cell? ⟨w.heap.size,0,none⟩=some (.slice none 0 0):=by rw [J]; simp [go_sem]
  have r2:W1.frozen? ⟨w.heap.size,0,none⟩=false:=by rw [J]; simp [go_sem]
  have Hw:=zB J
  have Ht:=zB M
  obtain ⟨t,ht⟩:∃ t,t=(atM ms i).n:=⟨_,rfl⟩
  have h8:=zB ht
  rw [<- ht] at X hf
  cases hgt:G t with
  | some x=>
   obtain ⟨v,rfl,hv,hV⟩:=hG.at' i hi x (by rw [<- ht]; exact hgt)
   obtain ⟨a,c,rfl,_⟩:=id hv.ops
   rw [hgt] at X
   have V:(Instr.lookup 79 (.map (some bs)) (.string t) true).run Tryz.prog W1 = .ok (.tuple #[.agg #[.slice a (T i).length c],.bool true]) W1:=X
   rw [J] at V
   have h9:=zB (fun w' (hb:Below w.heap.size w w')=>show zLt w C bs ms T rk G i (.returned (.agg #[.slice a (T i).length c])) w' from ⟨_,G,rfl,by rw [<- ht]; exact hgt,hG.below hb,zH hb _,fun _ _ _ h=>h,fun _ _ _=>rfl,fun _ _ _ h=>yQ h⟩)
   rw [<- ht]
   clear X hm hG hH ih hgt hv hV ht J M hN hR hT hF hA hw d4 r1 r2 h7
   go_enter Tryz.func19,Tryz.ntmps19
   go_wp2_with fail
   refine yK (v:=.agg #[.slice a (T i).length c]) ?res rfl ((zA h9) _ ((zC _ _).alloc (by simp) _))
   case res=>simp [results,Tryz.results19,go_sem]
  | none=>
   rw [hgt] at X
   have V:(Instr.lookup 79 (.map (some bs)) (.string t) true).run Tryz.prog W1 = .ok (.tuple #[.agg #[.slice none 0 0],.bool false]) W1:=X
   rw [J] at V
   have h3:G (atM ms i).n=none:=by rw [<- ht]; exact hgt
   obtain ⟨W2,D⟩:∃ W2,W2=(w.alloc (.cells #[.slice none 0 0] 33)).alloc (.cells #[.slice none 0 0] 33):=⟨_,rfl⟩
   have hQ:Below w.heap.size w W2:=by rw [D]; exact (zC _ _).alloc (by simp) _
   have H3:W2.heap.size=w.heap.size+2:=by rw [D]; simp
   have s1:W2.cell? ⟨w.heap.size,0,none⟩=some (.slice none 0 0):=by rw [D]; simp [go_sem]
   have s2:W2.frozen? ⟨w.heap.size,0,none⟩=false:=by rw [D]; simp [go_sem]
   have O:=hH.keep (zH hQ (some bs))
   have hO:i<vs.length:=by have:=hH.pg.ln; omega
   have HU:=zB (zHe P B C am cm ms.length v1 vs U kv pv ks t i W2 O.pg hi O.nm hf (by rw [ht]; exact hN.idx hi))
   obtain ⟨⟨Hg,F,Hl⟩,hX,R⟩:=O.pg.uns.2 i hO
   obtain ⟨us,E⟩:∃ us,us=(atU U i).us:=⟨_,rfl⟩
   obtain ⟨os,L⟩:∃ os,os=(atU U i).os:=⟨_,rfl⟩
   obtain ⟨au,cu,N,Hh⟩:=Hg
   obtain ⟨ao,co,W,Hn⟩:=id F
   rw [N,W] at HU
   rw [W] at F R
   rw [<- E] at HU N
   rw [<- L] at HU F R W
   have hC:=hH.hC
   have Hv:=hH.hBC
   have Hr:=hH.hbs
   have hM:=zB (show ∀ o∈os,o∈ZS U from fun o ho=>List.mem_flatMap.2 ⟨_,zEq (i:=i) (by have:=hH.pg.uns.1; omega),by rw [<- L]; exact ho⟩)
   have Hq:os.length<=400000:=by
    have h1:∀ (l:List UnR) (u:UnR),u∈l->u.os.length<=(ZS l).length:=by
     intro l
     induction l with
     | nil=>intro u h; cases h
     | cons x r ih=>
      intro u h
      show _<=(x.os++ZS r).length
      rw [ym]
      rcases List.mem_cons.1 h with rfl | h
      ·omega
      ·have:=ih u h; omega
    have:=h1 U _ (zEq (i:=i) (by have:=hH.pg.uns.1; omega))
    rw [<- L] at this
    omega
   obtain ⟨bd,hB⟩:∃ bd,bd=(atV vs i).b:=⟨_,rfl⟩
   rw [<- hB] at HU
   have Z:=zB (fun (w3:JY) (Y:Below W2.heap.size W2 w3)=>show Calls Tryz.prog 38 #[.pointer (some ⟨w3.heap.size+1,0,none⟩),.slice ao os.length co] ((w3.alloc (.cells #[.slice au us.length cu,.slice ao os.length co,.string bd] 41)).alloc (.cells #[.slice none 0 0,.map none] 94)) (fun e w'=>e = .returned (.tuple #[])/\∃ kv0 pv0,ScI w w' (w3.heap.size+1) C bs ms T rk G i U (zV [] os) kv0 pv0 G/\w'.cell? ⟨w3.heap.size,0,none⟩=some (.slice au us.length cu)) from (by
    have Hj:=Y.size
    obtain ⟨W3,z⟩:∃ W3,W3=w3.alloc (.cells #[.slice au us.length cu,.slice ao os.length co,.string bd] 41):=⟨_,rfl⟩
    have hW:W3.heap.size=w3.heap.size+1:=by rw [z]; simp
    have S:Below w3.heap.size w3 W3:=by rw [z]; exact zC _ _
    have ku:W3.cell? ⟨w3.heap.size,0,none⟩=some (.slice au us.length cu):=by rw [z]; simp [go_sem]
    rw [<- z,<- hW]
    have Hb:Below w.heap.size w W3:=(hQ.trans (Y.mono (by omega))).trans (S.mono (by omega))
    refine (zFz W3.heap.size 0 W3.heap.size _ none [] (.slice ao os.length co) os (W3.alloc (.cells #[.slice none 0 0,.map none] 94)) (zCW.new W3 _ _) (fun x hx=>hF x ((zA hM) x hx)) (by simp; omega) (by simp) (((F.below Y).below S).below (zC _ _)) (fun g e=>⟨by have:=R g e; omega,by simp [Value.ownBlock],by simp⟩)).mono ?_
    rintro e w5 ⟨rfl,hp⟩
    have hY:=((Y.cell (p:=⟨w.heap.size,0,none⟩) (by show w.heap.size<W2.heap.size; omega)).trans s1)
    have hU:=((Y.frozen (p:=⟨w.heap.size,0,none⟩) (by show w.heap.size<W2.heap.size; omega)).trans s2)
    have Ho:=hp
    obtain ⟨kv0,pv0,hI,_⟩:=ScI.start (U:=U) (rk:=rk) (i:=i) hG Hb (by omega) ⟨(S.cell (p:=⟨w.heap.size,0,none⟩) (by show w.heap.size<w3.heap.size; omega)).trans hY,(S.frozen (p:=⟨w.heap.size,0,none⟩) (by show w.heap.size<w3.heap.size; omega)).trans hU⟩ (zA hM) hp
    obtain ⟨_,_,_,e7,_,_⟩:=Ho
    refine ⟨rfl,kv0,pv0,hI,?_⟩
    have Hk:Below W3.heap.size W3 w5:=(zC _ _).trans (e7.below (B:=W3.heap.size) (by simp) (yh _) (fun g e=>by simp [Value.ownBlock] at e) (fun g e=>by simp at e))
    exact (Hk.cell (p:=⟨w3.heap.size,0,none⟩) (by show w3.heap.size<W3.heap.size; omega)).trans ku))
   have hJ:=zB (fun (wr:JY) (d:ScH wr B C P bs am cm ms v1 vs U kv pv ks)=>show zq wr (.slice au us.length cu) us from (by
    have:=(d.pg.uns.2 i hO).1.1
    rw [N,<- E] at this
    exact this))
   have Hc:=zB D
   have HH:=zB hH
   have HG:=zB hG
   have hP:=zB h3
   have He:=zB ih
   have HN:=zB hN
   have Ha:=zB (show ∀ u∈us,nmF ms u<ms.length/\rk (nmF ms u)<rk i from fun u hu=>hR.1 i hi u (by rw [<- E]; exact hu))
   have hy:=zB (fun j (hj:j<ms.length)=>hT.sub hR (by have:=hH.pg.uns.1; have:=hH.pg.ln; omega) (rk j+1) j hj (by omega))
   have Hm:=zB (fun j (hj:j<ms.length)=>hT.nd hj)
   have he:=zB (show zCF (nmF ms) T (zV [] os) (us.drop 0)=T i by rw [hT i hi,L,E]; rfl)
   have HF:=zB hF
   have H2:=hH.hne
   have Hp:us.length<=20001:=by rw [E]; exact hw i hi
   rw [<- ht]
   clear X hm hG hH ih hgt ht J M hN hR hT hF hw d4 r1 r2 h7 h3 D O N W Hh Hn E L hB Hl hX F R
   go_enter Tryz.func19,Tryz.ntmps19
   go_wp2_with (first | (go_at_call 37; rw [<- zA Hc]; (with_reducible refine (zA HU).mono ?_); rintro e w3 ⟨rfl,Y⟩; have h5:=zB ((zA Z) w3 Y); have Hj:w.heap.size+2<=w3.heap.size:=(by have:=Y.size; omega); clear Y HU Z) | (go_at_call 38; (with_reducible refine (zA h5).mono ?_); rintro e w5 ⟨rfl,kv0,pv0,hI5,ku5⟩; have hE:=zB hI5; clear hI5 h5))
   go_loopw [32] (fun x wr=>∃ (q:Nat) (H:List OpR) (kv':Value) (pv':Option Nat) (G':ByteArray->Option Value),q<=us.length/\x = .int .i64 (q:Int)/\Hid (ScI w wr (w3.heap.size+1) C bs ms T rk G i U H kv' pv' G')/\Hid (zCF (nmF ms) T H (us.drop q)=T i)) (fun x _=>us.length-(intOf x).toNat)
   case atStart=>exact ⟨0,_,kv0,pv0,G,yj _,rfl,hE,he⟩
   case round=>
    clear hE he ku5
    obtain ⟨q,H,kv',pv',G',hq,rfl,HI,s⟩:=hrel
    obtain ⟨ak,ck,rfl⟩:∃ a c,kv' = .slice a H.length c:=zO (zA HI).qs.row
    have Hx:=(zA HI).len hA
    by_cases Hi:q<us.length
    ·have hz:(q:Int)<(us.length:Int):=by omega
     have q0:=(zA HI).qs.c0
     obtain ⟨u,hu⟩:∃ u,us[q]?=some u:=⟨_,yn Hi⟩
     have d:=(zA HH).keep (zA HI).gr
     obtain ⟨gu,cu',hr,Hy,hl⟩:=((zA hJ) wr d).lt (by omega)
     obtain ⟨rfl,rfl⟩:au=some ⟨gu,0,none⟩/\cu=cu':=by injection hr with x _ y; exact ⟨x,y⟩
     have hc:=hl q u hu
     by_cases ha:500<H.length
     ·have hh:(500:Int)<(H.length:Int):=by omega
      obtain rfl:H=T i:=by have:=zA s; rwa [zNG _ ha] at this
      clear hr hl d hu
      obtain ⟨w9,k,x0,x1,x2,x3,K⟩:=(zA HI).fin (zA HN) hi hn (zA hP) (zA HG) (by omega) hC
      rw [<- zA h8] at k
      have A:=zB K
      have e4:=((zA HH).keep (zA HI).gr).c4
      have hs:P<wr.heap.size:=by omega
      obtain ⟨W8,Q⟩:∃ W8,W8=wr.alloc (.cells #[.slice ak (T i).length ck] 33):=⟨_,rfl⟩
      have y4:W8.cell? ⟨P,4,none⟩=some (.map (some bs)):=by rw [Q]; exact ((zC wr _).cell (p:=⟨P,4,none⟩) hs).trans e4
      have y0:W8.cell? ⟨wr.heap.size,0,none⟩=some (.slice ak (T i).length ck):=by rw [Q]; simp [go_sem]
      rw [<- Q] at k
      have hk:=zB Q
      clear Q K
      go_wp2_with fail
      rw [<- zA hk]
      go_region
      go_wp2_with fail
      refine yK (v:=.agg #[.slice ak (T i).length ck]) ?res rfl (zA A)
      case res=>simp [results,Tryz.results19,go_sem,x0]
     ·have hh:¬ (500:Int)<(H.length:Int):=by omega
      obtain ⟨hj,hD⟩:=(zA Ha) u (yy hu)
      obtain ⟨j,I⟩:∃ j,j=nmF ms u:=⟨_,rfl⟩
      rw [<- I] at hj hD
      have hg:(atM ms j).n=u:=by rw [I]; exact (Z5 ms u).1 (by rw [<- I]; exact hj)
      have HX:=zB ((zA He) j hj (by omega) wr G' d (zA HI).sc)
      rw [hg] at HX
      have Hd:=zB (show zCF (nmF ms) T (zV H (T j)) (us.drop (q+1))=T i by rw [I,<- zQg hu ha]; exact zA s)
      have Hs:=zB hg
      have H0:w3.heap.size+1<wr.heap.size:=(zA HI).qs.lt
      have H1:(T j).length<=1048576-H.length:=by
       have h1:=(zA hy) j hj
       have h2:=zAv (T j) (ZS U) ((zA Hm) j hj) h1
       omega
      clear hr hl d hu hg I s
      go_wp2_with (first | (go_at_call 19; (with_reducible refine (zA HX).mono ?_); rintro e w6 ⟨v,G'',rfl,g1,g2,g3,gp,g4,g5⟩; obtain ⟨v',h4,hd,_⟩:=g2.at' j hj _ g1; have hK:=hd.ops; clear hd; obtain rfl:v=v':=(by simpa using h4); have h0:Apt v (w3.heap.size+1) (.slice ak H.length ck) pv':=((zA HI).dj' (w6:=w6) g5) j hj v g1; have f:=zB (zFz (w3.heap.size+1) 0 (w3.heap.size+1) _ pv' H v (T j) w6 ((zA HI).q6 g3) (fun x hx=>(zA HF) x ((zA hy) j hj x hx)) (by omega) (by have:=g3.size; omega) hK h0); have h6:=zB (fun w7 hp=>(zA HI).step (w7:=w7) hD g2 g3 g4 g5 gp ((zA hy) j hj) hp); obtain ⟨a6,c6,rfl,_⟩:=hK; clear g1 g2 g3 g4 g5 gp h4 h0 HX))
      rw [zNF]
      go_wp2_with (first | (go_at_call 38; (with_reducible refine (zA f).mono ?_); rintro e w7 ⟨rfl,hp7⟩; obtain ⟨kv7,pv7,hS⟩:=(zA h6) w7 hp7; have Hf:=zB hS; clear hS hp7 f h6))
      exact ⟨⟨q+1,_,kv7,pv7,G'',by omega,by go_num,Hf,Hd⟩,by simp [intOf]; omega⟩
    ·have hz:¬ (q:Int)<(us.length:Int):=by omega
     obtain rfl:H=T i:=by have:=zA s; rwa [List.drop_eq_nil_of_le (by omega)] at this
     have q0:=(zA HI).qs.c0
     obtain ⟨w9,k,x0,x1,x2,x3,K⟩:=(zA HI).fin (zA HN) hi hn (zA hP) (zA HG) (by omega) hC
     rw [<- zA h8] at k
     have A:=zB K
     have e4:=((zA HH).keep (zA HI).gr).c4
     have hs:P<wr.heap.size:=by omega
     obtain ⟨W8,Q⟩:∃ W8,W8=wr.alloc (.cells #[.slice ak (T i).length ck] 33):=⟨_,rfl⟩
     have y4:W8.cell? ⟨P,4,none⟩=some (.map (some bs)):=by rw [Q]; exact ((zC wr _).cell (p:=⟨P,4,none⟩) hs).trans e4
     have y0:W8.cell? ⟨wr.heap.size,0,none⟩=some (.slice ak (T i).length ck):=by rw [Q]; simp [go_sem]
     rw [<- Q] at k
     have hk:=zB Q
     clear Q K
     go_wp2_with fail
     rw [<- zA hk]
     go_region
     go_wp2_with fail
     refine yK (v:=.agg #[.slice ak (T i).length ck]) ?res rfl (zA A)
     case res=>simp [results,Tryz.results19,go_sem,x0]
theorem zNH (a:Option Addr) (c:Nat) (w:JY) :
  Calls Tryz.prog 39 #[.slice a 0 c] w fun e w'=>e = .returned (.bool true)/\w'=w:=by
 go_enter Tryz.func39,Tryz.ntmps39
 go_wp2
 go_loop [7] (fun i=>i = .int .i64 0) (fun _=>0)
 case atStart=>rfl
 case round=>
  subst hrel
  go_wp2
  go_ret
  exact ⟨rfl,rfl⟩
theorem zHg (a:Option Addr) (c:Nat) (w:JY) :
  Calls Tryz.prog 20 #[.agg #[.slice a 0 c]] w fun e w'=>(∃ x y,e = .returned (.tuple #[.agg #[.map (some x),.map (some y)],.int .i64 0])/\Idx w' x y [] 0)/\Below w.heap.size w w':=by
 have H:=@run_makeMap Tryz.prog
 go_enter Tryz.func20,Tryz.ntmps20
 go_wp2_with (first | (go_at_call 39; (with_reducible refine (zNH _ _ _).mono ?_); rintro e w1 ⟨rfl,hx⟩; obtain rfl:=hx.symm; clear hx))
 go_loop [24,5] (fun i mx=>i = .int .i64 0/\mx = .bool false) (fun _ _=>0)
 case atStart=>exact ⟨rfl,rfl⟩
 case round=>
  obtain ⟨rfl,rfl⟩:=hrel
  go_wp2
  refine yK (v:=.tuple #[.agg #[.map (some (w.heap.size+1+1)),.map (some (w.heap.size+1+1+1))],.int .i64 0]) ?res rfl ⟨⟨_,_,rfl,?ix⟩,((((zC _ _).alloc (by first | (simp; done) | (simp; omega)) _).alloc (by first | (simp; done) | (simp; omega)) _).alloc (by first | (simp; done) | (simp; omega)) _).alloc (by first | (simp; done) | (simp; omega)) _⟩
  case res=>simp [results,Tryz.results20,go_sem]
  case ix=>
   have h:=Idx.start ((w.alloc (.cells #[.slice a 0 c] 33)).alloc (.cells #[.map (some (w.heap.size+1+1)),.map (some (w.heap.size+1+1+1))] 61)) [] (.cells #[.map (some (w.heap.size+1+1)),.map (some (w.heap.size+1+1+1))] 61)
   simpa using h
theorem zJU (b h cap:Nat) (xs:List OpR) (w:JY) (hm:xs.length<=1048576) (hw:Ops w b h xs) (hs:Zg xs) (hB:b<w.heap.size) :
  Calls Tryz.prog 8 #[.agg #[.slice (some ⟨b,h,none⟩) xs.length cap]] w fun e w'=>(∃ c,e = .returned (.int .i64 c)/\zR xs c)/\Below w.heap.size w w':=by
 go_enter Tryz.func8,Tryz.ntmps8
 go_wp2_with fail
 refine (zHT b h cap xs _ hm (hw.below (zC _ _) hB) hs (by simp; omega)).mono ?_
 rintro e w1 ⟨⟨x,y,c,rfl,hc,_⟩,hb1⟩
 have HC:=zB hc
 clear hc
 go_wp2_with fail
 go_ret
 exact ⟨⟨c,rfl,zA HC⟩,((zC _ _).trans (hb1.mono (by simp))).alloc (by have:=hb1.size; simp at this; omega) _⟩
theorem zKw (a:Option Addr) (cap:Nat) (w:JY) :
  Calls Tryz.prog 8 #[.agg #[.slice a 0 cap]] w fun e w'=>e = .returned (.int .i64 0)/\Below w.heap.size w w':=by
 go_enter Tryz.func8,Tryz.ntmps8
 go_wp2_with fail
 refine (zHg a cap _).mono ?_
 rintro e w1 ⟨⟨x,y,rfl,_⟩,hb1⟩
 go_wp2_with fail
 go_ret
 exact ⟨rfl,((zC _ _).trans (hb1.mono (by simp))).alloc (by have:=hb1.size; simp at this; omega) _⟩
theorem zHh (v:Value) (xs:List OpR) (w:JY) (hm:xs.length<=1048576) (hw:zt w v xs) (hs:Zg xs) :
  Calls Tryz.prog 8 #[.agg #[v]] w fun e w'=>(∃ c,e = .returned (.int .i64 c)/\zR xs c)/\Below w.heap.size w w':=by
 obtain ⟨a,c,rfl,⟨h0,_,_⟩ | ⟨g,rfl,hg,ho⟩⟩:=hw
 ·obtain rfl:=yY.1 h0
  refine (zKw a c w).mono ?_
  rintro e w1 ⟨rfl,hb⟩
  exact ⟨⟨0,rfl,zKR⟩,hb⟩
 ·exact zJU g 0 c xs w hm ho hs hg
def zRl (w:JY) (C bs:Nat) (ms:List zF) (T:Nat->List OpR) (i:Nat) (e:Ending) (w':JY):Prop:=
 zBs e (zR (T i) 0)/\w.grownBy w' (some bs)/\∃ G',ScM w' C bs ms T G'
theorem zJV (B C P bs:Nat) (am:Option Addr) (cm:Nat) (ms:List zF) (v1:Value) (vs:List UvR) (U:List UnR) (kv:Value) (pv:Option Nat) (ks:List JZ) (T:Nat->List OpR) (rk:Nat->Nat) (hn:ms.length<=100) (hN:zBR ms ks) (hR:RkE ms.length (nmF ms) U rk) (hT:BrE ms.length (nmF ms) U T) (hA:(ZS U).length<=400000) (hF:∀ o∈ZS U,zC6 o) (x:∀ i,i<ms.length->(atU U i).us.length<=20001)
  (i:Nat) (hi:i<ms.length) (w:JY) (G:ByteArray->Option Value) (hM:zEJ w am ms) (hH:ScH w B C P bs am cm ms v1 vs U kv pv ks) (hG:ScM w C bs ms T G) :
  Calls Tryz.prog 36 #[.pointer (some ⟨P,0,none⟩),.int .i64 (i:Int)] w (zRl w C bs ms T i):=by
 have c0:=hH.pg.c0
 have b:(i:Int)<(ms.length:Int):=by omega
 rcases hM with hM | ⟨bA,A,rfl,K,a⟩
 ·omega
 obtain ⟨m0,m1⟩:=K i hi
 have HX:=zB (zF0 B C P bs _ cm ms v1 vs U kv pv ks T rk hn hN hR hT hA hF x (rk i+1) i hi (by omega) w G hH hG)
 have H:=hT.sub hR (by have:=hH.pg.uns.1; have:=hH.pg.ln; omega) (rk i+1) i hi (by omega)
 have p:=zB (show (T i).length<=1048576 from (by have:=zAv (T i) (ZS U) (hT.nd hi) H; omega))
 have Y:=zB (show Zg (T i) from fun q hq=>(hF _ (H _ (zMK hq))).1)
 clear K hH hG hN hR hT hF x H
 go_enter Tryz.func36,Tryz.ntmps36
 go_wp2_with (first | (go_at_call 19; (with_reducible refine (zA HX).mono ?_); rintro e w6 ⟨v,G',rfl,g1,g2,g3,gp,g4,g5⟩; obtain ⟨v',y,k,_⟩:=g2.at' i hi _ g1; obtain rfl:v=v':=(by simpa using y); have Q:=k.ops; clear k; have X:=zB (zHh v (T i) w6 (zA p) Q (zA Y)); have u:=zB g2; have j:=zB g3; clear g1 g2 g3 g4 g5 gp Q y HX) | (go_at_call 8; (with_reducible refine (zA X).mono ?_); rintro e w7 ⟨⟨c,rfl,hc⟩,hb7⟩; have HC:=zB hc; have V:=zB hb7; clear hc hb7 X))
 go_ret
 have g6:=zA j
 have b7:=zA V
 have hz:=g6.size
 refine ⟨⟨c==0,rfl,?_⟩,⟨b7.os.trans g6.os,b7.tape.trans g6.tape,b7.output.trans g6.output,yr hz b7.size,fun q hq J=>(b7.block q (by omega)).trans (g6.block q hq J)⟩,G',(zA u).below b7⟩
 unfold zDx
 constructor
 ·intro h
  have e:c=0:=by simpa using h
  rw [<- e]; exact zA HC
 ·intro h
  have e:=zAD (zA HC) h
  simp [e]
structure KpP (P:Nat) (v1:Value) (w w':JY):Prop where
 os:w'.os=w.os
 tape:w'.tape=w.tape
 output:w'.output=w.output
 size:w.heap.size<=w'.heap.size
 blk:∀ q,q<w.heap.size->q≠P->v1.ownBlock≠some q->w'.heap[q]?=w.heap[q]?
 cel:∀ o,o≠1->w'.cell? ⟨P,o,none⟩=w.cell? ⟨P,o,none⟩/\w'.frozen? ⟨P,o,none⟩=w.frozen? ⟨P,o,none⟩
def zLu (w:JY) (H B P bs:Nat) (am:Option Addr) (cm:Nat) (ms:List zF) (v1:Value) (vs:List UvR) (U:List UnR) (k:Nat) (e:Ending) (w':JY):Prop:=
 zBs e (¬ B2 ms k)/\KpP P v1 w w'/\∃ x us os b c l v4,zy (atM ms k).t us os b c l/\PgA w' B P bs am cm ms.length v4 (vs++[x]) (U++[⟨dst us,os,b⟩])/\ZJ w.heap.size v1.ownBlock v4.ownBlock
theorem zQw {ms:List zF} {k:Nat} {os:List OpR} {b:JZ} {c l:Int} (h:zy (atM ms k).t us os b c l) (hc:c=0) (h1:(atM ms k).n.size<=64) (h2:zA2 (atM ms k).n):¬ B2 ms k:=by
 rintro (⟨us',os',b',c',l',h',hc'⟩ | h' | h')
 ·exact hc' ((zy.one h h').2.2.2.1 ▸ hc)
 ·exact h' h2
 ·omega
theorem PgA.below {w w':JY} {B P bs:Nat} {am:Option Addr} {cm n:Nat} {v1:Value} {vs:List UvR} {U:List UnR} (h:PgA w B P bs am cm n v1 vs U) (hb:Below w.heap.size w w'):PgA w' B P bs am cm n v1 vs U:=by
 have hl:=h.lt
 have kc:=fun q=>hb.cell (p:=⟨P,q,none⟩) hl
 refine ⟨h.hP,h.hbs,h.hne,(kc 0).trans h.c0,(kc 1).trans h.c1,(kc 2).trans h.c2,(kc 3).trans h.c3,(kc 4).trans h.c4,fun o=>(hb.frozen (p:=⟨P,o,none⟩) hl).trans (h.fz o),h.row.below hb,⟨h.uns.1,fun i hi=>?_⟩,h.lo,h.sm.kept (zH hb none) (by simp)⟩
 obtain ⟨⟨q1,q2,q3⟩,q4,q5⟩:=h.uns.2 i hi
 have hz:=hb.size
 exact ⟨⟨q1.below hb,q2.below hb,q3⟩,fun g e=>⟨(q4 g e).1,by have:=(q4 g e).2; omega⟩,fun g e=>⟨(q5 g e).1,by have:=(q5 g e).2; omega⟩⟩
theorem zRm {w W3 w4:JY} {H B P bs:Nat} {am:Option Addr} {cm n g4 c4:Nat} {v1:Value} {vs:List UvR} {U:List UnR} {x:UvR} {os:List OpR} {b nm:JZ} {ob:Obj} (h:PgA w B P bs am cm n v1 vs U) (hB:B<=w.heap.size) (hH:H<=P) (hb:Below w.heap.size w W3)
  (h1:zq W3 x.vu us) (h2:zt W3 x.vo os) (h3:x.b=b) (hu:∀ g,x.vu.ownBlock=some g->w.heap.size<=g/\g<W3.heap.size) (ho:∀ g,x.vo.ownBlock=some g->w.heap.size<=g/\g<W3.heap.size) (hn:W3.cell? ⟨w.heap.size,0,none⟩=some (.string nm))
  (Q:w4.ownsRow B 41 3 (.slice (some ⟨g4,0,none⟩) (vs.length+1) c4) (vs.length+1) (Ze vs++Ze [x])) (hg:(W3.alloc ob).drew.grownBy w4 v1.ownBlock) (X:v1.ownBlock=some g4\/g4=(W3.alloc ob).drew.heap.size) :
  PgA (w4.setCell ⟨P,1,none⟩ (.slice (some ⟨g4,0,none⟩) (vs.length+1) c4)) B P bs am cm n (.slice (some ⟨g4,0,none⟩) (vs.length+1) c4) (vs++[x]) (U++[⟨us,os,b⟩])/\KpP P v1 w (w4.setCell ⟨P,1,none⟩ (.slice (some ⟨g4,0,none⟩) (vs.length+1) c4))/\(w4.setCell ⟨P,1,none⟩ (.slice (some ⟨g4,0,none⟩) (vs.length+1) c4)).cell? ⟨w.heap.size,0,none⟩=some (.string nm)/\ZJ w.heap.size v1.ownBlock (some g4):=by
 have K:Below W3.heap.size W3 (W3.alloc ob).drew:=(zC _ _).drew
 have k:Below w.heap.size w (W3.alloc ob).drew:=hb.trans (K.mono hb.size)
 have hz:(W3.alloc ob).drew.heap.size=W3.heap.size+1:=by simp
 have V:=hb.size
 have J:=h.lt
 have v:=h.hP
 have Y:w.heap.size<W3.heap.size:=World.block_lt_of_cell? _ _ hn
 have hr:zA9 w4 B (.slice (some ⟨g4,0,none⟩) (vs.length+1) c4) (vs++[x]):=by
  unfold zA9
  rw [zD4,ym]
  exact Q
 refine ⟨h.step hB k (h1.below K) (h2.below K) h3 (fun g e=>?_) (fun g e=>?_) hg hr (X.imp (fun e=>e.symm) (fun e=>⟨g4,rfl,by omega⟩)),?_,?_,X.imp (fun e=>e.symm) (fun e=>⟨g4,rfl,by omega⟩)⟩
 ·have:=hu g e; omega
 ·have:=ho g e; omega
 ·have u:=hg.size
  refine ⟨hg.os.trans k.os,hg.tape.trans k.tape,hg.output.trans k.output,by simp [World.setCell]; omega,fun q hq j hv=>?_,fun o ho=>?_⟩
  ·rw [yZ _ _ _ _ (by simpa using j)]
   exact (hg.block q (by omega) (fun e=>hv e.symm)).trans (k.block q (by omega))
  ·have y:=(hg.block P (by omega) (fun e=>by have:=(h.row.lt P e.symm).1; omega)).trans (k.block P (by omega))
   exact ⟨(yg _ _ _ _ (by intro x; injection x with _ x; omega)).trans (yp (w:=w) y),(yq _ _ _ _).trans (yA (w:=w) y)⟩
 ·refine (yg _ _ _ _ (by intro x; injection x with x; omega)).trans ((zE hg (b:=w.heap.size) (by omega) (fun e=>by have:=(h.row.lt _ e).2; omega) 0).trans ((K.cell (p:=⟨w.heap.size,0,none⟩) Y).trans hn))
theorem zHv (H B P bs:Nat) (am:Option Addr) (cm:Nat) (ms:List zF) (v1:Value) (vs:List UvR) (U:List UnR) (k:Nat) (w:JY) (h:PgA w B P bs am cm ms.length v1 vs U) (hB:B<=w.heap.size) (hH:H<=P) (hM:zEJ w am ms) (hk:k<ms.length) (hO:vs.length<=1048576) (hs:(atM ms k).t.size<=maxLen) (hl:(atM ms k).n.size<=maxLen) (o:zFa w) :
  Calls Tryz.prog 32 #[.pointer (some ⟨P,0,none⟩),.int .i64 (k:Int)] w (zLu w H B P bs am cm ms v1 vs U k):=by
 have h6:=h.lt
 have hN:=h.hP
 have c0:=h.c0
 have hI:(k:Int)<(ms.length:Int):=by omega
 rcases hM with hM | ⟨bA,h2,rfl,he,hG⟩
 ·omega
 obtain ⟨m0,m1⟩:=he k hk
 obtain ⟨i0,hy,R,hp,hq⟩:=zN zOG
 have HI:=zB hy
 have HZ:=zB (yH R (yH hp hq))
 clear hy R hp hq
 obtain ⟨s,ho⟩:∃ s,s=(atM ms k).t:=⟨_,rfl⟩
 obtain ⟨nm,hi⟩:∃ nm,nm=(atM ms k).n:=⟨_,rfl⟩
 rw [<- ho] at m1 hs
 rw [<- hi] at m0 hl
 have hb:=zB ho
 have D:=zB hi
 obtain ⟨a1,c1,rfl⟩:∃ a c,v1 = .slice a vs.length c:=zO h.row
 have m:=zB h
 have d1:=h.c1
 have hF:=zB o
 obtain ⟨W0,O⟩:∃ W0,W0=w.alloc (.cells #[.string nm,.string s] 29):=⟨_,rfl⟩
 have hn:Below w.heap.size w W0:=by rw [O]; exact zC _ _
 have R:W0.heap.size=w.heap.size+1:=by rw [O]; simp
 have n0:W0.cell? ⟨w.heap.size,0,none⟩=some (.string nm):=by rw [O]; simp [go_sem]
 have HU:=zB (zFb s W0 hs (o.below hn))
 have h8:=zB O
 have hA:=zB hn
 have hc:=zB R
 clear h ho hi he o O hn R
 go_enter Tryz.func32,Tryz.ntmps32
 go_wp2_with (first | (go_at_call 60; rw [<- zA h8]; (with_reducible refine (zA HU).mono ?_); rintro e w1 ⟨vu,vo,us,os,b,cc,l,rfl,hui,hru,hro,huo,hul,hol,hb1⟩; have ha:=zB hui; have hp:w.heap.size+1<=w1.heap.size:=(by have:=hb1.size; rw [zA hc] at this; exact this); have h9:=zB hb1; obtain ⟨au,cu,rfl⟩:∃ a c,vu = .slice a us.length c:=zO hru; obtain ⟨ao,co,rfl⟩:∃ a c,vo = .slice a os.length c:=zO hro; have hh:=zB hro; have HX:=zB (zJQ (.slice au us.length cu) us (w1.alloc (.cells #[.slice au us.length cu,.slice ao os.length co,.string b] 41)) (fun x hx=>(by have:=(zCc hui).2 x hx; unfold maxLen; omega)) (by omega) (hru.strs.below (zC _ _)) (fun g e=>(by have:=(hru.lt g e).2; simp; omega))); have n1:w1.cell? ⟨w.heap.size,0,none⟩=some (.string nm):=(hb1.cell (p:=⟨w.heap.size,0,none⟩) (by show w.heap.size<W0.heap.size; rw [zA hc]; omega)).trans n0; clear hui hru hro huo hb1 HU n0) | (go_at_call 61; (with_reducible refine (zA HX).mono ?_); rintro e w2 ⟨vd,rfl,hrd,hb2⟩; have hg:=zB hb2; have hq:w1.heap.size+1<=w2.heap.size:=(by have:=hb2.size; simpa using this); have n2:w2.cell? ⟨w.heap.size,0,none⟩=some (.string nm):=(hb2.cell (p:=⟨w.heap.size,0,none⟩) (by simp; omega)).trans (((zC w1 _).cell (p:=⟨w.heap.size,0,none⟩) (by show w.heap.size<w1.heap.size; omega)).trans n1); obtain ⟨ad,cd,rfl⟩:∃ a c,vd = .slice a (dst us).length c:=zO hrd; have hd:=zB hrd; have x0:w2.cell? ⟨w1.heap.size,0,none⟩=some (.slice au us.length cu):=(hb2.cell (p:=⟨w1.heap.size,0,none⟩) (by simp)).trans (by simp [go_sem]); have x1:w2.cell? ⟨w1.heap.size,1,none⟩=some (.slice ao os.length co):=(hb2.cell (p:=⟨w1.heap.size,1,none⟩) (by simp)).trans (by simp [go_sem]); have x2:w2.cell? ⟨w1.heap.size,2,none⟩=some (.string b):=(hb2.cell (p:=⟨w1.heap.size,2,none⟩) (by simp)).trans (by simp [go_sem]); have xf:w2.frozen? ⟨w1.heap.size,0,none⟩=false:=(hb2.frozen (p:=⟨w1.heap.size,0,none⟩) (by simp)).trans (by simp [go_sem]); clear HX hb2 hrd n1))
 obtain ⟨X,hX⟩:∃ X,X=w1.heap.size:=⟨_,rfl⟩
 obtain ⟨W3,V⟩:∃ W3,W3=w2.setCell ⟨w1.heap.size,0,none⟩ (.slice ad (dst us).length cd):=⟨_,rfl⟩
 have hC:W3.heap.size=w2.heap.size:=by rw [V]; simp [World.setCell]
 have Z:Below w.heap.size w W3:=by
  rw [V]
  refine Below.setCell (p:=⟨w1.heap.size,0,none⟩) ?_ (by show w.heap.size<=w1.heap.size; omega) _
  exact ((zA hA).trans ((zA h9).mono (by rw [zA hc]; omega))).trans (((zC _ _).mono (by omega)).trans ((zA hg).mono (by simp; omega)))
 have y0:W3.cell? ⟨X,0,none⟩=some (.slice ad (dst us).length cd):=by rw [V,hX]; exact yo _ _ _ x0
 have y1:W3.cell? ⟨X,1,none⟩=some (.slice ao os.length co):=by rw [V,hX]; exact (yg _ _ _ _ (by simp)).trans x1
 have y2:W3.cell? ⟨X,2,none⟩=some (.string b):=by rw [V,hX]; exact (yg _ _ _ _ (by simp)).trans x2
 have n3:W3.cell? ⟨w.heap.size,0,none⟩=some (.string nm):=by rw [V]; exact (yg _ _ _ _ (by intro x; injection x with x; omega)).trans n2
 have p3:W3.cell? ⟨P,1,none⟩=some (.slice a1 vs.length c1):=(Z.cell (p:=⟨P,1,none⟩) h6).trans d1
 have sg:w2.grownBy W3 (some w1.heap.size):=by rw [V]; exact zf _ _ _ _
 have h0:zq W3 (.slice ad (dst us).length cd) (dst us):=(zA hd).strs.grown sg (fun g e x=>by injection x with x; have:=((zA hd).lt g e).1; simp at this; omega)
 have hz:zt W3 (.slice ao os.length co) os:=(((zA hh).ops.below (zC _ _)).below (zA hg)).grown sg (fun g e x=>by injection x with x; have:=((zA hh).lt g e).2; omega)
 have h4:∀ g,(Value.slice ad (dst us).length cd).ownBlock=some g->w.heap.size<=g/\g<W3.heap.size:=fun g e=>by have:=(zA hd).lt g e; simp at this; omega
 have hf:∀ g,(Value.slice ao os.length co).ownBlock=some g->w.heap.size<=g/\g<W3.heap.size:=fun g e=>by have:=(zA hh).lt g e; rw [zA hc] at this; omega
 have ht:X<W3.heap.size:=by omega
 have L:X≠P:=by omega
 have hJ:w.heap.size<X:=by omega
 have G:=zB (fun (w4:JY) (g4 c4:Nat) (ob:Obj)=>zRm (ob:=ob) (x:=⟨.slice ad (dst us).length cd,.slice ao os.length co,b⟩) (w4:=w4) (g4:=g4) (c4:=c4) (zA m) hB hH Z h0 hz rfl h4 hf n3)
 have h5:=zB ((zA m).row.below Z)
 have hD:=zB (show ∀ i,i<w.heap.size+1->B<=i\/i<B->True from fun _ _ _=>trivial)
 have h3:(Value.slice a1 vs.length c1).ownBlock≠some P:=fun e=>by have:=((zA m).row.lt P e).1; omega
 have h1:(Value.slice a1 vs.length c1).ownBlock≠some X:=fun e=>by have:=((zA m).row.lt X e).2; omega
 have I:=zB (yH h3 h1)
 have pf:=(Z.frozen (p:=⟨P,1,none⟩) h6).trans ((zA m).fz 1)
 rw [<- V,<- hX]
 have N:P<W3.heap.size:=by omega
 have hE:=zB (show (dst us).length<=20001 from (by have:=zFN us []; simp at this; unfold dst; omega))
 clear hX V x0 x1 x2 xf n2 Z sg h0 hz h4 hf hd hg hD h3 h1 d1 c0 m0 m1 hC
 have k6:∀ o',(W3.alloc o').drew.cell? ⟨P,1,none⟩=some (.slice a1 vs.length c1):=fun o'=>((zC W3 o').cell (p:=⟨P,1,none⟩) N).trans p3
 have J:(fun W:World=>W.cell? ⟨X,0,none⟩=some (.slice ad (dst us).length cd)/\W.cell? ⟨X,1,none⟩=some (.slice ao os.length co)/\W.cell? ⟨X,2,none⟩=some (.string b)) W3.drew:=⟨y0,y1,y2⟩
 have Y:=zB (show (fun W:World=>W.cell? ⟨X,0,none⟩=some (.slice ad (dst us).length cd)/\W.cell? ⟨X,1,none⟩=some (.slice ao os.length co)/\W.cell? ⟨X,2,none⟩=some (.string b)) (W3.alloc (.cells #[.slice ad (dst us).length cd,.slice ao os.length co,.string b] 41)).drew from ⟨((zC W3 _).cell (p:=⟨X,0,none⟩) ht).trans y0,((zC W3 _).cell (p:=⟨X,1,none⟩) ht).trans y1,((zC W3 _).cell (p:=⟨X,2,none⟩) ht).trans y2⟩)
 refine wp_region_held_drew (S:=fun W:World=>W.cell? ⟨X,0,none⟩=some (.slice ad (dst us).length cd)/\W.cell? ⟨X,1,none⟩=some (.slice ao os.length co)/\W.cell? ⟨X,2,none⟩=some (.string b)) (by kernel_rfl) J (fun _=>?_)
 refine yI (i:=0) (v:=?_) rfl (by kernel_rfl) (by kernel_rfl) (by kernel_rfl) (fun _ _ _ h=>h) (yQ ⟨by rfl,?_⟩) J ?_
 rotate_left
 ·intro W hW; obtain ⟨s0,s1,s2⟩:=hW; simp only [yc,ya,yb]; go_simp; first | done | (with_reducible rfl)
 simp only [yc,ya,yb]
 simp only [Act.put,yd,ye,yf]
 refine yI (i:=1) (v:=?_) rfl (by kernel_rfl) (by kernel_rfl) (by kernel_rfl) (fun _ _ _ h=>h) (yQ ⟨by rfl,?_⟩) J ?_
 rotate_left
 ·intro W hW; obtain ⟨s0,s1,s2⟩:=hW; simp only [yc,ya,yb]; go_simp; first | done | (with_reducible rfl)
 simp only [yc,ya,yb]
 simp only [Act.put,yd,ye,yf]
 refine yI (i:=2) (v:=?_) rfl (by kernel_rfl) (by kernel_rfl) (by kernel_rfl) (fun _ _ _ h=>h) (yQ ⟨by rfl,?_⟩) J ?_
 rotate_left
 ·intro W hW; obtain ⟨s0,s1,s2⟩:=hW; simp only [yc,ya,yb]; go_simp; first | done | (with_reducible rfl)
 simp only [yc,ya,yb]
 simp only [Act.put,yd,ye,yf]
 refine yI (i:=3) (v:=?_) rfl (by kernel_rfl) (by kernel_rfl) (by kernel_rfl) (fun _ _ _ h=>h) (yQ ⟨by rfl,?_⟩) J ?_
 rotate_left
 ·intro W hW; obtain ⟨s0,s1,s2⟩:=hW; simp only [yc,ya,yb]; go_simp; first | done | (with_reducible rfl)
 simp only [yc,ya,yb]
 simp only [Act.put,yd,ye,yf]
 refine yI (i:=5) (v:=?_) rfl (by kernel_rfl) (by kernel_rfl) (by kernel_rfl) (fun _ _ _ h=>h) (yQ ⟨by rfl,?_⟩) J ?_
 rotate_left
 ·intro W hW; obtain ⟨s0,s1,s2⟩:=hW; simp only [yc,ya,yb]; go_simp; first | done | (with_reducible rfl)
 simp only [yc,ya,yb]
 simp only [Act.put,yd,ye,yf]
 refine yL (rs:=[4,6]) (by kernel_rfl) (by simp) ?_
 refine yE rfl (fun K hK=>?_) (yE rfl (fun K hK=>?_) yF)
 ·simp only [yc,ya,yb]
  go_simp
  refine hK.out _ _ J (fun _=>?_)
  clear hK
  refine yL (rs:=[6]) (by kernel_rfl) (by simp) ?_
  refine yE rfl (fun K hK=>?_) yF
  simp only [yc,ya,yb]
  go_simp
  refine hK.out _ _ (zA Y) (fun _=>?_)
  clear hK
  refine yL (rs:=[7]) (by kernel_rfl) (by simp) ?_
  refine yE rfl (fun K hK=>?_) yF
  refine step_append_lies _ (by rfl) (.tmp 31) (.tmp 33) 46 (by rfl) B 41 i0 _ 3 64 Tryz.underlying46 (zA HI) (zA HZ).1 (zA HZ).2.1 (zA HZ).2.2 rfl (by decide) _ vs.length (Ze vs) (by rfl) ((zA h5).below ((zC _ _).drew)) ⟨W3.heap.size,0,none⟩ 1 1 (Ze [⟨.slice ad (dst us).length cd,.slice ao os.length co,b⟩]) (by rfl) rfl (fun j u hj=>(by simpa using zFP W3 ⟨.slice ad (dst us).length cd,.slice ao os.length co,b⟩ j u hj)) (fun u hu=>by simp [Ze] at hu; rcases hu with rfl | rfl | rfl <;> rfl) (by decide) (by unfold maxLen; omega) (by omega) (by simp; omega) _ rfl ?_
  intro g4 c4 w4 Q q C T
  have m2:w4.cell? ⟨P,1,none⟩=some (.slice a1 vs.length c1):=(zE q (b:=P) (by simp; omega) (zA I).1 1).trans (k6 _)
  have m3:w4.frozen? ⟨P,1,none⟩=false:=(zv q (b:=P) (by simp; omega) (zA I).1 1).trans (((zC W3 _).frozen (p:=⟨P,1,none⟩) N).trans pf)
  have ec:=fun j=>zE q (b:=X) (by simp; omega) (zA I).2 j
  have e0:w4.cell? ⟨X,0,none⟩=some (.slice ad (dst us).length cd):=(ec 0).trans (zA Y).1
  have e1:w4.cell? ⟨X,1,none⟩=some (.slice ao os.length co):=(ec 1).trans (zA Y).2.1
  have e2:w4.cell? ⟨X,2,none⟩=some (.string b):=(ec 2).trans (zA Y).2.2
  have M:=zB ((zA G) _ _ _ _ Q q C)
  clear Q q C T ec
  refine hK.out _ _ ⟨e0,e1,e2⟩ (fun f=>?_)
  clear hK
  simp only [yc,ya,yb]
  simp only [Act.put,yd,ye,yf]
  refine yI (i:=8) (v:=?_) rfl (by kernel_rfl) (by kernel_rfl) (by kernel_rfl) (fun _ _ _ h=>h) (yQ ⟨by rfl,?_⟩) f ?_
  rotate_left
  ·intro W hW; obtain ⟨s0,s1,s2⟩:=hW; simp only [yc,ya,yb]; go_simp; first | done | (with_reducible rfl)
  simp only [yc,ya,yb]
  simp only [Act.put,yd,ye,yf]
  refine yI (i:=9) (v:=?_) rfl (by kernel_rfl) (by kernel_rfl) (by kernel_rfl) (fun _ _ _ h=>h) (yQ ⟨by rfl,?_⟩) f ?_
  rotate_left
  ·intro W hW; obtain ⟨s0,s1,s2⟩:=hW; simp only [yc,ya,yb]; go_simp; first | done | (with_reducible rfl)
  simp only [yc,ya,yb]
  simp only [Act.put,yd,ye,yf]
  refine yL (rs:=[10]) (by kernel_rfl) (by simp) ?_
  refine yE rfl (fun K hK=>?_) yF
  simp only [yc,ya,yb]
  go_simp
  refine hK.out _ _ ⟨by rw [yg _ _ _ _ (by simp [L])]; exact e0,by rw [yg _ _ _ _ (by simp [L])]; exact e1,by rw [yg _ _ _ _ (by simp [L])]; exact e2⟩ (fun hm=>?_)
  clear hK
  refine wpAnyH_done (by kernel_rfl) ?_ _
  clear f hm
  obtain ⟨f1,f2,f3,f4⟩:=zA M
  obtain ⟨w5,F⟩:∃ w5,w5=w4.setCell ⟨P,1,none⟩ (.slice (some ⟨g4,0,none⟩) (vs.length+1) c4):=⟨_,rfl⟩
  rw [<- F] at f1 f2 f3
  rw [<- F]
  have y:=zB (fun (e:Ending) (hr:zBs e (¬ B2 ms k))=>show zLu w H B P bs (some ⟨bA,h2,none⟩) cm ms (.slice a1 vs.length c1) vs U k e w5 from ⟨hr,f2,_,us,os,b,cc,l,_,by rw [<- zA hb]; exact zA ha,f1,f4⟩)
  have d:=zB (show zy (atM ms k).t us os b cc l by rw [<- zA hb]; exact zA ha)
  have r:=zB (show Calls Tryz.prog 62 #[.int .i64 3,.string nm] w5 fun e w'=>zBs e (zD3 3 nm)/\w'=w5 from zEL 3 nm w5 hl)
  clear f1 f2 f4 F M G J Y k6 e0 e1 e2 m2 m3 y0 y1 y2 p3 n3 pf
  by_cases A:cc=0
  ·subst A
   by_cases hw:nm.size<=64
   ·have z:(nm.size:Int)<=64:=by omega
    go_wp2_with (first | (go_at_call 62; (with_reducible refine (zA r).mono ?_); rintro e w6 ⟨⟨v,rfl,hv⟩,hx⟩; obtain rfl:=hx.symm; have HV:=zB hv; clear hv hx))
    go_ret
    refine (zA y) _ ⟨v,rfl,?_⟩
    have hv:=zA HV
    unfold zDx at hv ⊢
    rw [hv,zMP]
    exact ⟨fun h=>zQw (zA d) rfl (by rw [<- zA D]; exact hw) (by rw [<- zA D]; exact h),fun h=>by by_cases x:zA2 nm; exact x; exact yP (yR (yQ (by rw [<- zA D]; exact x))) h⟩
   ·have z:¬ (nm.size:Int)<=64:=by omega
    have E:=zB (show B2 ms k from yR (yR (by rw [<- zA D]; omega)))
    go_wp2_with fail
    go_ret
    exact (zA y) _ ⟨false,rfl,zc (fun h=>h (zA E))⟩
  ·have h7:(cc==0)=false:=by simpa using A
   have E:=zB (show B2 ms k from yQ ⟨us,os,b,cc,l,zA d,A⟩)
   clear A
   go_wp2_with fail
   go_ret
   exact (zA y) _ ⟨false,rfl,zc (fun h=>h (zA E))⟩
 ·simp only [yc,ya,yb]
  go_simp
  refine hK.out _ _ (zA Y) (fun _=>?_)
  clear hK
  refine yL (rs:=[4]) (by kernel_rfl) (by simp) ?_
  refine yE rfl (fun K hK=>?_) yF
  simp only [yc,ya,yb]
  go_simp
  refine hK.out _ _ (zA Y) (fun _=>?_)
  clear hK
  refine yL (rs:=[7]) (by kernel_rfl) (by simp) ?_
  refine yE rfl (fun K hK=>?_) yF
  refine step_append_lies _ (by rfl) (.tmp 31) (.tmp 33) 46 (by rfl) B 41 i0 _ 3 64 Tryz.underlying46 (zA HI) (zA HZ).1 (zA HZ).2.1 (zA HZ).2.2 rfl (by decide) _ vs.length (Ze vs) (by rfl) ((zA h5).below ((zC _ _).drew)) ⟨W3.heap.size,0,none⟩ 1 1 (Ze [⟨.slice ad (dst us).length cd,.slice ao os.length co,b⟩]) (by rfl) rfl (fun j u hj=>(by simpa using zFP W3 ⟨.slice ad (dst us).length cd,.slice ao os.length co,b⟩ j u hj)) (fun u hu=>by simp [Ze] at hu; rcases hu with rfl | rfl | rfl <;> rfl) (by decide) (by unfold maxLen; omega) (by omega) (by simp; omega) _ rfl ?_
  intro g4 c4 w4 Q q C T
  have m2:w4.cell? ⟨P,1,none⟩=some (.slice a1 vs.length c1):=(zE q (b:=P) (by simp; omega) (zA I).1 1).trans (k6 _)
  have m3:w4.frozen? ⟨P,1,none⟩=false:=(zv q (b:=P) (by simp; omega) (zA I).1 1).trans (((zC W3 _).frozen (p:=⟨P,1,none⟩) N).trans pf)
  have ec:=fun j=>zE q (b:=X) (by simp; omega) (zA I).2 j
  have e0:w4.cell? ⟨X,0,none⟩=some (.slice ad (dst us).length cd):=(ec 0).trans (zA Y).1
  have e1:w4.cell? ⟨X,1,none⟩=some (.slice ao os.length co):=(ec 1).trans (zA Y).2.1
  have e2:w4.cell? ⟨X,2,none⟩=some (.string b):=(ec 2).trans (zA Y).2.2
  have M:=zB ((zA G) _ _ _ _ Q q C)
  clear Q q C T ec
  refine hK.out _ _ ⟨e0,e1,e2⟩ (fun f=>?_)
  clear hK
  simp only [yc,ya,yb]
  simp only [Act.put,yd,ye,yf]
  refine yI (i:=8) (v:=?_) rfl (by kernel_rfl) (by kernel_rfl) (by kernel_rfl) (fun _ _ _ h=>h) (yQ ⟨by rfl,?_⟩) f ?_
  rotate_left
  ·intro W hW; obtain ⟨s0,s1,s2⟩:=hW; simp only [yc,ya,yb]; go_simp; first | done | (with_reducible rfl)
  simp only [yc,ya,yb]
  simp only [Act.put,yd,ye,yf]
  refine yI (i:=9) (v:=?_) rfl (by kernel_rfl) (by kernel_rfl) (by kernel_rfl) (fun _ _ _ h=>h) (yQ ⟨by rfl,?_⟩) f ?_
  rotate_left
  ·intro W hW; obtain ⟨s0,s1,s2⟩:=hW; simp only [yc,ya,yb]; go_simp; first | done | (with_reducible rfl)
  simp only [yc,ya,yb]
  simp only [Act.put,yd,ye,yf]
  refine yL (rs:=[10]) (by kernel_rfl) (by simp) ?_
  refine yE rfl (fun K hK=>?_) yF
  simp only [yc,ya,yb]
  go_simp
  refine hK.out _ _ ⟨by rw [yg _ _ _ _ (by simp [L])]; exact e0,by rw [yg _ _ _ _ (by simp [L])]; exact e1,by rw [yg _ _ _ _ (by simp [L])]; exact e2⟩ (fun hm=>?_)
  clear hK
  refine wpAnyH_done (by kernel_rfl) ?_ _
  clear f hm
  obtain ⟨f1,f2,f3,f4⟩:=zA M
  obtain ⟨w5,F⟩:∃ w5,w5=w4.setCell ⟨P,1,none⟩ (.slice (some ⟨g4,0,none⟩) (vs.length+1) c4):=⟨_,rfl⟩
  rw [<- F] at f1 f2 f3
  rw [<- F]
  have y:=zB (fun (e:Ending) (hr:zBs e (¬ B2 ms k))=>show zLu w H B P bs (some ⟨bA,h2,none⟩) cm ms (.slice a1 vs.length c1) vs U k e w5 from ⟨hr,f2,_,us,os,b,cc,l,_,by rw [<- zA hb]; exact zA ha,f1,f4⟩)
  have d:=zB (show zy (atM ms k).t us os b cc l by rw [<- zA hb]; exact zA ha)
  have r:=zB (show Calls Tryz.prog 62 #[.int .i64 3,.string nm] w5 fun e w'=>zBs e (zD3 3 nm)/\w'=w5 from zEL 3 nm w5 hl)
  clear f1 f2 f4 F M G J Y k6 e0 e1 e2 m2 m3 y0 y1 y2 p3 n3 pf
  by_cases A:cc=0
  ·subst A
   by_cases hw:nm.size<=64
   ·have z:(nm.size:Int)<=64:=by omega
    go_wp2_with (first | (go_at_call 62; (with_reducible refine (zA r).mono ?_); rintro e w6 ⟨⟨v,rfl,hv⟩,hx⟩; obtain rfl:=hx.symm; have HV:=zB hv; clear hv hx))
    go_ret
    refine (zA y) _ ⟨v,rfl,?_⟩
    have hv:=zA HV
    unfold zDx at hv ⊢
    rw [hv,zMP]
    exact ⟨fun h=>zQw (zA d) rfl (by rw [<- zA D]; exact hw) (by rw [<- zA D]; exact h),fun h=>by by_cases x:zA2 nm; exact x; exact yP (yR (yQ (by rw [<- zA D]; exact x))) h⟩
   ·have z:¬ (nm.size:Int)<=64:=by omega
    have E:=zB (show B2 ms k from yR (yR (by rw [<- zA D]; omega)))
    go_wp2_with fail
    go_ret
    exact (zA y) _ ⟨false,rfl,zc (fun h=>h (zA E))⟩
  ·have h7:(cc==0)=false:=by simpa using A
   have E:=zB (show B2 ms k from yQ ⟨us,os,b,cc,l,zA d,A⟩)
   clear A
   go_wp2_with fail
   go_ret
   exact (zA y) _ ⟨false,rfl,zc (fun h=>h (zA E))⟩
end Go.Proofs.YtgbkgkdpdfdokaaGreatDoor
