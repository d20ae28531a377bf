import Derived.Test.YtfboipappaonhaaGreatM11
namespace Go.Proofs.YtfboipappaonhaaGreat
set_option linter.unusedSimpArgs false
set_option linter.unusedVariables false
set_option maxHeartbeats 16000000
set_option maxRecDepth 100000
open Go.RowKit
def cT (ns:List OpR):Nat -> List zD
 | 0=>[⟨2,⟨#[97]⟩,0,0⟩]
 | i + 1=>if (atO ns (i % ns.length)).k = 2 then (cT ns i ++ [⟨1,⟨#[49]⟩,0,0⟩]) ++ [⟨(atO ns (i % ns.length)).k + 2,(atO ns (i % ns.length)).s,((cT ns i).length:Int) - 1,((cT ns i).length:Int)⟩]
  else cT ns i ++ [⟨(atO ns (i % ns.length)).k + 2,(atO ns (i % ns.length)).s,((cT ns i).length:Int) - 1,0⟩]
theorem zK3 (ns:List OpR):∀ i,i + 1 <= (cT ns i).length
 | 0=>Nat.le_refl _
 | i + 1=>by
  have:=zK3 ns i
  simp only [cT]
  split
  ·simp; omega
  ·simp; omega
theorem zGI (w:World) (o0:Obj) (o:zD):∀ j u,(zH [o])[j]? = some u -> ((w.alloc o0).alloc (.cells #[.int .i64 o.k,.string o.t,.int .i64 o.a,.int .i64 o.b] 81)).cell? ((⟨w.heap.size + 1,0,none⟩:Addr).add j) = some u:=by
 have e:(w.alloc o0).heap.size = w.heap.size + 1:=by simp
 have:=zZ (w.alloc o0) o
 rw [e] at this
 exact this
theorem zId (w:World) (b q:Nat) (v:Value) (o:zD):∀ j u,(zH [o])[j]? = some u -> ((w.setCell ⟨b,q,none⟩ v).alloc (.cells #[.int .i64 o.k,.string o.t,.int .i64 o.a,.int .i64 o.b] 81)).cell? ((⟨w.heap.size,0,none⟩:Addr).add j) = some u:=by
 have e:(w.setCell ⟨b,q,none⟩ v).heap.size = w.heap.size:=by simp [World.setCell]
 have:=zZ (w.setCell ⟨b,q,none⟩ v) o
 rw [e] at this
 exact this
def ChN (ns:List OpR) (n i:Nat):Prop:=(n <= (cT ns i).length \/ ns.length = 0) /\ ∀ j,j < i -> (cT ns j).length < n /\ ns.length ≠ 0
theorem ChN.one {ns:List OpR} {n i j:Nat} (h:ChN ns n i) (h':ChN ns n j):i = j:=by
 rcases Nat.lt_trichotomy i j with e | e | e
 ·have:=h'.2 i e; have:=h.1; omega
 ·exact e
 ·have:=h.2 j e; have:=h'.1; omega
theorem ChN.len {ns:List OpR} {n i:Nat} (h:ChN ns n i):(cT ns i).length <= n + 2:=by
 cases i with
 | zero=>show 1 <= n + 2; omega
 | succ i=>
  have:=(h.2 i (by omega)).1
  simp only [cT]
  split
  ·simp; omega
  ·simp; omega
theorem zCY (gt ct n:Nat) (ns:List OpR) (w:World) (hns:ns.length <= 1048576) (hks:∀ j,j < ns.length -> 0 <= (atO ns j).k /\ (atO ns j).k <= 9) (ho:Ops w gt 0 ns) (hgt:gt < w.heap.size) (hn:n <= 50000) :
  Calls Tryz.prog 50 #[.agg #[.slice (some ⟨gt,0,none⟩) ns.length ct],.int .i64 (n:Int)] w fun e w'=>(∃ g c i,e = .returned (.agg #[.slice (some ⟨g,0,none⟩) (cT ns i).length c]) /\ w.heap.size <= g /\ zM w' g (cT ns i) (cT ns i).length /\ ChN ns n i) /\ Below w.heap.size w w':=by
 obtain ⟨i0,hi,hz0,hz1,hz2⟩:=ZJ zBh
 have HI:=zB hi
 have HZ:=zB (And.intro hz0 (And.intro hz1 hz2))
 have HO:=zB ho
 clear hi hz0 hz1 hz2 ho
 go_enter Tryz.func50,Tryz.ntmps50
 go_wp2_with fail
 have hb2:Below w.heap.size w ((w.alloc (.cells #[.slice (some ⟨gt,0,none⟩) ns.length ct] 25)).alloc (.cells #[.slice none 0 0] 28)):=(zC _ _).alloc (by simp) _
 have HO0:=zB (show zi (((w.alloc (.cells #[.slice (some ⟨gt,0,none⟩) ns.length ct] 25)).alloc (.cells #[.slice none 0 0] 28)).alloc (.cells #[.int .i64 2,.string ⟨#[97]⟩,.int .i64 0,.int .i64 0] 81)) (w.heap.size + 2) (w.heap.size + 2) 1 (cT ns 0) by
  have:=(World.ownsRow_lit (base:=w.heap.size + 2) (e:=81) (size:=4) ((w.alloc (.cells #[.slice (some ⟨gt,0,none⟩) ns.length ct] 25)).alloc (.cells #[.slice none 0 0] 28)) #[.int .i64 2,.string ⟨#[97]⟩,.int .i64 0,.int .i64 0] 1 (by simp) (by decide) rfl)
  simpa [zi,zH,cT] using this)
 have hb0:Below w.heap.size w (((w.alloc (.cells #[.slice (some ⟨gt,0,none⟩) ns.length ct] 25)).alloc (.cells #[.slice none 0 0] 28)).alloc (.cells #[.int .i64 2,.string ⟨#[97]⟩,.int .i64 0,.int .i64 0] 81)):=hb2.alloc (by simp; omega) _
 go_loopw [5,6] (fun v i wr=>∃ (j g c:Nat) (us:List zD),j <= n /\ i = .int .i64 (j:Int) /\ v = .slice (some ⟨g,0,none⟩) us.length c /\ Hid (us = cT ns j) /\ Hid (zi wr (w.heap.size + 2) g c us) /\ wr.cell? ⟨w.heap.size,0,none⟩ = some (.slice (some ⟨gt,0,none⟩) ns.length ct) /\ wr.cell? ⟨w.heap.size + 1,0,none⟩ = some (.slice none 0 0) /\ wr.frozen? ⟨w.heap.size + 1,0,none⟩ = false /\ w.heap.size + 2 < wr.heap.size /\ Hid (Below w.heap.size w wr) /\ Hid (∀ t,t < j -> (cT ns t).length < n /\ ns.length ≠ 0)) (fun _ i _=>n - (intOf i).toNat)
 case atStart=>exact ⟨0,w.heap.size + 2,1,cT ns 0,Nat.zero_le _,rfl,rfl,zB rfl,HO0,by simp [go_sem],by simp [go_sem],by simp [go_sem],by simp,zB hb0,zB (fun t ht=>by omega)⟩
 case round=>
  clear HO0 hb0 hb2
  obtain ⟨j,g,c,us,hj,rfl,rfl,HUS,HR,t0,r0,r1,zr,hbel,HJ⟩:=hrel
  have hjl:=zK3 ns j
  rw [<- zA HUS] at hjl
  have hgo:=(zA HR).lt
  by_cases hcon:us.length < n /\ ns.length ≠ 0
  case neg=>
   have HF:=zB (ZF (zA HR))
   have HCN:=zB (show ChN ns n j from ⟨by rw [<- zA HUS]; omega,zA HJ⟩)
   have hI:¬ (us.length:Int) < (n:Int) \/ ((us.length:Int) < (n:Int) /\ ns.length = 0):=by omega
   have m1:w.heap.size + 1 < wr.heap.size:=by omega
   rcases hI with hI | ⟨hI,h0⟩
   ·go_wp2_with fail
    refine bodyPost_ret (v:=.agg #[.slice (some ⟨g,0,none⟩) us.length c]) ?res rfl ⟨⟨g,c,j,by rw [<- zA HUS],by have:=(zA HF).1; omega,?_,zA HCN⟩,(zA hbel).setCell (by simp) _⟩
    case res=>simp [results,Tryz.results50,go_sem,r0]
    ·rw [<- zA HUS]; exact (zA HF).2.setCell _ _ _ (by have:=(zA HF).1; omega)
   ·rw [h0] at t0
    go_wp2_with fail
    refine bodyPost_ret (v:=.agg #[.slice (some ⟨g,0,none⟩) us.length c]) ?res rfl ⟨⟨g,c,j,by rw [<- zA HUS],by have:=(zA HF).1; omega,?_,zA HCN⟩,(zA hbel).setCell (by simp) _⟩
    case res=>simp [results,Tryz.results50,go_sem,r0]
    ·rw [<- zA HUS]; exact (zA HF).2.setCell _ _ _ (by have:=(zA HF).1; omega)
  obtain ⟨hlt,h0n⟩:=hcon
  have e1:(us.length:Int) < (n:Int):=by omega
  have e2:(0:Int) < (ns.length:Int):=by omega
  obtain ⟨m,hmE⟩:∃ m,m = j % ns.length:=⟨_,rfl⟩
  have hmi:m < ns.length:=by rw [hmE]; exact Nat.mod_lt _ (by omega)
  have e4:(j:Int) % (ns.length:Int) = (m:Int):=by rw [hmE]; simp
  have e9:((ns.length:Int) == 0) = false:=beq_eq_false_iff_ne.2 (by omega)
  have e5:(m:Int) < (ns.length:Int):=by omega
  have e6:(0:Int) <= (m:Int):=by omega
  have e10:(j:Int).tmod (ns.length:Int) = (m:Int):=by rw [Int.tmod_eq_emod_of_nonneg (by omega)]; exact e4
  have hgr:gt < wr.heap.size:=by omega
  obtain ⟨a0,a1,a2,a3⟩:=((zA HO).below (zA hbel) hgt) m hmi
  simp only [Nat.zero_add] at a0 a1 a2 a3
  obtain ⟨o,hoE⟩:∃ o,o = atO ns m:=⟨_,rfl⟩
  rw [<- hoE] at a0 a1 a2 a3
  obtain ⟨hk0,hk9⟩:0 <= o.k /\ o.k <= 9:=by rw [hoE]; exact hks m hmi
  have HC:=zB (show cT ns (j + 1) = if o.k = 2 then (us ++ [⟨1,⟨#[49]⟩,0,0⟩]) ++ [⟨o.k + 2,o.s,(us.length:Int) - 1,(us.length:Int)⟩] else us ++ [⟨o.k + 2,o.s,(us.length:Int) - 1,0⟩] by
   simp only [cT]
   rw [<- hmE,<- hoE,<- zA HUS])
  clear hmE hoE
  have nn1:=World.new_ne wr _ t0
  have nn2:=World.new_ne wr _ a0
  go_wp2_with fail
  go_region_held3 (fun W=>W.cell? ⟨w.heap.size,0,none⟩ = some (.slice (some ⟨gt,0,none⟩) ns.length ct) /\ W.cell? ⟨gt,m * 4,none⟩ = some (.string o.s) /\ W.cell? ⟨gt,m * 4 + 1,none⟩ = some (.int .i64 o.k) /\ W.cell? ⟨gt,m * 4 + 2,none⟩ = some (.int .i64 o.l) /\ W.cell? ⟨gt,m * 4 + 3,none⟩ = some (.int .i64 o.sd)) (go_keep) (fail)
  all_goals
   obtain ⟨W4,hW4⟩:∃ W4,W4 = (wr.alloc (.cells #[.string o.s,.int .i64 o.k,.int .i64 o.l,.int .i64 o.sd] 123)).drew:=⟨_,rfl⟩
   rw [<- hW4]
   have hb4:Below wr.heap.size wr W4:=by rw [hW4]; exact (zC _ _).drew
   have z4:wr.heap.size + 1 <= W4.heap.size:=by rw [hW4]; simp
   have t4:W4.cell? ⟨w.heap.size,0,none⟩ = some (.slice (some ⟨gt,0,none⟩) ns.length ct):=(hb4.cell (p:=⟨w.heap.size,0,none⟩) (by show w.heap.size < wr.heap.size; omega)).trans t0
   have s4:W4.cell? ⟨w.heap.size + 1,0,none⟩ = some (.slice none 0 0):=(hb4.cell (p:=⟨w.heap.size + 1,0,none⟩) (by show w.heap.size + 1 < wr.heap.size; omega)).trans r0
   have s5:W4.frozen? ⟨w.heap.size + 1,0,none⟩ = false:=(hb4.frozen (p:=⟨w.heap.size + 1,0,none⟩) (by show w.heap.size + 1 < wr.heap.size; omega)).trans r1
   have p0:W4.cell? ⟨wr.heap.size,0,none⟩ = some (.string o.s):=by rw [hW4]; simp [go_sem]
   have p1:W4.cell? ⟨wr.heap.size,1,none⟩ = some (.int .i64 o.k):=by rw [hW4]; simp [go_sem]
   have HR4:=zB ((zA HR).below hb4)
   have HB4:=zB ((zA hbel).trans (hb4.mono (zA hbel).size))
   have hw5:wr.heap.size < W4.heap.size:=by omega
   have nn3:=World.new_ne W4 _ p0
   clear hW4 hb4 a0 a1 a2 a3 nn1 nn2 t0 r0 r1 HR hbel
   by_cases hinf:o.k = 2
   ·have hei:(o.k == 2) = true:=by simp [hinf]
    have HC':=zB ((zA HC).trans (if_pos hinf))
    clear hinf
    obtain ⟨us1,HU1⟩:∃ us1,Hid (us1 = us ++ [⟨1,⟨#[49]⟩,0,0⟩]):=⟨_,zB rfl⟩
    have hu1:us1.length = us.length + 1:=by rw [zA HU1]; simp
    have HC2:=zB (show cT ns (j + 1) = us1 ++ [⟨o.k + 2,o.s,(us.length:Int) - 1,(us1.length:Int) - 1⟩] by
     rw [zA HC',<- zA HU1]
     congr 3
     omega)
    have HL1:=zB hu1
    have hu2:us1.length <= 60000:=by omega
    have hu3:1 <= us1.length:=by omega
    clear hu1
    have HR5:=zB ((zA HR4).below (zC W4 (.cells #[.int .i64 (o.k + 2),.string o.s,.int .i64 ((us.length:Int) - 1),.int .i64 0] 81)))
    go_wp2_with (at_builtin; refine wpList_append_own_at _ rfl (.tmp 44) (.tmp 46) 26 rfl (w.heap.size + 2) 81 i0 _ 4 40 Tryz.underlying26 (zA HI) (zA HZ).1 (zA HZ).2.1 (zA HZ).2.2 rfl (by decide) _ us.length (zH us) rfl ((zA HR5).below (zC _ _)) ⟨W4.heap.size + 1,0,none⟩ 1 1 (zH [⟨1,⟨#[49]⟩,0,0⟩]) rfl rfl (zGI W4 _ ⟨1,⟨#[49]⟩,0,0⟩) (zL _) ?b1 ?b2 ?b3 ?next)
    case b1=>unfold maxLen; omega
    case b2=>omega
    case b3=>first | omega | (simp; omega)
    case next=>
     intro v6 w6 hown6 hgrow6 hnil6 hat6
     obtain ⟨g6,c6,rfl,hr6⟩:=zi.snoc hown6 (by simp [hnil6]) (zA HU1)
     have hgr6:World.grownBy _ w6 (some g):=hgrow6
     have z6:W4.heap.size + 2 <= w6.heap.size:=by have:=hgr6.size; simpa using this
     have kc:=fun (b:Nat) (hb:b < W4.heap.size + 2) (h1:b ≠ g) (o':Nat)=>World.cell?_of_block (w':=w6) (a:=⟨b,o',none⟩) (hgr6.block b (by simp; omega) (by simp; omega))
     have kf:=fun (b:Nat) (hb:b < W4.heap.size + 2) (h1:b ≠ g) (o':Nat)=>World.frozen?_of_block (w':=w6) (a:=⟨b,o',none⟩) (hgr6.block b (by simp; omega) (by simp; omega))
     have n0:w6.cell? ⟨W4.heap.size,0,none⟩ = some (.int .i64 (o.k + 2)):=(kc _ (by omega) (by omega) 0).trans (by simp [go_sem])
     have n1:w6.cell? ⟨W4.heap.size,1,none⟩ = some (.string o.s):=(kc _ (by omega) (by omega) 1).trans (by simp [go_sem])
     have n2:w6.cell? ⟨W4.heap.size,2,none⟩ = some (.int .i64 ((us.length:Int) - 1)):=(kc _ (by omega) (by omega) 2).trans (by simp [go_sem])
     have n3:w6.cell? ⟨W4.heap.size,3,none⟩ = some (.int .i64 0):=(kc _ (by omega) (by omega) 3).trans (by simp [go_sem])
     have nf:w6.frozen? ⟨W4.heap.size,3,none⟩ = false:=(kf _ (by omega) (by omega) 3).trans (by simp [go_sem])
     have HB2:=zB (show Below W4.heap.size W4 ((W4.alloc (.cells #[.int .i64 (o.k + 2),.string o.s,.int .i64 ((us.length:Int) - 1),.int .i64 0] 81)).alloc (.cells #[.int .i64 1,.string ⟨#[49]⟩,.int .i64 0,.int .i64 0] 81)) from (zC _ _).alloc (by simp) _)
     have kb:=fun (b:Nat) (hb:b < W4.heap.size) (h1:b ≠ g)=>(kc b (by omega) h1 0).trans ((zA HB2).cell (p:=⟨b,0,none⟩) hb)
     have kg:=fun (b:Nat) (hb:b < W4.heap.size) (h1:b ≠ g)=>(kf b (by omega) h1 0).trans ((zA HB2).frozen (p:=⟨b,0,none⟩) hb)
     have t6:=(kb w.heap.size (by omega) (by omega)).trans t4
     have s6:=(kb (w.heap.size + 1) (by omega) (by omega)).trans s4
     have s7:=(kg (w.heap.size + 1) (by omega) (by omega)).trans s5
     have HB6:=zB (show Below w.heap.size w w6 from ((zA HB4).trans ((zA HB2).mono (zA HB4).size)).grown hgr6 (by have:=(zA HB4).size; simp; omega) (fun q hq=>by injection hq with hq; omega))
     have hgg:g6 = g \/ W4.heap.size + 2 <= g6:=by simp [Value.ownBlock] at hat6; omega
     have HR6:=zB (hr6.set W4.heap.size 3 (.int .i64 ((us1.length:Int) - 1)) (by omega))
     have hg6:=hr6.lt
     have m6:W4.heap.size < w6.heap.size:=by omega
     clear hown6 hgrow6 hgr6 hnil6 hat6 kc kf kb kg hr6 HR5 HR4 t4 s4 s5 p0 p1
     go_wp2_with (at_builtin; refine wpList_append_own_at _ rfl (.tmp 52) (.tmp 54) 26 rfl (w.heap.size + 2) 81 i0 _ 4 40 Tryz.underlying26 (zA HI) (zA HZ).1 (zA HZ).2.1 (zA HZ).2.2 rfl (by decide) _ us1.length (zH us1) rfl ((zA HR6).below (zC _ _)) ⟨w6.heap.size,0,none⟩ 1 1 (zH [⟨o.k + 2,o.s,(us.length:Int) - 1,(us1.length:Int) - 1⟩]) rfl rfl (zId w6 W4.heap.size 3 _ ⟨o.k + 2,o.s,(us.length:Int) - 1,(us1.length:Int) - 1⟩) (zL _) ?c1 ?c2 ?c3 ?next)
     case c1=>unfold maxLen; omega
     case c2=>omega
     case c3=>first | omega | (simp; omega)
     case next=>
      intro v8 w8 hown8 hgrow8 hnil8 hat8
      obtain ⟨g8,c8,rfl,hr8⟩:=zi.snoc hown8 (by simp [hnil8]) (zA HC2)
      have HR8:=zB hr8
      have hgr8:World.grownBy _ w8 (some g6):=hgrow8
      have z8:w6.heap.size + 1 <= w8.heap.size:=by have:=hgr8.size; simpa [World.setCell] using this
      have HBS:=zB (show Below w.heap.size w ((w6.setCell ⟨W4.heap.size,3,none⟩ (.int .i64 ((us1.length:Int) - 1))).alloc (.cells #[.int .i64 (o.k + 2),.string o.s,.int .i64 ((us.length:Int) - 1),.int .i64 ((us1.length:Int) - 1)] 81)) from ((zA HB6).setCell (by have:=(zA HB4).size; show w.heap.size <= W4.heap.size; omega) _).alloc (by have:=(zA HB6).size; simp [World.setCell]; omega) _)
      have kb:=fun (b:Nat) (hb:b < W4.heap.size) (h1:b ≠ g6)=>(World.cell?_of_block (w':=w8) (a:=⟨b,0,none⟩) (hgr8.block b (by simp [World.setCell]; omega) (by simp; omega))).trans (((zC (w6.setCell ⟨W4.heap.size,3,none⟩ (.int .i64 ((us1.length:Int) - 1))) _).cell (p:=⟨b,0,none⟩) (by show b < (w6.setCell _ _).heap.size; simp [World.setCell]; omega)).trans (World.cell?_setCell_other _ _ _ _ (fun e=>by injection e with e1 e2; omega)))
      have kg:=fun (b:Nat) (hb:b < W4.heap.size) (h1:b ≠ g6)=>(World.frozen?_of_block (w':=w8) (a:=⟨b,0,none⟩) (hgr8.block b (by simp [World.setCell]; omega) (by simp; omega))).trans (((zC (w6.setCell ⟨W4.heap.size,3,none⟩ (.int .i64 ((us1.length:Int) - 1))) _).frozen (p:=⟨b,0,none⟩) (by show b < (w6.setCell _ _).heap.size; simp [World.setCell]; omega)).trans (World.frozen?_setCell _ _ _ _))
      have t8:=(kb w.heap.size (by omega) (by omega)).trans t6
      have s8:=(kb (w.heap.size + 1) (by omega) (by omega)).trans s6
      have s9:=(kg (w.heap.size + 1) (by omega) (by omega)).trans s7
      have HB8:=zB (show Below w.heap.size w w8 from (zA HBS).grown hgr8 (by have:=(zA HB6).size; simp [World.setCell]; omega) (fun q hq=>by injection hq with hq; omega))
      have HJ':=zB (show ∀ t,t < j + 1 -> (cT ns t).length < n /\ ns.length ≠ 0 from fun t ht=>by
       by_cases e:t < j
       ·exact (zA HJ) t e
       ·have:t = j:=by omega
        subst this
        rw [<- zA HUS]
        exact ⟨hlt,h0n⟩)
      clear hown8 hgrow8 hgr8 hnil8 hat8 kb kg hr8 HR6 t6 s6 s7 HBS HB6 n0 n1 n2 n3 nf
      go_wp2_with fail
      refine ⟨⟨j + 1,g8,c8,cT ns (j + 1),by omega,by simp,rfl,zB rfl,HR8,t8,s8,s9,by omega,HB8,HJ'⟩,?_⟩
      simp [intOf]
      omega
   ·have hei:(o.k == 2) = false:=by simp [hinf]
    have HC':=zB ((zA HC).trans (if_neg hinf))
    clear hinf
    have HR5:=zB ((zA HR4).below (zC W4 (.cells #[.int .i64 (o.k + 2),.string o.s,.int .i64 ((us.length:Int) - 1),.int .i64 0] 81)))
    go_wp2_with (at_builtin; refine wpList_append_own_at _ rfl (.tmp 52) (.tmp 54) 26 rfl (w.heap.size + 2) 81 i0 _ 4 40 Tryz.underlying26 (zA HI) (zA HZ).1 (zA HZ).2.1 (zA HZ).2.2 rfl (by decide) _ us.length (zH us) rfl ((zA HR5).below (zC _ _)) ⟨W4.heap.size + 1,0,none⟩ 1 1 (zH [⟨o.k + 2,o.s,(us.length:Int) - 1,0⟩]) rfl rfl (zGI W4 _ ⟨o.k + 2,o.s,(us.length:Int) - 1,0⟩) (zL _) ?b1 ?b2 ?b3 ?next)
    case b1=>unfold maxLen; omega
    case b2=>omega
    case b3=>first | omega | (simp; omega)
    case next=>
     intro v6 w6 hown6 hgrow6 hnil6 hat6
     obtain ⟨g6,c6,rfl,hr6⟩:=zi.snoc hown6 (by simp [hnil6]) (zA HC')
     have HR6:=zB hr6
     have hgr6:World.grownBy _ w6 (some g):=hgrow6
     have z6:W4.heap.size + 2 <= w6.heap.size:=by have:=hgr6.size; simpa using this
     have HB2:=zB (show Below W4.heap.size W4 ((W4.alloc (.cells #[.int .i64 (o.k + 2),.string o.s,.int .i64 ((us.length:Int) - 1),.int .i64 0] 81)).alloc (.cells #[.int .i64 (o.k + 2),.string o.s,.int .i64 ((us.length:Int) - 1),.int .i64 0] 81)) from (zC _ _).alloc (by simp) _)
     have kb:=fun (b:Nat) (hb:b < W4.heap.size) (h1:b ≠ g)=>(World.cell?_of_block (w':=w6) (a:=⟨b,0,none⟩) (hgr6.block b (by simp; omega) (by simp; omega))).trans ((zA HB2).cell (p:=⟨b,0,none⟩) hb)
     have kg:=fun (b:Nat) (hb:b < W4.heap.size) (h1:b ≠ g)=>(World.frozen?_of_block (w':=w6) (a:=⟨b,0,none⟩) (hgr6.block b (by simp; omega) (by simp; omega))).trans ((zA HB2).frozen (p:=⟨b,0,none⟩) hb)
     have t6:=(kb w.heap.size (by omega) (by omega)).trans t4
     have s6:=(kb (w.heap.size + 1) (by omega) (by omega)).trans s4
     have s7:=(kg (w.heap.size + 1) (by omega) (by omega)).trans s5
     have HB6:=zB (show Below w.heap.size w w6 from ((zA HB4).trans ((zA HB2).mono (zA HB4).size)).grown hgr6 (by have:=(zA HB4).size; simp; omega) (fun q hq=>by injection hq with hq; omega))
     have HJ':=zB (show ∀ t,t < j + 1 -> (cT ns t).length < n /\ ns.length ≠ 0 from fun t ht=>by
      by_cases e:t < j
      ·exact (zA HJ) t e
      ·have:t = j:=by omega
       subst this
       rw [<- zA HUS]
       exact ⟨hlt,h0n⟩)
     clear hown6 hgrow6 hgr6 hnil6 hat6 kb kg hr6 HR5 HR4 t4 s4 s5 p0 p1 HB2 HB4
     go_wp2_with fail
     refine ⟨⟨j + 1,g6,c6,cT ns (j + 1),by omega,by simp,rfl,zB rfl,HR6,t6,s6,s7,by omega,HB6,HJ'⟩,?_⟩
     simp [intOf]
     omega
end Go.Proofs.YtfboipappaonhaaGreat
